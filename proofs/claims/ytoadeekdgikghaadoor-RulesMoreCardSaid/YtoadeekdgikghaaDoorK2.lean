/-
 Keccak-256 (package keccak), walked: turning a number, a round's three steps, all rounds. No condition.
-/
import Derived.Test.YtoadeekdgikghaaDoorRE
import Derived.Test.YtoadeekdgikghaaDoorEG
import Derived.Laws.Bits64b
set_option maxRecDepth 10000
set_option maxHeartbeats 4000000
set_option linter.defProp false
set_option linter.unusedVariables false
set_option linter.unusedSimpArgs false
namespace Go.Proofs.YtoadeekdgikghaaDoor
open Go.RowKit
def GZ0 : Ctr := fun _ _ _ => .none
theorem GZ0_ok : GOk Tryd.prog GZ0 := fun _ _ _ _ _ => trivial
theorem and63 (n : Int) (h : 0 ≤ n ∧ n ≤ 1000) : bits .and .u64 n 63 = n % 64 := by
 obtain ⟨k, rfl⟩ := Int.eq_ofNat_of_zero_le h.1
 have h1 := bits_and_u64_nat k 63 (by omega) (by decide)
 have h2 := Nat.and_two_pow_sub_one_eq_mod k 6
 have h3 : bits .and .u64 (k : Int) 63 = ((k &&& 63 : Nat) : Int) := h1
 rw [h3, show (63 : Nat) = 2 ^ 6 - 1 from rfl, h2]; omega
theorem rot_vc (v n : Int) (hn : 0 ≤ n ∧ n ≤ 1000) (w : World) : Calls Tryd.prog 80 (cvs [.int .u64 v, .int .i64 n]).toArray w (fun en w' => ∃ u, en = .returned u ∧ ∃ v' m', u = cv v' ∧ MemOk w [] m' w' ∧ v' = .int .u64 (rt v (n.toNat % 64))) := by
 have e0 := and63 n hn
 have e1 : min (n % 64).toNat 64 = n.toNat % 64 := by omega
 have e2 : min (64 - n % 64).toNat 64 = 64 - n.toNat % 64 := by omega
 refine Vc.calls T0_ok Tryd.func80 rfl rfl (args := [.int .u64 v, .int .i64 n]) (k := 15) rfl (MemOk.start _) ?_; change Vc _ _ (c8 (.int .u64 v) (.int .i64 n) .undef .undef .undef .undef .undef .undef (c8 .undef .undef .undef .undef .undef .undef .undef .undef ([.undef]))) _ _
 ((repeat (first | (with_reducible refine Vc.seq fun N hN => ?_) | ((with_reducible refine And.intro ?_ ?_); exact sdB) | ((first | ((with_reducible refine Vc.fin ?_); dsimp only [thenK, blockK, retK, resS, resOne, resAll]) | ((with_reducible refine Vc.hold ?_); first | refine Vc.regiont T0_ok GZ0_ok ?_)); (try simp only [v8Y, Nat.beq, Nat.ble, seval, tabs, e0]); (try simp (disch := omega) only [v8W])) | ((with_reducible refine hN _ _ ?_); clear hN N))); (try ((with_reducible refine Fin.of ?_); (try with_reducible exact True.intro))))
 ((try simp only [v8Y, Nat.beq, Nat.ble, seval, tabs]); (repeat' with_reducible apply And.intro) <;> first | with_reducible exact True.intro | (unfold rt; rw [e1, e2]) | with_reducible rfl | (congr 1 <;> omega) | trivial)
def g_Rot (args : List SV) (_m : List Blk) : CR := match args with | [.int .u64 v, .int .i64 n] => .pure (0 ≤ n ∧ n ≤ 1000) (.int .u64 (rt v (n.toNat % 64))) | _ => .none
theorem g_Rot_ok (w0 : World) (B : List Nat) (args : List SV) (m : List Blk) : CROk Tryd.prog w0 B 80 args m (g_Rot args m) := by
 unfold g_Rot; split
 ·rename_i v n; exact fun h w _ => calls_pure Tryd.func80 rfl rfl (rot_vc v n h w)
 ·exact trivial
noncomputable def GK0 : Ctr := fun f args m => match f with
 | 80 => g_Rot args m
 | _ => .none
theorem GK0_ok : GOk Tryd.prog GK0 := by
 intro w0 B f args m; unfold GK0; split
 ·exact g_Rot_ok _ _ _ _
 ·exact trivial
theorem GK0_Rot : GK0 80 = g_Rot := by funext args m; rfl
def GK0_set := And.intro (@GK0_Rot) (@g_Rot.eq_def)

theorem it_len {f : List Int → Nat → List Int} (hf : ∀ l k, (f l k).length = l.length) (a : List Int) : ∀ n, (it f n a).length = a.length
 | 0 => rfl
 | n + 1 => by rw [it_s, hf, it_len hf a n]
theorem kC_s (l : List Int) (k : Nat) : kC l (k + 1) = (kC l k).set k (bits .xor .u64 (bits .xor .u64 (bits .xor .u64 (bits .xor .u64 (l.getD k 0) (l.getD (k + 5) 0)) (l.getD (k + 10) 0)) (l.getD (k + 15) 0)) (l.getD (k + 20) 0)) := it_s _ _ _
theorem kC_len (l : List Int) (k : Nat) : (kC l k).length = 5 := it_len (fun c k => by unfold kCs; rw [List.length_set]) _ _
theorem kIn_s (s : List Int) (d : Int) (x y : Nat) : kIn s d x (y + 1) = (kIn s d x y).set (5 * y + x) (bits .xor .u64 ((kIn s d x y).getD (5 * y + x) 0) d) := it_s _ _ _
theorem kIn_len (s : List Int) (d : Int) (x y : Nat) : (kIn s d x y).length = s.length := it_len (fun c k => by unfold kIs; rw [List.length_set]) _ _
theorem kSp_s (l : List Int) (d : Nat → Int) (x : Nat) : kSp l d (x + 1) = kIn (kSp l d x) (d x) x 5 := it_s _ _ _
theorem kSp_len (l : List Int) (d : Nat → Int) (x : Nat) : (kSp l d x).length = l.length := it_len (fun c k => by unfold kSs; rw [kIn_len]) _ _
theorem spread_vc (xs : List Int) (b : Nat) (t : TypeId) (hl : xs.length = 25) (w : World) (hm : MemOk w [b] [.blk b t (.ints .u64 xs)] w) : Calls Tryd.prog 77 (cvs [.ptr 0 b 0 0 0 0]).toArray w (fun en w' => ∃ u, en = .returned u ∧ ∃ v' m', u = cv v' ∧ MemOk w [b] m' w' ∧ v' = .tup [] ∧ bget m' 0 = .blk b t (.ints .u64 (kSpr xs))) := by
 refine Vc.calls T0_ok Tryd.func77 rfl rfl (args := [.ptr 0 b 0 0 0 0]) (k := 77) rfl hm ?_; change Vc _ _ (c8 (.ptr 0 b 0 0 0 0) .undef .undef .undef .undef .undef .undef .undef (c8 .undef .undef .undef .undef .undef .undef .undef .undef (c8 .undef .undef .undef .undef .undef .undef .undef .undef (c8 .undef .undef .undef .undef .undef .undef .undef .undef (c8 .undef .undef .undef .undef .undef .undef .undef .undef (c8 .undef .undef .undef .undef .undef .undef .undef .undef (c8 .undef .undef .undef .undef .undef .undef .undef .undef (c8 .undef .undef .undef .undef .undef .undef .undef .undef (c8 .undef .undef .undef .undef .undef .undef .undef .undef ([.undef, .undef, .undef, .undef, .undef, .undef])))))))))) _ _
 ((repeat (first | (with_reducible first | refine Vc.seq fun N hN => ?_ | refine Vc.block ?_) | (with_reducible intro _) | ((with_reducible refine And.intro ?_ ?_); exact sdB) | ((first | ((with_reducible refine Vc.hold ?_); first | refine Vc.regiont T0_ok GK0_ok ?_)); (try simp only [v8Y, Nat.beq, Nat.ble, seval, tabs, GK0_set])) | ((with_reducible refine hN _ _ ?_); clear hN N))))
 (revert N; intro N1 hN1)
 rename_i b1
 refine Vc.loop 3 46 (fun k => [(7, .int .i64 (k : Nat))]) (fun k => [.blk b t (.ints .u64 xs), .blk b1 138 (.ints .u64 (kC xs k))]) (fun k => k ≤ 5) (fun k => 5 - k) 0 ⟨Nat.zero_le _, ?_, ?_⟩ (fun k junk hk => ?_)
 ·((try simp only [v8Y, Nat.beq, Nat.ble, seval, tabs]); (repeat' with_reducible apply And.intro) <;> first | with_reducible exact True.intro | rfl | with_reducible rfl | (congr 1 <;> omega) | trivial)
 ·((try simp only [v8Y, Nat.beq, Nat.ble, seval, tabs]); (repeat' with_reducible apply And.intro) <;> first | with_reducible exact True.intro | rfl | with_reducible rfl | (congr 1 <;> omega) | trivial)
 ·have hcl := kC_len xs k
  (simp only [v8Y, Nat.beq, Nat.ble, seval, tabs])
  by_cases hlt : k < 5
  ·have d1 : decide ((k : Int) < 5) = true := decide_eq_true (by omega)
   have e1 : ((k : Int) + 5).toNat = k + 5 := by omega
   have e2 : ((k : Int) + 10).toNat = k + 10 := by omega
   have e3 : ((k : Int) + 15).toNat = k + 15 := by omega
   have e4 : ((k : Int) + 20).toNat = k + 20 := by omega
   have hs := kC_s xs k
   ((repeat (first | (with_reducible first | refine Vc.seq fun N hN => ?_ | refine Vc.block ?_) | ((first | with_reducible refine Vc.skip ?_); dsimp only [thenK, blockK, Nat.beq]; (first | (refine hN _ _ ?_; clear hN N))) | ((with_reducible refine And.intro ?_ ?_); exact sdB) | ((first | ((with_reducible refine Vc.hold ?_); first | refine Vc.regiont T0_ok GK0_ok ?_ | refine Vc.drawt (id := 4) T0_ok GK0_ok (by kernel_rfl) [0, 1, 2, 3, 4, 5, 6, 7, 8, 9, 10, 11, 12, 13, 14, 15, 16, 17, 18, 19, 20, 21, 22, 23, 24, 25, 26, 27, 28, 29, 30, 31, 32] 33 [] trivial (by kernel_rfl) ?_)); (try simp only [v8Y, Nat.beq, Nat.ble, seval, tabs, GK0_set, d1, tnc, e1, e2, e3, e4])) | ((with_reducible refine hN _ _ ?_); clear hN N))))
   (refine Vc.cond T0_ok (t := true) (by rfl) (fun _ => ?_) (fun h => Bool.noConfusion h))
   ((repeat (first | (with_reducible first | refine Vc.seq fun N hN => ?_ | refine Vc.block ?_) | ((first | with_reducible refine Vc.skip ?_); dsimp only [thenK, blockK, Nat.beq]; (first | (refine hN _ _ ?_; clear hN N))) | ((with_reducible refine And.intro ?_ ?_); exact sdB) | ((first | ((with_reducible refine Vc.hold ?_); first | refine Vc.regiont T0_ok GK0_ok ?_ | refine Vc.drawt (id := 4) T0_ok GK0_ok (by kernel_rfl) [0, 1, 2, 3, 4, 5, 6, 7, 8, 9, 10, 11, 12, 13, 14, 15, 16, 17, 18, 19, 20, 21, 22, 23, 24, 25, 26, 27, 28, 29, 30, 31, 32] 33 [] trivial (by kernel_rfl) ?_)); (try simp only [v8Y, Nat.beq, Nat.ble, seval, tabs, GK0_set, d1, tnc, e1, e2, e3, e4])) | ((with_reducible refine hN _ _ ?_); clear hN N))))
   refine ⟨k + 1, by omega, ?_, ?_, by omega⟩
   ·((try simp only [v8Y, Nat.beq, Nat.ble, seval, tabs]); (repeat' with_reducible apply And.intro) <;> first | with_reducible exact True.intro | rfl | with_reducible rfl | (congr 1 <;> omega) | trivial)
   ·((try simp only [v8Y, Nat.beq, Nat.ble, seval, tabs]); (repeat' with_reducible apply And.intro) <;> first | with_reducible exact True.intro | rw [hs] | with_reducible rfl | (congr 1 <;> omega) | trivial)
  ·have d1 : decide ((k : Int) < 5) = false := decide_eq_false (by omega)
   obtain rfl : k = 5 := by omega
   ((repeat (first | (with_reducible refine Vc.seq fun N hN => ?_) | ((with_reducible refine And.intro ?_ ?_); exact sdB) | ((first | ((with_reducible refine Vc.hold ?_); first | refine Vc.regiont T0_ok GK0_ok ?_)); (try simp only [v8Y, Nat.beq, Nat.ble, seval, tabs, GK0_set, d1])) | ((with_reducible refine hN _ _ ?_); clear hN N))))
   (refine Vc.cond T0_ok (t := false) (by rfl) (fun h => Bool.noConfusion h) (fun _ => ?_))
   ((repeat (first | (with_reducible first | refine Vc.seq fun N hN => ?_ | refine Vc.block ?_) | ((first | with_reducible refine Vc.exit ?_); dsimp only [thenK, blockK, Nat.beq]; (first | skip)) | ((with_reducible refine And.intro ?_ ?_); exact sdB) | ((first | ((with_reducible refine Vc.hold ?_); first | refine Vc.regiont T0_ok GK0_ok ?_)); (try simp only [v8Y, Nat.beq, Nat.ble, seval, tabs, GK0_set])) | ((with_reducible refine hN _ _ ?_); clear hN N))))
   (refine hN1 _ _ ?_; (try clear hN N); clear hN1 N1)
   ((repeat (first | (with_reducible first | refine Vc.seq fun N hN => ?_ | refine Vc.block ?_) | ((first | with_reducible refine Vc.exit ?_); dsimp only [thenK, blockK, Nat.beq]; (first | skip)) | ((with_reducible refine And.intro ?_ ?_); exact sdB) | ((first | ((with_reducible refine Vc.hold ?_); first | refine Vc.regiont T0_ok GK0_ok ?_)); (try simp only [v8Y, Nat.beq, Nat.ble, seval, tabs, GK0_set])) | ((with_reducible refine hN _ _ ?_); clear hN N))))
   refine Vc.loop 4 78 (fun x => [(46, .int .i64 (x : Nat))]) (fun x => [.blk b t (.ints .u64 (kSp xs (kD (kC xs 5)) x)), .blk b1 138 (.ints .u64 (kC xs 5))]) (fun x => x ≤ 5) (fun x => 5 - x) 0 ⟨Nat.zero_le _, ?_, ?_⟩ (fun x junk2 hx => ?_)
   ·((try simp only [v8Y, Nat.beq, Nat.ble, seval, tabs]); (repeat' with_reducible apply And.intro) <;> first | with_reducible exact True.intro | rfl | with_reducible rfl | (congr 1 <;> omega) | trivial)
   ·((try simp only [v8Y, Nat.beq, Nat.ble, seval, tabs]); (repeat' with_reducible apply And.intro) <;> first | with_reducible exact True.intro | rfl | with_reducible rfl | (congr 1 <;> omega) | trivial)
   ·have hsl := kSp_len xs (kD (kC xs 5)) x
    (simp only [v8Y, Nat.beq, Nat.ble, seval, tabs])
    by_cases hlx : x < 5
    ·have d1 : decide ((x : Int) < 5) = true := decide_eq_true (by omega)
     have e1 : (((x : Int) + 4) % 5).toNat = (x + 4) % 5 := by omega
     have e2 : (((x : Int) + 1) % 5).toNat = (x + 1) % 5 := by omega
     have e3 : (1 : Int).toNat % 64 = 1 := rfl
     have hd : bits .xor .u64 ((kC xs 5).getD ((x + 4) % 5) 0) (rt ((kC xs 5).getD ((x + 1) % 5) 0) 1) = kD (kC xs 5) x := rfl
     have m4 : 0 ≤ ((x : Int) + 4) % 5 ∧ ((x : Int) + 4) % 5 < 5 := by omega
     have m1 : 0 ≤ ((x : Int) + 1) % 5 ∧ ((x : Int) + 1) % 5 < 5 := by omega
     have n4 : (x + 4) % 5 < (kC xs 5).length := by omega
     have n1 : (x + 1) % 5 < (kC xs 5).length := by omega
     ((repeat (first | (with_reducible refine Vc.seq fun N hN => ?_) | ((with_reducible refine And.intro ?_ ?_); exact sdB) | ((first | ((with_reducible refine Vc.hold ?_); first | refine Vc.regiont T0_ok GK0_ok ?_)); (try simp only [v8Y, Nat.beq, Nat.ble, seval, tabs, GK0_set, d1])) | ((with_reducible refine hN _ _ ?_); clear hN N))))
     (refine Vc.cond T0_ok (t := true) (by rfl) (fun _ => ?_) (fun h => Bool.noConfusion h))
     ((repeat (first | (with_reducible first | refine Vc.seq fun N hN => ?_ | refine Vc.block ?_) | ((first | with_reducible refine Vc.skip ?_); dsimp only [thenK, blockK, Nat.beq]; (first | (refine hN _ _ ?_; clear hN N))) | ((with_reducible refine And.intro ?_ ?_); exact sdB) | ((first | ((with_reducible refine Vc.hold ?_); first | refine Vc.regiont T0_ok GK0_ok ?_ | refine Vc.drawt (id := 9) T0_ok GK0_ok (by kernel_rfl) [0, 1, 2, 3, 4, 5, 6, 7, 8, 9, 10] 11 [] trivial (by kernel_rfl) ?_)); (try simp only [v8Y, Nat.beq, Nat.ble, seval, tabs, GK0_set, d1, e1, e2, e3, hd])) | ((with_reducible refine hN _ _ ?_); clear hN N))))
     (revert N; intro N3 hN3)
     generalize hdx : kD (kC xs 5) x = dx at *
     refine Vc.loop 6 78 (fun y => [(46, .int .i64 (x : Nat)), (61, .int .i64 (y : Nat))]) (fun y => [.blk b t (.ints .u64 (kIn (kSp xs (kD (kC xs 5)) x) dx x y)), .blk b1 138 (.ints .u64 (kC xs 5))]) (fun y => y ≤ 5) (fun y => 5 - y) 0 ⟨Nat.zero_le _, ?_, ?_⟩ (fun y junk3 hy => ?_)
     ·((try simp only [v8Y, Nat.beq, Nat.ble, seval, tabs]); (repeat' with_reducible apply And.intro) <;> first | with_reducible exact True.intro | rfl | with_reducible rfl | (congr 1 <;> omega) | trivial)
     ·((try simp only [v8Y, Nat.beq, Nat.ble, seval, tabs]); (repeat' with_reducible apply And.intro) <;> first | with_reducible exact True.intro | rfl | with_reducible rfl | (congr 1 <;> omega) | trivial)
     ·have hil := kIn_len (kSp xs (kD (kC xs 5)) x) dx x y
      (simp only [v8Y, Nat.beq, Nat.ble, seval, tabs])
      by_cases hly : y < 5
      ·have d2 : decide ((y : Int) < 5) = true := decide_eq_true (by omega)
       have e4 : (5 * (y : Int) + (x : Int)).toNat = 5 * y + x := by omega
       have hs := kIn_s (kSp xs (kD (kC xs 5)) x) dx x y
       have l1 : 5 * y + x < (kIn (kSp xs (kD (kC xs 5)) x) dx x y).length := by omega
       ((repeat (first | (with_reducible refine Vc.seq fun N hN => ?_) | ((with_reducible refine And.intro ?_ ?_); exact sdB) | ((first | ((with_reducible refine Vc.hold ?_); first | refine Vc.regiont T0_ok GK0_ok ?_)); (try simp only [v8Y, Nat.beq, Nat.ble, seval, tabs, GK0_set, d2])) | ((with_reducible refine hN _ _ ?_); clear hN N))))
       (refine Vc.cond T0_ok (t := true) (by rfl) (fun _ => ?_) (fun h => Bool.noConfusion h))
       ((repeat (first | (with_reducible first | refine Vc.seq fun N hN => ?_ | refine Vc.block ?_) | ((first | with_reducible refine Vc.skip ?_); dsimp only [thenK, blockK, Nat.beq]; (first | (refine hN _ _ ?_; clear hN N))) | ((with_reducible refine And.intro ?_ ?_); exact sdB) | ((first | ((with_reducible refine Vc.hold ?_); first | refine Vc.regiont T0_ok GK0_ok ?_ | refine Vc.drawt (id := 13) T0_ok GK0_ok (by kernel_rfl) [0, 1, 2, 3, 4, 5, 6, 7, 8, 9, 10] 11 [] trivial (by kernel_rfl) ?_)); (try simp only [v8Y, Nat.beq, Nat.ble, seval, tabs, GK0_set, d2, e4])) | ((with_reducible refine hN _ _ ?_); clear hN N))))
       refine ⟨y + 1, by omega, ?_, ?_, by omega⟩
       ·((try simp only [v8Y, Nat.beq, Nat.ble, seval, tabs]); (repeat' with_reducible apply And.intro) <;> first | with_reducible exact True.intro | rfl | with_reducible rfl | (congr 1 <;> omega) | trivial)
       ·((try simp only [v8Y, Nat.beq, Nat.ble, seval, tabs]); (repeat' with_reducible apply And.intro) <;> first | with_reducible exact True.intro | rw [hs] | with_reducible rfl | (congr 1 <;> omega) | trivial)
      ·have d2 : decide ((y : Int) < 5) = false := decide_eq_false (by omega)
       obtain rfl : y = 5 := by omega
       have hs := kSp_s xs (kD (kC xs 5)) x
       rw [hdx] at hs
       ((repeat (first | (with_reducible refine Vc.seq fun N hN => ?_) | ((with_reducible refine And.intro ?_ ?_); exact sdB) | ((first | ((with_reducible refine Vc.hold ?_); first | refine Vc.regiont T0_ok GK0_ok ?_)); (try simp only [v8Y, Nat.beq, Nat.ble, seval, tabs, GK0_set, d2])) | ((with_reducible refine hN _ _ ?_); clear hN N))))
       (refine Vc.cond T0_ok (t := false) (by rfl) (fun h => Bool.noConfusion h) (fun _ => ?_))
       ((repeat (first | ((first | with_reducible refine Vc.exit ?_); dsimp only [thenK, blockK, Nat.beq]; (first | skip)) | ((with_reducible refine And.intro ?_ ?_); exact sdB) | ((first | ((with_reducible refine Vc.hold ?_); first | refine Vc.regiont T0_ok GK0_ok ?_)); (try simp only [v8Y, Nat.beq, Nat.ble, seval, tabs, GK0_set])))))
       (refine hN3 _ _ ?_; (try clear hN N); clear hN3 N3)
       ((repeat (first | ((first | with_reducible refine Vc.exit ?_); dsimp only [thenK, blockK, Nat.beq]; (first | skip)) | ((with_reducible refine And.intro ?_ ?_); exact sdB) | ((first | ((with_reducible refine Vc.hold ?_); first | refine Vc.regiont T0_ok GK0_ok ?_)); (try simp only [v8Y, Nat.beq, Nat.ble, seval, tabs, GK0_set])))))
       refine ⟨x + 1, by omega, ?_, ?_, by omega⟩
       ·((try simp only [v8Y, Nat.beq, Nat.ble, seval, tabs]); (repeat' with_reducible apply And.intro) <;> first | with_reducible exact True.intro | rfl | with_reducible rfl | (congr 1 <;> omega) | trivial)
       ·((try simp only [v8Y, Nat.beq, Nat.ble, seval, tabs]); (repeat' with_reducible apply And.intro) <;> first | with_reducible exact True.intro | rw [hs] | with_reducible rfl | (congr 1 <;> omega) | trivial)
    ·have d1 : decide ((x : Int) < 5) = false := decide_eq_false (by omega)
     obtain rfl : x = 5 := by omega
     ((repeat (first | (with_reducible refine Vc.seq fun N hN => ?_) | ((with_reducible refine And.intro ?_ ?_); exact sdB) | ((first | ((with_reducible refine Vc.hold ?_); first | refine Vc.regiont T0_ok GK0_ok ?_)); (try simp only [v8Y, Nat.beq, Nat.ble, seval, tabs, GK0_set, d1])) | ((with_reducible refine hN _ _ ?_); clear hN N))))
     (refine Vc.cond T0_ok (t := false) (by rfl) (fun h => Bool.noConfusion h) (fun _ => ?_))
     ((repeat (first | ((first | with_reducible refine Vc.exit ?_); dsimp only [thenK, blockK, Nat.beq]; (first | skip)))))
     ((repeat (first | ((first | with_reducible refine Vc.exit ?_); dsimp only [thenK, blockK, Nat.beq]; (first | skip)))))
     exact ⟨trivial, rfl, rfl⟩
end Go.Proofs.YtoadeekdgikghaaDoor
