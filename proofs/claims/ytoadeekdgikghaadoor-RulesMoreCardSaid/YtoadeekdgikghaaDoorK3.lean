/-
 Keccak-256 (package keccak), walked: a round's second and third step, all rounds. No condition.
-/
import Derived.Test.YtoadeekdgikghaaDoorK2
set_option maxRecDepth 10000
set_option maxHeartbeats 4000000
set_option linter.unusedVariables false
set_option linter.unusedSimpArgs false
namespace Go.Proofs.YtoadeekdgikghaaDoor
open Go.RowKit
def kKeys : List Int := [1, 32898, 9223372036854808714, 9223372039002292224, 32907, 2147483649, 9223372039002292353, 9223372036854808585, 138, 136, 2147516425, 2147483658, 2147516555, 9223372036854775947, 9223372036854808713, 9223372036854808579, 9223372036854808578, 9223372036854775936, 32778, 9223372039002259466, 9223372039002292353, 9223372036854808704, 2147483649, 9223372039002292232]
def kPathI : List Int := [10, 7, 11, 17, 18, 3, 5, 16, 8, 21, 24, 4, 15, 23, 19, 13, 12, 2, 20, 14, 22, 9, 6, 1]
theorem path_at : ∀ k, k < 24 → (kPathI.getD k 0).toNat = kPath.getD k 0 ∧ 0 ≤ kPathI.getD k 0 ∧ kPathI.getD k 0 < 25 := by decide
theorem kMv_s (l : List Int) (k : Nat) : kMv l (k + 1) = ((kMv l k).1.set (kPath.getD k 0) (rt (kMv l k).2 ((k + 1) * (k + 2) / 2 % 64)), (kMv l k).1.getD (kPath.getD k 0) 0) := it_s _ _ _
theorem kMv_len (l : List Int) : ∀ k, (kMv l k).1.length = l.length
 | 0 => rfl
 | k + 1 => by rw [kMv_s, List.length_set, kMv_len l k]
theorem move_vc (xs : List Int) (b : Nat) (t : TypeId) (hl : xs.length = 25) (w : World) (hm : MemOk w [b] [.ro (some ⟨0, 0, none⟩) (.ints .u64 kKeys), .ro (some ⟨1, 0, none⟩) (.ints .u8 kPathI), .blk b t (.ints .u64 xs)] w) : Calls Tryd.prog 78 (cvs [.ptr 2 b 0 0 0 0]).toArray w (fun en w' => ∃ u, en = .returned u ∧ ∃ v' m', u = cv v' ∧ MemOk w [b] m' w' ∧ v' = .tup [] ∧ bget m' 2 = .blk b t (.ints .u64 (kMov xs))) := by
 refine Vc.calls T0_ok Tryd.func78 rfl rfl (args := [.ptr 2 b 0 0 0 0]) (k := 32) rfl hm ?_; change Vc _ _ (c8 (.ptr 2 b 0 0 0 0) .undef .undef .undef .undef .undef .undef .undef (c8 .undef .undef .undef .undef .undef .undef .undef .undef (c8 .undef .undef .undef .undef .undef .undef .undef .undef (c8 .undef .undef .undef .undef .undef .undef .undef .undef ([.undef]))))) _ _
 have e0 : (1 : Int).toNat = 1 := rfl
 ((repeat (first | (with_reducible first | refine Vc.seq fun N hN => ?_ | refine Vc.block ?_) | ((with_reducible refine And.intro ?_ ?_); exact sdB) | ((first | ((with_reducible refine Vc.hold ?_); first | refine Vc.regiont T0_ok GK0_ok ?_)); (try simp only [v8Y, Nat.beq, Nat.ble, seval, tabs, GK0_set, e0])) | ((with_reducible refine hN _ _ ?_); clear hN N))))
 refine Vc.loop 2 33 (fun k => [(2, .int .u64 (kMv xs k).2), (9, .int .i64 (k : Nat))]) (fun k => [.ro (some ⟨0, 0, none⟩) (.ints .u64 kKeys), .ro (some ⟨1, 0, none⟩) (.ints .u8 kPathI), .blk b t (.ints .u64 (kMv xs k).1)]) (fun k => k ≤ 24) (fun k => 24 - k) 0 ⟨Nat.zero_le _, ?_, ?_⟩ (fun k junk hk => ?_)
 ·((try simp only [v8Y, Nat.beq, Nat.ble, seval, tabs]); (repeat' with_reducible apply And.intro) <;> first | with_reducible exact True.intro | rfl | with_reducible rfl | (congr 1 <;> omega) | trivial)
 ·((try simp only [v8Y, Nat.beq, Nat.ble, seval, tabs]); (repeat' with_reducible apply And.intro) <;> first | with_reducible exact True.intro | rfl | with_reducible rfl | (congr 1 <;> omega) | trivial)
 ·have hcl := kMv_len xs k
  have hpl : kPathI.length = 24 := rfl
  (simp only [v8Y, Nat.beq, Nat.ble, seval, tabs])
  by_cases hlt : k < 24
  ·have d1 : decide ((k : Int) < 24) = true := decide_eq_true (by omega)
   obtain ⟨p1, p2, p3⟩ := path_at k hlt
   have hs := kMv_s xs k
   have hP : ((k : Int) + 1) * ((k : Int) + 2) = (((k + 1) * (k + 2) : Nat) : Int) := by rw [Int.natCast_mul]; rfl
   have hP2 : (k + 1) * (k + 2) ≤ 24 * 25 := Nat.mul_le_mul (by omega) (by omega)
   generalize (k + 1) * (k + 2) = P at *
   have e1 : (((P : Nat) : Int) / 2).toNat = P / 2 := by omega
   have l1 : kPath.getD k 0 < (kMv xs k).1.length := by omega
   generalize kMv xs k = pr at *
   obtain ⟨ps, pl⟩ := pr
   simp only at *
   ((repeat (first | (with_reducible first | refine Vc.seq fun N hN => ?_ | refine Vc.block ?_) | ((first | with_reducible refine Vc.skip ?_); dsimp only [thenK, blockK, Nat.beq]; (first | (refine hN _ _ ?_; clear hN N))) | ((with_reducible refine And.intro ?_ ?_); exact sdB) | ((first | ((with_reducible refine Vc.hold ?_); first | refine Vc.regiont T0_ok GK0_ok ?_ | refine Vc.drawt (id := 5) T0_ok GK0_ok (by kernel_rfl) [0, 1, 2, 3, 4, 5, 6, 7, 8, 10, 11, 12, 13, 14, 15, 9] 16 [] trivial (by kernel_rfl) ?_)); (try simp only [v8Y, Nat.beq, Nat.ble, seval, tabs, GK0_set, d1, tnc, hP, e1, p1])) | ((with_reducible refine hN _ _ ?_); clear hN N))))
   (refine Vc.cond T0_ok (t := true) (by rfl) (fun _ => ?_) (fun h => Bool.noConfusion h))
   ((repeat (first | (with_reducible first | refine Vc.seq fun N hN => ?_ | refine Vc.block ?_) | ((first | with_reducible refine Vc.skip ?_); dsimp only [thenK, blockK, Nat.beq]; (first | (refine hN _ _ ?_; clear hN N))) | ((with_reducible refine And.intro ?_ ?_); exact sdB) | ((first | ((with_reducible refine Vc.hold ?_); first | refine Vc.regiont T0_ok GK0_ok ?_ | refine Vc.drawt (id := 5) T0_ok GK0_ok (by kernel_rfl) [0, 1, 2, 3, 4, 5, 6, 7, 8, 10, 11, 12, 13, 14, 15, 9] 16 [] trivial (by kernel_rfl) ?_)); (try simp only [v8Y, Nat.beq, Nat.ble, seval, tabs, GK0_set, d1, tnc, hP, e1, p1])) | ((with_reducible refine hN _ _ ?_); clear hN N))))
   refine ⟨k + 1, by omega, ?_, ?_, by omega⟩
   ·((try simp only [v8Y, Nat.beq, Nat.ble, seval, tabs]); (repeat' with_reducible apply And.intro) <;> first | with_reducible exact True.intro | rw [hs] | with_reducible rfl | (congr 1 <;> omega) | trivial)
   ·((try simp only [v8Y, Nat.beq, Nat.ble, seval, tabs]); (repeat' with_reducible apply And.intro) <;> first | with_reducible exact True.intro | rw [hs] | with_reducible rfl | (congr 1 <;> omega) | trivial)
  ·have d1 : decide ((k : Int) < 24) = false := decide_eq_false (by omega)
   obtain rfl : k = 24 := by omega
   ((repeat (first | (with_reducible refine Vc.seq fun N hN => ?_) | ((with_reducible refine And.intro ?_ ?_); exact sdB) | ((first | ((with_reducible refine Vc.hold ?_); first | refine Vc.regiont T0_ok GK0_ok ?_)); (try simp only [v8Y, Nat.beq, Nat.ble, seval, tabs, GK0_set, d1])) | ((with_reducible refine hN _ _ ?_); clear hN N))))
   (refine Vc.cond T0_ok (t := false) (by rfl) (fun h => Bool.noConfusion h) (fun _ => ?_))
   ((repeat (first | ((first | with_reducible refine Vc.exit ?_); dsimp only [thenK, blockK, Nat.beq]; (first | skip)))))
   exact ⟨trivial, rfl, rfl⟩
theorem dt_get (s : List Int) (a j : Nat) (h : j < 5) : ((s.drop a).take 5).getD j 0 = s.getD (a + j) 0 := by
 rw [List.getD_eq_getElem?_getD, List.getD_eq_getElem?_getD, List.getElem?_take, if_pos h, List.getElem?_drop]
theorem set_ne (s : List Int) {i j : Nat} (v : Int) (h : i ≠ j) : (s.set i v).getD j 0 = s.getD j 0 := by
 rw [List.getD_eq_getElem?_getD, List.getD_eq_getElem?_getD, List.getElem?_set_ne h]
theorem kBe_s (l : List Int) (y : Nat) : kBe l (y + 1) = (((((kBe l y).set (5 * y) (kRow (kBe l y) y 0)).set (5 * y + 1) (kRow (kBe l y) y 1)).set (5 * y + 2) (kRow (kBe l y) y 2)).set (5 * y + 3) (kRow (kBe l y) y 3)).set (5 * y + 4) (kRow (kBe l y) y 4) := it_s _ _ _
theorem kBe_len (l : List Int) (y : Nat) : (kBe l y).length = l.length := it_len (fun c k => by unfold kBs; simp only [List.length_set]) _ _
theorem bend_vc (xs : List Int) (b : Nat) (t : TypeId) (hl : xs.length = 25) (w : World) (hm : MemOk w [b] [.blk b t (.ints .u64 xs)] w) : Calls Tryd.prog 79 (cvs [.ptr 0 b 0 0 0 0]).toArray w (fun en w' => ∃ u, en = .returned u ∧ ∃ v' m', u = cv v' ∧ MemOk w [b] m' w' ∧ v' = .tup [] ∧ bget m' 0 = .blk b t (.ints .u64 (kBen xs))) := by
 refine Vc.calls T0_ok Tryd.func79 rfl rfl (args := [.ptr 0 b 0 0 0 0]) (k := 74) rfl hm ?_; change Vc _ _ (c8 (.ptr 0 b 0 0 0 0) .undef .undef .undef .undef .undef .undef .undef (c8 .undef .undef .undef .undef .undef .undef .undef .undef (c8 .undef .undef .undef .undef .undef .undef .undef .undef (c8 .undef .undef .undef .undef .undef .undef .undef .undef (c8 .undef .undef .undef .undef .undef .undef .undef .undef (c8 .undef .undef .undef .undef .undef .undef .undef .undef (c8 .undef .undef .undef .undef .undef .undef .undef .undef (c8 .undef .undef .undef .undef .undef .undef .undef .undef (c8 .undef .undef .undef .undef .undef .undef .undef .undef ([.undef, .undef, .undef])))))))))) _ _
 ((repeat (first | (with_reducible first | refine Vc.seq fun N hN => ?_ | refine Vc.block ?_) | ((with_reducible refine And.intro ?_ ?_); exact sdB) | ((first | ((with_reducible refine Vc.hold ?_); first | refine Vc.regiont T0_ok GK0_ok ?_)); (try simp only [v8Y, Nat.beq, Nat.ble, seval, tabs, GK0_set])) | ((with_reducible refine hN _ _ ?_); clear hN N))))
 refine Vc.loop 2 75 (fun y => [(5, .int .i64 (y : Nat))]) (fun y => [.blk b t (.ints .u64 (kBe xs y))]) (fun y => y ≤ 5) (fun y => 5 - y) 0 ⟨Nat.zero_le _, ?_, ?_⟩ (fun y junk hy => ?_)
 ·((try simp only [v8Y, Nat.beq, Nat.ble, seval, tabs]); (repeat' with_reducible apply And.intro) <;> first | with_reducible exact True.intro | rfl | with_reducible rfl | (congr 1 <;> omega) | trivial)
 ·((try simp only [v8Y, Nat.beq, Nat.ble, seval, tabs]); (repeat' with_reducible apply And.intro) <;> first | with_reducible exact True.intro | rfl | with_reducible rfl | (congr 1 <;> omega) | trivial)
 ·have hcl := kBe_len xs y
  (simp only [v8Y, Nat.beq, Nat.ble, seval, tabs])
  by_cases hlt : y < 5
  ·have d1 : decide ((y : Int) < 5) = true := decide_eq_true (by omega)
   have hs := kBe_s xs y
   generalize kBe xs y = s at *
   have e1 : (5 * (y : Int)).toNat = 5 * y := by omega
   have e2 : (5 * (y : Int) + 5).toNat = 5 * y + 5 := by omega
   have e3 : 5 * y + 5 - 5 * y = 5 := by omega
   have g0 := dt_get s (5 * y) 0 (by decide)
   have g1 := dt_get s (5 * y) 1 (by decide)
   have g2 := dt_get s (5 * y) 2 (by decide)
   have g3 := dt_get s (5 * y) 3 (by decide)
   have g4 := dt_get s (5 * y) 4 (by decide)
   have hdl : ((s.drop (5 * y)).take 5).length = 5 := by rw [List.length_take, List.length_drop]; omega
   have r1 : ∀ v, (s.set (5 * y) v).getD (5 * y + 1) 0 = s.getD (5 * y + 1) 0 := fun v => set_ne _ _ (by omega)
   have r2 : ∀ v v1, ((s.set (5 * y) v).set (5 * y + 1) v1).getD (5 * y + 2) 0 = s.getD (5 * y + 2) 0 := fun v v1 => by rw [set_ne _ _ (by omega), set_ne _ _ (by omega)]
   have r3 : ∀ v v1 v2, (((s.set (5 * y) v).set (5 * y + 1) v1).set (5 * y + 2) v2).getD (5 * y + 3) 0 = s.getD (5 * y + 3) 0 := fun v v1 v2 => by rw [set_ne _ _ (by omega), set_ne _ _ (by omega), set_ne _ _ (by omega)]
   have r4 : ∀ v v1 v2 v3, ((((s.set (5 * y) v).set (5 * y + 1) v1).set (5 * y + 2) v2).set (5 * y + 3) v3).getD (5 * y + 4) 0 = s.getD (5 * y + 4) 0 := fun v v1 v2 v3 => by rw [set_ne _ _ (by omega), set_ne _ _ (by omega), set_ne _ _ (by omega), set_ne _ _ (by omega)]
   ((repeat (first | (with_reducible refine Vc.seq fun N hN => ?_) | ((with_reducible refine And.intro ?_ ?_); exact sdB) | ((first | ((with_reducible refine Vc.hold ?_); first | refine Vc.regiont T0_ok GK0_ok ?_)); (try simp only [v8Y, Nat.beq, Nat.ble, seval, tabs, GK0_set, d1])) | ((with_reducible refine hN _ _ ?_); clear hN N))))
   (refine Vc.cond T0_ok (t := true) (by rfl) (fun _ => ?_) (fun h => Bool.noConfusion h))
   ((repeat (first | (with_reducible first | refine Vc.seq fun N hN => ?_ | refine Vc.block ?_) | ((first | with_reducible refine Vc.skip ?_); dsimp only [thenK, blockK, Nat.beq]; (first | (refine hN _ _ ?_; clear hN N))) | (with_reducible intro _) | ((with_reducible refine And.intro ?_ ?_); (focus (first | ((repeat' with_reducible apply And.intro) <;> first | exact sideQ | (simp only [List.length_set]; omega)) | exact sd0))) | ((first | ((with_reducible refine Vc.hold ?_); first | refine Vc.regiont T0_ok GK0_ok ?_ | refine Vc.drawt (id := 5) T0_ok GK0_ok (by kernel_rfl) [0, 1, 2, 3, 4, 5, 6, 7, 8] 9 [] trivial (by kernel_rfl) ?_ | refine Vc.drawt (id := 6) T0_ok GK0_ok (by kernel_rfl) [0, 1, 2, 3, 4, 5, 6, 7, 8] 9 [] trivial (by kernel_rfl) ?_ | refine Vc.drawt (id := 7) T0_ok GK0_ok (by kernel_rfl) [0, 1, 2, 3, 4, 5, 6, 7, 8] 9 [] trivial (by kernel_rfl) ?_ | refine Vc.drawt (id := 8) T0_ok GK0_ok (by kernel_rfl) [0, 1, 2, 3, 4, 5, 6, 7, 8] 9 [] trivial (by kernel_rfl) ?_ | refine Vc.drawt (id := 9) T0_ok GK0_ok (by kernel_rfl) [0, 1, 2, 3, 4, 5, 6, 7, 8] 9 [] trivial (by kernel_rfl) ?_)); (try simp only [v8Y, Nat.beq, Nat.ble, seval, tabs, GK0_set, d1, tnc, e1, e2, e3, g0, g1, g2, g3, g4, r1, r2, r3, r4, Nat.add_zero])) | ((with_reducible refine hN _ _ ?_); clear hN N))))
   refine ⟨y + 1, by omega, ?_, ?_, by omega⟩
   ·((try simp only [v8Y, Nat.beq, Nat.ble, seval, tabs]); (repeat' with_reducible apply And.intro) <;> first | with_reducible exact True.intro | rfl | with_reducible rfl | (congr 1 <;> omega) | trivial)
   ·((try simp only [v8Y, Nat.beq, Nat.ble, seval, tabs]); (repeat' with_reducible apply And.intro) <;> first | with_reducible exact True.intro | (rw [hs]; rfl) | with_reducible rfl | (congr 1 <;> omega) | trivial)
  ·have d1 : decide ((y : Int) < 5) = false := decide_eq_false (by omega)
   obtain rfl : y = 5 := by omega
   ((repeat (first | (with_reducible refine Vc.seq fun N hN => ?_) | ((with_reducible refine And.intro ?_ ?_); exact sdB) | ((first | ((with_reducible refine Vc.hold ?_); first | refine Vc.regiont T0_ok GK0_ok ?_)); (try simp only [v8Y, Nat.beq, Nat.ble, seval, tabs, GK0_set, d1])) | ((with_reducible refine hN _ _ ?_); clear hN N))))
   (refine Vc.cond T0_ok (t := false) (by rfl) (fun h => Bool.noConfusion h) (fun _ => ?_))
   ((repeat (first | ((first | with_reducible refine Vc.exit ?_); dsimp only [thenK, blockK, Nat.beq]; (first | skip)))))
   exact ⟨trivial, rfl, rfl⟩
def g_kSpread (args : List SV) (m : List Blk) : CR :=
 match args with
 | [.ptr nm b base i sz j] => match bget m nm with
  | .blk b' _ (.ints .u64 xs) => .turn (b = b' ∧ base = 0 ∧ i = 0 ∧ sz = 0 ∧ j = 0 ∧ xs.length = 25) nm (.ints .u64 (kSpr xs)) (.tup [])
  | _ => .none
 | _ => .none
theorem g_kSpread_ok (w0 : World) (B : List Nat) (args : List SV) (m : List Blk) : CROk Tryd.prog w0 B 77 args m (g_kSpread args m) := by
 unfold g_kSpread
 split
 ·rename_i nm b base i sz j
  split
  ·rename_i b' t xs hb
   intro ⟨e1, e2, e3, e4, e5, hl⟩ w hm
   subst e1 e2 e3 e4 e5
   exact calls_turn Tryd.func77 rfl rfl hm hb (k := 0) (args' := [.ptr 0 b 0 0 0 0]) rfl (spread_vc xs b t hl w (turn_start hm hb))
  ·exact trivial
 ·exact trivial
def g_kMove (args : List SV) (m : List Blk) : CR :=
 match args with
 | [.ptr nm b base i sz j] => match bget m nm, bget m 0, bget m 1 with
  | .blk b' _ (.ints .u64 xs), .ro a0 c0, .ro a1 c1 => .turn (b = b' ∧ base = 0 ∧ i = 0 ∧ sz = 0 ∧ j = 0 ∧ xs.length = 25 ∧ a0 = some ⟨0, 0, none⟩ ∧ c0 = .ints .u64 kKeys ∧ a1 = some ⟨1, 0, none⟩ ∧ c1 = .ints .u8 kPathI) nm (.ints .u64 (kMov xs)) (.tup [])
  | _, _, _ => .none
 | _ => .none
theorem g_kMove_ok (w0 : World) (B : List Nat) (args : List SV) (m : List Blk) : CROk Tryd.prog w0 B 78 args m (g_kMove args m) := by
 unfold g_kMove
 split
 ·rename_i nm b base i sz j
  split
  ·rename_i b' t xs a0 c0 a1 c1 hb h0 h1
   intro ⟨e1, e2, e3, e4, e5, hl, r0, r1, r2, r3⟩ w hm
   subst e1 e2 e3 e4 e5 r0 r1 r2 r3
   exact calls_turn Tryd.func78 rfl rfl hm hb (k := 2) (args' := [.ptr 2 b 0 0 0 0]) rfl (move_vc xs b t hl w (turn_ro (turn_ro (turn_start hm hb) hm hb h1) hm hb h0))
  ·exact trivial
 ·exact trivial
def g_kBend (args : List SV) (m : List Blk) : CR :=
 match args with
 | [.ptr nm b base i sz j] => match bget m nm with
  | .blk b' _ (.ints .u64 xs) => .turn (b = b' ∧ base = 0 ∧ i = 0 ∧ sz = 0 ∧ j = 0 ∧ xs.length = 25) nm (.ints .u64 (kBen xs)) (.tup [])
  | _ => .none
 | _ => .none
theorem g_kBend_ok (w0 : World) (B : List Nat) (args : List SV) (m : List Blk) : CROk Tryd.prog w0 B 79 args m (g_kBend args m) := by
 unfold g_kBend
 split
 ·rename_i nm b base i sz j
  split
  ·rename_i b' t xs hb
   intro ⟨e1, e2, e3, e4, e5, hl⟩ w hm
   subst e1 e2 e3 e4 e5
   exact calls_turn Tryd.func79 rfl rfl hm hb (k := 0) (args' := [.ptr 0 b 0 0 0 0]) rfl (bend_vc xs b t hl w (turn_start hm hb))
  ·exact trivial
 ·exact trivial

end Go.Proofs.YtoadeekdgikghaaDoor
