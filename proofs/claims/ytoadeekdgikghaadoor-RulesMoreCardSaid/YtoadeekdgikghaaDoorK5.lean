/-
 Keccak-256 (package keccak), walked: a block taken in, the state's hash. No condition.
-/
import Derived.Test.YtoadeekdgikghaaDoorK4
set_option maxRecDepth 10000
set_option maxHeartbeats 4000000
set_option linter.defProp false
set_option linter.unusedVariables false
set_option linter.unusedSimpArgs false
namespace Go.Proofs.YtoadeekdgikghaaDoor
open Go.RowKit
noncomputable def GK2 : Ctr := fun f args m => match f with
 | 76 => g_kPermute args m
 | _ => .none
theorem GK2_ok : GOk Tryd.prog GK2 := by
 intro w0 B f args m; unfold GK2; split
 ·exact g_kPermute_ok _ _ _ _
 ·exact trivial
theorem GK2_kPermute : GK2 76 = g_kPermute := by funext args m; rfl
def GK2_set := And.intro (@GK2_kPermute) (@g_kPermute.eq_def)

def kAs (blk : List Int) (i : Nat) (s : List Int) (j : Nat) : List Int := s.set i (xo (s.getD i 0) (IntKind.u64.wrap (blk.getD (8 * i + j) 0 * 2 ^ (8 * j))))
def kAi (blk : List Int) (i : Nat) (s : List Int) (n : Nat) : List Int := it (kAs blk i) n s
def kAb (blk s : List Int) (n : Nat) : List Int := it (fun s i => kAi blk i s 8) n s
def kAbs (s blk : List Int) : List Int := kPerm (kAb blk s 17)
theorem kAi_s (blk : List Int) (i : Nat) (s : List Int) (j : Nat) : kAi blk i s (j + 1) = (kAi blk i s j).set i (bits .xor .u64 ((kAi blk i s j).getD i 0) (IntKind.u64.wrap (blk.getD (8 * i + j) 0 * 2 ^ (8 * j)))) := it_s _ _ _
theorem kAb_s (blk s : List Int) (i : Nat) : kAb blk s (i + 1) = kAi blk i (kAb blk s i) 8 := it_s _ _ _
theorem kAi_len (blk : List Int) (i : Nat) (s : List Int) (j : Nat) : (kAi blk i s j).length = s.length := it_len (fun _ _ => by unfold kAs; rw [List.length_set]) _ _
theorem kAb_len (blk s : List Int) (i : Nat) : (kAb blk s i).length = s.length := it_len (fun _ _ => kAi_len _ _ _ _) _ _
theorem kPerm_len (s : List Int) : (kPerm s).length = s.length := kPm_len _ _
theorem kAbs_len (s blk : List Int) : (kAbs s blk).length = s.length := by unfold kAbs; rw [kPerm_len, kAb_len]
theorem by_rng {xs : List Int} (hx : allB xs) (k : Nat) : 0 ≤ xs.getD k 0 ∧ xs.getD k 0 ≤ 255 := by
 rw [List.getD_eq_getElem?_getD]
 cases h : xs[k]? with
 | none => decide
 | some y => exact hx y (List.mem_of_getElem? h)
theorem absorb_vc (xs blk : List Int) (b : Nat) (t : TypeId) (hl : xs.length = 25) (hk : blk.length = 136) (hx : allB blk) (w : World) (hm : MemOk w [b] [.ro (some ⟨0, 0, none⟩) (.ints .u64 kKeys), .ro (some ⟨1, 0, none⟩) (.ints .u8 kPathI), .blk b t (.ints .u64 xs)] w) : Calls Tryd.prog 73 (cvs [.ptr 2 b 0 0 0 0, .ints .u8 blk]).toArray w (fun en w' => ∃ u, en = .returned u ∧ ∃ v' m', u = cv v' ∧ MemOk w [b] m' w' ∧ v' = .tup [] ∧ bget m' 2 = .blk b t (.ints .u64 (kAbs xs blk))) := by
 refine Vc.calls T0_ok Tryd.func73 rfl rfl (args := [.ptr 2 b 0 0 0 0, .ints .u8 blk]) (k := 32) rfl hm ?_; change Vc _ _ (c8 (.ptr 2 b 0 0 0 0) (.ints .u8 blk) .undef .undef .undef .undef .undef .undef (c8 .undef .undef .undef .undef .undef .undef .undef .undef (c8 .undef .undef .undef .undef .undef .undef .undef .undef (c8 .undef .undef .undef .undef .undef .undef .undef .undef ([.undef, .undef]))))) _ _
 ((repeat (first | (with_reducible first | refine Vc.seq fun N hN => ?_ | refine Vc.block ?_) | (with_reducible intro _) | ((with_reducible refine And.intro ?_ ?_); exact sdB) | ((first | ((with_reducible refine Vc.hold ?_); first | refine Vc.regiont T0_ok GK2_ok ?_)); (try simp only [v8Y, Nat.beq, Nat.ble, seval, tabs, GK2_set])) | ((with_reducible refine hN _ _ ?_); clear hN N))))
 (revert N; intro N1 hN1)
 rename_i b1
 refine Vc.loop 4 32 (fun i => [(6, .int .i64 (i : Nat))]) (fun i => [.ro (some ⟨0, 0, none⟩) (.ints .u64 kKeys), .ro (some ⟨1, 0, none⟩) (.ints .u8 kPathI), .blk b t (.ints .u64 (kAb blk xs i)), .blk b1 133 (.ints .u8 blk)]) (fun i => i ≤ 17) (fun i => 17 - i) 0 ⟨Nat.zero_le _, ?_, ?_⟩ (fun i junk hi => ?_)
 ·((try simp only [v8Y, Nat.beq, Nat.ble, seval, tabs]); (repeat' with_reducible apply And.intro) <;> first | with_reducible exact True.intro | rfl | with_reducible rfl | (congr 1 <;> omega) | trivial)
 ·((try simp only [v8Y, Nat.beq, Nat.ble, seval, tabs]); (repeat' with_reducible apply And.intro) <;> first | with_reducible exact True.intro | rfl | with_reducible rfl | (congr 1 <;> omega) | trivial)
 ·have h0 := kAb_len blk xs i
  have hs0 := kAb_s blk xs i
  generalize hsi : kAb blk xs i = s at *
  (simp only [v8Y, Nat.beq, Nat.ble, seval, tabs])
  by_cases hlt : i < 17
  ·have d1 : decide ((i : Int) < 17) = true := decide_eq_true (by omega)
   ((repeat (first | (with_reducible first | refine Vc.seq fun N hN => ?_ | refine Vc.block ?_) | ((first | with_reducible refine Vc.skip ?_); dsimp only [thenK, blockK, Nat.beq]; (first | (refine hN _ _ ?_; clear hN N))) | ((with_reducible refine And.intro ?_ ?_); exact sdB) | ((first | ((with_reducible refine Vc.hold ?_); first | refine Vc.regiont T0_ok GK2_ok ?_)); (try simp only [v8Y, Nat.beq, Nat.ble, seval, tabs, GK2_set, d1, tnc])) | ((with_reducible refine hN _ _ ?_); clear hN N))))
   (refine Vc.cond T0_ok (t := true) (by rfl) (fun _ => ?_) (fun h => Bool.noConfusion h))
   ((repeat (first | (with_reducible first | refine Vc.seq fun N hN => ?_ | refine Vc.block ?_) | ((first | with_reducible refine Vc.skip ?_); dsimp only [thenK, blockK, Nat.beq]; (first | (refine hN _ _ ?_; clear hN N))) | ((with_reducible refine And.intro ?_ ?_); exact sdB) | ((first | ((with_reducible refine Vc.hold ?_); first | refine Vc.regiont T0_ok GK2_ok ?_)); (try simp only [v8Y, Nat.beq, Nat.ble, seval, tabs, GK2_set, d1, tnc])) | ((with_reducible refine hN _ _ ?_); clear hN N))))
   (revert N; intro N2 hN2)
   refine Vc.loop 5 32 (fun j => [(6, .int .i64 (i : Nat)), (9, .int .i64 (j : Nat))]) (fun j => [.ro (some ⟨0, 0, none⟩) (.ints .u64 kKeys), .ro (some ⟨1, 0, none⟩) (.ints .u8 kPathI), .blk b t (.ints .u64 (kAi blk i s j)), .blk b1 133 (.ints .u8 blk)]) (fun j => j ≤ 8) (fun j => 8 - j) 0 ⟨Nat.zero_le _, ?_, ?_⟩ (fun j junk2 hj => ?_)
   ·((try simp only [v8Y, Nat.beq, Nat.ble, seval, tabs]); (repeat' with_reducible apply And.intro) <;> first | with_reducible exact True.intro | rfl | with_reducible rfl | (congr 1 <;> omega) | trivial)
   ·((try simp only [v8Y, Nat.beq, Nat.ble, seval, tabs]); (repeat' with_reducible apply And.intro) <;> first | with_reducible exact True.intro | rfl | with_reducible rfl | (congr 1 <;> omega) | trivial)
   ·have h1 := kAi_len blk i s j
    have hs1 := kAi_s blk i s j
    generalize hsj : kAi blk i s j = s1 at *
    (simp only [v8Y, Nat.beq, Nat.ble, seval, tabs])
    by_cases hlj : j < 8
    ·have d2 : decide ((j : Int) < 8) = true := decide_eq_true (by omega)
     have e1 : (8 * (i : Int) + (j : Int)).toNat = 8 * i + j := by omega
     have e2 : min (8 * (j : Int)).toNat 64 = 8 * j := by omega
     have y := by_rng hx (8 * i + j)
     ((repeat (first | (with_reducible refine Vc.seq fun N hN => ?_) | ((with_reducible refine And.intro ?_ ?_); exact sdB) | ((first | ((with_reducible refine Vc.hold ?_); first | refine Vc.regiont T0_ok GK2_ok ?_)); (try simp only [v8Y, Nat.beq, Nat.ble, seval, tabs, GK2_set, d2, tnc])) | ((with_reducible refine hN _ _ ?_); clear hN N))))
     (refine Vc.cond T0_ok (t := true) (by rfl) (fun _ => ?_) (fun h => Bool.noConfusion h))
     ((repeat (first | (with_reducible first | refine Vc.seq fun N hN => ?_ | refine Vc.block ?_) | ((first | with_reducible refine Vc.skip ?_); dsimp only [thenK, blockK, Nat.beq]; (first | (refine hN _ _ ?_; clear hN N))) | ((with_reducible refine And.intro ?_ ?_); exact sdB) | ((first | ((with_reducible refine Vc.hold ?_); first | refine Vc.regiont T0_ok GK2_ok ?_ | refine Vc.drawt (id := 7) T0_ok GK2_ok (by kernel_rfl) [0, 1, 2, 3, 4, 5, 6, 7, 8, 9, 10, 11, 12, 13, 14, 15, 16] 17 [] trivial (by kernel_rfl) ?_)); (try simp only [v8Y, Nat.beq, Nat.ble, seval, tabs, GK2_set, d2, tnc, e1, e2]); (try simp (disch := omega) only [v8W])) | ((with_reducible refine hN _ _ ?_); clear hN N))))
     refine ⟨j + 1, by omega, ?_, ?_, by omega⟩
     ·((try simp only [v8Y, Nat.beq, Nat.ble, seval, tabs]); (repeat' with_reducible apply And.intro) <;> first | with_reducible exact True.intro | fail | with_reducible rfl | (congr 1 <;> omega) | trivial)
     ·((try simp only [v8Y, Nat.beq, Nat.ble, seval, tabs]); (repeat' with_reducible apply And.intro) <;> first | with_reducible exact True.intro | rw [hs1] | with_reducible rfl | (congr 1 <;> omega) | trivial)
    ·have d2 : decide ((j : Int) < 8) = false := decide_eq_false (by omega)
     obtain rfl : j = 8 := by omega
     ((repeat (first | (with_reducible refine Vc.seq fun N hN => ?_) | ((with_reducible refine And.intro ?_ ?_); exact sdB) | ((first | ((with_reducible refine Vc.hold ?_); first | refine Vc.regiont T0_ok GK2_ok ?_)); (try simp only [v8Y, Nat.beq, Nat.ble, seval, tabs, GK2_set, d2])) | ((with_reducible refine hN _ _ ?_); clear hN N))))
     (refine Vc.cond T0_ok (t := false) (by rfl) (fun h => Bool.noConfusion h) (fun _ => ?_))
     ((repeat (first | ((first | with_reducible refine Vc.exit ?_); dsimp only [thenK, blockK, Nat.beq]; (first | skip)) | ((with_reducible refine And.intro ?_ ?_); exact sdB) | ((first | ((with_reducible refine Vc.hold ?_); first | refine Vc.regiont T0_ok GK2_ok ?_)); (try simp only [v8Y, Nat.beq, Nat.ble, seval, tabs, GK2_set])))))
     (refine hN2 _ _ ?_; (try clear hN N); clear hN2 N2)
     ((repeat (first | ((first | with_reducible refine Vc.exit ?_); dsimp only [thenK, blockK, Nat.beq]; (first | skip)) | ((with_reducible refine And.intro ?_ ?_); exact sdB) | ((first | ((with_reducible refine Vc.hold ?_); first | refine Vc.regiont T0_ok GK2_ok ?_)); (try simp only [v8Y, Nat.beq, Nat.ble, seval, tabs, GK2_set])))))
     refine ⟨i + 1, by omega, ?_, ?_, by omega⟩
     ·((try simp only [v8Y, Nat.beq, Nat.ble, seval, tabs]); (repeat' with_reducible apply And.intro) <;> first | with_reducible exact True.intro | fail | with_reducible rfl | (congr 1 <;> omega) | trivial)
     ·((try simp only [v8Y, Nat.beq, Nat.ble, seval, tabs]); (repeat' with_reducible apply And.intro) <;> first | with_reducible exact True.intro | rw [hs0, hsj] | with_reducible rfl | (congr 1 <;> omega) | trivial)
  ·have d1 : decide ((i : Int) < 17) = false := decide_eq_false (by omega)
   obtain rfl : i = 17 := by omega
   have hp : kAbs xs blk = kPerm s := by unfold kAbs; rw [hsi]
   ((repeat (first | (with_reducible refine Vc.seq fun N hN => ?_) | ((with_reducible refine And.intro ?_ ?_); exact sdB) | ((first | ((with_reducible refine Vc.hold ?_); first | refine Vc.regiont T0_ok GK2_ok ?_)); (try simp only [v8Y, Nat.beq, Nat.ble, seval, tabs, GK2_set, d1])) | ((with_reducible refine hN _ _ ?_); clear hN N))))
   (refine Vc.cond T0_ok (t := false) (by rfl) (fun h => Bool.noConfusion h) (fun _ => ?_))
   ((repeat (first | ((first | with_reducible refine Vc.exit ?_); dsimp only [thenK, blockK, Nat.beq]; (first | skip)) | ((with_reducible refine And.intro ?_ ?_); exact sdB) | ((first | ((with_reducible refine Vc.hold ?_); first | refine Vc.regiont T0_ok GK2_ok ?_)); (try simp only [v8Y, Nat.beq, Nat.ble, seval, tabs, GK2_set])))))
   (refine hN1 _ _ ?_; (try clear hN N); clear hN1 N1)
   ((repeat (first | ((first | with_reducible refine Vc.exit ?_); dsimp only [thenK, blockK, Nat.beq]; (first | skip)) | ((with_reducible refine And.intro ?_ ?_); exact sdB) | ((first | ((with_reducible refine Vc.hold ?_); first | refine Vc.regiont T0_ok GK2_ok ?_)); (try simp only [v8Y, Nat.beq, Nat.ble, seval, tabs, GK2_set])))))
   rw [hp]
def g_kAbsorb (args : List SV) (m : List Blk) : CR :=
 match args with
 | [.ptr nm b base i sz j, .ints .u8 blk] => match bget m nm, bget m 0, bget m 1 with
  | .blk b' _ (.ints .u64 xs), .ro a0 c0, .ro a1 c1 => .turn (b = b' ∧ base = 0 ∧ i = 0 ∧ sz = 0 ∧ j = 0 ∧ xs.length = 25 ∧ blk.length = 136 ∧ allB blk ∧ a0 = some ⟨0, 0, none⟩ ∧ c0 = .ints .u64 kKeys ∧ a1 = some ⟨1, 0, none⟩ ∧ c1 = .ints .u8 kPathI) nm (.ints .u64 (kAbs xs blk)) (.tup [])
  | _, _, _ => .none
 | _ => .none
theorem g_kAbsorb_ok (w0 : World) (B : List Nat) (args : List SV) (m : List Blk) : CROk Tryd.prog w0 B 73 args m (g_kAbsorb args m) := by
 unfold g_kAbsorb
 split
 ·rename_i nm b base i sz j blk
  split
  ·rename_i b' t xs a0 c0 a1 c1 hb h0 h1
   intro ⟨e1, e2, e3, e4, e5, hl, hk, hx, r0, r1, r2, r3⟩ w hm
   subst e1 e2 e3 e4 e5 r0 r1 r2 r3
   exact calls_turn Tryd.func73 rfl rfl hm hb (k := 2) (args' := [.ptr 2 b 0 0 0 0, .ints .u8 blk]) rfl (absorb_vc xs blk b t hl hk hx w (turn_ro (turn_ro (turn_start hm hb) hm hb h1) hm hb h0))
  ·exact trivial
 ·exact trivial
def kHb (xs bs : List Int) (k : Nat) : List Int := bs.set k (IntKind.u8.wrap (xs.getD (k / 8) 0 / 2 ^ (k % 8 * 8)))
def kHs (xs : List Int) (n : Nat) : List Int := it (kHb xs) n (List.replicate 32 0)
theorem kHs_s (xs : List Int) (n : Nat) : kHs xs (n + 1) = (kHs xs n).set n (IntKind.u8.wrap (xs.getD (n / 8) 0 / 2 ^ (n % 8 * 8))) := it_s _ _ _
theorem kHs_len (xs : List Int) (n : Nat) : (kHs xs n).length = 32 := it_len (fun _ _ => by unfold kHb; rw [List.length_set]) _ _
theorem wrap8_rng (x : Int) : 0 ≤ IntKind.u8.wrap x ∧ IntKind.u8.wrap x ≤ 255 := by rw [mod_u8]; omega
theorem kHs_all (xs : List Int) : ∀ n, allB (kHs xs n)
 | 0 => by intro y hy; rw [List.eq_of_mem_replicate (show y ∈ List.replicate 32 (0 : Int) from hy)]; decide
 | n + 1 => by
  rw [kHs_s]
  intro y hy
  rcases List.mem_or_eq_of_mem_set hy with h | h
  ·exact kHs_all xs n y h
  ·rw [h]; exact wrap8_rng _
theorem khash_vc (xs : List Int) (b : Nat) (hl : xs.length = 25) (w : World) (hm : MemOk w [] [.ro (some ⟨b, 0, none⟩) (.ints .u64 xs)] w) : Calls Tryd.prog 74 (cvs [.ptr 0 b 0 0 0 0]).toArray w (fun en w' => ∃ u, en = .returned u ∧ ∃ v' m', u = cv v' ∧ MemOk w [] m' w' ∧ v' = .word (readN (kHs xs 32))) := by
 refine Vc.calls T0_ok Tryd.func74 rfl rfl (args := [.ptr 0 b 0 0 0 0]) (k := 23) rfl hm ?_; change Vc _ _ (c8 (.ptr 0 b 0 0 0 0) .undef .undef .undef .undef .undef .undef .undef (c8 .undef .undef .undef .undef .undef .undef .undef .undef (c8 .undef .undef .undef .undef .undef .undef .undef .undef ([])))) _ _
 ((repeat (first | (with_reducible first | refine Vc.seq fun N hN => ?_ | refine Vc.block ?_) | (with_reducible intro _) | ((with_reducible refine And.intro ?_ ?_); exact sdB) | ((first | ((with_reducible refine Vc.hold ?_); first | refine Vc.regiont T0_ok G4_ok ?_)); (try simp only [v8Y, Nat.beq, Nat.ble, seval, tabs, G4_set])) | ((with_reducible refine hN _ _ ?_); clear hN N))))
 (revert N; intro N1 hN1)
 rename_i b1 b2
 refine Vc.loop 4 22 (fun k => [(5, .int .i64 (k : Nat))]) (fun k => [.ro (some ⟨b, 0, none⟩) (.ints .u64 xs), .blk b1 27 (.words [0]), .blk b2 136 (.ints .u8 (kHs xs k))]) (fun k => k ≤ 32) (fun k => 32 - k) 0 ⟨Nat.zero_le _, ?_, ?_⟩ (fun k junk hk => ?_)
 ·((try simp only [v8Y, Nat.beq, Nat.ble, seval, tabs]); (repeat' with_reducible apply And.intro) <;> first | with_reducible exact True.intro | rfl | with_reducible rfl | (congr 1 <;> omega) | trivial)
 ·((try simp only [v8Y, Nat.beq, Nat.ble, seval, tabs]); (repeat' with_reducible apply And.intro) <;> first | with_reducible exact True.intro | rfl | with_reducible rfl | (congr 1 <;> omega) | trivial)
 ·have h0 := kHs_len xs k
  have ha := kHs_all xs k
  have hs := kHs_s xs k
  generalize hsk : kHs xs k = s at *
  (simp only [v8Y, Nat.beq, Nat.ble, seval, tabs])
  by_cases hlt : k < 32
  ·have d1 : decide ((k : Int) < 32) = true := decide_eq_true (by omega)
   have e1 : ((k : Int) / 8).toNat = k / 8 := by omega
   have e2 : min ((k : Int) % 8 * 8).toNat 64 = k % 8 * 8 := by omega
   ((repeat (first | (with_reducible refine Vc.seq fun N hN => ?_) | ((with_reducible refine And.intro ?_ ?_); exact sdB) | ((first | ((with_reducible refine Vc.hold ?_); first | refine Vc.regiont T0_ok G4_ok ?_)); (try simp only [v8Y, Nat.beq, Nat.ble, seval, tabs, G4_set, d1, tnc])) | ((with_reducible refine hN _ _ ?_); clear hN N))))
   (refine Vc.cond T0_ok (t := true) (by rfl) (fun _ => ?_) (fun h => Bool.noConfusion h))
   ((repeat (first | (with_reducible first | refine Vc.seq fun N hN => ?_ | refine Vc.block ?_) | ((first | with_reducible refine Vc.skip ?_); dsimp only [thenK, blockK, Nat.beq]; (first | (refine hN _ _ ?_; clear hN N))) | ((with_reducible refine And.intro ?_ ?_); exact sdB) | ((first | ((with_reducible refine Vc.hold ?_); first | refine Vc.regiont T0_ok G4_ok ?_)); (try simp only [v8Y, Nat.beq, Nat.ble, seval, tabs, G4_set, d1, tnc, e1, e2])) | ((with_reducible refine hN _ _ ?_); clear hN N))))
   refine ⟨k + 1, by omega, ?_, ?_, by omega⟩
   ·((try simp only [v8Y, Nat.beq, Nat.ble, seval, tabs]); (repeat' with_reducible apply And.intro) <;> first | with_reducible exact True.intro | fail | with_reducible rfl | (congr 1 <;> omega) | trivial)
   ·((try simp only [v8Y, Nat.beq, Nat.ble, seval, tabs]); (repeat' with_reducible apply And.intro) <;> first | with_reducible exact True.intro | rw [hs] | with_reducible rfl | (congr 1 <;> omega) | trivial)
  ·have d1 : decide ((k : Int) < 32) = false := decide_eq_false (by omega)
   obtain rfl : k = 32 := by omega
   have t1 : s.take 32 = s := List.take_of_length_le (by omega)
   have t2 : (s.drop 0).take 32 = s := by rw [List.drop_zero, t1]
   ((repeat (first | (with_reducible refine Vc.seq fun N hN => ?_) | ((with_reducible refine And.intro ?_ ?_); exact sdB) | ((first | ((with_reducible refine Vc.hold ?_); first | refine Vc.regiont T0_ok G4_ok ?_)); (try simp only [v8Y, Nat.beq, Nat.ble, seval, tabs, G4_set, d1])) | ((with_reducible refine hN _ _ ?_); clear hN N))))
   (refine Vc.cond T0_ok (t := false) (by rfl) (fun h => Bool.noConfusion h) (fun _ => ?_))
   ((repeat (first | ((first | with_reducible refine Vc.exit ?_); dsimp only [thenK, blockK, Nat.beq]; (first | skip)))))
   (refine hN1 _ _ ?_; (try clear hN N); clear hN1 N1)
   ((repeat (first | (with_reducible refine Vc.seq fun N hN => ?_) | ((with_reducible refine And.intro ?_ ?_); (focus (first | ((repeat' with_reducible apply And.intro) <;> first | (with_reducible first | exact True.intro | assumption | rfl) | (rw [h0]; exact Nat.le_refl _) | omega) | exact sd0))) | ((first | ((with_reducible refine Vc.fin ?_); dsimp only [thenK, blockK, retK, resS, resOne, resAll]) | ((with_reducible refine Vc.hold ?_); first | refine Vc.regiont T0_ok G4_ok ?_)); (try simp only [v8Y, Nat.beq, Nat.ble, seval, tabs, G4_set, t1, t2])) | ((with_reducible refine hN _ _ ?_); clear hN N))); (try ((with_reducible refine Fin.of ?_); (try with_reducible exact True.intro))))
   exact ⟨⟨⟨trivial, trivial⟩, trivial, trivial⟩, by rw [hsk]⟩
theorem ro_blk {w0 : World} {B : List Nat} {m : List Blk} {w : World} (hm : MemOk w0 B m w) {nm b : Nat} {t : TypeId} {con : Con} (hb : bget m nm = .blk b t con) : MemOk w [] [.ro (some ⟨b, 0, none⟩) con] w := by
 have h := (hm.each _ (bget_mem hb (by simp))).1
 refine ⟨rfl, rfl, rfl, Nat.le_refl _, fun _ _ _ => rfl, fun e he => ?_, List.nodup_nil⟩
 rw [List.mem_singleton] at he
 subst he
 intro j u hj
 refine ⟨b, 0, rfl, (Array.getElem?_eq_some_iff.1 h).1, List.not_mem_nil, ?_⟩
 simp only [World.cell?, h, Nat.zero_add]
 simpa using hj
def g_kHash (args : List SV) (m : List Blk) : CR :=
 match args with
 | [.ptr nm b base i sz j] => match bget m nm with
  | .blk b' _ (.ints .u64 xs) => .pure (b = b' ∧ base = 0 ∧ i = 0 ∧ sz = 0 ∧ j = 0 ∧ xs.length = 25) (.word (readN (kHs xs 32)))
  | _ => .none
 | _ => .none
theorem g_kHash_ok (w0 : World) (B : List Nat) (args : List SV) (m : List Blk) : CROk Tryd.prog w0 B 74 args m (g_kHash args m) := by
 unfold g_kHash
 split
 ·rename_i nm b base i sz j
  split
  ·rename_i b' t xs hb
   intro ⟨e1, e2, e3, e4, e5, hl⟩ w hm
   subst e1 e2 e3 e4 e5
   exact calls_pure Tryd.func74 rfl rfl (khash_vc xs b hl w (ro_blk hm hb))
  ·exact trivial
 ·exact trivial
noncomputable def GK3 : Ctr := fun f args m => match f with
 | 73 => g_kAbsorb args m
 | 74 => g_kHash args m
 | _ => .none
theorem GK3_ok : GOk Tryd.prog GK3 := by
 intro w0 B f args m; unfold GK3; split
 ·exact g_kAbsorb_ok _ _ _ _
 ·exact g_kHash_ok _ _ _ _
 ·exact trivial
theorem GK3_kAbsorb : GK3 73 = g_kAbsorb := by funext args m; rfl
theorem GK3_kHash : GK3 74 = g_kHash := by funext args m; rfl
def GK3_set := And.intro (And.intro (@GK3_kAbsorb) (@g_kAbsorb.eq_def)) (And.intro (@GK3_kHash) (@g_kHash.eq_def))

end Go.Proofs.YtoadeekdgikghaaDoor
