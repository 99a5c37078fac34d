/-
 Keccak-256 (package keccak), walked: all rounds, a block taken in, the state's hash. No condition.
-/
import Derived.Test.YtoadeekdgikghaaDoorK3
set_option maxRecDepth 10000
set_option maxHeartbeats 4000000
set_option linter.defProp false
set_option linter.unusedVariables false
set_option linter.unusedSimpArgs false
namespace Go.Proofs.YtoadeekdgikghaaDoor
open Go.RowKit
noncomputable def GK1 : Ctr := fun f args m => match f with
 | 77 => g_kSpread args m
 | 78 => g_kMove args m
 | 79 => g_kBend args m
 | _ => .none
theorem GK1_ok : GOk Tryd.prog GK1 := by
 intro w0 B f args m; unfold GK1; split
 ·exact g_kSpread_ok _ _ _ _
 ·exact g_kMove_ok _ _ _ _
 ·exact g_kBend_ok _ _ _ _
 ·exact trivial
theorem GK1_kSpread : GK1 77 = g_kSpread := by funext args m; rfl
theorem GK1_kMove : GK1 78 = g_kMove := by funext args m; rfl
theorem GK1_kBend : GK1 79 = g_kBend := by funext args m; rfl
def GK1_set := And.intro (And.intro (@GK1_kSpread) (And.intro (@g_kSpread.eq_def) (@GK1_kMove))) (And.intro (@g_kMove.eq_def) (And.intro (@GK1_kBend) (@g_kBend.eq_def)))

def kPm (l : List Int) (n : Nat) : List Int := it (fun l i => kRnd (kKeys.getD i 0) l) n l
def kPerm (l : List Int) : List Int := kPm l 24
theorem kPm_s (l : List Int) (n : Nat) : kPm l (n + 1) = (kBen (kMov (kSpr (kPm l n)))).set 0 (bits .xor .u64 ((kBen (kMov (kSpr (kPm l n)))).getD 0 0) (kKeys.getD n 0)) := it_s _ _ _
theorem kSpr_len (l : List Int) : (kSpr l).length = l.length := kSp_len _ _ _
theorem kMov_len (l : List Int) : (kMov l).length = l.length := kMv_len _ _
theorem kBen_len (l : List Int) : (kBen l).length = l.length := kBe_len _ _
theorem kRnd_len (k : Int) (l : List Int) : (kRnd k l).length = l.length := by unfold kRnd; rw [List.length_set, kBen_len, kMov_len, kSpr_len]
theorem kPm_len (l : List Int) (n : Nat) : (kPm l n).length = l.length := it_len (fun _ _ => kRnd_len _ _) _ _
theorem permute_vc (xs : List Int) (b : Nat) (t : TypeId) (hl : xs.length = 25) (w : World) (hm : MemOk w [b] [.ro (some ⟨0, 0, none⟩) (.ints .u64 kKeys), .ro (some ⟨1, 0, none⟩) (.ints .u8 kPathI), .blk b t (.ints .u64 xs)] w) : Calls Tryd.prog 76 (cvs [.ptr 2 b 0 0 0 0]).toArray w (fun en w' => ∃ u, en = .returned u ∧ ∃ v' m', u = cv v' ∧ MemOk w [b] m' w' ∧ v' = .tup [] ∧ bget m' 2 = .blk b t (.ints .u64 (kPerm xs))) := by
 refine Vc.calls T0_ok Tryd.func76 rfl rfl (args := [.ptr 2 b 0 0 0 0]) (k := 22) rfl hm ?_; change Vc _ _ (c8 (.ptr 2 b 0 0 0 0) .undef .undef .undef .undef .undef .undef .undef (c8 .undef .undef .undef .undef .undef .undef .undef .undef ([.undef, .undef, .undef, .undef, .undef, .undef, .undef]))) _ _
 ((repeat (first | (with_reducible first | refine Vc.seq fun N hN => ?_ | refine Vc.block ?_) | ((with_reducible refine And.intro ?_ ?_); exact sdB) | ((first | ((with_reducible refine Vc.hold ?_); first | refine Vc.regiont T0_ok GK1_ok ?_)); (try simp only [v8Y, Nat.beq, Nat.ble, seval, tabs, GK1_set])) | ((with_reducible refine hN _ _ ?_); clear hN N))))
 refine Vc.loop 2 23 (fun k => [(3, .int .i64 (k : Nat))]) (fun k => [.ro (some ⟨0, 0, none⟩) (.ints .u64 kKeys), .ro (some ⟨1, 0, none⟩) (.ints .u8 kPathI), .blk b t (.ints .u64 (kPm xs k))]) (fun k => k ≤ 24) (fun k => 24 - k) 0 ⟨Nat.zero_le _, ?_, ?_⟩ (fun k junk hk => ?_)
 ·((try simp only [v8Y, Nat.beq, Nat.ble, seval, tabs]); (repeat' with_reducible apply And.intro) <;> first | with_reducible exact True.intro | rfl | with_reducible rfl | (congr 1 <;> omega) | trivial)
 ·((try simp only [v8Y, Nat.beq, Nat.ble, seval, tabs]); (repeat' with_reducible apply And.intro) <;> first | with_reducible exact True.intro | rfl | with_reducible rfl | (congr 1 <;> omega) | trivial)
 ·have hkl : kKeys.length = 24 := rfl
  have l0 := kPm_len xs k
  have hs := kPm_s xs k
  generalize hsk : kPm xs k = s at *
  have l1 : (kSpr s).length = 25 := by rw [kSpr_len]; omega
  have l2 : (kMov (kSpr s)).length = 25 := by rw [kMov_len]; omega
  have l3 : (kBen (kMov (kSpr s))).length = 25 := by rw [kBen_len]; omega
  (simp only [v8Y, Nat.beq, Nat.ble, seval, tabs])
  by_cases hlt : k < 24
  ·have d1 : decide ((k : Int) < 24) = true := decide_eq_true (by omega)
   ((repeat (first | (with_reducible refine Vc.seq fun N hN => ?_) | ((with_reducible refine And.intro ?_ ?_); exact sdB) | ((first | ((with_reducible refine Vc.hold ?_); first | refine Vc.regiont T0_ok GK1_ok ?_)); (try simp only [v8Y, Nat.beq, Nat.ble, seval, tabs, GK1_set, d1, tnc])) | ((with_reducible refine hN _ _ ?_); clear hN N))))
   (refine Vc.cond T0_ok (t := true) (by rfl) (fun _ => ?_) (fun h => Bool.noConfusion h))
   ((repeat (first | (with_reducible first | refine Vc.seq fun N hN => ?_ | refine Vc.block ?_) | ((first | with_reducible refine Vc.skip ?_); dsimp only [thenK, blockK, Nat.beq]; (first | (refine hN _ _ ?_; clear hN N))) | ((with_reducible refine And.intro ?_ ?_); exact sX0) | ((first | ((with_reducible refine Vc.hold ?_); first | refine Vc.regiont T0_ok GK1_ok ?_ | refine Vc.drawt (id := 6) T0_ok GK1_ok (by kernel_rfl) [0, 1, 2, 3, 4, 5, 6, 7, 8] 9 [] trivial (by kernel_rfl) ?_)); (try simp only [v8Y, Nat.beq, Nat.ble, seval, tabs, GK1_set, d1, tnc])) | ((with_reducible refine hN _ _ ?_); clear hN N))))
   refine ⟨k + 1, by omega, ?_, ?_, by omega⟩
   ·((try simp only [v8Y, Nat.beq, Nat.ble, seval, tabs]); (repeat' with_reducible apply And.intro) <;> first | with_reducible exact True.intro | rfl | with_reducible rfl | (congr 1 <;> omega) | trivial)
   ·((try simp only [v8Y, Nat.beq, Nat.ble, seval, tabs]); (repeat' with_reducible apply And.intro) <;> first | with_reducible exact True.intro | rw [hs] | with_reducible rfl | (congr 1 <;> omega) | trivial)
  ·have d1 : decide ((k : Int) < 24) = false := decide_eq_false (by omega)
   obtain rfl : k = 24 := by omega
   ((repeat (first | (with_reducible refine Vc.seq fun N hN => ?_) | ((with_reducible refine And.intro ?_ ?_); exact sdB) | ((first | ((with_reducible refine Vc.hold ?_); first | refine Vc.regiont T0_ok GK1_ok ?_)); (try simp only [v8Y, Nat.beq, Nat.ble, seval, tabs, GK1_set, d1])) | ((with_reducible refine hN _ _ ?_); clear hN N))))
   (refine Vc.cond T0_ok (t := false) (by rfl) (fun h => Bool.noConfusion h) (fun _ => ?_))
   ((repeat (first | ((first | with_reducible refine Vc.exit ?_); dsimp only [thenK, blockK, Nat.beq]; (first | skip)))))
   refine ⟨trivial, rfl, ?_⟩
   rw [← hsk]; rfl
def g_kPermute (args : List SV) (m : List Blk) : CR :=
 match args with
 | [.ptr nm b base i sz j] => match bget m nm, bget m 0, bget m 1 with
  | .blk b' _ (.ints .u64 xs), .ro a0 c0, .ro a1 c1 => .turn (b = b' ∧ base = 0 ∧ i = 0 ∧ sz = 0 ∧ j = 0 ∧ xs.length = 25 ∧ a0 = some ⟨0, 0, none⟩ ∧ c0 = .ints .u64 kKeys ∧ a1 = some ⟨1, 0, none⟩ ∧ c1 = .ints .u8 kPathI) nm (.ints .u64 (kPerm xs)) (.tup [])
  | _, _, _ => .none
 | _ => .none
theorem g_kPermute_ok (w0 : World) (B : List Nat) (args : List SV) (m : List Blk) : CROk Tryd.prog w0 B 76 args m (g_kPermute args m) := by
 unfold g_kPermute
 split
 ·rename_i nm b base i sz j
  split
  ·rename_i b' t xs a0 c0 a1 c1 hb h0 h1
   intro ⟨e1, e2, e3, e4, e5, hl, r0, r1, r2, r3⟩ w hm
   subst e1 e2 e3 e4 e5 r0 r1 r2 r3
   exact calls_turn Tryd.func76 rfl rfl hm hb (k := 2) (args' := [.ptr 2 b 0 0 0 0]) rfl (permute_vc xs b t hl w (turn_ro (turn_ro (turn_start hm hb) hm hb h1) hm hb h0))
  ·exact trivial
 ·exact trivial
end Go.Proofs.YtoadeekdgikghaaDoor
