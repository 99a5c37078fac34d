/-
  Wide of an address, walked; contracts of bytes of words.
-/
import Derived.Test.YtbdigomddnpllaaX3
namespace Go.Proofs.Ytbdigomddnpllaa
set_option linter.unusedSimpArgs false
set_option linter.unusedVariables false
set_option maxHeartbeats 4000000
set_option linter.defProp false
open Go.RowKit
theorem wide_vc (xs : List Int) (hl : xs.length = 20) (hx : allB xs) (w : World) : Calls Try.prog 21 (cvs [.ints .u8 xs]).toArray w (fun en w' => ∃ u, en = .returned u ∧ ∃ v m', u = cv v ∧ MemOk w [] m' w' ∧ v = .word (rdI xs)) := by
  have e1 : (xs.drop 0).take 20 = xs := by rw [List.drop_zero, List.take_of_length_le (by omega)]
  have e2 : readN xs = rdI xs := by unfold readN; rw [hl]; rfl
  refine Vc.calls T0_ok Try.func21 rfl rfl (args := [.ints .u8 xs]) (k := 4) rfl (MemOk.start _) ?_; change Vc _ _ ([.ints .u8 xs, .undef, .undef, .undef, .undef]) _ _
  ((repeat (first | (with_reducible refine Vc.seq fun N hN => ?_) | (with_reducible refine Vc.block ?_) | ((first | with_reducible refine Vc.skip ?_ | with_reducible refine Vc.exit ?_); dsimp only [thenK, blockK, Nat.beq]; (first | (refine hN _ _ ?_; clear hN N) | skip)) | (with_reducible intro _) | ((with_reducible refine And.intro ?_ ?_); (focus (first | ((repeat' with_reducible apply And.intro) <;> first | exact True.intro | (rw [e1]; exact hx) | omega) | exact sd0))) | ((first | ((with_reducible refine askT_of ?_ (fun hb => ?_)); (focus (first | ((repeat' with_reducible apply And.intro) <;> first | exact True.intro | (rw [e1]; exact hx) | omega) | exact sd0)); (try simp only [hb])) | ((with_reducible refine Vc.fin ?_); dsimp only [thenK, blockK, retK, resS, resOne, resAll]) | ((with_reducible refine Vc.hold ?_); first | refine Vc.regiont T0_ok G4_ok ?_)); (try simp only [v8X, v8A, v8B, v8C, Nat.beq, Nat.ble, Int.reduceToNat, Int.reduceLE, Int.reduceLT, Nat.reduceLT, Nat.reduceLeDiff, Nat.reduceAdd, Nat.reduceMul, Nat.reduceSub, Int.reduceAdd, Int.reduceSub, Int.reduceMul, eq_self, decide_true, beq_self_eq_true, List.length_cons, List.length_nil, Nat.min_eq_left, IntKind.bits, tabs, G4_set]); (try simp (disch := omega) only [v8W])) | ((with_reducible refine hN _ _ ?_); clear hN N; (try simp (disch := omega) only [v8W])))); (try ((with_reducible refine Fin.of ?_); (try with_reducible exact True.intro))))
  ((try simp only [v8X, v8A, v8B, v8C, Nat.beq, Nat.ble, Int.reduceToNat, Int.reduceLE, Int.reduceLT, Nat.reduceLT, Nat.reduceLeDiff, Nat.reduceAdd, Nat.reduceMul, Nat.reduceSub, Int.reduceAdd, Int.reduceSub, Int.reduceMul, eq_self, decide_true, beq_self_eq_true, List.length_cons, List.length_nil, Nat.min_eq_left, IntKind.bits, tabs]); (repeat' with_reducible apply And.intro) <;> first | with_reducible exact True.intro | rw [e1, e2] | with_reducible rfl | (congr 1 <;> omega) | trivial)
def g_Addr (args : List SV) (_m : List Blk) : CR := match args with | [.word a] => .pure (True) (.ints .u8 (bytI a 20)) | _ => .none
theorem g_Addr_ok (w0 : World) (B : List Nat) (args : List SV) (m : List Blk) : CROk Try.prog w0 B 54 args m (g_Addr args m) := by
  unfold g_Addr; split
  · rename_i a; exact pure_old Try.func54 rfl rfl (fun h w => (addr_vc a w).mono fun en w' ⟨u, he, v, m', hu, hm, hv⟩ => by subst hu; subst hv; exact ⟨he, gw_of_grown hm.grown⟩)
  · exact trivial
def g_Wide (args : List SV) (_m : List Blk) : CR := match args with | [.ints .u8 xs] => .pure (xs.length = 20 ∧ allB xs) (.word (rdI xs)) | _ => .none
theorem g_Wide_ok (w0 : World) (B : List Nat) (args : List SV) (m : List Blk) : CROk Try.prog w0 B 21 args m (g_Wide args m) := by
  unfold g_Wide; split
  · rename_i xs; exact pure_old Try.func21 rfl rfl (fun h w => (wide_vc xs h.1 h.2 w).mono fun en w' ⟨u, he, v, m', hu, hm, hv⟩ => by subst hu; subst hv; exact ⟨he, gw_of_grown hm.grown⟩)
  · exact trivial
def g_Bytes (args : List SV) (_m : List Blk) : CR :=
  match args with
  | [.word a] => .own True 5 1 32 (.ints .u8 (bytI a 32)) (fun v => v)
  | _ => .none
theorem g_Bytes_ok (w0 : World) (B : List Nat) (args : List SV) (m : List Blk) : CROk Try.prog w0 B 22 args m (g_Bytes args m) := by
  unfold g_Bytes
  split
  · rename_i a
    intro _ w _
    refine .inr ⟨enter_run Try.func22 rfl rfl _ w, (bytes_vc a w).mono fun e w' ⟨u, he, v', m', hu, hm, s, hv, hs⟩ => ⟨u, he, s, ?_, hm.grown, ?_⟩⟩
    · rw [hu, hv]; rfl
    · exact own_ok0 (hm.each _ (bget_mem hs (by simp)))
  · exact trivial
end Go.Proofs.Ytbdigomddnpllaa
