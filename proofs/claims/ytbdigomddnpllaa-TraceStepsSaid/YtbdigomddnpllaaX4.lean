/-
  Wide of an address, walked; contracts of bytes of words.
-/
import Derived.Test.YtbdigomddnpllaaX3
namespace Go.Proofs.Ytbdigomddnpllaa
set_option linter.unusedSimpArgs false
set_option linter.unusedVariables false
set_option maxHeartbeats 4000000
set_option linter.defProp false
open Go.RowKit
theorem wide_vc (xs : List Int) (hl : xs.length = 20) (hx : allB xs) (w : World) : Calls Try.prog 21 (cvs [.ints .u8 xs]).toArray w (fun en w' => ∃ u, en = .returned u ∧ ∃ v m', u = cv v ∧ MemOk w [] m' w' ∧ v = .word (rdI xs)) := by
  have e1 : (xs.drop 0).take 20 = xs := by rw [List.drop_zero, List.take_of_length_le (by omega)]
  have e2 : readN xs = rdI xs := by unfold readN; rw [hl]; rfl
  refine Vc.calls T0_ok Try.func21 rfl rfl (args := [.ints .u8 xs]) (k := 4) rfl (MemOk.start _) ?_; change Vc _ _ ([.ints .u8 xs, .undef, .undef, .undef, .undef]) _ _
  ((repeat (first | (with_reducible refine Vc.seq fun N hN => ?_) | (with_reducible refine Vc.block ?_) | ((first | with_reducible refine Vc.skip ?_ | with_reducible refine Vc.exit ?_); dsimp only [thenK, blockK, Nat.beq]; (first | (refine hN _ _ ?_; clear hN N) | skip)) | (with_reducible intro _) | ((with_reducible refine And.intro ?_ ?_); (focus (first | ((repeat' with_reducible apply And.intro) <;> first | exact True.intro | (rw [e1]; exact hx) | omega) | exact sd0))) | ((first | ((with_reducible refine askT_of ?_ (fun hb => ?_)); (focus (first | ((repeat' with_reducible apply And.intro) <;> first | exact True.intro | (rw [e1]; exact hx) | omega) | exact sd0)); (try simp only [hb])) | ((with_reducible refine Vc.fin ?_); dsimp only [thenK, blockK, retK, resS, resOne, resAll]) | ((with_reducible refine Vc.hold ?_); first | refine Vc.regiont T0_ok G4_ok ?_)); (try simp only [v8X, v8A, v8B, v8C, Nat.beq, Nat.ble, Int.reduceToNat, Int.reduceLE, Int.reduceLT, Nat.reduceLT, Nat.reduceLeDiff, Nat.reduceAdd, Nat.reduceMul, Nat.reduceSub, Int.reduceAdd, Int.reduceSub, Int.reduceMul, eq_self, decide_true, beq_self_eq_true, List.length_cons, List.length_nil, Nat.min_eq_left, IntKind.bits, tabs, G4_set]); (try simp (disch := omega) only [v8W])) | ((with_reducible refine hN _ _ ?_); clear hN N; (try simp (disch := omega) only [v8W])))); (try ((with_reducible refine Fin.of ?_); (try with_reducible exact True.intro))))
  ((try simp only [v8X, v8A, v8B, v8C, Nat.beq, Nat.ble, Int.reduceToNat, Int.reduceLE, Int.reduceLT, Nat.reduceLT, Nat.reduceLeDiff, Nat.reduceAdd, Nat.reduceMul, Nat.reduceSub, Int.reduceAdd, Int.reduceSub, Int.reduceMul, eq_self, decide_true, beq_self_eq_true, List.length_cons, List.length_nil, Nat.min_eq_left, IntKind.bits, tabs]); (repeat' with_reducible apply And.intro) <;> first | with_reducible exact True.intro | rw [e1, e2] | with_reducible rfl | (congr 1 <;> omega) | trivial)
def g_Addr (args : List SV) (_m : List Blk) : CR := match args with | [.word a] => .pure (True) (.ints .u8 (bytI a 20)) | _ => .none
theorem g_Addr_ok (w0 : World) (B : List Nat) (args : List SV) (m : List Blk) : CROk Try.prog w0 B 54 args m (g_Addr args m) := by
  unfold g_Addr; split
  · rename_i a; exact pure_old Try.func54 rfl rfl (fun h w => (addr_vc a w).mono fun en w' ⟨u, he, v, m', hu, hm, hv⟩ => by subst hu; subst hv; exact ⟨he, gw_of_grown hm.grown⟩)
  · exact trivial
def g_Wide (args : List SV) (_m : List Blk) : CR := match args with | [.ints .u8 xs] => .pure (xs.length = 20 ∧ allB xs) (.word (rdI xs)) | _ => .none
theorem g_Wide_ok (w0 : World) (B : List Nat) (args : List SV) (m : List Blk) : CROk Try.prog w0 B 21 args m (g_Wide args m) := by
  unfold g_Wide; split
  · rename_i xs; exact pure_old Try.func21 rfl rfl (fun h w => (wide_vc xs h.1 h.2 w).mono fun en w' ⟨u, he, v, m', hu, hm, hv⟩ => by subst hu; subst hv; exact ⟨he, gw_of_grown hm.grown⟩)
  · exact trivial
def g_Bytes (args : List SV) (_m : List Blk) : CR :=
  match args with
  | [.word a] => .own True 5 1 32 (.ints .u8 (bytI a 32)) (fun v => v)
  | _ => .none
theorem g_Bytes_ok (w0 : World) (B : List Nat) (args : List SV) (m : List Blk) : CROk Try.prog w0 B 22 args m (g_Bytes args m) := by
  unfold g_Bytes
  split
  · rename_i a
    intro _ w _
    refine .inr ⟨enter_run Try.func22 rfl rfl _ w, (bytes_vc a w).mono fun e w' ⟨u, he, v', m', hu, hm, s, hv, hs⟩ => ⟨u, he, s, ?_, hm.grown, ?_⟩⟩
    · rw [hu, hv]; rfl
    · exact own_ok0 (hm.each _ (bget_mem hs (by simp)))
  · exact trivial
noncomputable def G5 : Ctr := fun f args m => match f with
  | 29 => g_From args m
  | 63 => g_rFrom args m
  | 45 => g_lowByte args m
  | 28 => g_Cmp args m
  | 27 => g_Sub args m
  | 44 => g_Read args m
  | 54 => g_Addr args m
  | 21 => g_Wide args m
  | 22 => g_Bytes args m
  | _ => .none
theorem G5_ok : GOk Try.prog G5 := by
  intro w0 B f args m; unfold G5; split
  · exact g_From_ok _ _ _ _
  · exact g_rFrom_ok _ _ _ _
  · exact g_lowByte_ok _ _ _ _
  · exact g_Cmp_ok _ _ _ _
  · exact g_Sub_ok _ _ _ _
  · exact g_Read_ok _ _ _ _
  · exact g_Addr_ok _ _ _ _
  · exact g_Wide_ok _ _ _ _
  · exact g_Bytes_ok _ _ _ _
  · exact trivial
theorem G5_From : G5 29 = g_From := by funext args m; rfl
theorem G5_rFrom : G5 63 = g_rFrom := by funext args m; rfl
theorem G5_lowByte : G5 45 = g_lowByte := by funext args m; rfl
theorem G5_Cmp : G5 28 = g_Cmp := by funext args m; rfl
theorem G5_Sub : G5 27 = g_Sub := by funext args m; rfl
theorem G5_Read : G5 44 = g_Read := by funext args m; rfl
theorem G5_Addr : G5 54 = g_Addr := by funext args m; rfl
theorem G5_Wide : G5 21 = g_Wide := by funext args m; rfl
theorem G5_Bytes : G5 22 = g_Bytes := by funext args m; rfl
def G5_set := And.intro (And.intro (And.intro (And.intro (@G5_From) (@g_From.eq_def)) (And.intro (@G5_rFrom) (@g_rFrom.eq_def))) (And.intro (And.intro (@G5_lowByte) (@g_lowByte.eq_def)) (And.intro (@G5_Cmp) (And.intro (@g_Cmp.eq_def) (@G5_Sub))))) (And.intro (And.intro (And.intro (@g_Sub.eq_def) (@G5_Read)) (And.intro (@g_Read.eq_def) (@G5_Addr))) (And.intro (And.intro (@g_Addr.eq_def) (@G5_Wide)) (And.intro (@g_Wide.eq_def) (And.intro (@G5_Bytes) (@g_Bytes.eq_def)))))

end Go.Proofs.Ytbdigomddnpllaa
