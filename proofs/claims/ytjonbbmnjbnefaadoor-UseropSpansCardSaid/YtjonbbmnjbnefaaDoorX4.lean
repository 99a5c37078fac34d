/-
 Wide of an address, walked; contracts of bytes of words.
-/
import Derived.Test.YtjonbbmnjbnefaaDoorX3
set_option maxRecDepth 10000
set_option maxHeartbeats 4000000
set_option linter.defProp false
set_option linter.unusedVariables false
set_option linter.unusedSimpArgs false
namespace Go.Proofs.YtjonbbmnjbnefaaDoor
open Go.RowKit
theorem wide_vc (xs : List Int) (hl : xs.length = 20) (hx : allB xs) (w : World) : Calls Tryd.prog 67 (cvs [.ints .u8 xs]).toArray w (fun en w' => ∃ u, en = .returned u ∧ ∃ v m', u = cv v ∧ MemOk w [] m' w' ∧ v = .word (rdI xs)) := by
 have e1 : (xs.drop 0).take 20 = xs := by rw [List.drop_zero, List.take_of_length_le (by omega)]
 have e2 : readN xs = rdI xs := by unfold readN; rw [hl]; rfl
 refine Vc.calls T0_ok Tryd.func67 rfl rfl (args := [.ints .u8 xs]) (k := 4) rfl (MemOk.start _) ?_; change Vc _ _ ([.ints .u8 xs, .undef, .undef, .undef, .undef]) _ _
 ((repeat (first | (with_reducible first | refine Vc.seq fun N hN => ?_ | refine Vc.block ?_) | ((with_reducible first | refine Vc.skip ?_ | refine Vc.exit ?_); dsimp only [thenK, blockK, Nat.beq]; (first | (refine hN _ _ ?_; clear hN N) | skip)) | (with_reducible intro _) | ((with_reducible refine And.intro ?_ ?_); (focus (first | ((repeat' with_reducible apply And.intro) <;> first | exact True.intro | (rw [e1]; exact hx) | omega) | exact sd0))) | ((first | ((with_reducible refine askT_of ?_ (fun hb => ?_)); (focus (first | ((repeat' with_reducible apply And.intro) <;> first | exact True.intro | (rw [e1]; exact hx) | omega) | exact sd0)); (try simp only [hb])) | ((with_reducible refine Vc.fin ?_); dsimp only [thenK, blockK, retK, resS, resOne, resAll]) | ((with_reducible refine Vc.hold ?_); first | refine Vc.regiont T0_ok G4_ok ?_)); (try simp only [v8Y, Nat.beq, Nat.ble, Int.reduceToNat, Int.reduceLE, Int.reduceLT, Nat.reduceLT, Nat.reduceLeDiff, Nat.reduceAdd, Nat.reduceMul, Nat.reduceSub, Int.reduceAdd, Int.reduceSub, Int.reduceMul, v8S, IntKind.bits, tabs, G4_set]); (try simp (disch := omega) only [v8W])) | ((with_reducible refine hN _ _ ?_); clear hN N; (try simp (disch := omega) only [v8W])))); (try ((with_reducible refine Fin.of ?_); (try with_reducible exact True.intro))))
 ((try simp only [v8Y, Nat.beq, Nat.ble, Int.reduceToNat, Int.reduceLE, Int.reduceLT, Nat.reduceLT, Nat.reduceLeDiff, Nat.reduceAdd, Nat.reduceMul, Nat.reduceSub, Int.reduceAdd, Int.reduceSub, Int.reduceMul, v8S, IntKind.bits, tabs]); (repeat' with_reducible apply And.intro) <;> first | with_reducible exact True.intro | rw [e1, e2] | with_reducible rfl | (congr 1 <;> omega) | trivial)
def g_Addr (args : List SV) (_m : List Blk) : CR := match args with | [.word a] => .pure (True) (.ints .u8 (bytI a 20)) | _ => .none
theorem g_Addr_ok (w0 : World) (B : List Nat) (args : List SV) (m : List Blk) : CROk Tryd.prog w0 B 79 args m (g_Addr args m) := by
 unfold g_Addr; split
 ·rename_i a; exact pure_old Tryd.func79 rfl rfl (fun h w => (addr_vc a w).mono fun en w' ⟨u, he, v, m', hu, hm, hv⟩ => by subst hu; subst hv; exact ⟨he, gw_of_grown hm.grown⟩)
 ·exact trivial
def g_Wide (args : List SV) (_m : List Blk) : CR := match args with | [.ints .u8 xs] => .pure (xs.length = 20 ∧ allB xs) (.word (rdI xs)) | _ => .none
theorem g_Wide_ok (w0 : World) (B : List Nat) (args : List SV) (m : List Blk) : CROk Tryd.prog w0 B 67 args m (g_Wide args m) := by
 unfold g_Wide; split
 ·rename_i xs; exact pure_old Tryd.func67 rfl rfl (fun h w => (wide_vc xs h.1 h.2 w).mono fun en w' ⟨u, he, v, m', hu, hm, hv⟩ => by subst hu; subst hv; exact ⟨he, gw_of_grown hm.grown⟩)
 ·exact trivial
def g_Bytes (args : List SV) (_m : List Blk) : CR :=
 match args with
 | [.word a] => .own True 5 1 32 (.ints .u8 (bytI a 32)) (fun v => v)
 | _ => .none
theorem g_Bytes_ok (w0 : World) (B : List Nat) (args : List SV) (m : List Blk) : CROk Tryd.prog w0 B 101 args m (g_Bytes args m) := by
 unfold g_Bytes
 split
 ·rename_i a
  intro _ w _
  refine .inr ⟨enter_run Tryd.func101 rfl rfl _ w, (bytes_vc a w).mono fun e w' ⟨u, he, v', m', hu, hm, s, hv, hs⟩ => ⟨u, he, s, ?_, hm.grown, ?_⟩⟩
  ·rw [hu, hv]; rfl
  ·exact own_ok0 (hm.each _ (bget_mem hs (by simp)))
 ·exact trivial
noncomputable def G5 : Ctr := fun f args m => match f with
 | 52 => g_From args m
 | 43 => g_rFrom args m
 | 141 => g_Small args m
 | 109 => g_lowByte args m
 | 120 => g_Shl args m
 | 89 => g_Shr args m
 | 54 => g_Cmp args m
 | 53 => g_Add args m
 | 51 => g_Mul args m
 | 93 => g_length args m
 | 102 => g_Read args m
 | 79 => g_Addr args m
 | 67 => g_Wide args m
 | 101 => g_Bytes args m
 | _ => .none
theorem G5_ok : GOk Tryd.prog G5 := by
 intro w0 B f args m; unfold G5; split
 ·exact g_From_ok _ _ _ _
 ·exact g_rFrom_ok _ _ _ _
 ·exact g_Small_ok _ _ _ _
 ·exact g_lowByte_ok _ _ _ _
 ·exact g_Shl_ok _ _ _ _
 ·exact g_Shr_ok _ _ _ _
 ·exact g_Cmp_ok _ _ _ _
 ·exact g_Add_ok _ _ _ _
 ·exact g_Mul_ok _ _ _ _
 ·exact g_length_ok _ _ _ _
 ·exact g_Read_ok _ _ _ _
 ·exact g_Addr_ok _ _ _ _
 ·exact g_Wide_ok _ _ _ _
 ·exact g_Bytes_ok _ _ _ _
 ·exact trivial
theorem G5_From : G5 52 = g_From := by funext args m; rfl
theorem G5_rFrom : G5 43 = g_rFrom := by funext args m; rfl
theorem G5_Small : G5 141 = g_Small := by funext args m; rfl
theorem G5_lowByte : G5 109 = g_lowByte := by funext args m; rfl
theorem G5_Shl : G5 120 = g_Shl := by funext args m; rfl
theorem G5_Shr : G5 89 = g_Shr := by funext args m; rfl
theorem G5_Cmp : G5 54 = g_Cmp := by funext args m; rfl
theorem G5_Add : G5 53 = g_Add := by funext args m; rfl
theorem G5_Mul : G5 51 = g_Mul := by funext args m; rfl
theorem G5_length : G5 93 = g_length := by funext args m; rfl
theorem G5_Read : G5 102 = g_Read := by funext args m; rfl
theorem G5_Addr : G5 79 = g_Addr := by funext args m; rfl
theorem G5_Wide : G5 67 = g_Wide := by funext args m; rfl
theorem G5_Bytes : G5 101 = g_Bytes := by funext args m; rfl
def G5_set := And.intro (And.intro (And.intro (And.intro (@G5_From) (And.intro (@g_From.eq_def) (@G5_rFrom))) (And.intro (And.intro (@g_rFrom.eq_def) (@G5_Small)) (And.intro (@g_Small.eq_def) (@G5_lowByte)))) (And.intro (And.intro (@g_lowByte.eq_def) (And.intro (@G5_Shl) (@g_Shl.eq_def))) (And.intro (And.intro (@G5_Shr) (@g_Shr.eq_def)) (And.intro (@G5_Cmp) (@g_Cmp.eq_def))))) (And.intro (And.intro (And.intro (@G5_Add) (And.intro (@g_Add.eq_def) (@G5_Mul))) (And.intro (And.intro (@g_Mul.eq_def) (@G5_length)) (And.intro (@g_length.eq_def) (@G5_Read)))) (And.intro (And.intro (@g_Read.eq_def) (And.intro (@G5_Addr) (@g_Addr.eq_def))) (And.intro (And.intro (@G5_Wide) (@g_Wide.eq_def)) (And.intro (@G5_Bytes) (@g_Bytes.eq_def)))))

end Go.Proofs.YtjonbbmnjbnefaaDoor
