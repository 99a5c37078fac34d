/-
  Wide of an address, walked; contracts of bytes of words.
-/
import Derived.Test.YtdkhlcoklihpfaaDoorX3
namespace Go.Proofs.YtdkhlcoklihpfaaDoor
set_option linter.unusedSimpArgs false
set_option linter.unusedVariables false
set_option maxRecDepth 10000
set_option linter.defProp false
open Go.RowKit
def g_Bytes (args : List SV) (_m : List Blk) : CR :=
  match args with
  | [.word a] => .own True 5 1 32 (.ints .u8 (bytI a 32)) (fun v => v)
  | _ => .none
theorem g_Bytes_ok (w0 : World) (B : List Nat) (args : List SV) (m : List Blk) : CROk Tryd.prog w0 B 21 args m (g_Bytes args m) := by
  unfold g_Bytes
  split
  · rename_i a
    intro _ w _
    refine .inr ⟨enter_run Tryd.func21 rfl rfl _ w, (bytes_vc a w).mono fun e w' ⟨u, he, v', m', hu, hm, s, hv, hs⟩ => ⟨u, he, s, ?_, hm.grown, ?_⟩⟩
    · rw [hu, hv]; rfl
    · exact own_ok0 (hm.each _ (bget_mem hs (by simp)))
  · exact trivial
noncomputable def G5 : Ctr := fun f args m => match f with
  | 35 => g_From args m
  | 25 => g_rFrom args m
  | 57 => g_Small args m
  | 32 => g_lowByte args m
  | 40 => g_Read args m
  | 21 => g_Bytes args m
  | _ => .none
theorem G5_ok : GOk Tryd.prog G5 := by
  intro w0 B f args m; unfold G5; split
  · exact g_From_ok _ _ _ _
  · exact g_rFrom_ok _ _ _ _
  · exact g_Small_ok _ _ _ _
  · exact g_lowByte_ok _ _ _ _
  · exact g_Read_ok _ _ _ _
  · exact g_Bytes_ok _ _ _ _
  · exact trivial
theorem G5_From : G5 35 = g_From := by funext args m; rfl
theorem G5_rFrom : G5 25 = g_rFrom := by funext args m; rfl
theorem G5_Small : G5 57 = g_Small := by funext args m; rfl
theorem G5_lowByte : G5 32 = g_lowByte := by funext args m; rfl
theorem G5_Read : G5 40 = g_Read := by funext args m; rfl
theorem G5_Bytes : G5 21 = g_Bytes := by funext args m; rfl
def G5_set := And.intro (And.intro (And.intro (@G5_From) (And.intro (@g_From.eq_def) (@G5_rFrom))) (And.intro (@g_rFrom.eq_def) (And.intro (@G5_Small) (@g_Small.eq_def)))) (And.intro (And.intro (@G5_lowByte) (And.intro (@g_lowByte.eq_def) (@G5_Read))) (And.intro (@g_Read.eq_def) (And.intro (@G5_Bytes) (@g_Bytes.eq_def))))

end Go.Proofs.YtdkhlcoklihpfaaDoor
