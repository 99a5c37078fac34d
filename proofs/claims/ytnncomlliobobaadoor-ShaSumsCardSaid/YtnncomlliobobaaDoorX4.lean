/-
  Wide of an address, walked; contracts of bytes of words.
-/
import Derived.Test.YtnncomlliobobaaDoorX3
namespace Go.Proofs.YtnncomlliobobaaDoor
set_option linter.unusedSimpArgs false
set_option linter.unusedVariables false
set_option maxRecDepth 10000
open Go.RowKit
def g_Bytes (args : List SV) (_m : List Blk) : CR :=
  match args with
  | [.word a] => .own True 5 1 32 (.ints .u8 (bytI a 32)) (fun v => v)
  | _ => .none
theorem g_Bytes_ok (w0 : World) (B : List Nat) (args : List SV) (m : List Blk) : CROk Tryd.prog w0 B 21 args m (g_Bytes args m) := by
  unfold g_Bytes
  split
  · rename_i a
    intro _ w _
    refine .inr ⟨enter_run Tryd.func21 rfl rfl _ w, (bytes_vc a w).mono fun e w' ⟨u, he, v', m', hu, hm, s, hv, hs⟩ => ⟨u, he, s, ?_, hm.grown, ?_⟩⟩
    · rw [hu, hv]; rfl
    · exact hm.each _ (bget_mem hs (by simp))
  · exact trivial
def G5 : Ctr := fun f args m => match f with
  | 30 => g_lowByte args m
  | 28 => g_Read args m
  | 21 => g_Bytes args m
  | _ => .none
theorem G5_ok : GOk Tryd.prog G5 := by
  intro w0 B f args m; unfold G5; split
  · exact g_lowByte_ok _ _ _ _
  · exact g_Read_ok _ _ _ _
  · exact g_Bytes_ok _ _ _ _
  · exact trivial
theorem G5_lowByte : G5 30 = g_lowByte := by funext args m; rfl
theorem G5_Read : G5 28 = g_Read := by funext args m; rfl
theorem G5_Bytes : G5 21 = g_Bytes := by funext args m; rfl

end Go.Proofs.YtnncomlliobobaaDoor
