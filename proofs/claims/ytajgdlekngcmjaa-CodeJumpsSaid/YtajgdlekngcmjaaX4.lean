/-
  Wide of an address, walked; contracts of bytes of words.
-/
import Derived.Test.YtajgdlekngcmjaaX3
namespace Go.Proofs.Ytajgdlekngcmjaa
set_option linter.unusedSimpArgs false
set_option linter.unusedVariables false
open Go.RowKit
def g_Bytes (args : List SV) (_m : List Blk) : CR :=
  match args with
  | [.word a] => .own True 5 1 32 (.ints .u8 (bytI a 32)) (fun v => v)
  | _ => .none
def G5 : Ctr := fun f args m => match f with
  | 29 => g_From args m
  | 26 => g_Small args m
  | 24 => g_Read args m
  | _ => .none
theorem G5_ok : GOk Try.prog G5 := by
  intro w0 B f args m; unfold G5; split
  · exact g_From_ok _ _ _ _
  · exact g_Small_ok _ _ _ _
  · exact g_Read_ok _ _ _ _
  · exact trivial
theorem G5_From : G5 29 = g_From := by funext args m; rfl
theorem G5_Small : G5 26 = g_Small := by funext args m; rfl
theorem G5_Read : G5 24 = g_Read := by funext args m; rfl

end Go.Proofs.Ytajgdlekngcmjaa
