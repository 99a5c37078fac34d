/-
 The document's answers for words (quaestorref01), walked: twice, highest, Exp.
-/
import Derived.Test.YtjonbbmnjbnefaaDoorRN
import Derived.Test.YtjonbbmnjbnefaaDoorRM
import Derived.Test.YtjonbbmnjbnefaaDoorX1
set_option maxRecDepth 10000
set_option linter.defProp false
set_option linter.unusedVariables false
set_option linter.unusedSimpArgs false
namespace Go.Proofs.YtjonbbmnjbnefaaDoor
open Go.RowKit
def g_rMul (args : List SV) (_m : List Blk) : CR := match args with | [.word a, .word b] => .pure (a < W ∧ b < W) (.tup [.word (mulN a b), .bool (mulB a b)]) | _ => .none
theorem g_rMul_ok (w0 : World) (B : List Nat) (args : List SV) (m : List Blk) : CROk Tryd.prog w0 B 42 args m (g_rMul args m) := by
 unfold g_rMul; split
 ·rename_i a b; exact fun h w _ => calls_pure Tryd.func42 rfl rfl (rmul_vc a b h.1 h.2 w)
 ·exact trivial
end Go.Proofs.YtjonbbmnjbnefaaDoor
