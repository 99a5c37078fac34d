/-
  A region whose order is drawn, with calls that make memory, and new variables that may be made at any time among them: one walk for each order of the new variables.
-/
import Derived.Test.YtdanlclhnehieaaBase
namespace Go.Proofs.Ytdanlclhnehieaa
set_option linter.unusedSimpArgs false
set_option linter.unusedVariables false
open Go.RowKit

section
variable {P : Program} {ops : Array Oper} {md : Region.Mode}
def extUpon (P : Program) (w : World) (v : Value) : Result Next → Prop
  | .ok (.value u) w' => w' = w ∧ u = v
  | .ok .skip w' => w' = w ∧ v = undef
  | .ok (.enter f args) w' => w' = w ∧ Calls P f args w (Ret w v)
  | _ => False
def extAt (P : Program) (o : Oper) (a : Act) (w : World) (v : Value) : Prop := extUpon P w v ((execOp a.eval o).run P w)
def ext (P : Program) (o : Oper) (a : Act) (W : World) (K : Act → Prop) : Prop := ∃ v, (∀ p, extAt P o a (gw W p) v) ∧ K (a.put o.dst v)
attribute [go_sem] ext extAt extUpon
end
end Go.Proofs.Ytdanlclhnehieaa
