/-
  A symbolic walk of my own: a small region whose order is drawn, walked in each of its orders.
-/
import Derived.Test.YtdanlclhnehieaaEI
namespace Go.Proofs.Ytdanlclhnehieaa
set_option linter.unusedSimpArgs false
set_option linter.unusedVariables false
set_option linter.defProp false
open Go.RowKit

section
variable {T : Tab} {G : Ctr} {m m' : List Blk} {t : Tok} {N : Tok → SV → List Blk → Prop} {K : Tok → List SV → List Blk → Prop} {all l l' : List Oper} {o : Oper} {env env' e e' : List SV} {s : List Nat} {S : List (List Nat)}
end
end Go.Proofs.Ytdanlclhnehieaa
