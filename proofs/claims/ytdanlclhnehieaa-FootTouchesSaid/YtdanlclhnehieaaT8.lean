/-
  The order of places: strict, total; the document's Put keeps what rises. No condition, no program.
-/
import Derived.Test.YtdanlclhnehieaaT6
import Derived.Test.YtdanlclhnehieaaHK
import Derived.Test.YtdanlclhnehieaaEG
import Derived.Shelf.SlSortCmp.NoneTotal
namespace Go.Proofs.Ytdanlclhnehieaa
set_option linter.unusedSimpArgs false
set_option linter.unusedVariables false
open Go.RowKit
def PlT := { c : List Int // okP c }
end Go.Proofs.Ytdanlclhnehieaa
