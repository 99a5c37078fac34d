/-
  Bytes as slices and as strings: nil slices, what a slice looks like to a callee, strings compared. No program.
-/
import Derived.Test.YtdanlclhnehieaaEI
import Derived.Test.YtdanlclhnehieaaBase
import Derived.Test.YtdanlclhnehieaaA1
namespace Go.Proofs.Ytdanlclhnehieaa
set_option linter.unusedSimpArgs false
set_option linter.unusedVariables false
open Go.RowKit
section
variable {W : World}
end
end Go.Proofs.Ytdanlclhnehieaa
