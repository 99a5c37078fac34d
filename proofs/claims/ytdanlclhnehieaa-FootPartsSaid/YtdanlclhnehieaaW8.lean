/-
  The long division where the divisor has more than one part, or one; walked.
-/
import Derived.Test.YtdanlclhnehieaaW5
import Derived.Test.YtdanlclhnehieaaA1
namespace Go.Proofs.Ytdanlclhnehieaa
set_option linter.unusedSimpArgs false
set_option linter.unusedVariables false
open Go.RowKit
theorem U64s_set (xs : List Nat) (i y : Nat) : (U64s xs).setIfInBounds i (.int .u64 (y : Int)) = U64s (xs.set i y) := by simp [U64s, List.map_set]
attribute [local go_sem] U64s_set
end Go.Proofs.Ytdanlclhnehieaa

/-
  divide, walked, for every wide number and every word.
-/
namespace Go.Proofs.Ytdanlclhnehieaa
set_option linter.unusedSimpArgs false
set_option linter.unusedVariables false
open Go.RowKit
end Go.Proofs.Ytdanlclhnehieaa
