/-
  The parts of a word, as what lies in memory.
-/
import Derived.Test.YtbdigomddnpllaaEI
import Derived.Test.YtbdigomddnpllaaRD
namespace Go.Proofs.Ytbdigomddnpllaa
set_option linter.unusedSimpArgs false
set_option linter.unusedVariables false
open Go.RowKit
theorem lmI_len (x : Nat) : (lmI x).length = 4 := rfl
theorem cc_lmI (x : Nat) : cc (.ints .u64 (lmI x)) = cc (.words [x]) := by simp [cc, lmI, wcs]
theorem allU_lmI (x : Nat) : allU (lmI x) := by
  have h0 := lm_lt x 0
  have h1 := lm_lt x 1
  have h2 := lm_lt x 2
  have h3 := lm_lt x 3
  exact ⟨by omega, by omega, by omega, by omega, trivial⟩
theorem numI_lmI {x : Nat} (h : x < W) : numI (lmI x) = x := by
  simp only [numI, lmI, Int.toNat_natCast]; exact num_lm h
end Go.Proofs.Ytbdigomddnpllaa
