/-
  Bytes, Read, Addr and Wide of words, walked.
-/
import Derived.Test.YtdbapekeihnckaaG1
import Derived.Test.YtdbapekeihnckaaEI
import Derived.Test.YtdbapekeihnckaaRD
import Derived.Laws.Bits64b
namespace Go.Proofs.Ytdbapekeihnckaa
set_option linter.unusedSimpArgs false
set_option linter.unusedVariables false
open Go.RowKit
/-- What a round of Bytes has filled: the last k of n. -/
def bytK (a n k : Nat) : List Int := (List.range n).map fun i => if n - 1 - i < k then ((byN a (n - 1 - i) : Nat) : Int) else 0
theorem bytK_0 (a n : Nat) : bytK a n 0 = List.replicate n 0 := by
  apply List.ext_getElem <;> simp [bytK]
theorem bytK_n (a n : Nat) : bytK a n n = bytI a n := by
  apply List.ext_getElem
  · simp [bytK, bytI]
  · intro i h1 h2
    simp [bytK] at h1
    simp [bytK, bytI]; omega
theorem bytK_len (a n k : Nat) : (bytK a n k).length = n := by simp [bytK]
theorem bytK_set (a n k : Nat) (h : k < n) : (bytK a n k).set (n - 1 - k) ((byN a k : Nat) : Int) = bytK a n (k + 1) := by
  apply List.ext_getElem
  · simp [bytK]
  · intro i h1 h2
    simp [bytK] at h1
    rw [List.getElem_set]
    by_cases hi : n - 1 - k = i
    · rw [if_pos hi]
      subst hi
      simp [bytK]
      have e : n - 1 - (n - 1 - k) = k := by omega
      rw [e, if_pos (by omega)]
    · rw [if_neg hi]
      simp [bytK]
      by_cases hk : n - 1 - i < k
      · rw [if_pos hk, if_pos (by omega)]
      · rw [if_neg hk, if_neg (by omega)]
end Go.Proofs.Ytdbapekeihnckaa
