/-
  The document's answers for words (quaestorref01), walked: not, Neg, Cmp, Sub, Scmp, bit.
-/
import Derived.Test.YthnkngpdgjkejaaDoorR1
import Derived.Laws.Bits64
namespace Go.Proofs.YthnkngpdgjkejaaDoor
set_option linter.unusedSimpArgs false
set_option linter.unusedVariables false
set_option maxRecDepth 10000
open Go.RowKit
theorem xor_ones (n : Nat) (h : n < 18446744073709551616) : 18446744073709551615 ^^^ n = 18446744073709551615 - n := by
  have e : (18446744073709551615 : Nat) - n = 2 ^ 64 - (n + 1) := by omega
  rw [e, show (18446744073709551615 : Nat) = 2 ^ 64 - 1 from rfl]
  apply Nat.eq_of_testBit_eq
  intro i
  rw [Nat.testBit_xor, Nat.testBit_two_pow_sub_one, Nat.testBit_two_pow_sub_succ h]
  by_cases hi : i < 64
  · simp [hi]
  · have : n.testBit i = false := Nat.testBit_lt_two_pow (Nat.lt_of_lt_of_le (show n < 2 ^ 64 from h) (Nat.pow_le_pow_right (by decide) (by omega)))
    simp [hi, this]
theorem not64 (n : Nat) (h : n < 18446744073709551616) : bits .xor .u64 (if IntKind.u64.signed = true then -1 else IntKind.u64.max) (n : Int) = ((18446744073709551615 - n : Nat) : Int) := by
  have e : (if IntKind.u64.signed = true then -1 else IntKind.u64.max) = ((18446744073709551615 : Nat) : Int) := by decide
  rw [e, bits_xor_u64_nat _ _ (by decide) h, xor_ones n h]
theorem not_num {a : Nat} (ha : a < W) : numI [((18446744073709551615 - lm a 0 : Nat) : Int), ((18446744073709551615 - lm a 1 : Nat) : Int), ((18446744073709551615 - lm a 2 : Nat) : Int), ((18446744073709551615 - lm a 3 : Nat) : Int)] = W - 1 - a := by
  have h := num_lm ha
  have h0 := lm_lt a 0
  have h1 := lm_lt a 1
  have h2 := lm_lt a 2
  have h3 := lm_lt a 3
  simp only [numI, Int.toNat_natCast]
  unfold num W at *
  omega
theorem notU (n : Nat) (h : n < 18446744073709551616) : allU [((18446744073709551615 - n : Nat) : Int)] := ⟨by omega, trivial⟩
end Go.Proofs.YthnkngpdgjkejaaDoor
