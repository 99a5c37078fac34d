/-
  Exp of words, walked.
-/
import Derived.Test.YtjonbbmnjbnefaaDoorWC
import Derived.Test.YtjonbbmnjbnefaaDoorG1
import Derived.Laws.Bits64b
namespace Go.Proofs.YtjonbbmnjbnefaaDoor
set_option linter.unusedSimpArgs false
set_option linter.unusedVariables false
set_option maxRecDepth 10000
open Go.RowKit
theorem limb_bit (e i : Nat) : lm e (i / 64) / 2 ^ (i % 64) % 2 = e / 2 ^ i % 2 := by
  unfold lm
  rw [show (18446744073709551616 : Nat) = 2 ^ 64 from rfl, ← Nat.pow_mul]
  have h1 : i % 64 < 64 := Nat.mod_lt _ (by decide)
  have h2 : (2 : Nat) ^ 64 = 2 ^ (i % 64) * 2 ^ (64 - i % 64) := by rw [← Nat.pow_add]; congr 1; omega
  have h3 : e / 2 ^ (64 * (i / 64)) % 2 ^ 64 / 2 ^ (i % 64) = e / 2 ^ i % 2 ^ (64 - i % 64) := by
    rw [h2, Nat.mod_mul_right_div_self, Nat.div_div_eq_div_mul, ← Nat.pow_add]
    congr 2
    congr 1
    omega
  rw [h3]
  exact Nat.mod_mod_of_dvd _ (by
    have : (2 : Nat) ^ (64 - i % 64) = 2 * 2 ^ (64 - i % 64 - 1) := by rw [← Nat.pow_succ']; congr 1; omega
    rw [this]; exact Nat.dvd_mul_right _ _)
end Go.Proofs.YtjonbbmnjbnefaaDoor
namespace Go.Proofs.YtjonbbmnjbnefaaDoor
set_option linter.unusedSimpArgs false
set_option linter.unusedVariables false
set_option maxRecDepth 10000
open Go.RowKit
theorem and_one (x : Nat) (h : x < 18446744073709551616) : bits .and .u64 (x : Int) 1 = ((x % 2 : Nat) : Int) := by
  have := bits_and_u64_nat x 1 h (by decide)
  rw [Nat.and_one_is_mod] at this
  exact this
theorem exp_bit {e k : Nat} (hk : k < 256) : (decide (bits .and .u64 (((lm e ((k : Int) / 64).toNat : Nat) : Int) / 2 ^ min ((k : Int) % 64).toNat 64) 1 = 1)) = decide (e / 2 ^ k % 2 = 1) := by
  have h1 : ((k : Int) / 64).toNat = k / 64 := by omega
  have h2 : min ((k : Int) % 64).toNat 64 = k % 64 := by omega
  rw [h1, h2]
  have h3 : ((lm e (k / 64) : Nat) : Int) / 2 ^ (k % 64) = ((lm e (k / 64) / 2 ^ (k % 64) : Nat) : Int) := by rw [Int.natCast_ediv, Int.natCast_pow]; rfl
  rw [h3, and_one _ (Nat.lt_of_le_of_lt (Nat.div_le_self _ _) (lm_lt _ _)), limb_bit, decide_eq_decide]
  omega
end Go.Proofs.YtjonbbmnjbnefaaDoor
