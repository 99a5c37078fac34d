/-
  Exp of words, walked.
-/
import Derived.Test.YtbdigomddnpllaaG1
import Derived.Test.YtbdigomddnpllaaWF
import Derived.Laws.Bits64b
namespace Go.Proofs.Ytbdigomddnpllaa
set_option linter.unusedSimpArgs false
set_option linter.unusedVariables false
open Go.RowKit
theorem topL_lt {e : Nat} (he : e < W) : e < 2 ^ (64 * topN (V4 e) 4) := by
  obtain ⟨h1, h2⟩ := topN_val (Ok_V4 e) (n := topN (V4 e) 4) rfl
  rw [val_V4 he] at h2
  unfold Bp at h2
  rw [show (18446744073709551616 : Nat) = 2 ^ 64 from rfl, ← Nat.pow_mul] at h2
  exact h2
theorem and_one (x : Nat) (h : x < 18446744073709551616) : bits .and .u64 (x : Int) 1 = ((x % 2 : Nat) : Int) := by
  have := bits_and_u64_nat x 1 h (by decide)
  rw [Nat.and_one_is_mod] at this
  exact this
theorem exp_bit {e k : Nat} (hk : k < 256) : (decide (bits .and .u64 (((lm e ((k : Int) / 64).toNat : Nat) : Int) / 2 ^ min ((k : Int) % 64).toNat 64) 1 = 1)) = decide (e / 2 ^ k % 2 = 1) := by
  have h1 : ((k : Int) / 64).toNat = k / 64 := by omega
  have h2 : min ((k : Int) % 64).toNat 64 = k % 64 := by omega
  rw [h1, h2]
  have h3 : ((lm e (k / 64) : Nat) : Int) / 2 ^ (k % 64) = ((lm e (k / 64) / 2 ^ (k % 64) : Nat) : Int) := by rw [Int.natCast_ediv, Int.natCast_pow]; rfl
  rw [h3, and_one _ (Nat.lt_of_le_of_lt (Nat.div_le_self _ _) (lm_lt _ _)), limb_bit, decide_eq_decide]
  omega
theorem exp_yes {a e k : Nat} (h : e / 2 ^ k % 2 = 1) : mulN (expN a (e % 2 ^ k)) (expN a (2 ^ k)) = expN a (e % 2 ^ (k + 1)) := by
  rw [expN_mul, bit_step, if_pos h]
theorem exp_no {a e k : Nat} (h : ¬ e / 2 ^ k % 2 = 1) : expN a (e % 2 ^ k) = expN a (e % 2 ^ (k + 1)) := by
  rw [bit_step e k, if_neg h, Nat.add_zero]
theorem exp_sq (a k : Nat) : mulN (expN a (2 ^ k)) (expN a (2 ^ k)) = expN a (2 ^ (k + 1)) := by
  rw [expN_mul, two_i]
end Go.Proofs.Ytbdigomddnpllaa
