/-
  Powers of words: their arithmetic, bit by bit. (The walk of Exp is still to be written.)
-/
import Derived.Test.YtbdigomddnpllaaWC
namespace Go.Proofs.Ytbdigomddnpllaa
set_option linter.unusedSimpArgs false
set_option linter.unusedVariables false
open Go.RowKit
/-- A power of a word. -/
def expN (a e : Nat) : Nat := a ^ e % W
theorem expN_lt (a e : Nat) : expN a e < W := Nat.mod_lt _ W_pos
theorem expN_mul (a e f : Nat) : mulN (expN a e) (expN a f) = expN a (e + f) := by
  unfold mulN expN
  rw [← Nat.mul_mod, Nat.pow_add]
theorem expN_one {a : Nat} (ha : a < W) : expN a 1 = a := by unfold expN; rw [Nat.pow_one, Nat.mod_eq_of_lt ha]
theorem expN_zero (a : Nat) : expN a 0 = 1 := by unfold expN; rw [Nat.pow_zero]; exact Nat.mod_eq_of_lt (by unfold W; decide)
theorem two_i (i : Nat) : 2 ^ i + 2 ^ i = 2 ^ (i + 1) := by rw [Nat.pow_succ]; omega
theorem bit_step (e i : Nat) : e % 2 ^ (i + 1) = e % 2 ^ i + (if e / 2 ^ i % 2 = 1 then 2 ^ i else 0) := by
  rw [Nat.pow_succ, Nat.mod_mul]
  have : e / 2 ^ i % 2 = 0 ∨ e / 2 ^ i % 2 = 1 := by omega
  rcases this with h | h <;> rw [h] <;> simp
theorem limb_bit (e i : Nat) : lm e (i / 64) / 2 ^ (i % 64) % 2 = e / 2 ^ i % 2 := by
  unfold lm
  rw [show (18446744073709551616 : Nat) = 2 ^ 64 from rfl, ← Nat.pow_mul]
  have h1 : i % 64 < 64 := Nat.mod_lt _ (by decide)
  have h2 : (2 : Nat) ^ 64 = 2 ^ (i % 64) * 2 ^ (64 - i % 64) := by rw [← Nat.pow_add]; congr 1; omega
  have h3 : e / 2 ^ (64 * (i / 64)) % 2 ^ 64 / 2 ^ (i % 64) = e / 2 ^ i % 2 ^ (64 - i % 64) := by
    rw [h2, Nat.mod_mul_right_div_self, Nat.div_div_eq_div_mul, ← Nat.pow_add]
    congr 2
    congr 1
    omega
  rw [h3]
  exact Nat.mod_mod_of_dvd _ (by
    have : (2 : Nat) ^ (64 - i % 64) = 2 * 2 ^ (64 - i % 64 - 1) := by rw [← Nat.pow_succ']; congr 1; omega
    rw [this]; exact Nat.dvd_mul_right _ _)
end Go.Proofs.Ytbdigomddnpllaa
