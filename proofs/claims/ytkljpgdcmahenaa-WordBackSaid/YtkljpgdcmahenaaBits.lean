/-
  Parts of a shifted number, bit by bit: plain arithmetic, no program.
-/
import Derived.Test.YtkljpgdcmahenaaNum
namespace Go.Proofs.Ytkljpgdcmahenaa
set_option linter.unusedSimpArgs false
set_option linter.unusedVariables false

theorem tb_lm (a i j : Nat) : (lm a i).testBit j = (decide (j < 64) && a.testBit (64 * i + j)) := by
  unfold lm
  rw [show (18446744073709551616 : Nat) = 2 ^ 64 from rfl, ← Nat.pow_mul, Nat.testBit_mod_two_pow, Nat.testBit_div_two_pow]
  rw [Nat.add_comm]
theorem tb_big {a : Nat} (h : a < W) (j : Nat) (hj : 256 ≤ j) : a.testBit j = false :=
  Nat.testBit_lt_two_pow (Nat.lt_of_lt_of_le h (by rw [show W = 2 ^ 256 from rfl]; exact Nat.pow_le_pow_right (by decide) hj))

/-- A part of a word, 0 below it, f above it. -/
def ptN (a : Nat) (i : Int) (f : Nat) : Nat := if i < 0 then 0 else if 4 ≤ i then f else lm a i.toNat

/-- A word with ones above it, or noughts. -/
def ones (k : Nat) : Nat := 2 ^ k - 1
theorem tb_ones (k j : Nat) : (ones k).testBit j = decide (j < k) := Nat.testBit_two_pow_sub_one k j
def extN (a f : Nat) : Nat := a + W * (if f = 0 then 0 else ones 512)
theorem tb_ext {a : Nat} (h : a < W) (f j : Nat) (hj : j < 768) : (extN a f).testBit j = if j < 256 then a.testBit j else decide (f ≠ 0) := by
  unfold extN
  rw [Nat.add_comm, show W = 2 ^ 256 from rfl, Nat.testBit_two_pow_mul_add _ (by rw [show W = 2 ^ 256 from rfl] at h; exact h)]
  by_cases hj2 : j < 256
  · rw [if_pos hj2, if_pos hj2]
  · rw [if_neg hj2, if_neg hj2]
    by_cases hf : f = 0
    · simp [hf]
    · rw [if_neg hf, tb_ones]; simp [hf]; omega

theorem tb_ptN {a : Nat} (h : a < W) (i : Int) (f j : Nat) (hf : f = 0 ∨ f = 18446744073709551615) (hj : j < 64) (hi : i < 12) :
    (ptN a i f).testBit j = (decide (0 ≤ i) && (extN a f).testBit (64 * i.toNat + j)) := by
  unfold ptN
  by_cases h0 : i < 0
  · rw [if_pos h0, Nat.zero_testBit]; simp; omega
  · have hp : decide (0 ≤ i) = true := by simp; omega
    rw [if_neg h0, hp, Bool.true_and, tb_ext h _ _ (by omega)]
    by_cases h4 : 4 ≤ i
    · rw [if_pos h4, if_neg (by omega)]
      rcases hf with rfl | rfl
      · simp
      · rw [show (18446744073709551615 : Nat) = 2 ^ 64 - 1 from rfl, Nat.testBit_two_pow_sub_one]; simp [hj]
    · rw [if_neg h4, if_pos (by omega), tb_lm]; simp [hj]

theorem shl_limb {a : Nat} (h : a < W) (s r i : Nat) (hr : r < 64) (hi : i < 4) :
    (ptN a ((i : Int) - s) 0 * 2 ^ r % 18446744073709551616) ||| (ptN a ((i : Int) - s - 1) 0 / 2 ^ (64 - r)) = lm (a * 2 ^ (64 * s + r)) i := by
  apply Nat.eq_of_testBit_eq
  intro j
  rw [tb_lm, Nat.testBit_or, show (18446744073709551616 : Nat) = 2 ^ 64 from rfl, Nat.testBit_mod_two_pow, Nat.testBit_mul_two_pow, Nat.testBit_mul_two_pow, Nat.testBit_div_two_pow]
  have e0 : extN a 0 = a := by simp [extN]
  by_cases hj : j < 64
  · by_cases hjr : r ≤ j
    · rw [tb_ptN h _ _ _ (.inl rfl) (by omega) (by omega), e0]
      have hz : (ptN a ((i : Int) - s - 1) 0).testBit (j + (64 - r)) = false := by
        apply Nat.testBit_lt_two_pow
        refine Nat.lt_of_lt_of_le (m := 2 ^ 64) ?_ (Nat.pow_le_pow_right (by decide) (by omega))
        unfold ptN; split
        · decide
        · split
          · decide
          · exact lm_lt _ _
      rw [hz]
      by_cases his : s ≤ i
      · simp [hj, hjr, show 64 * s + r ≤ 64 * i + j by omega, his, show 64 * (i - s) + (j - r) = 64 * i + j - (64 * s + r) by omega]
      · simp [show ¬ ((s : Int) ≤ (i : Int)) by omega]; intro; omega
    · rw [tb_ptN h ((i : Int) - s - 1) 0 (j + (64 - r)) (.inl rfl) (by omega) (by omega), e0]
      by_cases his : s + 1 ≤ i
      · simp [hj, hjr, show (1 : Int) ≤ (i : Int) - s by omega, show 64 * s + r ≤ 64 * i + j by omega, show 64 * (i - s - 1) + (j + (64 - r)) = 64 * i + j - (64 * s + r) by omega]
      · simp [hj, hjr, show ¬ ((1 : Int) ≤ (i : Int) - s) by omega, show ¬ (64 * s + r ≤ 64 * i + j) by omega]
  · have hz : (ptN a ((i : Int) - s - 1) 0).testBit (j + (64 - r)) = false := by
      apply Nat.testBit_lt_two_pow
      refine Nat.lt_of_lt_of_le (m := 2 ^ 64) ?_ (Nat.pow_le_pow_right (by decide) (by omega))
      unfold ptN; split
      · decide
      · split
        · decide
        · exact lm_lt _ _
    simp [hj, hz]
theorem ptN_lt (a : Nat) (i : Int) {f : Nat} (hf : f < 18446744073709551616) : ptN a i f < 18446744073709551616 := by
  unfold ptN; split
  · decide
  · split
    · exact hf
    · exact lm_lt _ _
theorem shr_limb {a f : Nat} (h : a < W) (hf : f = 0 ∨ f = 18446744073709551615) (s r i : Nat) (hr : r < 64) (hs : s ≤ 4) (hi : i < 4) :
    (ptN a ((i : Int) + s) f / 2 ^ r) ||| (ptN a ((i : Int) + s + 1) f * 2 ^ (64 - r) % 18446744073709551616) = lm (extN a f / 2 ^ (64 * s + r)) i := by
  have hfl : f < 18446744073709551616 := by rcases hf with rfl | rfl <;> decide
  apply Nat.eq_of_testBit_eq
  intro j
  rw [tb_lm, Nat.testBit_or, show (18446744073709551616 : Nat) = 2 ^ 64 from rfl, Nat.testBit_mod_two_pow, Nat.testBit_mul_two_pow, Nat.testBit_div_two_pow, Nat.testBit_div_two_pow]
  by_cases hj : j < 64
  · by_cases hjr : j + r < 64
    · rw [tb_ptN h _ _ _ hf hjr (by omega)]
      simp [hj, show ¬ (64 - r ≤ j) by omega, show (0 : Int) ≤ (i : Int) + s by omega, show 64 * ((i : Int) + s).toNat + (j + r) = 64 * i + j + (64 * s + r) by omega]
    · have hz : (ptN a ((i : Int) + s) f).testBit (j + r) = false :=
        Nat.testBit_lt_two_pow (Nat.lt_of_lt_of_le (ptN_lt a _ hfl) (Nat.pow_le_pow_right (n := 2) (i := 64) (by decide) (by omega)))
      rw [hz, tb_ptN h _ _ _ hf (by omega) (by omega)]
      simp [hj, show 64 - r ≤ j by omega, show (0 : Int) ≤ (i : Int) + s + 1 by omega, show 64 * ((i : Int) + s + 1).toNat + (j - (64 - r)) = 64 * i + j + (64 * s + r) by omega]
  · have hz : (ptN a ((i : Int) + s) f).testBit (j + r) = false :=
        Nat.testBit_lt_two_pow (Nat.lt_of_lt_of_le (ptN_lt a _ hfl) (Nat.pow_le_pow_right (n := 2) (i := 64) (by decide) (by omega)))
    simp [hj, hz]
end Go.Proofs.Ytkljpgdcmahenaa
