/-
  Numbers below 2^256 in four parts of 64 bits: plain arithmetic, no program.
-/
namespace Go.Proofs.Ytkljpgdcmahenaa
set_option linter.unusedSimpArgs false
set_option linter.unusedVariables false

def K : Nat := 18446744073709551616
def W : Nat := 115792089237316195423570985008687907853269984665640564039457584007913129639936
def lo (n : Nat) : Nat := n % 18446744073709551616
def hi (n : Nat) : Nat := n / 18446744073709551616
/-- Part i of a number. -/
def lm (a i : Nat) : Nat := a / 18446744073709551616 ^ i % 18446744073709551616
/-- The number of four parts. -/
def num (x0 x1 x2 x3 : Nat) : Nat := x0 + 18446744073709551616 * x1 + 340282366920938463463374607431768211456 * x2 + 6277101735386680763835789423207666416102355444464034512896 * x3

theorem lm0 (a : Nat) : lm a 0 = a % 18446744073709551616 := by simp [lm]
theorem lm1 (a : Nat) : lm a 1 = a / 18446744073709551616 % 18446744073709551616 := by simp [lm]
theorem lm2 (a : Nat) : lm a 2 = a / 340282366920938463463374607431768211456 % 18446744073709551616 := by simp [lm]
theorem lm3 (a : Nat) : lm a 3 = a / 6277101735386680763835789423207666416102355444464034512896 % 18446744073709551616 := by simp [lm]
theorem lm_lt (a i : Nat) : lm a i < 18446744073709551616 := Nat.mod_lt _ (by decide)
theorem lo_lt (n : Nat) : lo n < 18446744073709551616 := Nat.mod_lt _ (by decide)

theorem num_lt {x0 x1 x2 x3 : Nat} (h0 : x0 < 18446744073709551616) (h1 : x1 < 18446744073709551616) (h2 : x2 < 18446744073709551616) (h3 : x3 < 18446744073709551616) :
    num x0 x1 x2 x3 < W := by unfold num W; omega
theorem lm0_num {x0 x1 x2 x3 : Nat} (h0 : x0 < 18446744073709551616) : lm (num x0 x1 x2 x3) 0 = x0 := by rw [lm0]; unfold num; omega
theorem lm1_num {x0 x1 x2 x3 : Nat} (h0 : x0 < 18446744073709551616) (h1 : x1 < 18446744073709551616) : lm (num x0 x1 x2 x3) 1 = x1 := by rw [lm1]; unfold num; omega
theorem lm2_num {x0 x1 x2 x3 : Nat} (h0 : x0 < 18446744073709551616) (h1 : x1 < 18446744073709551616) (h2 : x2 < 18446744073709551616) : lm (num x0 x1 x2 x3) 2 = x2 := by rw [lm2]; unfold num; omega
theorem lm3_num {x0 x1 x2 x3 : Nat} (h0 : x0 < 18446744073709551616) (h1 : x1 < 18446744073709551616) (h2 : x2 < 18446744073709551616) (h3 : x3 < 18446744073709551616) : lm (num x0 x1 x2 x3) 3 = x3 := by rw [lm3]; unfold num; omega
theorem num_lm {a : Nat} (h : a < W) : num (lm a 0) (lm a 1) (lm a 2) (lm a 3) = a := by
  rw [lm0, lm1, lm2, lm3]; unfold num; unfold W at h; omega
theorem eq_of_lm {a b : Nat} (ha : a < W) (hb : b < W) (h0 : lm a 0 = lm b 0) (h1 : lm a 1 = lm b 1) (h2 : lm a 2 = lm b 2) (h3 : lm a 3 = lm b 3) : a = b := by
  rw [← num_lm ha, ← num_lm hb, h0, h1, h2, h3]

theorem lm_mod (a i : Nat) (h : i < 4) : lm (a % W) i = lm a i := by
  have h4 : i = 0 ∨ i = 1 ∨ i = 2 ∨ i = 3 := by omega
  rcases h4 with rfl | rfl | rfl | rfl
  · rw [lm0, lm0]; unfold W; omega
  · rw [lm1, lm1]; unfold W; omega
  · rw [lm2, lm2]; unfold W; omega
  · rw [lm3, lm3]; unfold W; omega
theorem WV_ext {a b : Nat} (h : a % W = b % W) (i : Nat) (hi : i < 4) : lm a i = lm b i := by rw [← lm_mod a i hi, ← lm_mod b i hi, h]
theorem hi_le {x y c : Nat} (hx : x < 18446744073709551616) (hy : y < 18446744073709551616) (hc : c ≤ 1) : hi (x + y + c) ≤ 1 := by unfold hi; omega

/-- The carries of a sum. -/
def cy1 (a b : Nat) : Nat := hi (lm a 0 + lm b 0 + 0)
def cy2 (a b : Nat) : Nat := hi (lm a 1 + lm b 1 + cy1 a b)
def cy3 (a b : Nat) : Nat := hi (lm a 2 + lm b 2 + cy2 a b)
def cy4 (a b : Nat) : Nat := hi (lm a 3 + lm b 3 + cy3 a b)
/-- All but the lowest part. -/
def sh (a : Nat) : Nat := a / 18446744073709551616
theorem lm_zero (a : Nat) : lm a 0 = lo a := by rw [lm0]; rfl
theorem lm_succ (a i : Nat) : lm a (i + 1) = lm (sh a) i := by
  unfold lm sh; rw [Nat.pow_succ, Nat.mul_comm, Nat.div_div_eq_div_mul]
theorem sh_add (a b c : Nat) : sh (a + b + c) = sh a + sh b + hi (lo a + lo b + c) := by unfold sh hi lo; omega
theorem lo_add (a b c : Nat) : lo (a + b + c) = lo (lo a + lo b + c) := by unfold lo; omega
theorem add0 (a b : Nat) : lo (lm a 0 + lm b 0 + 0) = lm (a + b) 0 := by rw [lm_zero, lm_zero, lm_zero, ← lo_add, Nat.add_zero]
theorem sh1 (a b : Nat) : sh (a + b) = sh a + sh b + cy1 a b := by
  have h := sh_add a b 0
  rw [Nat.add_zero] at h
  rw [h]; unfold cy1; rw [lm_zero, lm_zero]
theorem add1 (a b : Nat) : lo (lm a 1 + lm b 1 + cy1 a b) = lm (a + b) 1 := by
  rw [lm_succ, lm_succ, lm_succ (a + b), sh1, lm_zero, lm_zero, lm_zero, ← lo_add]
theorem sh2 (a b : Nat) : sh (sh (a + b)) = sh (sh a) + sh (sh b) + cy2 a b := by
  rw [sh1, sh_add]; unfold cy2; rw [lm_succ, lm_succ, lm_zero, lm_zero]
theorem add2 (a b : Nat) : lo (lm a 2 + lm b 2 + cy2 a b) = lm (a + b) 2 := by
  rw [lm_succ, lm_succ, lm_succ (a + b), lm_succ, lm_succ, lm_succ (sh (a + b)), sh2, lm_zero, lm_zero, lm_zero, ← lo_add]
theorem sh3 (a b : Nat) : sh (sh (sh (a + b))) = sh (sh (sh a)) + sh (sh (sh b)) + cy3 a b := by
  rw [sh2, sh_add]; unfold cy3; rw [lm_succ, lm_succ, lm_succ, lm_succ, lm_zero, lm_zero]
theorem add3 (a b : Nat) : lo (lm a 3 + lm b 3 + cy3 a b) = lm (a + b) 3 := by
  rw [lm_succ, lm_succ b, lm_succ (a + b), lm_succ, lm_succ (sh b), lm_succ (sh (a + b)), lm_succ, lm_succ (sh (sh b)), lm_succ (sh (sh (a + b))), sh3, lm_zero, lm_zero, lm_zero, ← lo_add]
theorem sh4 (a : Nat) : sh (sh (sh (sh a))) = a / W := by
  unfold sh W; rw [Nat.div_div_eq_div_mul, Nat.div_div_eq_div_mul, Nat.div_div_eq_div_mul]
theorem add4 {a b : Nat} (ha : a < W) (hb : b < W) : cy4 a b = (a + b) / W := by
  rw [← sh4, sh3, sh_add, sh4, sh4, Nat.div_eq_of_lt ha, Nat.div_eq_of_lt hb]
  unfold cy4
  rw [lm_succ, lm_succ b, lm_succ, lm_succ (sh b), lm_succ, lm_succ (sh (sh b)), lm_zero, lm_zero]; simp
end Go.Proofs.Ytkljpgdcmahenaa
