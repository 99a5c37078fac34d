/-
  The law WordMoves: what shifts of words come to, one behind the other. 
-/
import Derived.Test.YtkljpgdcmahenaaLB
namespace Go.Proofs.Ytkljpgdcmahenaa
set_option linter.unusedSimpArgs false
set_option linter.unusedVariables false
open Go.RowKit
theorem W_pow : W = 2 ^ 256 := rfl
theorem shlM_eq (n a : Nat) : shlM n a = a * 2 ^ (min n 256) % W := by unfold shlM shlN; rw [sp_eq]
theorem shdM_0 {a : Nat} (n : Nat) (ha : a < W) : shdM n a 0 = a / 2 ^ (min n 256) := by
  unfold shdM shdN extN
  rw [sp_eq, if_pos rfl, Nat.mul_zero, Nat.add_zero]
  exact Nat.mod_eq_of_lt (Nat.lt_of_le_of_lt (Nat.div_le_self _ _) ha)
theorem pow_split (n m : Nat) : 2 ^ (n + m) = 2 ^ n * 2 ^ m := Nat.pow_add 2 n m
theorem shl_shl {n m : Nat} (hn : n < 256) (hm : m < 256) (a : Nat) : shlM m (shlM n a) = shlM (n + m) a := by
  rw [shlM_eq, shlM_eq, shlM_eq, Nat.min_eq_left (by omega), Nat.min_eq_left (by omega), Nat.mod_mul_mod, Nat.mul_assoc, ← pow_split]
  by_cases h : n + m ≤ 256
  · rw [Nat.min_eq_left h]
  · rw [Nat.min_eq_right (by omega), show n + m = 256 + (n + m - 256) by omega, pow_split, ← W_pow, ← Nat.mul_assoc, Nat.mul_comm a W, Nat.mul_assoc, Nat.mul_mod_right, Nat.mul_mod_right]
theorem small_shift {a k : Nat} (ha : a < W) (hk : 256 ≤ k) : a / 2 ^ k = 0 := by
  apply Nat.div_eq_of_lt
  rw [W_pow] at ha
  exact Nat.lt_of_lt_of_le ha (Nat.pow_le_pow_right (by decide) hk)
theorem shr_shr {n m a : Nat} (hn : n < 256) (hm : m < 256) (ha : a < W) : shdM m (shdM n a 0) 0 = shdM (n + m) a 0 := by
  rw [shdM_0 n ha, shdM_0 m (Nat.lt_of_le_of_lt (Nat.div_le_self _ _) ha), shdM_0 _ ha, Nat.min_eq_left (by omega), Nat.min_eq_left (by omega), Nat.div_div_eq_div_mul, ← pow_split]
  by_cases h : n + m ≤ 256
  · rw [Nat.min_eq_left h]
  · rw [Nat.min_eq_right (by omega), small_shift ha (by omega), small_shift ha (by omega)]
/-- d over 2^k, rounded up. -/
def upDiv (d k : Nat) : Nat := (d + 2 ^ k - 1) / 2 ^ k
theorem upDiv_le {d : Nat} (k c : Nat) (h : d ≤ c * 2 ^ k) : upDiv d k ≤ c := by
  unfold upDiv
  have hp : 0 < 2 ^ k := Nat.two_pow_pos k
  have : (d + 2 ^ k - 1) / 2 ^ k < c + 1 := by
    rw [Nat.div_lt_iff_lt_mul hp, Nat.add_mul]; omega
  omega
theorem upDiv_pos {d : Nat} (k : Nat) (h : 0 < d) : 0 < upDiv d k := by
  unfold upDiv
  exact Nat.div_pos (by omega) (Nat.two_pow_pos k)
theorem upDiv_upDiv (d n m : Nat) : upDiv (upDiv d n) m = upDiv d (n + m) := by
  have hn : 0 < 2 ^ n := Nat.two_pow_pos n
  have hm : 0 < 2 ^ m := Nat.two_pow_pos m
  unfold upDiv
  rw [pow_split, ← Nat.div_div_eq_div_mul]
  congr 1
  have e : d + 2 ^ n * 2 ^ m - 1 = (d + 2 ^ n - 1) + 2 ^ n * (2 ^ m - 1) := by
    rw [Nat.mul_sub, Nat.mul_one]
    have : 2 ^ n ≤ 2 ^ n * 2 ^ m := Nat.le_mul_of_pos_right _ hm
    omega
  rw [e, Nat.add_mul_div_left _ _ hn]
  exact Nat.add_sub_assoc hm _
theorem sar_core {a k K : Nat} (hk' : k ≤ 256) (hK : 512 ≤ K) (ha : a < W) : (a + W * ones K) / 2 ^ k % W = W - upDiv (W - a) k := by
  have hp : 0 < 2 ^ k := Nat.two_pow_pos k
  -- a + W (2^512 - 1) = W 2^512 - d
  have hE : a + W * ones K = W * 2 ^ K - (W - a) := by
    unfold ones
    rw [Nat.mul_sub, Nat.mul_one]
    have : W ≤ W * 2 ^ K := Nat.le_mul_of_pos_right _ (Nat.two_pow_pos _)
    omega
  rw [hE]
  have hd0 : 0 < W - a := by omega
  have hdW : W - a ≤ W := by omega
  generalize W - a = d at *
  have hWk : W * 2 ^ K = 2 ^ k * (2 ^ (256 - k) * 2 ^ K) := by
    rw [← Nat.mul_assoc, ← pow_split, show k + (256 - k) = 256 by omega, W_pow]
  have hu : upDiv d k ≤ W := upDiv_le k W (Nat.le_trans hdW (Nat.le_mul_of_pos_right _ hp))
  have hu0 : 0 < upDiv d k := upDiv_pos k hd0
  have key : (W * 2 ^ K - d) / 2 ^ k = 2 ^ (256 - k) * 2 ^ K - upDiv d k := by
    rw [hWk]
    generalize hM : 2 ^ (256 - k) * 2 ^ K = M
    have hMW : W ≤ M := by
      rw [← hM, W_pow, ← pow_split]
      exact Nat.pow_le_pow_right (by decide) (by omega)
    have h1 : upDiv d k * 2 ^ k = (d + 2 ^ k - 1) - (d + 2 ^ k - 1) % 2 ^ k := by
      unfold upDiv
      have := Nat.div_add_mod' (d + 2 ^ k - 1) (2 ^ k)
      omega
    have h2 : (d + 2 ^ k - 1) % 2 ^ k < 2 ^ k := Nat.mod_lt _ hp
    rw [Nat.div_eq_iff hp]
    have h3 : (M - upDiv d k) * 2 ^ k = 2 ^ k * M - upDiv d k * 2 ^ k := by rw [Nat.sub_mul, Nat.mul_comm M]
    have h4 : upDiv d k * 2 ^ k ≤ 2 ^ k * M := by rw [Nat.mul_comm (2 ^ k)]; exact Nat.mul_le_mul_right _ (by omega)
    rw [h3]
    omega
  rw [key]
  have hmul : 2 ^ (256 - k) * 2 ^ K = W * (2 ^ (K - k) ) := by
    rw [W_pow, ← pow_split, ← pow_split]; congr 1; omega
  rw [hmul]
  have h5 : W * 2 ^ (K - k) - upDiv d k = (W - upDiv d k) + W * (2 ^ (K - k) - 1) := by
    rw [Nat.mul_sub, Nat.mul_one]
    have : W ≤ W * 2 ^ (K - k) := Nat.le_mul_of_pos_right _ (Nat.two_pow_pos _)
    omega
  rw [h5, Nat.add_mul_mod_self_left]
  exact Nat.mod_eq_of_lt (by omega)
/-- A negative word, shifted down as a signed one. -/
theorem sar_neg {a : Nat} (n : Nat) (ha : a < W) (h : W / 2 ≤ a) : shdM n a (sgF a) = W - upDiv (W - a) (min n 256) := by
  have hf : sgF a ≠ 0 := by unfold sgF; rw [if_pos h]; decide
  unfold shdM shdN extN
  rw [sp_eq, if_neg hf]
  exact sar_core (by omega) (Nat.le_refl _) ha
theorem sar_sar {n m a : Nat} (hn : n < 256) (hm : m < 256) (ha : a < W) :
    shdM m (shdM n a (sgF a)) (sgF (shdM n a (sgF a))) = shdM (n + m) a (sgF a) := by
  have hW : W = 2 * (W / 2) := by decide
  by_cases h : W / 2 ≤ a
  · have hu : upDiv (W - a) (min n 256) ≤ W / 2 := upDiv_le _ _ (Nat.le_trans (by omega) (Nat.le_mul_of_pos_right _ (Nat.two_pow_pos _)))
    have hu0 := upDiv_pos (min n 256) (show 0 < W - a by omega)
    rw [sar_neg n ha h, sar_neg m (by omega) (by omega), sar_neg _ ha h, Nat.min_eq_left (by omega), Nat.min_eq_left (by omega)]
    rw [Nat.min_eq_left (by omega)] at hu hu0
    rw [show W - (W - upDiv (W - a) n) = upDiv (W - a) n by omega, upDiv_upDiv]
    by_cases h2 : n + m ≤ 256
    · rw [Nat.min_eq_left h2]
    · have one : ∀ k, 256 ≤ k → upDiv (W - a) k = 1 := by
        intro k hk
        have h3 : upDiv (W - a) k ≤ 1 := upDiv_le _ _ (by rw [Nat.one_mul]; exact Nat.le_trans (Nat.sub_le _ _) (by rw [W_pow]; exact Nat.pow_le_pow_right (by decide) hk))
        have h4 := upDiv_pos k (show 0 < W - a by omega)
        omega
      rw [Nat.min_eq_right (by omega), one _ (by omega), one _ (by omega)]
  · have hs : sgF a = 0 := by unfold sgF; rw [if_neg h]
    have hx : shdM n a 0 < W / 2 := by rw [shdM_0 n ha]; exact Nat.lt_of_le_of_lt (Nat.div_le_self _ _) (by omega)
    have hs2 : sgF (shdM n a 0) = 0 := by unfold sgF; rw [if_neg (by omega)]
    rw [hs, hs2]
    exact shr_shr hn hm ha
theorem cut_facts {n a : Nat} (hn : n < 256) (ha : a < W) :
    subB a (shlM n (shdM n a 0)) = false ∧ cmpI (subN a (shlM n (shdM n a 0))) (shlM n 1) = -1 := by
  have hp : 0 < 2 ^ n := Nat.two_pow_pos n
  have h1 : a / 2 ^ n * 2 ^ n ≤ a := Nat.div_mul_le_self _ _
  have h2 := Nat.div_add_mod' a (2 ^ n)
  have h3 : a % 2 ^ n < 2 ^ n := Nat.mod_lt _ hp
  have hnW : 2 ^ n < W := by rw [W_pow]; exact Nat.pow_lt_pow_right (by decide) hn
  rw [shdM_0 n ha, shlM_eq, shlM_eq, Nat.min_eq_left (by omega), Nat.mod_eq_of_lt (show a / 2 ^ n * 2 ^ n < W by omega), Nat.one_mul, Nat.mod_eq_of_lt hnW]
  refine ⟨by unfold subB; simp; omega, ?_⟩
  unfold subN cmpI
  have e : (a + W - a / 2 ^ n * 2 ^ n) % W = a % 2 ^ n := by
    rw [show a + W - a / 2 ^ n * 2 ^ n = a % 2 ^ n + W by omega, Nat.add_mod_right]
    exact Nat.mod_eq_of_lt (by omega)
  rw [e, if_neg (by omega), if_pos h3]
/-- a, its uppermost part halved. -/
def halfN (a : Nat) : Nat := num (lm a 0) (lm a 1) (lm a 2) (lm a 3 / 2)
theorem half_lt (a : Nat) : halfN a < W := num_lt (lm_lt a 0) (lm_lt a 1) (lm_lt a 2) (Nat.lt_of_le_of_lt (Nat.div_le_self _ _) (lm_lt a 3))
theorem half_WV (a : Nat) : WV (halfN a) = .agg #[.int .u64 (lm a 0 : Nat), .int .u64 (lm a 1 : Nat), .int .u64 (lm a 2 : Nat), .int .u64 (((lm a 3 : Nat) : Int) / 2)] := by
  have h3 : lm a 3 / 2 < 18446744073709551616 := Nat.lt_of_le_of_lt (Nat.div_le_self _ _) (lm_lt a 3)
  unfold WV halfN
  rw [lm0_num (lm_lt a 0), lm1_num (lm_lt a 0) (lm_lt a 1), lm2_num (lm_lt a 0) (lm_lt a 1) (lm_lt a 2), lm3_num (lm_lt a 0) (lm_lt a 1) (lm_lt a 2) h3]
  rfl
theorem half_sg (a : Nat) : sgF (halfN a) = 0 := by
  have h0 := lm_lt a 0
  have h1 := lm_lt a 1
  have h2 := lm_lt a 2
  have h3 := lm_lt a 3
  unfold sgF halfN num
  rw [if_neg]
  unfold W
  omega
end Go.Proofs.Ytkljpgdcmahenaa
