/-
  The document's answers for words (quaestorref01), walked: not, Neg, Cmp, Sub, Scmp, bit.
-/
import Derived.Test.YtajgdlekngcmjaaX4
import Derived.Laws.Bits64
namespace Go.Proofs.Ytajgdlekngcmjaa
set_option linter.unusedSimpArgs false
set_option linter.unusedVariables false
open Go.RowKit
theorem lmI_next {x k : Nat} (hk : k < 4) : (lmI (x % K ^ k)).set k ((lm x k : Nat) : Int) = lmI (x % K ^ (k + 1)) := by
  have key : ∀ j n, lm (x % K ^ n) j = if j < n then lm x j else 0 := by
    intro j n
    unfold lm
    have hKe : (18446744073709551616 : Nat) = K := rfl
    rw [hKe]
    by_cases h : j < n
    · rw [if_pos h]
      have e : K ^ n = K ^ j * K ^ (n - j) := by rw [← Nat.pow_add]; congr 1; omega
      rw [e, Nat.mod_mul_right_div_self]
      exact Nat.mod_mod_of_dvd _ (by
        have : K ^ (n - j) = K * K ^ (n - j - 1) := by rw [← Nat.pow_succ']; congr 1; omega
        rw [this]; exact Nat.dvd_mul_right _ _)
    · rw [if_neg h, Nat.div_eq_of_lt, Nat.zero_mod]
      exact Nat.lt_of_lt_of_le (Nat.mod_lt _ (Nat.pow_pos (by decide))) (Nat.pow_le_pow_right (by decide) (by omega))
  unfold lmI
  rw [key, key, key, key, key, key, key, key]
  have : k = 0 ∨ k = 1 ∨ k = 2 ∨ k = 3 := by omega
  rcases this with rfl | rfl | rfl | rfl <;> rfl
/-- The carry of a sum's lowest k parts. -/
def cA (a b k : Nat) : Nat := (a % K ^ k + b % K ^ k) / K ^ k
theorem cA_0 (a b : Nat) : cA a b 0 = 0 := by unfold cA; rw [Nat.pow_zero, Nat.mod_one, Nat.mod_one]
theorem cA_le (a b k : Nat) : cA a b k ≤ 1 := by
  have hp : 0 < K ^ k := Nat.pow_pos (by decide)
  have h1 := Nat.mod_lt a hp
  have h2 := Nat.mod_lt b hp
  unfold cA
  have : (a % K ^ k + b % K ^ k) / K ^ k < 2 := by rw [Nat.div_lt_iff_lt_mul hp]; omega
  omega
theorem cA_step (a b k : Nat) : cA a b (k + 1) = (lm a k + lm b k + cA a b k) / K ∧ lm (a + b) k = (lm a k + lm b k + cA a b k) % K := by
  have hp : 0 < K ^ k := Nat.pow_pos (by decide)
  have hK : 0 < K := by decide
  have ha : a % K ^ (k + 1) = a % K ^ k + K ^ k * lm a k := by rw [Nat.pow_succ, Nat.mod_mul]; rfl
  have hb : b % K ^ (k + 1) = b % K ^ k + K ^ k * lm b k := by rw [Nat.pow_succ, Nat.mod_mul]; rfl
  have hc := Nat.div_add_mod (a % K ^ k + b % K ^ k) (K ^ k)
  have hr := Nat.mod_lt (a % K ^ k + b % K ^ k) hp
  constructor
  · unfold cA
    rw [ha, hb]
    have e : a % K ^ k + K ^ k * lm a k + (b % K ^ k + K ^ k * lm b k) = (a % K ^ k + b % K ^ k) % K ^ k + K ^ k * (lm a k + lm b k + (a % K ^ k + b % K ^ k) / K ^ k) := by
      rw [Nat.mul_add, Nat.mul_add]; omega
    rw [e, Nat.pow_succ, ← Nat.div_div_eq_div_mul, Nat.add_mul_div_left _ _ hp, Nat.div_eq_of_lt hr, Nat.zero_add]
  · have ea := Nat.div_add_mod a (K ^ k)
    have eb := Nat.div_add_mod b (K ^ k)
    have e : a + b = (a % K ^ k + b % K ^ k) % K ^ k + K ^ k * (a / K ^ k + b / K ^ k + (a % K ^ k + b % K ^ k) / K ^ k) := by
      rw [Nat.mul_add, Nat.mul_add]; omega
    have e2 : (a + b) / K ^ k = a / K ^ k + b / K ^ k + (a % K ^ k + b % K ^ k) / K ^ k := by
      conv => lhs; rw [e]
      rw [Nat.add_mul_div_left _ _ hp, Nat.div_eq_of_lt hr, Nat.zero_add]
    show (a + b) / K ^ k % K = (a / K ^ k % K + b / K ^ k % K + cA a b k) % K
    rw [e2]
    have key : ∀ A B C : Nat, (A + B + C) % K = (A % K + B % K + C) % K := by intro A B C; unfold K; omega
    exact key _ _ _
theorem cA_4 {a b : Nat} (ha : a < W) (hb : b < W) : cA a b 4 = if W ≤ a + b then 1 else 0 := by
  have hW : K ^ 4 = W := by decide
  unfold cA
  rw [hW, Nat.mod_eq_of_lt ha, Nat.mod_eq_of_lt hb]
  split
  · rw [Nat.div_eq_iff W_pos]; omega
  · exact Nat.div_eq_of_lt (by omega)
theorem sum4 (a b : Nat) : (a + b) % K ^ 4 = addN a b := rfl
/-- A round of Add. -/
theorem add_round {x y c : Nat} (hx : x < K) (hy : y < K) (hc : c ≤ 1) :
    (IntKind.u64.wrap (IntKind.u64.wrap ((x : Int) + y) + c) = (((x + y + c) % K : Nat) : Int)) ∧
    ((x + y + c) / K = if (IntKind.u64.wrap ((x : Int) + y) < x ∨ IntKind.u64.wrap (IntKind.u64.wrap ((x : Int) + y) + c) < IntKind.u64.wrap ((x : Int) + y)) then 1 else 0) := by
  unfold K at *
  rw [mod_u64, mod_u64]
  refine ⟨by omega, ?_⟩
  split <;> omega
theorem xor_ones (n : Nat) (h : n < 18446744073709551616) : 18446744073709551615 ^^^ n = 18446744073709551615 - n := by
  have e : (18446744073709551615 : Nat) - n = 2 ^ 64 - (n + 1) := by omega
  rw [e, show (18446744073709551615 : Nat) = 2 ^ 64 - 1 from rfl]
  apply Nat.eq_of_testBit_eq
  intro i
  rw [Nat.testBit_xor, Nat.testBit_two_pow_sub_one, Nat.testBit_two_pow_sub_succ h]
  by_cases hi : i < 64
  · simp [hi]
  · have : n.testBit i = false := Nat.testBit_lt_two_pow (Nat.lt_of_lt_of_le (show n < 2 ^ 64 from h) (Nat.pow_le_pow_right (by decide) (by omega)))
    simp [hi, this]
theorem not64 (n : Nat) (h : n < 18446744073709551616) : bits .xor .u64 (if IntKind.u64.signed = true then -1 else IntKind.u64.max) (n : Int) = ((18446744073709551615 - n : Nat) : Int) := by
  have e : (if IntKind.u64.signed = true then -1 else IntKind.u64.max) = ((18446744073709551615 : Nat) : Int) := by decide
  rw [e, bits_xor_u64_nat _ _ (by decide) h, xor_ones n h]
theorem not_num {a : Nat} (ha : a < W) : numI [((18446744073709551615 - lm a 0 : Nat) : Int), ((18446744073709551615 - lm a 1 : Nat) : Int), ((18446744073709551615 - lm a 2 : Nat) : Int), ((18446744073709551615 - lm a 3 : Nat) : Int)] = W - 1 - a := by
  have h := num_lm ha
  have h0 := lm_lt a 0
  have h1 := lm_lt a 1
  have h2 := lm_lt a 2
  have h3 := lm_lt a 3
  simp only [numI, Int.toNat_natCast]
  unfold num W at *
  omega
theorem notU (n : Nat) (h : n < 18446744073709551616) : allU [((18446744073709551615 - n : Nat) : Int)] := ⟨by omega, trivial⟩
end Go.Proofs.Ytajgdlekngcmjaa
