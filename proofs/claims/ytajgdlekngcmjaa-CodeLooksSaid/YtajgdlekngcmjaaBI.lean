/-
  Bits of words, long division and moves bit by bit: plain arithmetic, no program.
-/
import Derived.Test.YtajgdlekngcmjaaWC
namespace Go.Proofs.Ytajgdlekngcmjaa
set_option linter.unusedSimpArgs false
set_option linter.unusedVariables false
/-! Bits of words: set, cleared, moved; plain arithmetic, no program. -/
/-- A number with bit i so. -/
def withN (a i : Nat) (on : Bool) : Nat := if on = true then a ||| 2 ^ i else a ^^^ (a &&& 2 ^ i)
theorem tb_withN (a i : Nat) (on : Bool) (j : Nat) : (withN a i on).testBit j = if j = i then on else a.testBit j := by
  unfold withN
  cases on
  · rw [if_neg (by decide), Nat.testBit_xor, Nat.testBit_and, Nat.testBit_two_pow]
    by_cases h : j = i
    · subst h; simp
    · rw [if_neg h]; simp [show ¬ i = j from fun e => h e.symm]
  · rw [if_pos rfl, Nat.testBit_or, Nat.testBit_two_pow]
    by_cases h : j = i
    · subst h; simp
    · rw [if_neg h]; simp [show ¬ i = j from fun e => h e.symm]
theorem lt_W_of {a : Nat} (h : ∀ j, 256 ≤ j → a.testBit j = false) : a < W := by
  rw [show W = 2 ^ 256 from rfl]; exact Nat.lt_pow_two_of_testBit a h
theorem withN_lt {a : Nat} (ha : a < W) {i : Nat} (hi : i < 256) (on : Bool) : withN a i on < W :=
  lt_W_of fun j hj => by rw [tb_withN, if_neg (by omega)]; exact tb_big ha j hj
/-- What a part becomes. -/
def lmB (x i : Nat) (on : Bool) : Nat := if on = true then x ||| 2 ^ (i % 64) else x ^^^ (x &&& 2 ^ (i % 64))
theorem lm_withN (a i k : Nat) (on : Bool) : lm (withN a i on) k = if k = i / 64 then lmB (lm a k) i on else lm a k := by
  apply Nat.eq_of_testBit_eq
  intro j
  rw [tb_lm, tb_withN]
  by_cases hk : k = i / 64
  · rw [if_pos hk]
    have e : (lmB (lm a k) i on).testBit j = if j = i % 64 then on else (lm a k).testBit j := tb_withN (lm a k) (i % 64) on j
    rw [e, tb_lm]
    by_cases hj : j = i % 64
    · rw [if_pos (by omega), if_pos hj]; simp; omega
    · rw [if_neg hj]
      by_cases hj2 : j < 64
      · rw [if_neg (by omega)]
      · simp [hj2]
  · rw [if_neg hk, tb_lm]
    by_cases hj2 : j < 64
    · rw [if_neg (by omega)]
    · simp [hj2]
/-- The highest bit that is 1, counted from 1. -/
def hiN (e : Nat) : Nat → Nat
  | 0 => 0
  | n + 1 => if e.testBit n = true then n + 1 else hiN e n
theorem hiN_le (e : Nat) : ∀ n, hiN e n ≤ n
  | 0 => Nat.le_refl _
  | n + 1 => by unfold hiN; split; exact Nat.le_refl _; exact Nat.le_succ_of_le (hiN_le e n)
theorem hiN_lt (e : Nat) : ∀ n, e < 2 ^ n → e < 2 ^ hiN e n
  | 0, h => h
  | n + 1, h => by
    unfold hiN; split
    · exact h
    · rename_i hb
      refine hiN_lt e n (Nat.lt_pow_two_of_testBit e fun j hj => ?_)
      by_cases h1 : j = n
      · subst h1; simpa using hb
      · exact Nat.testBit_lt_two_pow (Nat.lt_of_lt_of_le h (Nat.pow_le_pow_right (by decide) (by omega)))
theorem div_bit (e i : Nat) : e / 2 ^ i = 2 * (e / 2 ^ (i + 1)) + (e.testBit i).toNat := by
  rw [Nat.pow_succ, ← Nat.div_div_eq_div_mul, Nat.testBit_eq_decide_div_mod_eq]
  have := Nat.div_add_mod (e / 2 ^ i) 2
  rcases Nat.mod_two_eq_zero_or_one (e / 2 ^ i) with h | h <;> rw [h] at this ⊢ <;> simp <;> omega
theorem div_yes {e i : Nat} (h : e.testBit i = true) : e / 2 ^ i = 2 * (e / 2 ^ (i + 1)) + 1 := by rw [div_bit, h]; rfl
theorem div_no {e i : Nat} (h : e.testBit i = false) : e / 2 ^ i = 2 * (e / 2 ^ (i + 1)) := by rw [div_bit, h]; rfl
/-! Long division, bit by bit. -/
def dvR (a b j : Nat) : Nat := a / 2 ^ j % b
def dvQ (a b j : Nat) : Nat := a / 2 ^ j / b * 2 ^ j
theorem dvR_lt {b : Nat} (a j : Nat) (hb : 0 < b) : dvR a b j < b := Nat.mod_lt _ hb
theorem dv_gen (A b x : Nat) (hb : 0 < b) (hx : x ≤ 1) : (b ≤ 2 * (A % b) + x → (2 * A + x) % b = 2 * (A % b) + x - b ∧ (2 * A + x) / b = 2 * (A / b) + 1) ∧
    (¬ b ≤ 2 * (A % b) + x → (2 * A + x) % b = 2 * (A % b) + x ∧ (2 * A + x) / b = 2 * (A / b)) := by
  have h1 := Nat.div_add_mod A b
  have h2 := Nat.mod_lt A hb
  generalize A % b = r at *
  generalize A / b = q at *
  constructor
  · intro h
    have e : 2 * A + x = (2 * r + x - b) + b * (2 * q + 1) := by
      rw [Nat.mul_add, show b * (2 * q) = 2 * (b * q) from Nat.mul_left_comm _ _ _]; omega
    rw [e, Nat.add_mul_mod_self_left, Nat.add_mul_div_left _ _ hb, Nat.mod_eq_of_lt (by omega), Nat.div_eq_of_lt (by omega)]
    exact ⟨rfl, by omega⟩
  · intro h
    have e : 2 * A + x = (2 * r + x) + b * (2 * q) := by
      rw [show b * (2 * q) = 2 * (b * q) from Nat.mul_left_comm _ _ _]; omega
    rw [e, Nat.add_mul_mod_self_left, Nat.add_mul_div_left _ _ hb, Nat.mod_eq_of_lt (by omega), Nat.div_eq_of_lt (by omega)]
    exact ⟨rfl, by omega⟩
theorem or_bit {c i : Nat} : c * 2 ^ (i + 1) ||| 2 ^ i = c * 2 ^ (i + 1) + 2 ^ i := by
  rw [Nat.mul_comm, ← Nat.two_pow_add_eq_or_of_lt (Nat.pow_lt_pow_right (by decide) (by omega))]
theorem dv_step {a b i : Nat} (hb : 0 < b) : (b ≤ 2 * dvR a b (i + 1) + (a.testBit i).toNat → dvR a b i = 2 * dvR a b (i + 1) + (a.testBit i).toNat - b ∧ dvQ a b i = withN (dvQ a b (i + 1)) i true) ∧
    (¬ b ≤ 2 * dvR a b (i + 1) + (a.testBit i).toNat → dvR a b i = 2 * dvR a b (i + 1) + (a.testBit i).toNat ∧ dvQ a b i = dvQ a b (i + 1)) := by
  have hx : (a.testBit i).toNat ≤ 1 := by cases a.testBit i <;> decide
  obtain ⟨g1, g2⟩ := dv_gen (a / 2 ^ (i + 1)) b _ hb hx
  rw [← div_bit] at g1 g2
  unfold dvQ
  constructor
  · intro h
    obtain ⟨h1, h2⟩ := g1 h
    refine ⟨h1, ?_⟩
    rw [h2]
    unfold withN
    rw [if_pos rfl, or_bit, Nat.add_mul, Nat.one_mul, Nat.pow_succ, Nat.mul_comm 2, Nat.mul_assoc, Nat.mul_comm 2]
  · intro h
    obtain ⟨h1, h2⟩ := g2 h
    refine ⟨h1, ?_⟩
    rw [h2, Nat.pow_succ, Nat.mul_comm 2, Nat.mul_assoc, Nat.mul_comm 2]
theorem dvQ_lt {a : Nat} (b j : Nat) (ha : a < W) : dvQ a b j < W := by
  unfold dvQ
  have h1 : a / 2 ^ j / b * 2 ^ j ≤ a / 2 ^ j * 2 ^ j := Nat.mul_le_mul_right _ (Nat.div_le_self _ _)
  have h2 := Nat.div_mul_le_self a (2 ^ j)
  omega
theorem dv_start {a : Nat} (b : Nat) (ha : a < W) : dvR a b 256 = 0 ∧ dvQ a b 256 = 0 := by
  unfold dvR dvQ
  rw [show (2 : Nat) ^ 256 = W from rfl, Nat.div_eq_of_lt ha]
  simp
theorem dv_end (a b : Nat) : dvR a b 0 = a % b ∧ dvQ a b 0 = a / b := by
  unfold dvR dvQ; simp
/-! A product's rest, bit by bit. -/
def mmN (x b m j : Nat) : Nat := x * (b / 2 ^ j) % m
theorem mm_start {b : Nat} (x m : Nat) (hb : b < W) : mmN x b m 256 = 0 := by
  unfold mmN; rw [show (2 : Nat) ^ 256 = W from rfl, Nat.div_eq_of_lt hb]; simp
theorem mm_two (x b m j : Nat) : (mmN x b m j + mmN x b m j) % m = x * (2 * (b / 2 ^ j)) % m := by
  unfold mmN; rw [← Nat.add_mod]; congr 1; rw [Nat.mul_left_comm, Nat.two_mul]
theorem mm_no {x b m i : Nat} (h : b.testBit i = false) : (mmN x b m (i + 1) + mmN x b m (i + 1)) % m = mmN x b m i := by
  rw [mm_two]; unfold mmN; rw [div_no h]
theorem mm_yes {x b m i : Nat} (h : b.testBit i = true) (hx : x < m) : ((mmN x b m (i + 1) + mmN x b m (i + 1)) % m + x) % m = mmN x b m i := by
  rw [mm_two]; unfold mmN; rw [div_yes h, Nat.mul_add, Nat.mul_one]
  conv => lhs; rw [← Nat.mod_eq_of_lt hx, ← Nat.add_mod, Nat.mod_eq_of_lt hx]
theorem mm_end (a b m : Nat) : mmN (a % m) b m 0 = a * b % m := by
  unfold mmN; rw [Nat.pow_zero, Nat.div_one, Nat.mod_mul_mod]
theorem mm_lt {x b m j : Nat} (hm : 0 < m) : mmN x b m j < m := Nat.mod_lt _ hm
/-! Words moved by bits. -/
def bitsN (f : Nat → Bool) : Nat → Nat
  | 0 => 0
  | n + 1 => withN (bitsN f n) n (f n)
theorem tb_bitsN (f : Nat → Bool) (j : Nat) : ∀ n, (bitsN f n).testBit j = (decide (j < n) && f j)
  | 0 => by simp [bitsN]
  | n + 1 => by
    unfold bitsN
    rw [tb_withN, tb_bitsN f j n]
    by_cases h : j = n
    · rw [if_pos h, h]; simp
    · rw [if_neg h]
      have : decide (j < n) = decide (j < n + 1) := by rw [decide_eq_decide]; omega
      rw [this]
theorem bitsN_lt (f : Nat → Bool) {n : Nat} (h : n ≤ 256) : bitsN f n < W := lt_W_of fun j hj => by
  rw [tb_bitsN]; simp; omega
/-- Bit i of a word moved by d, with what is filled in. -/
def mvB (a : Nat) (d : Int) (fill : Bool) (i : Nat) : Bool := if 0 ≤ (i : Int) - d ∧ (i : Int) - d < 256 then a.testBit ((i : Int) - d).toNat else fill
/-- Bits above one like that one. -/
def eX (a t : Nat) : Nat → Nat
  | 0 => a
  | n + 1 => withN (eX a t n) (t + 1 + n) (a.testBit t)
theorem tb_eX (a t j : Nat) : ∀ n, (eX a t n).testBit j = if t < j ∧ j < t + 1 + n then a.testBit t else a.testBit j
  | 0 => by unfold eX; rw [if_neg (by omega)]
  | n + 1 => by
    unfold eX
    rw [tb_withN, tb_eX a t j n]
    by_cases h : j = t + 1 + n
    · rw [if_pos h, if_pos (by omega)]
    · rw [if_neg h]
      by_cases h2 : t < j ∧ j < t + 1 + n
      · rw [if_pos h2, if_pos (by omega)]
      · rw [if_neg h2, if_neg (by omega)]
theorem eX_lt {a : Nat} (ha : a < W) {t n : Nat} (h : t + 1 + n ≤ 256) : eX a t n < W := lt_W_of fun j hj => by
  rw [tb_eX, if_neg (by omega)]; exact tb_big ha j hj
theorem tb_shl (n a j : Nat) : (shlM n a).testBit j = (decide (j < 256) && (decide (min n 256 ≤ j) && a.testBit (j - min n 256))) := by
  unfold shlM shlN
  rw [sp_eq, show W = 2 ^ 256 from rfl, Nat.testBit_mod_two_pow, Nat.testBit_mul_two_pow]
theorem neg_tb {a : Nat} (ha : a < W) : negB a = a.testBit 255 := by
  unfold negB
  rw [Nat.testBit_eq_decide_div_mod_eq, decide_eq_decide]
  have e : W = 2 ^ 255 * 2 := by decide
  rw [e] at ha ⊢
  rw [Nat.mul_div_cancel _ (by decide)]
  have h1 : a / 2 ^ 255 < 2 := (Nat.div_lt_iff_lt_mul (by decide)).2 (by rw [Nat.mul_comm]; exact ha)
  have h2 := Nat.div_add_mod a (2 ^ 255)
  have h3 := Nat.mod_lt a (show 0 < 2 ^ 255 by decide)
  generalize a / 2 ^ 255 = q at *
  generalize a % 2 ^ 255 = r at *
  have : q = 0 ∨ q = 1 := by omega
  rcases this with rfl | rfl
  · simp; omega
  · simp; omega
theorem sgF_neg (a : Nat) : sgF a = if negB a = true then 18446744073709551615 else 0 := by unfold sgF negB; simp
theorem sgf_ne (x : Bool) : decide ((if x = true then 18446744073709551615 else 0) ≠ 0) = x := by cases x <;> rfl
theorem tb_shd {a : Nat} (ha : a < W) (n f j : Nat) : (shdM n a f).testBit j = (decide (j < 256) && if j + min n 256 < 256 then a.testBit (j + min n 256) else decide (f ≠ 0)) := by
  unfold shdM shdN
  rw [sp_eq, show W = 2 ^ 256 from rfl, Nat.testBit_mod_two_pow, Nat.testBit_div_two_pow]
  by_cases hj : j < 256
  · rw [tb_ext ha f _ (by omega)]
  · simp [hj]
theorem mv_shl (a : Nat) (n : Nat) : bitsN (mvB a ((min n 256 : Nat) : Int) false) 256 = shlM n a := by
  apply Nat.eq_of_testBit_eq
  intro j
  rw [tb_bitsN, tb_shl]
  by_cases hj : j < 256
  · unfold mvB
    by_cases hd : min n 256 ≤ j
    · rw [if_pos (by omega)]
      simp [hj, hd, show ((j : Int) - ((min n 256 : Nat) : Int)).toNat = j - min n 256 by omega]
    · rw [if_neg (by omega)]; simp [hd]
  · simp [hj]
theorem mv_shd {a : Nat} (ha : a < W) (n : Nat) (b : Bool) : bitsN (mvB a (-((min n 256 : Nat) : Int)) b) 256 = shdM n a (if b = true then 18446744073709551615 else 0) := by
  apply Nat.eq_of_testBit_eq
  intro j
  rw [tb_bitsN, tb_shd ha]
  by_cases hj : j < 256
  · unfold mvB
    by_cases hd : j + min n 256 < 256
    · rw [if_pos (by omega), if_pos hd]
      simp [hj, show ((j : Int) + ((min n 256 : Nat) : Int)).toNat = j + min n 256 by omega]
    · rw [if_neg (by omega), if_neg hd]; cases b <;> simp [hj]
  · simp [hj]
theorem ex_eX {a : Nat} (ha : a < W) (k : Nat) : exN k a = eX a (8 * min k 31 + 7) (255 - (8 * min k 31 + 7)) := by
  apply Nat.eq_of_testBit_eq
  intro j
  have hu : min (upN k) 256 = upN k := by unfold upN; omega
  have hu2 : upN k + (8 * min k 31 + 7) = 255 := by unfold upN; omega
  unfold exN
  rw [tb_shd (shlM_lt _ _), tb_shl, sgF_neg, sgf_ne, neg_tb (shlM_lt _ _), tb_shl, hu, tb_eX]
  generalize upN k = u at *
  generalize 8 * min k 31 + 7 = t at *
  by_cases hj : j < 256
  · by_cases h2 : j + u < 256
    · rw [if_pos h2, if_neg (by omega)]
      simp [hj, h2]
    · rw [if_neg h2, if_pos (by omega), show 255 - u = t by omega]
      cases ht : a.testBit t <;> simp [hj] <;> omega
  · rw [if_neg (show ¬ (t < j ∧ j < t + 1 + (255 - t)) by omega), tb_big ha j (by omega)]; simp [hj]
theorem eX_0 (a t : Nat) : eX a t 0 = a := rfl
end Go.Proofs.Ytajgdlekngcmjaa
