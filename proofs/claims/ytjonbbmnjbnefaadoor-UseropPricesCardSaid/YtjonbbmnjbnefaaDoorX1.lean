/-
 Exp of words, walked.
-/
import Derived.Test.YtjonbbmnjbnefaaDoorLB
import Derived.Test.YtjonbbmnjbnefaaDoorG1
import Derived.Laws.Bits64b
set_option maxRecDepth 10000
set_option linter.unusedVariables false
set_option linter.unusedSimpArgs false
namespace Go.Proofs.YtjonbbmnjbnefaaDoor
def withN (a i : Nat) (on : Bool) : Nat := if on = true then a ||| 2 ^ i else a ^^^ (a &&& 2 ^ i)
theorem tb_withN (a i : Nat) (on : Bool) (j : Nat) : (withN a i on).testBit j = if j = i then on else a.testBit j := by
 unfold withN
 cases on
 ·rw [if_neg (by decide), Nat.testBit_xor, Nat.testBit_and, Nat.testBit_two_pow]
  by_cases h : j = i
  ·subst h; simp
  ·rw [if_neg h]; simp [show ¬ i = j from fun e => h e.symm]
 ·rw [if_pos rfl, Nat.testBit_or, Nat.testBit_two_pow]
  by_cases h : j = i
  ·subst h; simp
  ·rw [if_neg h]; simp [show ¬ i = j from fun e => h e.symm]
theorem lt_W_of {a : Nat} (h : ∀ j, 256 ≤ j → a.testBit j = false) : a < W := by
 rw [show W = 2 ^ 256 from rfl]; exact Nat.lt_pow_two_of_testBit a h
theorem withN_lt {a : Nat} (ha : a < W) {i : Nat} (hi : i < 256) (on : Bool) : withN a i on < W :=
 lt_W_of fun j hj => by rw [tb_withN, if_neg (by omega)]; exact tb_big ha j hj
def lmB (x i : Nat) (on : Bool) : Nat := if on = true then x ||| 2 ^ (i % 64) else x ^^^ (x &&& 2 ^ (i % 64))
theorem lm_withN (a i k : Nat) (on : Bool) : lm (withN a i on) k = if k = i / 64 then lmB (lm a k) i on else lm a k := by
 apply Nat.eq_of_testBit_eq
 intro j
 rw [tb_lm, tb_withN]
 by_cases hk : k = i / 64
 ·rw [if_pos hk]
  have e : (lmB (lm a k) i on).testBit j = if j = i % 64 then on else (lm a k).testBit j := tb_withN (lm a k) (i % 64) on j
  rw [e, tb_lm]
  by_cases hj : j = i % 64
  ·rw [if_pos (by omega), if_pos hj]; simp; omega
  ·rw [if_neg hj]
   by_cases hj2 : j < 64
   ·rw [if_neg (by omega)]
   ·simp [hj2]
 ·rw [if_neg hk, tb_lm]
  by_cases hj2 : j < 64
  ·rw [if_neg (by omega)]
  ·simp [hj2]
def bitsN (f : Nat → Bool) : Nat → Nat
 | 0 => 0
 | n + 1 => withN (bitsN f n) n (f n)
theorem tb_bitsN (f : Nat → Bool) (j : Nat) : ∀ n, (bitsN f n).testBit j = (decide (j < n) && f j)
 | 0 => by simp [bitsN]
 | n + 1 => by
  unfold bitsN
  rw [tb_withN, tb_bitsN f j n]
  by_cases h : j = n
  ·rw [if_pos h, h]; simp
  ·rw [if_neg h]
   have : decide (j < n) = decide (j < n + 1) := by rw [decide_eq_decide]; omega
   rw [this]
theorem bitsN_lt (f : Nat → Bool) {n : Nat} (h : n ≤ 256) : bitsN f n < W := lt_W_of fun j hj => by
 rw [tb_bitsN]; simp; omega
def mvB (a : Nat) (d : Int) (fill : Bool) (i : Nat) : Bool := if 0 ≤ (i : Int) - d ∧ (i : Int) - d < 256 then a.testBit ((i : Int) - d).toNat else fill
theorem tb_shd {a : Nat} (ha : a < W) (n f j : Nat) : (shdM n a f).testBit j = (decide (j < 256) && if j + min n 256 < 256 then a.testBit (j + min n 256) else decide (f ≠ 0)) := by
 unfold shdM shdN
 rw [sp_eq, show W = 2 ^ 256 from rfl, Nat.testBit_mod_two_pow, Nat.testBit_div_two_pow]
 by_cases hj : j < 256
 ·rw [tb_ext ha f _ (by omega)]
 ·simp [hj]
theorem mv_shd {a : Nat} (ha : a < W) (n : Nat) (b : Bool) : bitsN (mvB a (-((min n 256 : Nat) : Int)) b) 256 = shdM n a (if b = true then 18446744073709551615 else 0) := by
 apply Nat.eq_of_testBit_eq
 intro j
 rw [tb_bitsN, tb_shd ha]
 by_cases hj : j < 256
 ·unfold mvB
  by_cases hd : j + min n 256 < 256
  ·rw [if_pos (by omega), if_pos hd]
   simp [hj, show ((j : Int) + ((min n 256 : Nat) : Int)).toNat = j + min n 256 by omega]
  ·rw [if_neg (by omega), if_neg hd]; cases b <;> simp [hj]
 ·simp [hj]
end Go.Proofs.YtjonbbmnjbnefaaDoor
namespace Go.Proofs.YtjonbbmnjbnefaaDoor
open Go.RowKit
theorem limb_bit (e i : Nat) : lm e (i / 64) / 2 ^ (i % 64) % 2 = e / 2 ^ i % 2 := by
 unfold lm
 rw [show (18446744073709551616 : Nat) = 2 ^ 64 from rfl, ← Nat.pow_mul]
 have h1 : i % 64 < 64 := Nat.mod_lt _ (by decide)
 have h2 : (2 : Nat) ^ 64 = 2 ^ (i % 64) * 2 ^ (64 - i % 64) := by rw [← Nat.pow_add]; congr 1; omega
 have h3 : e / 2 ^ (64 * (i / 64)) % 2 ^ 64 / 2 ^ (i % 64) = e / 2 ^ i % 2 ^ (64 - i % 64) := by
  rw [h2, Nat.mod_mul_right_div_self, Nat.div_div_eq_div_mul, ← Nat.pow_add]
  congr 2
  congr 1
  omega
 rw [h3]
 exact Nat.mod_mod_of_dvd _ (by
  have : (2 : Nat) ^ (64 - i % 64) = 2 * 2 ^ (64 - i % 64 - 1) := by rw [← Nat.pow_succ']; congr 1; omega
  rw [this]; exact Nat.dvd_mul_right _ _)
end Go.Proofs.YtjonbbmnjbnefaaDoor
namespace Go.Proofs.YtjonbbmnjbnefaaDoor
open Go.RowKit
theorem and_one (x : Nat) (h : x < 18446744073709551616) : bits .and .u64 (x : Int) 1 = ((x % 2 : Nat) : Int) := by
 have := bits_and_u64_nat x 1 h (by decide)
 rw [Nat.and_one_is_mod] at this
 exact this
theorem exp_bit {e k : Nat} (hk : k < 256) : (decide (bits .and .u64 (((lm e ((k : Int) / 64).toNat : Nat) : Int) / 2 ^ min ((k : Int) % 64).toNat 64) 1 = 1)) = decide (e / 2 ^ k % 2 = 1) := by
 have h1 : ((k : Int) / 64).toNat = k / 64 := by omega
 have h2 : min ((k : Int) % 64).toNat 64 = k % 64 := by omega
 rw [h1, h2]
 have h3 : ((lm e (k / 64) : Nat) : Int) / 2 ^ (k % 64) = ((lm e (k / 64) / 2 ^ (k % 64) : Nat) : Int) := by rw [Int.natCast_ediv, Int.natCast_pow]; rfl
 rw [h3, and_one _ (Nat.lt_of_le_of_lt (Nat.div_le_self _ _) (lm_lt _ _)), limb_bit, decide_eq_decide]
 omega
end Go.Proofs.YtjonbbmnjbnefaaDoor
