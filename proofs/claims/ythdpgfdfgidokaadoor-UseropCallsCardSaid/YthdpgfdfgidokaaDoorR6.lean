/-
 The document's quotient (quaestorref01.Div), walked: bit by bit.
-/
import Derived.Test.YthdpgfdfgidokaaDoorRE
import Derived.Test.YthdpgfdfgidokaaDoorR3
import Derived.Test.YthdpgfdfgidokaaDoorEO
set_option maxRecDepth 10000
set_option linter.defProp false
set_option linter.unusedVariables false
set_option linter.unusedSimpArgs false
namespace Go.Proofs.YthdpgfdfgidokaaDoor
def withN (a i : Nat) (on : Bool) : Nat := if on = true then a ||| 2 ^ i else a ^^^ (a &&& 2 ^ i)
theorem tb_withN (a i : Nat) (on : Bool) (j : Nat) : (withN a i on).testBit j = if j = i then on else a.testBit j := by
 unfold withN
 cases on
 ·rw [if_neg (by decide), Nat.testBit_xor, Nat.testBit_and, Nat.testBit_two_pow]
  by_cases h : j = i
  ·subst h; simp
  ·rw [if_neg h]; simp [show ¬ i = j from fun e => h e.symm]
 ·rw [if_pos rfl, Nat.testBit_or, Nat.testBit_two_pow]
  by_cases h : j = i
  ·subst h; simp
  ·rw [if_neg h]; simp [show ¬ i = j from fun e => h e.symm]
theorem lt_W_of {a : Nat} (h : ∀ j, 256 ≤ j → a.testBit j = false) : a < W := by
 rw [show W = 2 ^ 256 from rfl]; exact Nat.lt_pow_two_of_testBit a h
theorem withN_lt {a : Nat} (ha : a < W) {i : Nat} (hi : i < 256) (on : Bool) : withN a i on < W :=
 lt_W_of fun j hj => by rw [tb_withN, if_neg (by omega)]; exact tb_big ha j hj
def lmB (x i : Nat) (on : Bool) : Nat := if on = true then x ||| 2 ^ (i % 64) else x ^^^ (x &&& 2 ^ (i % 64))
theorem lm_withN (a i k : Nat) (on : Bool) : lm (withN a i on) k = if k = i / 64 then lmB (lm a k) i on else lm a k := by
 apply Nat.eq_of_testBit_eq
 intro j
 rw [tb_lm, tb_withN]
 by_cases hk : k = i / 64
 ·rw [if_pos hk]
  have e : (lmB (lm a k) i on).testBit j = if j = i % 64 then on else (lm a k).testBit j := tb_withN (lm a k) (i % 64) on j
  rw [e, tb_lm]
  by_cases hj : j = i % 64
  ·rw [if_pos (by omega), if_pos hj]; simp; omega
  ·rw [if_neg hj]
   by_cases hj2 : j < 64
   ·rw [if_neg (by omega)]
   ·simp [hj2]
 ·rw [if_neg hk, tb_lm]
  by_cases hj2 : j < 64
  ·rw [if_neg (by omega)]
  ·simp [hj2]
def bitsN (f : Nat → Bool) : Nat → Nat
 | 0 => 0
 | n + 1 => withN (bitsN f n) n (f n)
theorem tb_bitsN (f : Nat → Bool) (j : Nat) : ∀ n, (bitsN f n).testBit j = (decide (j < n) && f j)
 | 0 => by simp [bitsN]
 | n + 1 => by
  unfold bitsN
  rw [tb_withN, tb_bitsN f j n]
  by_cases h : j = n
  ·rw [if_pos h, h]; simp
  ·rw [if_neg h]
   have : decide (j < n) = decide (j < n + 1) := by rw [decide_eq_decide]; omega
   rw [this]
theorem bitsN_lt (f : Nat → Bool) {n : Nat} (h : n ≤ 256) : bitsN f n < W := lt_W_of fun j hj => by
 rw [tb_bitsN]; simp; omega
def mvB (a : Nat) (d : Int) (fill : Bool) (i : Nat) : Bool := if 0 ≤ (i : Int) - d ∧ (i : Int) - d < 256 then a.testBit ((i : Int) - d).toNat else fill
theorem tb_shl (n a j : Nat) : (shlM n a).testBit j = (decide (j < 256) && (decide (min n 256 ≤ j) && a.testBit (j - min n 256))) := by
 unfold shlM shlN
 rw [sp_eq, show W = 2 ^ 256 from rfl, Nat.testBit_mod_two_pow, Nat.testBit_mul_two_pow]
theorem tb_shd {a : Nat} (ha : a < W) (n f j : Nat) : (shdM n a f).testBit j = (decide (j < 256) && if j + min n 256 < 256 then a.testBit (j + min n 256) else decide (f ≠ 0)) := by
 unfold shdM shdN
 rw [sp_eq, show W = 2 ^ 256 from rfl, Nat.testBit_mod_two_pow, Nat.testBit_div_two_pow]
 by_cases hj : j < 256
 ·rw [tb_ext ha f _ (by omega)]
 ·simp [hj]
theorem mv_shl (a : Nat) (n : Nat) : bitsN (mvB a ((min n 256 : Nat) : Int) false) 256 = shlM n a := by
 apply Nat.eq_of_testBit_eq
 intro j
 rw [tb_bitsN, tb_shl]
 by_cases hj : j < 256
 ·unfold mvB
  by_cases hd : min n 256 ≤ j
  ·rw [if_pos (by omega)]
   simp [hj, hd, show ((j : Int) - ((min n 256 : Nat) : Int)).toNat = j - min n 256 by omega]
  ·rw [if_neg (by omega)]; simp [hd]
 ·simp [hj]
theorem mv_shd {a : Nat} (ha : a < W) (n : Nat) (b : Bool) : bitsN (mvB a (-((min n 256 : Nat) : Int)) b) 256 = shdM n a (if b = true then 18446744073709551615 else 0) := by
 apply Nat.eq_of_testBit_eq
 intro j
 rw [tb_bitsN, tb_shd ha]
 by_cases hj : j < 256
 ·unfold mvB
  by_cases hd : j + min n 256 < 256
  ·rw [if_pos (by omega), if_pos hd]
   simp [hj, show ((j : Int) + ((min n 256 : Nat) : Int)).toNat = j + min n 256 by omega]
  ·rw [if_neg (by omega), if_neg hd]; cases b <;> simp [hj]
 ·simp [hj]
end Go.Proofs.YthdpgfdfgidokaaDoor
namespace Go.Proofs.YthdpgfdfgidokaaDoor
open Go.RowKit
noncomputable def GC : Ctr := fun f args m => match f with
 | 52 => g_From args m
 | 43 => g_rFrom args m
 | 141 => g_Small args m
 | 109 => g_lowByte args m
 | 120 => g_Shl args m
 | 89 => g_Shr args m
 | 54 => g_Cmp args m
 | 53 => g_Add args m
 | 51 => g_Mul args m
 | 93 => g_length args m
 | 102 => g_Read args m
 | 79 => g_Addr args m
 | 67 => g_Wide args m
 | 101 => g_Bytes args m
 | 55 => g_rAdd args m
 | 41 => g_rCmp args m
 | 116 => g_rbit args m
 | _ => .none
theorem GC_ok : GOk Tryd.prog GC := by
 intro w0 B f args m; unfold GC; split
 ·exact g_From_ok _ _ _ _
 ·exact g_rFrom_ok _ _ _ _
 ·exact g_Small_ok _ _ _ _
 ·exact g_lowByte_ok _ _ _ _
 ·exact g_Shl_ok _ _ _ _
 ·exact g_Shr_ok _ _ _ _
 ·exact g_Cmp_ok _ _ _ _
 ·exact g_Add_ok _ _ _ _
 ·exact g_Mul_ok _ _ _ _
 ·exact g_length_ok _ _ _ _
 ·exact g_Read_ok _ _ _ _
 ·exact g_Addr_ok _ _ _ _
 ·exact g_Wide_ok _ _ _ _
 ·exact g_Bytes_ok _ _ _ _
 ·exact g_rAdd_ok _ _ _ _
 ·exact g_rCmp_ok _ _ _ _
 ·exact g_rbit_ok _ _ _ _
 ·exact trivial
theorem GC_From : GC 52 = g_From := by funext args m; rfl
theorem GC_rFrom : GC 43 = g_rFrom := by funext args m; rfl
theorem GC_Small : GC 141 = g_Small := by funext args m; rfl
theorem GC_lowByte : GC 109 = g_lowByte := by funext args m; rfl
theorem GC_Shl : GC 120 = g_Shl := by funext args m; rfl
theorem GC_Shr : GC 89 = g_Shr := by funext args m; rfl
theorem GC_Cmp : GC 54 = g_Cmp := by funext args m; rfl
theorem GC_Add : GC 53 = g_Add := by funext args m; rfl
theorem GC_Mul : GC 51 = g_Mul := by funext args m; rfl
theorem GC_length : GC 93 = g_length := by funext args m; rfl
theorem GC_Read : GC 102 = g_Read := by funext args m; rfl
theorem GC_Addr : GC 79 = g_Addr := by funext args m; rfl
theorem GC_Wide : GC 67 = g_Wide := by funext args m; rfl
theorem GC_Bytes : GC 101 = g_Bytes := by funext args m; rfl
theorem GC_rAdd : GC 55 = g_rAdd := by funext args m; rfl
theorem GC_rCmp : GC 41 = g_rCmp := by funext args m; rfl
theorem GC_rbit : GC 116 = g_rbit := by funext args m; rfl
def GC_set := And.intro (And.intro (And.intro (And.intro (And.intro (@GC_From) (@g_From.eq_def)) (And.intro (@GC_rFrom) (@g_rFrom.eq_def))) (And.intro (And.intro (@GC_Small) (@g_Small.eq_def)) (And.intro (@GC_lowByte) (@g_lowByte.eq_def)))) (And.intro (And.intro (And.intro (@GC_Shl) (@g_Shl.eq_def)) (And.intro (@GC_Shr) (@g_Shr.eq_def))) (And.intro (And.intro (@GC_Cmp) (@g_Cmp.eq_def)) (And.intro (@GC_Add) (And.intro (@g_Add.eq_def) (@GC_Mul)))))) (And.intro (And.intro (And.intro (And.intro (@g_Mul.eq_def) (@GC_length)) (And.intro (@g_length.eq_def) (@GC_Read))) (And.intro (And.intro (@g_Read.eq_def) (@GC_Addr)) (And.intro (@g_Addr.eq_def) (@GC_Wide)))) (And.intro (And.intro (And.intro (@g_Wide.eq_def) (@GC_Bytes)) (And.intro (@g_Bytes.eq_def) (@GC_rAdd))) (And.intro (And.intro (@g_rAdd.eq_def) (@GC_rCmp)) (And.intro (@g_rCmp.eq_def) (And.intro (@GC_rbit) (@g_rbit.eq_def))))))

theorem lmI_with (q i : Nat) (hi : i < 256) (on : Bool) : (lmI q).set (i / 64) ((lmB (lm q (i / 64)) i on : Nat) : Int) = lmI (withN q i on) := by
 unfold lmI
 rw [lm_withN, lm_withN, lm_withN, lm_withN]
 have : i / 64 = 0 ∨ i / 64 = 1 ∨ i / 64 = 2 ∨ i / 64 = 3 := by omega
 rcases this with h | h | h | h <;> rw [h] <;> rfl
theorem wrap_bit (i : Nat) : IntKind.u64.wrap (1 * 2 ^ min ((i : Int) % 64).toNat 64) = ((2 ^ (i % 64) : Nat) : Int) := by
 have h1 : min ((i : Int) % 64).toNat 64 = i % 64 := by omega
 have h2 : 2 ^ (i % 64) < 2 ^ 64 := Nat.pow_lt_pow_right (by decide) (by omega)
 rw [h1, Int.one_mul, wrap_u64 (Int.le_of_lt (Int.pow_pos (by decide))) ?_]
 ·rw [Int.natCast_pow]; rfl
 ·have : ((2 ^ (i % 64) : Nat) : Int) = (2 : Int) ^ (i % 64) := by rw [Int.natCast_pow]; rfl
  rw [← this]; omega
theorem put_bit (q i : Nat) (hi : i < 256) : (lmI q).set ((i : Int) / 64).toNat (bits .or .u64 ((lmI q).getD ((i : Int) / 64).toNat 0) (IntKind.u64.wrap (1 * 2 ^ min ((i : Int) % 64).toNat 64))) = lmI (withN q i true) := by
 have h2 : 2 ^ (i % 64) < 18446744073709551616 := (Nat.pow_lt_pow_right (by decide) (by omega) : 2 ^ (i % 64) < 2 ^ 64)
 rw [show ((i : Int) / 64).toNat = i / 64 by omega, wrap_bit, lmI_get _ _ (by omega), bits_or_u64_nat _ _ (lm_lt _ _) h2, ← lmI_with q i hi true]
 rfl
end Go.Proofs.YthdpgfdfgidokaaDoor
