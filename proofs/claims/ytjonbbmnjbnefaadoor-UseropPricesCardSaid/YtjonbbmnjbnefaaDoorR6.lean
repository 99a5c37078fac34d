/-
 The document's quotient (quaestorref01.Div), walked: bit by bit.
-/
import Derived.Test.YtjonbbmnjbnefaaDoorRN
import Derived.Test.YtjonbbmnjbnefaaDoorX1
import Derived.Test.YtjonbbmnjbnefaaDoorEO
set_option maxRecDepth 10000
set_option linter.defProp false
set_option linter.unusedVariables false
set_option linter.unusedSimpArgs false
namespace Go.Proofs.YtjonbbmnjbnefaaDoor
open Go.RowKit
noncomputable def GC : Ctr := fun f args m => match f with
 | 52 => g_From args m
 | 43 => g_rFrom args m
 | 141 => g_Small args m
 | 109 => g_lowByte args m
 | 120 => g_Shl args m
 | 89 => g_Shr args m
 | 54 => g_Cmp args m
 | 53 => g_Add args m
 | 51 => g_Mul args m
 | 93 => g_length args m
 | 102 => g_Read args m
 | 79 => g_Addr args m
 | 67 => g_Wide args m
 | 101 => g_Bytes args m
 | 55 => g_rAdd args m
 | 41 => g_rCmp args m
 | 116 => g_rbit args m
 | _ => .none
theorem GC_ok : GOk Tryd.prog GC := by
 intro w0 B f args m; unfold GC; split
 ·exact g_From_ok _ _ _ _
 ·exact g_rFrom_ok _ _ _ _
 ·exact g_Small_ok _ _ _ _
 ·exact g_lowByte_ok _ _ _ _
 ·exact g_Shl_ok _ _ _ _
 ·exact g_Shr_ok _ _ _ _
 ·exact g_Cmp_ok _ _ _ _
 ·exact g_Add_ok _ _ _ _
 ·exact g_Mul_ok _ _ _ _
 ·exact g_length_ok _ _ _ _
 ·exact g_Read_ok _ _ _ _
 ·exact g_Addr_ok _ _ _ _
 ·exact g_Wide_ok _ _ _ _
 ·exact g_Bytes_ok _ _ _ _
 ·exact g_rAdd_ok _ _ _ _
 ·exact g_rCmp_ok _ _ _ _
 ·exact g_rbit_ok _ _ _ _
 ·exact trivial
theorem GC_From : GC 52 = g_From := by funext args m; rfl
theorem GC_rFrom : GC 43 = g_rFrom := by funext args m; rfl
theorem GC_Small : GC 141 = g_Small := by funext args m; rfl
theorem GC_lowByte : GC 109 = g_lowByte := by funext args m; rfl
theorem GC_Shl : GC 120 = g_Shl := by funext args m; rfl
theorem GC_Shr : GC 89 = g_Shr := by funext args m; rfl
theorem GC_Cmp : GC 54 = g_Cmp := by funext args m; rfl
theorem GC_Add : GC 53 = g_Add := by funext args m; rfl
theorem GC_Mul : GC 51 = g_Mul := by funext args m; rfl
theorem GC_length : GC 93 = g_length := by funext args m; rfl
theorem GC_Read : GC 102 = g_Read := by funext args m; rfl
theorem GC_Addr : GC 79 = g_Addr := by funext args m; rfl
theorem GC_Wide : GC 67 = g_Wide := by funext args m; rfl
theorem GC_Bytes : GC 101 = g_Bytes := by funext args m; rfl
theorem GC_rAdd : GC 55 = g_rAdd := by funext args m; rfl
theorem GC_rCmp : GC 41 = g_rCmp := by funext args m; rfl
theorem GC_rbit : GC 116 = g_rbit := by funext args m; rfl
def GC_set := And.intro (And.intro (And.intro (And.intro (And.intro (@GC_From) (@g_From.eq_def)) (And.intro (@GC_rFrom) (@g_rFrom.eq_def))) (And.intro (And.intro (@GC_Small) (@g_Small.eq_def)) (And.intro (@GC_lowByte) (@g_lowByte.eq_def)))) (And.intro (And.intro (And.intro (@GC_Shl) (@g_Shl.eq_def)) (And.intro (@GC_Shr) (@g_Shr.eq_def))) (And.intro (And.intro (@GC_Cmp) (@g_Cmp.eq_def)) (And.intro (@GC_Add) (And.intro (@g_Add.eq_def) (@GC_Mul)))))) (And.intro (And.intro (And.intro (And.intro (@g_Mul.eq_def) (@GC_length)) (And.intro (@g_length.eq_def) (@GC_Read))) (And.intro (And.intro (@g_Read.eq_def) (@GC_Addr)) (And.intro (@g_Addr.eq_def) (@GC_Wide)))) (And.intro (And.intro (And.intro (@g_Wide.eq_def) (@GC_Bytes)) (And.intro (@g_Bytes.eq_def) (@GC_rAdd))) (And.intro (And.intro (@g_rAdd.eq_def) (@GC_rCmp)) (And.intro (@g_rCmp.eq_def) (And.intro (@GC_rbit) (@g_rbit.eq_def))))))

theorem lmI_with (q i : Nat) (hi : i < 256) (on : Bool) : (lmI q).set (i / 64) ((lmB (lm q (i / 64)) i on : Nat) : Int) = lmI (withN q i on) := by
 unfold lmI
 rw [lm_withN, lm_withN, lm_withN, lm_withN]
 have : i / 64 = 0 ∨ i / 64 = 1 ∨ i / 64 = 2 ∨ i / 64 = 3 := by omega
 rcases this with h | h | h | h <;> rw [h] <;> rfl
theorem wrap_bit (i : Nat) : IntKind.u64.wrap (1 * 2 ^ min ((i : Int) % 64).toNat 64) = ((2 ^ (i % 64) : Nat) : Int) := by
 have h1 : min ((i : Int) % 64).toNat 64 = i % 64 := by omega
 have h2 : 2 ^ (i % 64) < 2 ^ 64 := Nat.pow_lt_pow_right (by decide) (by omega)
 rw [h1, Int.one_mul, wrap_u64 (Int.le_of_lt (Int.pow_pos (by decide))) ?_]
 ·rw [Int.natCast_pow]; rfl
 ·have : ((2 ^ (i % 64) : Nat) : Int) = (2 : Int) ^ (i % 64) := by rw [Int.natCast_pow]; rfl
  rw [← this]; omega
theorem put_bit (q i : Nat) (hi : i < 256) : (lmI q).set ((i : Int) / 64).toNat (bits .or .u64 ((lmI q).getD ((i : Int) / 64).toNat 0) (IntKind.u64.wrap (1 * 2 ^ min ((i : Int) % 64).toNat 64))) = lmI (withN q i true) := by
 have h2 : 2 ^ (i % 64) < 18446744073709551616 := (Nat.pow_lt_pow_right (by decide) (by omega) : 2 ^ (i % 64) < 2 ^ 64)
 rw [show ((i : Int) / 64).toNat = i / 64 by omega, wrap_bit, lmI_get _ _ (by omega), bits_or_u64_nat _ _ (lm_lt _ _) h2, ← lmI_with q i hi true]
 rfl
theorem allU_0 : allU [0, 0, 0, 0] := ⟨by omega, by omega, by omega, by omega, trivial⟩
end Go.Proofs.YtjonbbmnjbnefaaDoor
