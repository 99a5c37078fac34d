/-
  The document's answers for words (quaestorref01), walked: Neg, Sub, Scmp, bit; their table.
-/
import Derived.Test.YtnncomlliobobaaDoorR2
import Derived.Test.YtnncomlliobobaaDoorX1
namespace Go.Proofs.YtnncomlliobobaaDoor
set_option linter.unusedSimpArgs false
set_option linter.unusedVariables false
set_option maxRecDepth 10000
open Go.RowKit
def G6 : Ctr := fun f args m => match f with
  | 30 => g_lowByte args m
  | 28 => g_Read args m
  | 21 => g_Bytes args m
  | _ => .none
theorem G6_ok : GOk Tryd.prog G6 := by
  intro w0 B f args m; unfold G6; split
  · exact g_lowByte_ok _ _ _ _
  · exact g_Read_ok _ _ _ _
  · exact g_Bytes_ok _ _ _ _
  · exact trivial
theorem G6_lowByte : G6 30 = g_lowByte := by funext args m; rfl
theorem G6_Read : G6 28 = g_Read := by funext args m; rfl
theorem G6_Bytes : G6 21 = g_Bytes := by funext args m; rfl

theorem neg_num {a : Nat} (ha : a < W) : addN (W - 1 - a) 1 = subN 0 a := by
  unfold addN subN
  rw [show W - 1 - a + 1 = 0 + W - a by omega]
def G7 : Ctr := fun f args m => match f with
  | 30 => g_lowByte args m
  | 28 => g_Read args m
  | 21 => g_Bytes args m
  | _ => .none
theorem G7_ok : GOk Tryd.prog G7 := by
  intro w0 B f args m; unfold G7; split
  · exact g_lowByte_ok _ _ _ _
  · exact g_Read_ok _ _ _ _
  · exact g_Bytes_ok _ _ _ _
  · exact trivial
theorem G7_lowByte : G7 30 = g_lowByte := by funext args m; rfl
theorem G7_Read : G7 28 = g_Read := by funext args m; rfl
theorem G7_Bytes : G7 21 = g_Bytes := by funext args m; rfl

theorem sub_num2 {a b : Nat} (ha : a < W) (hb : b < W) : addN a (subN 0 b) = subN a b := by
  unfold addN subN
  rw [Nat.add_mod_mod]
  congr 1; omega
theorem cmp_lt (a b : Nat) : decide (cmpI a b < 0) = subB a b := by
  unfold cmpI subB
  by_cases h : a = b
  · subst h; simp
  · by_cases h2 : a < b
    · rw [if_neg h, if_pos h2]; simp [h2]
    · rw [if_neg h, if_neg h2]; simp [h2]
end Go.Proofs.YtnncomlliobobaaDoor
