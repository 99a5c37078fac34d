/-
  The document's answers for words (quaestorref01), walked: Neg, Sub, Scmp, bit; their table.
-/
import Derived.Test.YtajgdlekngcmjaaR2
import Derived.Test.YtajgdlekngcmjaaX1
namespace Go.Proofs.Ytajgdlekngcmjaa
set_option linter.unusedSimpArgs false
set_option linter.unusedVariables false
open Go.RowKit
def G6 : Ctr := fun f args m => match f with
  | 29 => g_From args m
  | 26 => g_Small args m
  | 24 => g_Read args m
  | _ => .none
theorem G6_ok : GOk Try.prog G6 := by
  intro w0 B f args m; unfold G6; split
  · exact g_From_ok _ _ _ _
  · exact g_Small_ok _ _ _ _
  · exact g_Read_ok _ _ _ _
  · exact trivial
theorem G6_From : G6 29 = g_From := by funext args m; rfl
theorem G6_Small : G6 26 = g_Small := by funext args m; rfl
theorem G6_Read : G6 24 = g_Read := by funext args m; rfl

theorem neg_num {a : Nat} (ha : a < W) : addN (W - 1 - a) 1 = subN 0 a := by
  unfold addN subN
  rw [show W - 1 - a + 1 = 0 + W - a by omega]
def G7 : Ctr := fun f args m => match f with
  | 29 => g_From args m
  | 26 => g_Small args m
  | 24 => g_Read args m
  | _ => .none
theorem G7_ok : GOk Try.prog G7 := by
  intro w0 B f args m; unfold G7; split
  · exact g_From_ok _ _ _ _
  · exact g_Small_ok _ _ _ _
  · exact g_Read_ok _ _ _ _
  · exact trivial
theorem G7_From : G7 29 = g_From := by funext args m; rfl
theorem G7_Small : G7 26 = g_Small := by funext args m; rfl
theorem G7_Read : G7 24 = g_Read := by funext args m; rfl

theorem sub_num2 {a b : Nat} (ha : a < W) (hb : b < W) : addN a (subN 0 b) = subN a b := by
  unfold addN subN
  rw [Nat.add_mod_mod]
  congr 1; omega
theorem cmp_lt (a b : Nat) : decide (cmpI a b < 0) = subB a b := by
  unfold cmpI subB
  by_cases h : a = b
  · subst h; simp
  · by_cases h2 : a < b
    · rw [if_neg h, if_pos h2]; simp [h2]
    · rw [if_neg h, if_neg h2]; simp [h2]
end Go.Proofs.Ytajgdlekngcmjaa
