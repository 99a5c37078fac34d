/-
  The document's shifts (quaestorref01), walked: Small, with, far, shift, Shl, Shr, Sar, Extend.
-/
import Derived.Test.YtnncomlliobobaaDoorR6
namespace Go.Proofs.YtnncomlliobobaaDoor
set_option linter.unusedSimpArgs false
set_option linter.unusedVariables false
set_option maxRecDepth 10000
open Go.RowKit
theorem small_eq {a : Nat} (ha : a < W) : (lm a 1 = 0 ∧ lm a 2 = 0 ∧ lm a 3 = 0 → smN a = lm a 0 ∧ smB a = true) ∧ (¬ (lm a 1 = 0 ∧ lm a 2 = 0 ∧ lm a 3 = 0) → smN a = 0 ∧ smB a = false) := by
  have h := num_lm ha
  have h0 := lm_lt a 0
  unfold num at h
  constructor
  · rintro ⟨h1, h2, h3⟩
    rw [h1, h2, h3] at h
    unfold smN smB
    have : a < 18446744073709551616 := by omega
    exact ⟨by rw [if_pos this]; omega, decide_eq_true this⟩
  · intro hn
    have : ¬ a < 18446744073709551616 := by omega
    unfold smN smB
    exact ⟨by rw [if_neg this], decide_eq_false this⟩
theorem ne0_t {n : Nat} (h : n = 0) : decide (((n : Nat) : Int) = 0) = true := decide_eq_true (by omega)
theorem ne0_f {n : Nat} (h : ¬ n = 0) : decide (((n : Nat) : Int) = 0) = false := decide_eq_false (by omega)
def GK : Ctr := fun f args m => match f with
  | 30 => g_lowByte args m
  | 28 => g_Read args m
  | 21 => g_Bytes args m
  | _ => .none
theorem GK_ok : GOk Tryd.prog GK := by
  intro w0 B f args m; unfold GK; split
  · exact g_lowByte_ok _ _ _ _
  · exact g_Read_ok _ _ _ _
  · exact g_Bytes_ok _ _ _ _
  · exact trivial
theorem GK_lowByte : GK 30 = g_lowByte := by funext args m; rfl
theorem GK_Read : GK 28 = g_Read := by funext args m; rfl
theorem GK_Bytes : GK 21 = g_Bytes := by funext args m; rfl

end Go.Proofs.YtnncomlliobobaaDoor
