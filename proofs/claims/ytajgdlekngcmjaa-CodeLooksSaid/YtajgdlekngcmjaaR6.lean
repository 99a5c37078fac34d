/-
  The document's quotient (quaestorref01.Div), walked: bit by bit.
-/
import Derived.Test.YtajgdlekngcmjaaR3
import Derived.Test.YtajgdlekngcmjaaBI
import Derived.Test.YtajgdlekngcmjaaEO
namespace Go.Proofs.Ytajgdlekngcmjaa
set_option linter.unusedSimpArgs false
set_option linter.unusedVariables false
open Go.RowKit
def GC : Ctr := fun f args m => match f with
  | 29 => g_From args m
  | 26 => g_Small args m
  | 24 => g_Read args m
  | _ => .none
theorem GC_ok : GOk Try.prog GC := by
  intro w0 B f args m; unfold GC; split
  · exact g_From_ok _ _ _ _
  · exact g_Small_ok _ _ _ _
  · exact g_Read_ok _ _ _ _
  · exact trivial
theorem GC_From : GC 29 = g_From := by funext args m; rfl
theorem GC_Small : GC 26 = g_Small := by funext args m; rfl
theorem GC_Read : GC 24 = g_Read := by funext args m; rfl

def GD : Ctr := fun f args m => match f with
  | 29 => g_From args m
  | 26 => g_Small args m
  | 24 => g_Read args m
  | _ => .none
theorem GD_ok : GOk Try.prog GD := by
  intro w0 B f args m; unfold GD; split
  · exact g_From_ok _ _ _ _
  · exact g_Small_ok _ _ _ _
  · exact g_Read_ok _ _ _ _
  · exact trivial
theorem GD_From : GD 29 = g_From := by funext args m; rfl
theorem GD_Small : GD 26 = g_Small := by funext args m; rfl
theorem GD_Read : GD 24 = g_Read := by funext args m; rfl

theorem lmI_with (q i : Nat) (hi : i < 256) (on : Bool) : (lmI q).set (i / 64) ((lmB (lm q (i / 64)) i on : Nat) : Int) = lmI (withN q i on) := by
  unfold lmI
  rw [lm_withN, lm_withN, lm_withN, lm_withN]
  have : i / 64 = 0 ∨ i / 64 = 1 ∨ i / 64 = 2 ∨ i / 64 = 3 := by omega
  rcases this with h | h | h | h <;> rw [h] <;> rfl
theorem wrap_bit (i : Nat) : IntKind.u64.wrap (1 * 2 ^ min ((i : Int) % 64).toNat 64) = ((2 ^ (i % 64) : Nat) : Int) := by
  have h1 : min ((i : Int) % 64).toNat 64 = i % 64 := by omega
  have h2 : 2 ^ (i % 64) < 2 ^ 64 := Nat.pow_lt_pow_right (by decide) (by omega)
  rw [h1, Int.one_mul, wrap_u64 (Int.le_of_lt (Int.pow_pos (by decide))) ?_]
  · rw [Int.natCast_pow]; rfl
  · have : ((2 ^ (i % 64) : Nat) : Int) = (2 : Int) ^ (i % 64) := by rw [Int.natCast_pow]; rfl
    rw [← this]; omega
/-- A bit put into a part. -/
theorem put_bit (q i : Nat) (hi : i < 256) : (lmI q).set ((i : Int) / 64).toNat (bits .or .u64 ((lmI q).getD ((i : Int) / 64).toNat 0) (IntKind.u64.wrap (1 * 2 ^ min ((i : Int) % 64).toNat 64))) = lmI (withN q i true) := by
  have h2 : 2 ^ (i % 64) < 18446744073709551616 := (Nat.pow_lt_pow_right (by decide) (by omega) : 2 ^ (i % 64) < 2 ^ 64)
  rw [show ((i : Int) / 64).toNat = i / 64 by omega, wrap_bit, lmI_get _ _ (by omega), bits_or_u64_nat _ _ (lm_lt _ _) h2, ← lmI_with q i hi true]
  rfl
/-- The lowest bit of what is even. -/
theorem put_low {t : Nat} (ht : t % 2 = 0) : (lmI t).set 0 (bits .or .u64 ((lmI t).getD 0 0) 1) = lmI (t + 1) := by
  have e : t + 1 = withN t 0 true := by
    unfold withN; rw [if_pos rfl, Nat.pow_zero]
    have := or_bit (c := t / 2) (i := 0)
    rw [Nat.pow_zero, Nat.zero_add, Nat.pow_one, show t / 2 * 2 = t by omega] at this
    exact this.symm
  rw [e, ← put_bit t 0 (by decide)]
  rfl
theorem W_even : W % 2 = 0 := by decide
theorem ge_dec (a b : Nat) : decide (0 ≤ cmpI a b) = decide (b ≤ a) := by
  unfold cmpI
  rw [decide_eq_decide]
  split
  · omega
  · split <;> omega
theorem addN_two {r : Nat} (hr : r < W) : (addB r r = true → W ≤ 2 * r ∧ addN r r = 2 * r - W) ∧ (addB r r = false → 2 * r < W ∧ addN r r = 2 * r) := by
  unfold addB addN
  constructor
  · intro h
    have h' := of_decide_eq_true h
    exact ⟨by omega, by rw [Nat.mod_eq_sub_mod h', Nat.mod_eq_of_lt (by omega)]; omega⟩
  · intro h
    have h' := of_decide_eq_false h
    exact ⟨by omega, by rw [Nat.mod_eq_of_lt (by omega)]; omega⟩
theorem dv_all {a b i : Nat} (hb : 0 < b) (hW : b < W) : addN (dvR a b (i + 1)) (dvR a b (i + 1)) + (a.testBit i).toNat < W ∧
    ((addB (dvR a b (i + 1)) (dvR a b (i + 1)) = true ∨ b ≤ addN (dvR a b (i + 1)) (dvR a b (i + 1)) + (a.testBit i).toNat) →
      subN (addN (dvR a b (i + 1)) (dvR a b (i + 1)) + (a.testBit i).toNat) b = dvR a b i ∧ withN (dvQ a b (i + 1)) i true = dvQ a b i) ∧
    (addB (dvR a b (i + 1)) (dvR a b (i + 1)) = false → ¬ b ≤ addN (dvR a b (i + 1)) (dvR a b (i + 1)) + (a.testBit i).toNat →
      addN (dvR a b (i + 1)) (dvR a b (i + 1)) + (a.testBit i).toNat = dvR a b i ∧ dvQ a b (i + 1) = dvQ a b i) := by
  have hr := dvR_lt (b := b) a (i + 1) hb
  obtain ⟨g1, g2⟩ := dv_step (a := a) (b := b) (i := i) hb
  have hx : (a.testBit i).toNat ≤ 1 := by cases a.testBit i <;> decide
  have he := W_even
  generalize (a.testBit i).toNat = x at *
  generalize dvR a b (i + 1) = r at *
  obtain ⟨q1, q2⟩ := addN_two (r := r) (by omega)
  cases hg : addB r r
  · obtain ⟨h1, h2⟩ := q2 hg
    rw [h2]
    refine ⟨by omega, fun h => ?_, fun _ h => ?_⟩
    · have h3 : b ≤ 2 * r + x := h.elim (fun h => Bool.noConfusion h) id
      obtain ⟨g3, g4⟩ := g1 h3
      refine ⟨?_, g4.symm⟩
      rw [g3]; unfold subN
      rw [show 2 * r + x + W - b = (2 * r + x - b) + W by omega, Nat.add_mod_right, Nat.mod_eq_of_lt (by omega)]
    · obtain ⟨g3, g4⟩ := g2 h
      exact ⟨g3.symm, g4.symm⟩
  · obtain ⟨h1, h2⟩ := q1 hg
    rw [h2]
    obtain ⟨g3, g4⟩ := g1 (by omega)
    refine ⟨by omega, fun h => ⟨?_, g4.symm⟩, fun h => Bool.noConfusion h⟩
    rw [g3]; unfold subN
    rw [Nat.mod_eq_of_lt (by omega)]; omega
theorem low_one {r : Nat} (hr : r < W) (x : Nat) (hx : x = addN r r) : [bits .or .u64 ((lm x 0 : Nat) : Int) 1, ((lm x 1 : Nat) : Int), ((lm x 2 : Nat) : Int), ((lm x 3 : Nat) : Int)] = lmI (x + 1) := by
  have he := W_even
  have : x % 2 = 0 := by
    obtain ⟨q1, q2⟩ := addN_two hr
    cases hg : addB r r
    · have := (q2 hg).2; omega
    · have := q1 hg; omega
  exact put_low this
theorem allU_0 : allU [0, 0, 0, 0] := ⟨by omega, by omega, by omega, by omega, trivial⟩
theorem zero_of_eqW {b : Nat} (hb : b < W) (h : eqW b 0 = true) : b = 0 := by rw [eqW_dec hb W_pos] at h; exact of_decide_eq_true h
theorem pos_of_eqW {b : Nat} (hb : b < W) (h : eqW b 0 = false) : 0 < b := by rw [eqW_dec hb W_pos] at h; have := of_decide_eq_false h; omega
end Go.Proofs.Ytajgdlekngcmjaa
