/-
  Slices of words as a law is handed them: opened and shut. No condition.
-/
import Derived.Test.YtdanlclhnehieaaFB
import Derived.Deep.Slices
namespace Go.Proofs.Ytdanlclhnehieaa
set_option linter.unusedSimpArgs false
set_option linter.unusedVariables false
open Go.RowKit Go.ChangeShapes Go.WideShapes Go.ChangeAt
section
variable {H : Type} {enc : TypeId × Value → H} {w : World} {base : Nat} {spare : Nat → Bool} {held : Bool}
theorem word_cells {fuel : Nat} {cs : List Value} {x : DataW H × List MemPlace} (hf : DataW.trod enc Try.prog w base spare held fuel 36 cs = some x) (hl : cs.length = 4) :
    ∃ a, cs = wcs a ∧ x = (DV a, []) ∧ a < W := by
  obtain ⟨c0, c1, c2, c3, rfl⟩ := list4 cs hl
  obtain ⟨y0, y1, y2, y3, m, hx, hy0, hy1, hy2, hy3⟩ := trod_array4 Try.underlying36 cellsU hf
  obtain ⟨x0, e0, rfl, w0⟩ := DataW.trod_int Try.underlying34 hy0
  obtain ⟨x1, e1, rfl, w1⟩ := DataW.trod_int Try.underlying34 hy1
  obtain ⟨x2, e2, rfl, w2⟩ := DataW.trod_int Try.underlying34 hy2
  obtain ⟨x3, e3, rfl, w3⟩ := DataW.trod_int Try.underlying34 hy3
  simp at e0 e1 e2 e3
  subst e0 e1 e2 e3
  subst hx
  obtain ⟨n0, rfl, h0⟩ := of_wf w0
  obtain ⟨n1, rfl, h1⟩ := of_wf w1
  obtain ⟨n2, rfl, h2⟩ := of_wf w2
  obtain ⟨n3, rfl, h3⟩ := of_wf w3
  refine ⟨num n0 n1 n2 n3, ?_, ?_, num_lt h0 h1 h2 h3⟩
  · unfold wcs; rw [lm0_num h0, lm1_num h0 h1, lm2_num h0 h1 h2, lm3_num h0 h1 h2 h3]
  · unfold DV; rw [lm0_num h0, lm1_num h0 h1, lm2_num h0 h1 h2, lm3_num h0 h1 h2 h3]; rfl
end
end Go.Proofs.Ytdanlclhnehieaa
