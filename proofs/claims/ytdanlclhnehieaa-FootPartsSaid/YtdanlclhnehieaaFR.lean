/-
  What a law is handed, opened and shut: numbers. A law's end, as the own walk tells it. No condition.
-/
import Derived.Test.YtdanlclhnehieaaLB
import Derived.Test.YtdanlclhnehieaaEI
import Derived.Carry
namespace Go.Proofs.Ytdanlclhnehieaa
set_option linter.unusedSimpArgs false
set_option linter.unusedVariables false
set_option maxRecDepth 10000
open Go.RowKit Go.ChangeShapes Go.WideShapes Go.ChangeAt
def Yes (w : World) (e : Ending) (w' : World) : Prop := ∃ u, e = .returned u ∧ ∃ v m', u = cv v ∧ MemOk w [] m' w' ∧ v = .bool true
theorem Yes.out {w w' : World} {e : Ending} (h : Yes w e w') : e = .returned (.bool true) ∧ ∃ p, w' = gw w p := by
  obtain ⟨u, rfl, v, m', rfl, hm, rfl⟩ := h
  exact ⟨rfl, gw_of_grown hm.grown⟩
section
variable {H : Type} {enc : TypeId × Value → H} {w : World} {base : Nat} {spare : Nat → Bool} {held : Bool} {r : Reach} {b0 : Nat} {t : TypeId} {v : Value} {d : DataW H} {ps : List MemPlace}
theorem wf_u8 (x : Int) (h : (Lit.int .u8 x).wf = true) : 0 ≤ x ∧ x < (256 : Nat) := by
  simp only [Lit.wf, Bool.and_eq_true, decide_eq_true_eq] at h
  have h1 : (0 : Int) ≤ x := h.1
  have h2 : x ≤ 255 := h.2
  omega
end
end Go.Proofs.Ytdanlclhnehieaa
