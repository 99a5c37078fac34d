/-
  Places as data; the document's order of places (quaestorref14.less), walked. No condition.
-/
import Derived.Test.YtdanlclhnehieaaT1
import Derived.Test.YtdanlclhnehieaaG1
import Derived.Test.YtdanlclhnehieaaEI
import Derived.Test.YtdanlclhnehieaaRD
import Derived.Laws.Bits64b
import Derived.Laws.Bits64
import Derived.Test.YtdanlclhnehieaaWC
import Derived.Test.YtdanlclhnehieaaEO
import Derived.Test.YtdanlclhnehieaaBS
namespace Go.Proofs.Ytdanlclhnehieaa
set_option linter.unusedSimpArgs false
set_option linter.unusedVariables false
set_option linter.defProp false
open Go.RowKit
def plLt (c d : List Int) : Bool :=
  if rdI (c.take 20) = rdI (d.take 20) then
    if decide (c.getD 20 0 = 1) = decide (d.getD 20 0 = 1) then decide (numI (c.drop 21) < numI (d.drop 21)) else decide (c.getD 20 0 = 1)
  else decide (rdI (c.take 20) < rdI (d.take 20))
def okP (c : List Int) : Prop := inCs ck_38 c
theorem allB_wf5 {l : List Int} (h : ∀ z ∈ l, (Lit.int .u8 z).wf = true) : allB l := fun z hz => by
  have := h z hz
  simp only [Lit.wf, Bool.and_eq_true, decide_eq_true_eq] at this
  have h1 : (0 : Int) ≤ z := this.1
  have h2 : z ≤ 255 := this.2
  exact ⟨h1, h2⟩
theorem wf5_u64 {x : Int} (h : (Lit.int .u64 x).wf = true) : 0 ≤ x ∧ x ≤ 18446744073709551615 := by
  simp only [Lit.wf, Bool.and_eq_true, decide_eq_true_eq] at h
  exact ⟨h.1, h.2⟩
theorem okP_forms {c : List Int} (h : okP c) : ∃ x0 x1 x2 x3 x4 x5 x6 x7 x8 x9 x10 x11 x12 x13 x14 x15 x16 x17 x18 x19 bx k0 k1 k2 k3, c = [x0, x1, x2, x3, x4, x5, x6, x7, x8, x9, x10, x11, x12, x13, x14, x15, x16, x17, x18, x19, bx, k0, k1, k2, k3] ∧ allB [x0, x1, x2, x3, x4, x5, x6, x7, x8, x9, x10, x11, x12, x13, x14, x15, x16, x17, x18, x19] ∧ (bx = 0 ∨ bx = 1) ∧ allU [k0, k1, k2, k3] := by
  match c, h with
  | [x0, x1, x2, x3, x4, x5, x6, x7, x8, x9, x10, x11, x12, x13, x14, x15, x16, x17, x18, x19, bx, k0, k1, k2, k3], h =>
    unfold okP at h
    simp only [ck_38, inCs, inC] at h
    obtain ⟨h0, h1, h2, h3, h4, h5, h6, h7, h8, h9, h10, h11, h12, h13, h14, h15, h16, h17, h18, h19, hb, u0, u1, u2, u3, _⟩ := h
    refine ⟨x0, x1, x2, x3, x4, x5, x6, x7, x8, x9, x10, x11, x12, x13, x14, x15, x16, x17, x18, x19, bx, k0, k1, k2, k3, rfl, allB_wf5 ?_, hb, ?_⟩
    · intro z hz
      simp only [List.mem_cons, List.not_mem_nil, or_false] at hz
      rcases hz with rfl | rfl | rfl | rfl | rfl | rfl | rfl | rfl | rfl | rfl | rfl | rfl | rfl | rfl | rfl | rfl | rfl | rfl | rfl | rfl <;> assumption
    · have a0 := wf5_u64 u0; have a1 := wf5_u64 u1; have a2 := wf5_u64 u2; have a3 := wf5_u64 u3
      exact ⟨a0, a1, a2, a3, trivial⟩
theorem numI_ltP {x0 x1 x2 x3 : Int} (h : allU [x0, x1, x2, x3]) : numI [x0, x1, x2, x3] < W := by
  obtain ⟨h0, h1, h2, h3, _⟩ := h
  simp only [numI, num]
  unfold W
  omega
theorem cmpI_lt {a b : Nat} (h : a < b) : cmpI a b = -1 := by unfold cmpI; rw [if_neg (by omega), if_pos h]
theorem cmpI_gt {a b : Nat} (h : b < a) : cmpI a b = 1 := by unfold cmpI; rw [if_neg (by omega), if_neg (by omega)]
theorem cmpI_eq {a b : Nat} (h : a = b) : cmpI a b = 0 := by unfold cmpI; rw [if_pos h]
theorem plL_mk (x0 x1 x2 x3 x4 x5 x6 x7 x8 x9 x10 x11 x12 x13 x14 x15 x16 x17 x18 x19 bx k0 k1 k2 k3 : Int) : plL [x0, x1, x2, x3, x4, x5, x6, x7, x8, x9, x10, x11, x12, x13, x14, x15, x16, x17, x18, x19, bx, k0, k1, k2, k3] = [.int .u8 x0, .int .u8 x1, .int .u8 x2, .int .u8 x3, .int .u8 x4, .int .u8 x5, .int .u8 x6, .int .u8 x7, .int .u8 x8, .int .u8 x9, .int .u8 x10, .int .u8 x11, .int .u8 x12, .int .u8 x13, .int .u8 x14, .int .u8 x15, .int .u8 x16, .int .u8 x17, .int .u8 x18, .int .u8 x19, .bool (decide (bx = 1)), .int .u64 k0, .int .u64 k1, .int .u64 k2, .int .u64 k3] := rfl
end Go.Proofs.Ytdanlclhnehieaa
