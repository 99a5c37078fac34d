/-
  The document's Put (quaestorref14), walked: a place among others. No condition.
-/
import Derived.Test.YtdanlclhnehieaaT5
import Derived.Test.YtdanlclhnehieaaHK
namespace Go.Proofs.Ytdanlclhnehieaa
set_option linter.unusedSimpArgs false
set_option linter.unusedVariables false
set_option linter.defProp false
open Go.RowKit
theorem eqL_pl {c d : List Int} (hc : okP c) (hd : okP d) : eqL (plL c) (plL d) = decide (c = d) := by
  obtain ⟨x0, x1, x2, x3, x4, x5, x6, x7, x8, x9, x10, x11, x12, x13, x14, x15, x16, x17, x18, x19, bx, k0, k1, k2, k3, rfl, a1, a2, a3⟩ := okP_forms hc
  obtain ⟨y0, y1, y2, y3, y4, y5, y6, y7, y8, y9, y10, y11, y12, y13, y14, y15, y16, y17, y18, y19, bz, j0, j1, j2, j3, rfl, b1, b2, b3⟩ := okP_forms hd
  rw [Bool.eq_iff_iff, decide_eq_true_iff]
  have hbb : (decide (bx = 1) == decide (bz = 1)) = true ↔ bx = bz := by
    rcases a2 with rfl | rfl <;> rcases b2 with rfl | rfl <;> decide
  simp only [plL, eqL, Bool.and_eq_true, decide_eq_true_iff, hbb, List.cons.injEq, and_true]
structure PlL (H : Nat → Obj → Prop) (a : Option Addr) (n c : Nat) (l : List (List Int)) : Prop where
  len : l.length = n
  le : n ≤ c
  adr : adr a n c
  lies : LiesH H a (cc (.rows 25 (l.map plL)))
  ok : ∀ x ∈ l, okP x
theorem PlL.mono {H H' : Nat → Obj → Prop} {a : Option Addr} {n c : Nat} {l : List (List Int)} (h : PlL H a n c l) (hH : ∀ b o, H b o → H' b o) : PlL H' a n c l := ⟨h.len, h.le, h.adr, h.lies.mono hH, h.ok⟩
theorem plL_len {c : List Int} (h : okP c) : (plL c).length = 25 := by
  obtain ⟨x0, x1, x2, x3, x4, x5, x6, x7, x8, x9, x10, x11, x12, x13, x14, x15, x16, x17, x18, x19, bx, k0, k1, k2, k3, rfl, _⟩ := okP_forms h; rfl
theorem codeC_pl {c : List Int} (h : okP c) : codeC ck_38 (plL c) = some c := by
  obtain ⟨x0, x1, x2, x3, x4, x5, x6, x7, x8, x9, x10, x11, x12, x13, x14, x15, x16, x17, x18, x19, bx, k0, k1, k2, k3, rfl, a1, a2, a3⟩ := okP_forms h
  have hbx : cond (decide (bx = 1)) (1 : Int) 0 = bx := by rcases a2 with h | h <;> rw [h] <;> rfl
  show some [x0, x1, x2, x3, x4, x5, x6, x7, x8, x9, x10, x11, x12, x13, x14, x15, x16, x17, x18, x19, cond (decide (bx = 1)) 1 0, k0, k1, k2, k3] = _
  rw [hbx]
def plsOf (rs : List (List SV)) : List (List Int) := rs.map fun r => (codeC ck_38 r).getD []
theorem plsOf_eq {l : List (List Int)} (h : ∀ x ∈ l, okP x) : plsOf (l.map plL) = l := by
  unfold plsOf
  rw [List.map_map]
  conv => rhs; rw [← List.map_id l]
  refine List.map_congr_left fun x hx => ?_
  simp only [Function.comp_apply, codeC_pl (h x hx), Option.getD_some, id]
end Go.Proofs.Ytdanlclhnehieaa
