/-
 Words as a law is handed them: opened into a number below 2^256 and shut again; what a law leaves. No condition.
-/
import Derived.Test.YtjonbbmnjbnefaaDoorWC
import Derived.ProofKit
import Derived.Laws.IdiomArrays
import Derived.ChangeSame
import Derived.RowKit3
set_option maxRecDepth 10000
set_option linter.unusedVariables false
set_option linter.unusedSimpArgs false
namespace Go.Proofs.YtjonbbmnjbnefaaDoor
open Go.RowKit
@[go_sem] theorem lt_more15 {a b k0 k1 k2 k3 k4 k5 k6 k7 k8 k9 k10 k11 k12 k13 k14 : Nat} (h : a < b) : (a < b + k0 + k1 + k2 + k3 + k4 + k5 + k6 + k7 + k8 + k9 + k10 + k11 + k12 + k13 + k14) = True := by simp only [eq_iff_iff, iff_true]; omega
@[go_sem] theorem lt_more16 {a b k0 k1 k2 k3 k4 k5 k6 k7 k8 k9 k10 k11 k12 k13 k14 k15 : Nat} (h : a < b) : (a < b + k0 + k1 + k2 + k3 + k4 + k5 + k6 + k7 + k8 + k9 + k10 + k11 + k12 + k13 + k14 + k15) = True := by simp only [eq_iff_iff, iff_true]; omega
@[go_sem] theorem lt_more17 {a b k0 k1 k2 k3 k4 k5 k6 k7 k8 k9 k10 k11 k12 k13 k14 k15 k16 : Nat} (h : a < b) : (a < b + k0 + k1 + k2 + k3 + k4 + k5 + k6 + k7 + k8 + k9 + k10 + k11 + k12 + k13 + k14 + k15 + k16) = True := by simp only [eq_iff_iff, iff_true]; omega
@[go_sem] theorem lt_more18 {a b k0 k1 k2 k3 k4 k5 k6 k7 k8 k9 k10 k11 k12 k13 k14 k15 k16 k17 : Nat} (h : a < b) : (a < b + k0 + k1 + k2 + k3 + k4 + k5 + k6 + k7 + k8 + k9 + k10 + k11 + k12 + k13 + k14 + k15 + k16 + k17) = True := by simp only [eq_iff_iff, iff_true]; omega
@[go_sem] theorem lt_more19 {a b k0 k1 k2 k3 k4 k5 k6 k7 k8 k9 k10 k11 k12 k13 k14 k15 k16 k17 k18 : Nat} (h : a < b) : (a < b + k0 + k1 + k2 + k3 + k4 + k5 + k6 + k7 + k8 + k9 + k10 + k11 + k12 + k13 + k14 + k15 + k16 + k17 + k18) = True := by simp only [eq_iff_iff, iff_true]; omega
@[go_sem] theorem lt_more20 {a b k0 k1 k2 k3 k4 k5 k6 k7 k8 k9 k10 k11 k12 k13 k14 k15 k16 k17 k18 k19 : Nat} (h : a < b) : (a < b + k0 + k1 + k2 + k3 + k4 + k5 + k6 + k7 + k8 + k9 + k10 + k11 + k12 + k13 + k14 + k15 + k16 + k17 + k18 + k19) = True := by simp only [eq_iff_iff, iff_true]; omega
@[go_sem] theorem lt_more21 {a b k0 k1 k2 k3 k4 k5 k6 k7 k8 k9 k10 k11 k12 k13 k14 k15 k16 k17 k18 k19 k20 : Nat} (h : a < b) : (a < b + k0 + k1 + k2 + k3 + k4 + k5 + k6 + k7 + k8 + k9 + k10 + k11 + k12 + k13 + k14 + k15 + k16 + k17 + k18 + k19 + k20) = True := by simp only [eq_iff_iff, iff_true]; omega
@[go_sem] theorem lt_more22 {a b k0 k1 k2 k3 k4 k5 k6 k7 k8 k9 k10 k11 k12 k13 k14 k15 k16 k17 k18 k19 k20 k21 : Nat} (h : a < b) : (a < b + k0 + k1 + k2 + k3 + k4 + k5 + k6 + k7 + k8 + k9 + k10 + k11 + k12 + k13 + k14 + k15 + k16 + k17 + k18 + k19 + k20 + k21) = True := by simp only [eq_iff_iff, iff_true]; omega
@[go_sem] theorem lt_more23 {a b k0 k1 k2 k3 k4 k5 k6 k7 k8 k9 k10 k11 k12 k13 k14 k15 k16 k17 k18 k19 k20 k21 k22 : Nat} (h : a < b) : (a < b + k0 + k1 + k2 + k3 + k4 + k5 + k6 + k7 + k8 + k9 + k10 + k11 + k12 + k13 + k14 + k15 + k16 + k17 + k18 + k19 + k20 + k21 + k22) = True := by simp only [eq_iff_iff, iff_true]; omega
@[go_sem] theorem lt_more24 {a b k0 k1 k2 k3 k4 k5 k6 k7 k8 k9 k10 k11 k12 k13 k14 k15 k16 k17 k18 k19 k20 k21 k22 k23 : Nat} (h : a < b) : (a < b + k0 + k1 + k2 + k3 + k4 + k5 + k6 + k7 + k8 + k9 + k10 + k11 + k12 + k13 + k14 + k15 + k16 + k17 + k18 + k19 + k20 + k21 + k22 + k23) = True := by simp only [eq_iff_iff, iff_true]; omega
@[go_sem] theorem lt_more25 {a b k0 k1 k2 k3 k4 k5 k6 k7 k8 k9 k10 k11 k12 k13 k14 k15 k16 k17 k18 k19 k20 k21 k22 k23 k24 : Nat} (h : a < b) : (a < b + k0 + k1 + k2 + k3 + k4 + k5 + k6 + k7 + k8 + k9 + k10 + k11 + k12 + k13 + k14 + k15 + k16 + k17 + k18 + k19 + k20 + k21 + k22 + k23 + k24) = True := by simp only [eq_iff_iff, iff_true]; omega
@[go_sem] theorem lt_more26 {a b k0 k1 k2 k3 k4 k5 k6 k7 k8 k9 k10 k11 k12 k13 k14 k15 k16 k17 k18 k19 k20 k21 k22 k23 k24 k25 : Nat} (h : a < b) : (a < b + k0 + k1 + k2 + k3 + k4 + k5 + k6 + k7 + k8 + k9 + k10 + k11 + k12 + k13 + k14 + k15 + k16 + k17 + k18 + k19 + k20 + k21 + k22 + k23 + k24 + k25) = True := by simp only [eq_iff_iff, iff_true]; omega
@[go_sem] theorem lt_more27 {a b k0 k1 k2 k3 k4 k5 k6 k7 k8 k9 k10 k11 k12 k13 k14 k15 k16 k17 k18 k19 k20 k21 k22 k23 k24 k25 k26 : Nat} (h : a < b) : (a < b + k0 + k1 + k2 + k3 + k4 + k5 + k6 + k7 + k8 + k9 + k10 + k11 + k12 + k13 + k14 + k15 + k16 + k17 + k18 + k19 + k20 + k21 + k22 + k23 + k24 + k25 + k26) = True := by simp only [eq_iff_iff, iff_true]; omega
@[go_sem] theorem lt_more28 {a b k0 k1 k2 k3 k4 k5 k6 k7 k8 k9 k10 k11 k12 k13 k14 k15 k16 k17 k18 k19 k20 k21 k22 k23 k24 k25 k26 k27 : Nat} (h : a < b) : (a < b + k0 + k1 + k2 + k3 + k4 + k5 + k6 + k7 + k8 + k9 + k10 + k11 + k12 + k13 + k14 + k15 + k16 + k17 + k18 + k19 + k20 + k21 + k22 + k23 + k24 + k25 + k26 + k27) = True := by simp only [eq_iff_iff, iff_true]; omega
open Go.ChangeShapes Go.WideShapes Go.ChangeAt
theorem list4 {α : Type} (l : List α) (h : (⟨l⟩ : Array α).size = 4) : ∃ a b c d, l = [a, b, c, d] := by
 match l, h with
 | [a, b, c, d], _ => exact ⟨a, b, c, d, rfl⟩
theorem Tryd.own : ownKnob Tryd.prog.godebug = none := by kernel_rfl
theorem cellsU : Tryd.prog.cellsOf 24 = 1 := by kernel_rfl
theorem cellsWord : Tryd.prog.cellsOf 26 = 4 := by kernel_rfl
def DV {H : Type} (a : Nat) : DataW H := .agg [.lit (.int .u64 (lm a 0 : Nat)), .lit (.int .u64 (lm a 1 : Nat)), .lit (.int .u64 (lm a 2 : Nat)), .lit (.int .u64 (lm a 3 : Nat))]
theorem of_wf {x : Int} (h : (Lit.int .u64 x).wf = true) : ∃ n : Nat, x = (n : Nat) ∧ n < 18446744073709551616 := by
 simp only [Lit.wf, Bool.and_eq_true, decide_eq_true_eq] at h
 have h1 : (0 : Int) ≤ x := h.1
 have h2 : x ≤ 18446744073709551615 := h.2
 exact ⟨x.toNat, by omega, by omega⟩
section
variable {H : Type} {enc : TypeId × Value → H} {w : World} {base : Nat} {spare : Nat → Bool} {held : Bool}
theorem word_open {r : Reach} {b0 : Nat} {v : Value} {d : DataW H} {p : List MemPlace} (hval : Value.okWide Tryd.prog w r b0 26 v) (h : DataW.Trod enc Tryd.prog w base spare held 26 v d p) :
  ∃ a, v = WV a ∧ d = DV a ∧ p = [] ∧ a < W := by
 obtain ⟨cs, rfl, hsz, _⟩ : ∃ cs, v = .agg cs ∧ cs.size = Tryd.prog.cellsOf 26 ∧ Row.okWide Tryd.prog w r b0 26 cs := by
  simpa [Value.okWide, Tryd.underlying26] using hval
 rw [cellsWord] at hsz
 obtain ⟨l⟩ := cs
 obtain ⟨c0, c1, c2, c3, rfl⟩ := list4 l hsz
 obtain ⟨fuel, hf⟩ := h
 obtain ⟨y0, y1, y2, y3, m, hx, hy0, hy1, hy2, hy3⟩ := trod_array4 Tryd.underlying26 cellsU hf
 obtain ⟨x0, e0, rfl, w0⟩ := DataW.trod_int Tryd.underlying24 hy0
 obtain ⟨x1, e1, rfl, w1⟩ := DataW.trod_int Tryd.underlying24 hy1
 obtain ⟨x2, e2, rfl, w2⟩ := DataW.trod_int Tryd.underlying24 hy2
 obtain ⟨x3, e3, rfl, w3⟩ := DataW.trod_int Tryd.underlying24 hy3
 simp at e0 e1 e2 e3
 subst e0 e1 e2 e3
 simp only [Prod.mk.injEq] at hx
 obtain ⟨rfl, rfl⟩ := hx
 obtain ⟨n0, rfl, h0⟩ := of_wf w0
 obtain ⟨n1, rfl, h1⟩ := of_wf w1
 obtain ⟨n2, rfl, h2⟩ := of_wf w2
 obtain ⟨n3, rfl, h3⟩ := of_wf w3
 refine ⟨num n0 n1 n2 n3, ?_, ?_, rfl, num_lt h0 h1 h2 h3⟩
 ·unfold WV; rw [lm0_num h0, lm1_num h0 h1, lm2_num h0 h1 h2, lm3_num h0 h1 h2 h3]
 ·unfold DV; rw [lm0_num h0, lm1_num h0 h1, lm2_num h0 h1 h2, lm3_num h0 h1 h2 h3]
end
end Go.Proofs.YtjonbbmnjbnefaaDoor
