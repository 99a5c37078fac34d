/-
 Words as a law is handed them: opened into a number below 2^256 and shut again; what a law leaves. No condition.
-/
import Derived.Test.YtjonbbmnjbnefaaDoorWA
import Derived.Test.YtjonbbmnjbnefaaDoorW3
import Derived.ProofKit
import Derived.Laws.IdiomArrays
import Derived.ChangeSame
import Derived.RowKit3
set_option maxRecDepth 10000
set_option linter.unusedVariables false
set_option linter.unusedSimpArgs false
namespace Go.Proofs.YtjonbbmnjbnefaaDoor
open Go.RowKit
def cmpI (a b : Nat) : Int := if a = b then 0 else if a < b then -1 else 1
set_option maxHeartbeats 1000000 in
theorem cmp_any (a b : Nat) (ha : a < W) (hb : b < W) (w : World) : Calls Tryd.prog 54 #[WV a, WV b] w (Ret w (.int .i64 (cmpI a b))) := by
 by_cases he : a = b
 ·have hd : decide (a % W = b % W) = true := by subst he; simp
  have hc : cmpI a b = 0 := by unfold cmpI; rw [if_pos he]
  rw [hc]; clear hc he
  go_enter Tryd.func54, Tryd.ntmps54
  go_wp2
  exact bodyPost_ret (v := .int .i64 0) (by simp [results, Tryd.results54, go_sem]) rfl (Ret.of' rfl (by (repeat (first | with_reducible exact Below.refl _ _ | refine below_gw ?_ (by first | exact Nat.le_refl _ | ((repeat (first | rw [World.size_alloc] | rw [World.size_setCell] | rw [World.size_drew] | rw [gw_size])); first | done | omega)) _ | refine Below.alloc ?_ (by first | exact Nat.le_refl _ | ((repeat (first | rw [World.size_alloc] | rw [World.size_setCell] | rw [World.size_drew] | rw [gw_size])); first | done | omega)) _ | refine Below.setCell ?_ (by first | exact Nat.le_refl _ | ((repeat (first | rw [World.size_alloc] | rw [World.size_setCell] | rw [World.size_drew] | rw [gw_size])); first | done | omega)) _ | refine Below.drew ?_))))
 ·have hd : decide (a % W = b % W) = false := by simp [Nat.mod_eq_of_lt ha, Nat.mod_eq_of_lt hb, he]
  by_cases hl : a < b
  ·have hs : subB a b = true := by unfold subB; simpa using hl
   have hc : cmpI a b = -1 := by unfold cmpI; rw [if_neg he, if_pos hl]
   rw [hc]; clear hc he hl
   go_enter Tryd.func54, Tryd.ntmps54
   go_wp2_with (go_at_call 95; (with_reducible refine calls_ret (sub_any a b ha hb _) ?_); intro p)
   exact bodyPost_ret (v := .int .i64 (-1)) (by simp [results, Tryd.results54, go_sem]) rfl (Ret.of' rfl (by (repeat (first | with_reducible exact Below.refl _ _ | refine below_gw ?_ (by first | exact Nat.le_refl _ | ((repeat (first | rw [World.size_alloc] | rw [World.size_setCell] | rw [World.size_drew] | rw [gw_size])); first | done | omega)) _ | refine Below.alloc ?_ (by first | exact Nat.le_refl _ | ((repeat (first | rw [World.size_alloc] | rw [World.size_setCell] | rw [World.size_drew] | rw [gw_size])); first | done | omega)) _ | refine Below.setCell ?_ (by first | exact Nat.le_refl _ | ((repeat (first | rw [World.size_alloc] | rw [World.size_setCell] | rw [World.size_drew] | rw [gw_size])); first | done | omega)) _ | refine Below.drew ?_))))
  ·have hs : subB a b = false := by unfold subB; simpa using hl
   have hc : cmpI a b = 1 := by unfold cmpI; rw [if_neg he, if_neg hl]
   rw [hc]; clear hc he hl
   go_enter Tryd.func54, Tryd.ntmps54
   go_wp2_with (go_at_call 95; (with_reducible refine calls_ret (sub_any a b ha hb _) ?_); intro p)
   exact bodyPost_ret (v := .int .i64 1) (by simp [results, Tryd.results54, go_sem]) rfl (Ret.of' rfl (by (repeat (first | with_reducible exact Below.refl _ _ | refine below_gw ?_ (by first | exact Nat.le_refl _ | ((repeat (first | rw [World.size_alloc] | rw [World.size_setCell] | rw [World.size_drew] | rw [gw_size])); first | done | omega)) _ | refine Below.alloc ?_ (by first | exact Nat.le_refl _ | ((repeat (first | rw [World.size_alloc] | rw [World.size_setCell] | rw [World.size_drew] | rw [gw_size])); first | done | omega)) _ | refine Below.setCell ?_ (by first | exact Nat.le_refl _ | ((repeat (first | rw [World.size_alloc] | rw [World.size_setCell] | rw [World.size_drew] | rw [gw_size])); first | done | omega)) _ | refine Below.drew ?_))))
theorem mul_lt {a b : Nat} (ha : a < W) (hb : b < W) : a * b < Bp 8 := by
 rw [show Bp 8 = W * W from rfl]
 exact Nat.mul_lt_mul_of_lt_of_le ha (Nat.le_of_lt hb) W_pos
attribute [local go_sem] arrayAt4
set_option maxHeartbeats 1000000 in
theorem mul_any (a b : Nat) (ha : a < W) (hb : b < W) (w : World) :
  Calls Tryd.prog 51 #[WV a, WV b] w (Ret w (.tuple #[WV (mulN a b), .bool (mulB a b)])) := by
 have hT : decide ((4 : Int) < (topN (U8 (a * b)) 8 : Nat)) = mulB a b := by
  unfold mulB
  have hv := val_limbs (a * b)
  rw [Nat.mod_eq_of_lt (mul_lt ha hb)] at hv
  have h8 := topN_val (Ok_U8 (a * b)) (n := topN (U8 (a * b)) 8) rfl
  rw [show val (U8 (a * b)) = a * b from hv] at h8
  have h9 := topN_top (U8 (a * b)) 8
  have hle := topN_le (U8 (a * b)) 8
  rw [decide_eq_decide]
  constructor
  ·intro h
   generalize topN (U8 (a * b)) 8 = t at *
   have h10 := h9 (by omega)
   rw [show W = Bp 4 from rfl]
   have h11 : lm (a * b) (t - 1) ≠ 0 := by rw [← getD_U8 _ _ (by omega)]; exact h10
   apply Nat.le_of_not_lt
   intro hlt
   exact h11 (by
    rw [lm_eq_mod, Nat.div_eq_of_lt, Nat.zero_mod]
    exact Nat.lt_of_lt_of_le hlt (by unfold Bp; exact Nat.pow_le_pow_right (by decide) (by omega)))
  ·intro h
   generalize topN (U8 (a * b)) 8 = t at *
   apply Classical.byContradiction
   intro hn
   have : Bp t ≤ Bp 4 := by unfold Bp; exact Nat.pow_le_pow_right (by decide) (by omega)
   rw [show W = Bp 4 from rfl] at h
   omega
 have HL8 := Lib.hid (show ∀ b' c t w, Arr w b' (U8 (a * b)) t → Calls Tryd.prog 93 #[SlV b' 0 8 c] w (Ret w (.int .i64 (topN (U8 (a * b)) 8 : Nat))) from fun b' c t w hA => length_any (U8 (a * b)) b' c t w hA (by simp))
 have HP := Lib.hid (product_any a b ha hb)
 unfold mulN; rw [WV_mod]
 clear ha hb
 generalize mulB a b = mb at *
 generalize a * b = ab at *
 go_enter Tryd.func51, Tryd.ntmps51
 go_wp2_with (go_at_call 92; (with_reducible refine calls_ret (HP.out _) ?_); intro p)
 (refine wp_quiet_tail 6 (by kernel_rfl) (by kernel_rfl) (by intro c a d u w h; cases d <;> exact h) ?_; simp only [List.take_succ_cons, List.take_zero, List.drop_succ_cons, List.drop_zero]; (repeat (first | go_big_quiet_step ((go_at_call 93; first | (refine quiet_ret (HL8.out _ _ 107 _ ?_); (repeat (first | (refine arr_at _ _ _ _ ?_ rfl; first | rfl | (simp only [World.size_alloc, World.size_setCell, gw_size]; done)) | refine arr_past ?_ _ | refine gw_arr ?_ _))) | (refine quiet_ret2 (HL8.out _ _ 107 _ ?_); (repeat (first | (refine arr_at _ _ _ _ ?_ rfl; first | rfl | (simp only [World.size_alloc, World.size_setCell, gw_size]; done)) | refine arr_past ?_ _ | refine gw_arr ?_ _))))) | quiet_step ((go_at_call 93; first | (refine quiet_ret (HL8.out _ _ 107 _ ?_); (repeat (first | (refine arr_at _ _ _ _ ?_ rfl; first | rfl | (simp only [World.size_alloc, World.size_setCell, gw_size]; done)) | refine arr_past ?_ _ | refine gw_arr ?_ _))) | (refine quiet_ret2 (HL8.out _ _ 107 _ ?_); (repeat (first | (refine arr_at _ _ _ _ ?_ rfl; first | rfl | (simp only [World.size_alloc, World.size_setCell, gw_size]; done)) | refine arr_past ?_ _ | refine gw_arr ?_ _))))))); refine wpQuiet_nil ?_; intro p)
 go_wp2
 exact bodyPost_ret (v := .tuple #[WV ab, .bool mb]) (by simp [results, Tryd.results51, go_sem]) rfl (Ret.of' rfl (by (repeat (first | with_reducible exact Below.refl _ _ | refine below_gw ?_ (by first | exact Nat.le_refl _ | ((repeat (first | rw [World.size_alloc] | rw [World.size_setCell] | rw [World.size_drew] | rw [gw_size])); first | done | omega)) _ | refine Below.alloc ?_ (by first | exact Nat.le_refl _ | ((repeat (first | rw [World.size_alloc] | rw [World.size_setCell] | rw [World.size_drew] | rw [gw_size])); first | done | omega)) _ | refine Below.setCell ?_ (by first | exact Nat.le_refl _ | ((repeat (first | rw [World.size_alloc] | rw [World.size_setCell] | rw [World.size_drew] | rw [gw_size])); first | done | omega)) _ | refine Below.drew ?_))))
end Go.Proofs.YtjonbbmnjbnefaaDoor

/-
 MulMod, AddMod, Byte and Extend, walked, for all words.
-/
namespace Go.Proofs.YtjonbbmnjbnefaaDoor
open Go.RowKit
attribute [local go_sem] arrayAt4
end Go.Proofs.YtjonbbmnjbnefaaDoor
namespace Go.Proofs.YtjonbbmnjbnefaaDoor
open Go.RowKit
@[go_sem] theorem lt_more15 {a b k0 k1 k2 k3 k4 k5 k6 k7 k8 k9 k10 k11 k12 k13 k14 : Nat} (h : a < b) : (a < b + k0 + k1 + k2 + k3 + k4 + k5 + k6 + k7 + k8 + k9 + k10 + k11 + k12 + k13 + k14) = True := by simp only [eq_iff_iff, iff_true]; omega
@[go_sem] theorem lt_more16 {a b k0 k1 k2 k3 k4 k5 k6 k7 k8 k9 k10 k11 k12 k13 k14 k15 : Nat} (h : a < b) : (a < b + k0 + k1 + k2 + k3 + k4 + k5 + k6 + k7 + k8 + k9 + k10 + k11 + k12 + k13 + k14 + k15) = True := by simp only [eq_iff_iff, iff_true]; omega
@[go_sem] theorem lt_more17 {a b k0 k1 k2 k3 k4 k5 k6 k7 k8 k9 k10 k11 k12 k13 k14 k15 k16 : Nat} (h : a < b) : (a < b + k0 + k1 + k2 + k3 + k4 + k5 + k6 + k7 + k8 + k9 + k10 + k11 + k12 + k13 + k14 + k15 + k16) = True := by simp only [eq_iff_iff, iff_true]; omega
@[go_sem] theorem lt_more18 {a b k0 k1 k2 k3 k4 k5 k6 k7 k8 k9 k10 k11 k12 k13 k14 k15 k16 k17 : Nat} (h : a < b) : (a < b + k0 + k1 + k2 + k3 + k4 + k5 + k6 + k7 + k8 + k9 + k10 + k11 + k12 + k13 + k14 + k15 + k16 + k17) = True := by simp only [eq_iff_iff, iff_true]; omega
@[go_sem] theorem lt_more19 {a b k0 k1 k2 k3 k4 k5 k6 k7 k8 k9 k10 k11 k12 k13 k14 k15 k16 k17 k18 : Nat} (h : a < b) : (a < b + k0 + k1 + k2 + k3 + k4 + k5 + k6 + k7 + k8 + k9 + k10 + k11 + k12 + k13 + k14 + k15 + k16 + k17 + k18) = True := by simp only [eq_iff_iff, iff_true]; omega
@[go_sem] theorem lt_more20 {a b k0 k1 k2 k3 k4 k5 k6 k7 k8 k9 k10 k11 k12 k13 k14 k15 k16 k17 k18 k19 : Nat} (h : a < b) : (a < b + k0 + k1 + k2 + k3 + k4 + k5 + k6 + k7 + k8 + k9 + k10 + k11 + k12 + k13 + k14 + k15 + k16 + k17 + k18 + k19) = True := by simp only [eq_iff_iff, iff_true]; omega
@[go_sem] theorem lt_more21 {a b k0 k1 k2 k3 k4 k5 k6 k7 k8 k9 k10 k11 k12 k13 k14 k15 k16 k17 k18 k19 k20 : Nat} (h : a < b) : (a < b + k0 + k1 + k2 + k3 + k4 + k5 + k6 + k7 + k8 + k9 + k10 + k11 + k12 + k13 + k14 + k15 + k16 + k17 + k18 + k19 + k20) = True := by simp only [eq_iff_iff, iff_true]; omega
@[go_sem] theorem lt_more22 {a b k0 k1 k2 k3 k4 k5 k6 k7 k8 k9 k10 k11 k12 k13 k14 k15 k16 k17 k18 k19 k20 k21 : Nat} (h : a < b) : (a < b + k0 + k1 + k2 + k3 + k4 + k5 + k6 + k7 + k8 + k9 + k10 + k11 + k12 + k13 + k14 + k15 + k16 + k17 + k18 + k19 + k20 + k21) = True := by simp only [eq_iff_iff, iff_true]; omega
@[go_sem] theorem lt_more23 {a b k0 k1 k2 k3 k4 k5 k6 k7 k8 k9 k10 k11 k12 k13 k14 k15 k16 k17 k18 k19 k20 k21 k22 : Nat} (h : a < b) : (a < b + k0 + k1 + k2 + k3 + k4 + k5 + k6 + k7 + k8 + k9 + k10 + k11 + k12 + k13 + k14 + k15 + k16 + k17 + k18 + k19 + k20 + k21 + k22) = True := by simp only [eq_iff_iff, iff_true]; omega
@[go_sem] theorem lt_more24 {a b k0 k1 k2 k3 k4 k5 k6 k7 k8 k9 k10 k11 k12 k13 k14 k15 k16 k17 k18 k19 k20 k21 k22 k23 : Nat} (h : a < b) : (a < b + k0 + k1 + k2 + k3 + k4 + k5 + k6 + k7 + k8 + k9 + k10 + k11 + k12 + k13 + k14 + k15 + k16 + k17 + k18 + k19 + k20 + k21 + k22 + k23) = True := by simp only [eq_iff_iff, iff_true]; omega
@[go_sem] theorem lt_more25 {a b k0 k1 k2 k3 k4 k5 k6 k7 k8 k9 k10 k11 k12 k13 k14 k15 k16 k17 k18 k19 k20 k21 k22 k23 k24 : Nat} (h : a < b) : (a < b + k0 + k1 + k2 + k3 + k4 + k5 + k6 + k7 + k8 + k9 + k10 + k11 + k12 + k13 + k14 + k15 + k16 + k17 + k18 + k19 + k20 + k21 + k22 + k23 + k24) = True := by simp only [eq_iff_iff, iff_true]; omega
@[go_sem] theorem lt_more26 {a b k0 k1 k2 k3 k4 k5 k6 k7 k8 k9 k10 k11 k12 k13 k14 k15 k16 k17 k18 k19 k20 k21 k22 k23 k24 k25 : Nat} (h : a < b) : (a < b + k0 + k1 + k2 + k3 + k4 + k5 + k6 + k7 + k8 + k9 + k10 + k11 + k12 + k13 + k14 + k15 + k16 + k17 + k18 + k19 + k20 + k21 + k22 + k23 + k24 + k25) = True := by simp only [eq_iff_iff, iff_true]; omega
@[go_sem] theorem lt_more27 {a b k0 k1 k2 k3 k4 k5 k6 k7 k8 k9 k10 k11 k12 k13 k14 k15 k16 k17 k18 k19 k20 k21 k22 k23 k24 k25 k26 : Nat} (h : a < b) : (a < b + k0 + k1 + k2 + k3 + k4 + k5 + k6 + k7 + k8 + k9 + k10 + k11 + k12 + k13 + k14 + k15 + k16 + k17 + k18 + k19 + k20 + k21 + k22 + k23 + k24 + k25 + k26) = True := by simp only [eq_iff_iff, iff_true]; omega
@[go_sem] theorem lt_more28 {a b k0 k1 k2 k3 k4 k5 k6 k7 k8 k9 k10 k11 k12 k13 k14 k15 k16 k17 k18 k19 k20 k21 k22 k23 k24 k25 k26 k27 : Nat} (h : a < b) : (a < b + k0 + k1 + k2 + k3 + k4 + k5 + k6 + k7 + k8 + k9 + k10 + k11 + k12 + k13 + k14 + k15 + k16 + k17 + k18 + k19 + k20 + k21 + k22 + k23 + k24 + k25 + k26 + k27) = True := by simp only [eq_iff_iff, iff_true]; omega
open Go.ChangeShapes Go.WideShapes Go.ChangeAt
theorem list4 {α : Type} (l : List α) (h : (⟨l⟩ : Array α).size = 4) : ∃ a b c d, l = [a, b, c, d] := by
 match l, h with
 | [a, b, c, d], _ => exact ⟨a, b, c, d, rfl⟩
theorem Tryd.own : ownKnob Tryd.prog.godebug = none := by kernel_rfl
theorem cellsU : Tryd.prog.cellsOf 24 = 1 := by kernel_rfl
theorem cellsWord : Tryd.prog.cellsOf 26 = 4 := by kernel_rfl
def DV {H : Type} (a : Nat) : DataW H := .agg [.lit (.int .u64 (lm a 0 : Nat)), .lit (.int .u64 (lm a 1 : Nat)), .lit (.int .u64 (lm a 2 : Nat)), .lit (.int .u64 (lm a 3 : Nat))]
theorem of_wf {x : Int} (h : (Lit.int .u64 x).wf = true) : ∃ n : Nat, x = (n : Nat) ∧ n < 18446744073709551616 := by
 simp only [Lit.wf, Bool.and_eq_true, decide_eq_true_eq] at h
 have h1 : (0 : Int) ≤ x := h.1
 have h2 : x ≤ 18446744073709551615 := h.2
 exact ⟨x.toNat, by omega, by omega⟩
section
variable {H : Type} {enc : TypeId × Value → H} {w : World} {base : Nat} {spare : Nat → Bool} {held : Bool}
theorem word_open {r : Reach} {b0 : Nat} {v : Value} {d : DataW H} {p : List MemPlace} (hval : Value.okWide Tryd.prog w r b0 26 v) (h : DataW.Trod enc Tryd.prog w base spare held 26 v d p) :
  ∃ a, v = WV a ∧ d = DV a ∧ p = [] ∧ a < W := by
 obtain ⟨cs, rfl, hsz, _⟩ : ∃ cs, v = .agg cs ∧ cs.size = Tryd.prog.cellsOf 26 ∧ Row.okWide Tryd.prog w r b0 26 cs := by
  simpa [Value.okWide, Tryd.underlying26] using hval
 rw [cellsWord] at hsz
 obtain ⟨l⟩ := cs
 obtain ⟨c0, c1, c2, c3, rfl⟩ := list4 l hsz
 obtain ⟨fuel, hf⟩ := h
 obtain ⟨y0, y1, y2, y3, m, hx, hy0, hy1, hy2, hy3⟩ := trod_array4 Tryd.underlying26 cellsU hf
 obtain ⟨x0, e0, rfl, w0⟩ := DataW.trod_int Tryd.underlying24 hy0
 obtain ⟨x1, e1, rfl, w1⟩ := DataW.trod_int Tryd.underlying24 hy1
 obtain ⟨x2, e2, rfl, w2⟩ := DataW.trod_int Tryd.underlying24 hy2
 obtain ⟨x3, e3, rfl, w3⟩ := DataW.trod_int Tryd.underlying24 hy3
 simp at e0 e1 e2 e3
 subst e0 e1 e2 e3
 simp only [Prod.mk.injEq] at hx
 obtain ⟨rfl, rfl⟩ := hx
 obtain ⟨n0, rfl, h0⟩ := of_wf w0
 obtain ⟨n1, rfl, h1⟩ := of_wf w1
 obtain ⟨n2, rfl, h2⟩ := of_wf w2
 obtain ⟨n3, rfl, h3⟩ := of_wf w3
 refine ⟨num n0 n1 n2 n3, ?_, ?_, rfl, num_lt h0 h1 h2 h3⟩
 ·unfold WV; rw [lm0_num h0, lm1_num h0 h1, lm2_num h0 h1 h2, lm3_num h0 h1 h2 h3]
 ·unfold DV; rw [lm0_num h0, lm1_num h0 h1, lm2_num h0 h1 h2, lm3_num h0 h1 h2 h3]
end
end Go.Proofs.YtjonbbmnjbnefaaDoor
