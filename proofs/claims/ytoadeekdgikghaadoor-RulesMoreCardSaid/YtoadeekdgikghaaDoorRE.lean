/-
 The parts of a word, as what lies in memory.
-/
import Derived.Test.YtoadeekdgikghaaDoorWA
import Derived.Test.YtoadeekdgikghaaDoorW3
import Derived.ProofKit
import Derived.Laws.IdiomArrays
import Derived.ChangeSame
import Derived.RowKit3
import Derived.Test.YtoadeekdgikghaaDoorEI
import Derived.Carry
import Derived.Test.YtoadeekdgikghaaDoorRD
import Derived.ChangeOld
import Derived.ChangeMaps5
set_option maxRecDepth 10000
set_option linter.unusedVariables false
set_option linter.unusedSimpArgs false
namespace Go.Proofs.YtoadeekdgikghaaDoor
open Go.RowKit
theorem bXRE0 {p : Prop} (h : p := by (repeat (first | with_reducible exact Below.refl _ _ | refine below_gw ?_ (by first | exact Nat.le_refl _ | ((repeat (first | rw [World.size_alloc] | rw [World.size_setCell] | rw [World.size_drew] | rw [gw_size])); first | done | omega)) _ | refine Below.alloc ?_ (by first | exact Nat.le_refl _ | ((repeat (first | rw [World.size_alloc] | rw [World.size_setCell] | rw [World.size_drew] | rw [gw_size])); first | done | omega)) _ | refine Below.setCell ?_ (by first | exact Nat.le_refl _ | ((repeat (first | rw [World.size_alloc] | rw [World.size_setCell] | rw [World.size_drew] | rw [gw_size])); first | done | omega)) _ | refine Below.drew ?_))) : p := h
def cmpI (a b : Nat) : Int := if a = b then 0 else if a < b then -1 else 1
set_option maxHeartbeats 1000000 in
theorem cmp_any (a b : Nat) (ha : a < W) (hb : b < W) (w : World) : Calls Tryd.prog 42 #[WV a, WV b] w (Ret w (.int .i64 (cmpI a b))) := by
 by_cases he : a = b
 ·have hd : decide (a % W = b % W) = true := by subst he; simp
  have hc : cmpI a b = 0 := by unfold cmpI; rw [if_pos he]
  rw [hc]; clear hc he
  go_enter Tryd.func42, Tryd.ntmps42
  go_wp2
  exact bodyPost_ret (v := .int .i64 0) (by simp [results, Tryd.results42, go_sem]) rfl (Ret.of' rfl bXRE0)
 ·have hd : decide (a % W = b % W) = false := by simp [Nat.mod_eq_of_lt ha, Nat.mod_eq_of_lt hb, he]
  by_cases hl : a < b
  ·have hs : subB a b = true := by unfold subB; simpa using hl
   have hc : cmpI a b = -1 := by unfold cmpI; rw [if_neg he, if_pos hl]
   rw [hc]; clear hc he hl
   go_enter Tryd.func42, Tryd.ntmps42
   go_wp2_with (go_at_call 41; (with_reducible refine calls_ret (sub_any a b ha hb _) ?_); intro p)
   exact bodyPost_ret (v := .int .i64 (-1)) (by simp [results, Tryd.results42, go_sem]) rfl (Ret.of' rfl bXRE0)
  ·have hs : subB a b = false := by unfold subB; simpa using hl
   have hc : cmpI a b = 1 := by unfold cmpI; rw [if_neg he, if_neg hl]
   rw [hc]; clear hc he hl
   go_enter Tryd.func42, Tryd.ntmps42
   go_wp2_with (go_at_call 41; (with_reducible refine calls_ret (sub_any a b ha hb _) ?_); intro p)
   exact bodyPost_ret (v := .int .i64 1) (by simp [results, Tryd.results42, go_sem]) rfl (Ret.of' rfl bXRE0)
end Go.Proofs.YtoadeekdgikghaaDoor

/-
 MulMod, AddMod, Byte and Extend, walked, for all words.
-/
namespace Go.Proofs.YtoadeekdgikghaaDoor
open Go.RowKit
end Go.Proofs.YtoadeekdgikghaaDoor
namespace Go.Proofs.YtoadeekdgikghaaDoor
open Go.RowKit
@[go_sem] theorem lt_more15 {a b k0 k1 k2 k3 k4 k5 k6 k7 k8 k9 k10 k11 k12 k13 k14 : Nat} (h : a < b) : (a < b + k0 + k1 + k2 + k3 + k4 + k5 + k6 + k7 + k8 + k9 + k10 + k11 + k12 + k13 + k14) = True := by simp only [eq_iff_iff, iff_true]; omega
@[go_sem] theorem lt_more16 {a b k0 k1 k2 k3 k4 k5 k6 k7 k8 k9 k10 k11 k12 k13 k14 k15 : Nat} (h : a < b) : (a < b + k0 + k1 + k2 + k3 + k4 + k5 + k6 + k7 + k8 + k9 + k10 + k11 + k12 + k13 + k14 + k15) = True := by simp only [eq_iff_iff, iff_true]; omega
@[go_sem] theorem lt_more17 {a b k0 k1 k2 k3 k4 k5 k6 k7 k8 k9 k10 k11 k12 k13 k14 k15 k16 : Nat} (h : a < b) : (a < b + k0 + k1 + k2 + k3 + k4 + k5 + k6 + k7 + k8 + k9 + k10 + k11 + k12 + k13 + k14 + k15 + k16) = True := by simp only [eq_iff_iff, iff_true]; omega
@[go_sem] theorem lt_more18 {a b k0 k1 k2 k3 k4 k5 k6 k7 k8 k9 k10 k11 k12 k13 k14 k15 k16 k17 : Nat} (h : a < b) : (a < b + k0 + k1 + k2 + k3 + k4 + k5 + k6 + k7 + k8 + k9 + k10 + k11 + k12 + k13 + k14 + k15 + k16 + k17) = True := by simp only [eq_iff_iff, iff_true]; omega
@[go_sem] theorem lt_more19 {a b k0 k1 k2 k3 k4 k5 k6 k7 k8 k9 k10 k11 k12 k13 k14 k15 k16 k17 k18 : Nat} (h : a < b) : (a < b + k0 + k1 + k2 + k3 + k4 + k5 + k6 + k7 + k8 + k9 + k10 + k11 + k12 + k13 + k14 + k15 + k16 + k17 + k18) = True := by simp only [eq_iff_iff, iff_true]; omega
@[go_sem] theorem lt_more20 {a b k0 k1 k2 k3 k4 k5 k6 k7 k8 k9 k10 k11 k12 k13 k14 k15 k16 k17 k18 k19 : Nat} (h : a < b) : (a < b + k0 + k1 + k2 + k3 + k4 + k5 + k6 + k7 + k8 + k9 + k10 + k11 + k12 + k13 + k14 + k15 + k16 + k17 + k18 + k19) = True := by simp only [eq_iff_iff, iff_true]; omega
@[go_sem] theorem lt_more21 {a b k0 k1 k2 k3 k4 k5 k6 k7 k8 k9 k10 k11 k12 k13 k14 k15 k16 k17 k18 k19 k20 : Nat} (h : a < b) : (a < b + k0 + k1 + k2 + k3 + k4 + k5 + k6 + k7 + k8 + k9 + k10 + k11 + k12 + k13 + k14 + k15 + k16 + k17 + k18 + k19 + k20) = True := by simp only [eq_iff_iff, iff_true]; omega
@[go_sem] theorem lt_more22 {a b k0 k1 k2 k3 k4 k5 k6 k7 k8 k9 k10 k11 k12 k13 k14 k15 k16 k17 k18 k19 k20 k21 : Nat} (h : a < b) : (a < b + k0 + k1 + k2 + k3 + k4 + k5 + k6 + k7 + k8 + k9 + k10 + k11 + k12 + k13 + k14 + k15 + k16 + k17 + k18 + k19 + k20 + k21) = True := by simp only [eq_iff_iff, iff_true]; omega
@[go_sem] theorem lt_more23 {a b k0 k1 k2 k3 k4 k5 k6 k7 k8 k9 k10 k11 k12 k13 k14 k15 k16 k17 k18 k19 k20 k21 k22 : Nat} (h : a < b) : (a < b + k0 + k1 + k2 + k3 + k4 + k5 + k6 + k7 + k8 + k9 + k10 + k11 + k12 + k13 + k14 + k15 + k16 + k17 + k18 + k19 + k20 + k21 + k22) = True := by simp only [eq_iff_iff, iff_true]; omega
@[go_sem] theorem lt_more24 {a b k0 k1 k2 k3 k4 k5 k6 k7 k8 k9 k10 k11 k12 k13 k14 k15 k16 k17 k18 k19 k20 k21 k22 k23 : Nat} (h : a < b) : (a < b + k0 + k1 + k2 + k3 + k4 + k5 + k6 + k7 + k8 + k9 + k10 + k11 + k12 + k13 + k14 + k15 + k16 + k17 + k18 + k19 + k20 + k21 + k22 + k23) = True := by simp only [eq_iff_iff, iff_true]; omega
@[go_sem] theorem lt_more25 {a b k0 k1 k2 k3 k4 k5 k6 k7 k8 k9 k10 k11 k12 k13 k14 k15 k16 k17 k18 k19 k20 k21 k22 k23 k24 : Nat} (h : a < b) : (a < b + k0 + k1 + k2 + k3 + k4 + k5 + k6 + k7 + k8 + k9 + k10 + k11 + k12 + k13 + k14 + k15 + k16 + k17 + k18 + k19 + k20 + k21 + k22 + k23 + k24) = True := by simp only [eq_iff_iff, iff_true]; omega
@[go_sem] theorem lt_more26 {a b k0 k1 k2 k3 k4 k5 k6 k7 k8 k9 k10 k11 k12 k13 k14 k15 k16 k17 k18 k19 k20 k21 k22 k23 k24 k25 : Nat} (h : a < b) : (a < b + k0 + k1 + k2 + k3 + k4 + k5 + k6 + k7 + k8 + k9 + k10 + k11 + k12 + k13 + k14 + k15 + k16 + k17 + k18 + k19 + k20 + k21 + k22 + k23 + k24 + k25) = True := by simp only [eq_iff_iff, iff_true]; omega
@[go_sem] theorem lt_more27 {a b k0 k1 k2 k3 k4 k5 k6 k7 k8 k9 k10 k11 k12 k13 k14 k15 k16 k17 k18 k19 k20 k21 k22 k23 k24 k25 k26 : Nat} (h : a < b) : (a < b + k0 + k1 + k2 + k3 + k4 + k5 + k6 + k7 + k8 + k9 + k10 + k11 + k12 + k13 + k14 + k15 + k16 + k17 + k18 + k19 + k20 + k21 + k22 + k23 + k24 + k25 + k26) = True := by simp only [eq_iff_iff, iff_true]; omega
@[go_sem] theorem lt_more28 {a b k0 k1 k2 k3 k4 k5 k6 k7 k8 k9 k10 k11 k12 k13 k14 k15 k16 k17 k18 k19 k20 k21 k22 k23 k24 k25 k26 k27 : Nat} (h : a < b) : (a < b + k0 + k1 + k2 + k3 + k4 + k5 + k6 + k7 + k8 + k9 + k10 + k11 + k12 + k13 + k14 + k15 + k16 + k17 + k18 + k19 + k20 + k21 + k22 + k23 + k24 + k25 + k26 + k27) = True := by simp only [eq_iff_iff, iff_true]; omega
open Go.ChangeShapes Go.WideShapes Go.ChangeAt
theorem list4 {α : Type} (l : List α) (h : (⟨l⟩ : Array α).size = 4) : ∃ a b c d, l = [a, b, c, d] := by
 match l, h with
 | [a, b, c, d], _ => exact ⟨a, b, c, d, rfl⟩
theorem Tryd.own : ownKnob Tryd.prog.godebug = none := by kernel_rfl
theorem cellsU : Tryd.prog.cellsOf 25 = 1 := by kernel_rfl
def DV {H : Type} (a : Nat) : DataW H := .agg [.lit (.int .u64 (lm a 0 : Nat)), .lit (.int .u64 (lm a 1 : Nat)), .lit (.int .u64 (lm a 2 : Nat)), .lit (.int .u64 (lm a 3 : Nat))]
theorem of_wf {x : Int} (h : (Lit.int .u64 x).wf = true) : ∃ n : Nat, x = (n : Nat) ∧ n < 18446744073709551616 := by
 simp only [Lit.wf, Bool.and_eq_true, decide_eq_true_eq] at h
 have h1 : (0 : Int) ≤ x := h.1
 have h2 : x ≤ 18446744073709551615 := h.2
 exact ⟨x.toNat, by omega, by omega⟩
section
variable {H : Type} {enc : TypeId × Value → H} {w : World} {base : Nat} {spare : Nat → Bool} {held : Bool}
end
end Go.Proofs.YtoadeekdgikghaaDoor
namespace Go.Proofs.YtoadeekdgikghaaDoor
open Go.RowKit Go.ChangeShapes Go.WideShapes Go.ChangeAt
def Yes (w : World) (e : Ending) (w' : World) : Prop := ∃ u, e = .returned u ∧ ∃ v m', u = cv v ∧ MemOk w [] m' w' ∧ v = .bool true
theorem Yes.out {w w' : World} {e : Ending} (h : Yes w e w') : e = .returned (.bool true) ∧ ∃ p, w' = gw w p := by
 obtain ⟨u, rfl, v, m', rfl, hm, rfl⟩ := h
 exact ⟨rfl, gw_of_grown hm.grown⟩
section
variable {H : Type} {enc : TypeId × Value → H} {w : World} {base : Nat} {spare : Nat → Bool} {held : Bool} {r : Reach} {b0 : Nat} {t : TypeId} {v : Value} {d : DataW H} {ps : List MemPlace}
theorem nat_open {k : IntKind} (N : Nat) (hk : ∀ x : Int, (Lit.int k x).wf = true → 0 ≤ x ∧ x < (N : Int)) (ht : Tryd.prog.underlying t = some (.int k)) (hval : Value.okWide Tryd.prog w r b0 t v)
  (hd : DataW.Trod enc Tryd.prog w base spare held t v d ps) : ∃ n : Nat, v = .int k n ∧ d = .lit (.int k n) ∧ ps = [] ∧ n < N ∧ (Lit.int k n).wf = true := by
 obtain ⟨x, h1, h2, h3, h4⟩ := open_int ht hval hd
 obtain ⟨h5, h6⟩ := hk x h4
 obtain ⟨n, rfl⟩ : ∃ n : Nat, x = n := ⟨x.toNat, by omega⟩
 exact ⟨n, h1, h2, h3, by omega, h4⟩
theorem wf_u8 (x : Int) (h : (Lit.int .u8 x).wf = true) : 0 ≤ x ∧ x < (256 : Nat) := by
 simp only [Lit.wf, Bool.and_eq_true, decide_eq_true_eq] at h
 have h1 : (0 : Int) ≤ x := h.1
 have h2 : x ≤ 255 := h.2
 omega
theorem wf_u16 (x : Int) (h : (Lit.int .u16 x).wf = true) : 0 ≤ x ∧ x < (65536 : Nat) := by
 simp only [Lit.wf, Bool.and_eq_true, decide_eq_true_eq] at h
 have h1 : (0 : Int) ≤ x := h.1
 have h2 : x ≤ 65535 := h.2
 omega
theorem wf_u64 (x : Int) (h : (Lit.int .u64 x).wf = true) : 0 ≤ x ∧ x < (18446744073709551616 : Nat) := by
 simp only [Lit.wf, Bool.and_eq_true, decide_eq_true_eq] at h
 have h1 : (0 : Int) ≤ x := h.1
 have h2 : x ≤ 18446744073709551615 := h.2
 omega
theorem wf_i64 (x : Int) (h : (Lit.int .i64 x).wf = true) : -9223372036854775808 ≤ x ∧ x ≤ 9223372036854775807 := by
 simp only [Lit.wf, Bool.and_eq_true, decide_eq_true_eq] at h
 exact ⟨h.1, h.2⟩
end
end Go.Proofs.YtoadeekdgikghaaDoor
namespace Go.Proofs.YtoadeekdgikghaaDoor
open Go.RowKit Go.ChangeShapes Go.WideShapes Go.ChangeAt
theorem mapM_all {α β : Type} {f : α → Option β} : ∀ {l : List α} {ys : List β}, l.mapM f = some ys → ys.length = l.length ∧ ∀ (i : Nat) (x : α), l[i]? = some x → ∃ y, ys[i]? = some y ∧ f x = some y
 | [], ys, h => by simp at h; subst h; simp
 | a :: l, ys, h => by
  rw [List.mapM_cons] at h
  cases ha : f a with
  | none => rw [ha] at h; cases h
  | some y =>
   rw [ha] at h
   cases hl : l.mapM f with
   | none => rw [hl] at h; cases h
   | some zs =>
    rw [hl] at h
    simp at h
    subst h
    obtain ⟨h1, h2⟩ := mapM_all hl
    refine ⟨by simp [h1], fun i x hx => ?_⟩
    cases i with
    | zero => simp at hx; subst hx; exact ⟨y, by simp, ha⟩
    | succ i => simpa using h2 i x (by simpa using hx)
section
variable {H : Type} {enc : TypeId × Value → H} {P : Program} {w : World} {base : Nat} {spare : Nat → Bool} {held : Bool}
theorem arr_open {t e : TypeId} {n : Nat} {k : IntKind} {fuel : Nat} {cs : List Value} {x : DataW H × List MemPlace} (ht : P.underlying t = some (.array n e)) (he : P.underlying e = some (.int k)) (ce : P.cellsOf e = 1) (ct : P.cellsOf t = n)
  (h : DataW.trod enc P w base spare held fuel t cs = some x) : ∃ zs : List Int, zs.length = n ∧ cs = zs.map (Value.int k) ∧ x = (.agg (zs.map fun z => .lit (.int k z)), []) ∧ ∀ z ∈ zs, (Lit.int k z).wf = true := by
 cases fuel with
 | zero => simp [DataW.trod] at h
 | succ fuel =>
  unfold DataW.trod at h
  simp only [ht, ct, ce, Nat.mul_one] at h
  split at h
  ·rename_i hl
   simp only [Option.map_eq_some_iff] at h
   obtain ⟨ys, hy, rfl⟩ := h
   obtain ⟨h1, h2⟩ := mapM_all hy
   simp only [List.length_range] at h1
   have each : ∀ i, i < n → ∃ z, cs[i]? = some (Value.int k z) ∧ ys[i]? = some (.lit (.int k z), []) ∧ (Lit.int k z).wf = true := by
    intro i hi
    obtain ⟨y, hy1, hy2⟩ := h2 i i (by simp [hi])
    obtain ⟨z, g1, g2, g3⟩ := DataW.trod_int he hy2
    refine ⟨z, ?_, by rw [hy1, g2], g3⟩
    have h0 : ((cs.drop i).take 1)[0]? = some (Value.int k z) := by rw [g1]; rfl
    simpa using h0
   refine ⟨ys.map numOf, by simp [h1], ?_, ?_, ?_⟩
   ·apply List.ext_getElem?
    intro i
    by_cases hi : i < n
    ·obtain ⟨z, g1, g2, _⟩ := each i hi
     rw [g1, List.getElem?_map, List.getElem?_map, g2]; rfl
    ·rw [List.getElem?_eq_none (by omega), List.getElem?_eq_none (by simp; omega)]
   ·have hys : ys = (ys.map numOf).map fun z => (DataW.lit (.int k z), []) := by
     apply List.ext_getElem?
     intro i
     by_cases hi : i < n
     ·obtain ⟨z, _, g2, _⟩ := each i hi
      rw [List.getElem?_map, List.getElem?_map, g2]; rfl
     ·rw [List.getElem?_eq_none (by omega), List.getElem?_eq_none (by simp; omega)]
    generalize ys.map numOf = zs at hys
    subst hys
    simp [List.map_map, Function.comp_def]
   ·intro z hz
    obtain ⟨y, hy, rfl⟩ := List.mem_map.1 hz
    obtain ⟨i, hi⟩ := List.getElem?_of_mem hy
    have hin : i < n := by have := (List.getElem?_eq_some_iff.1 hi).1; omega
    obtain ⟨z', _, g2, g3⟩ := each i hin
    rw [hi] at g2
    simp only [Option.some.injEq] at g2
    rw [g2]; exact g3
  ·cases h
end
theorem addr_cells : Tryd.prog.cellsOf 24 = 20 := by kernel_rfl
theorem byte_cells : Tryd.prog.cellsOf 5 = 1 := by kernel_rfl
section
variable {H : Type} {enc : TypeId × Value → H} {w : World} {base : Nat} {spare : Nat → Bool} {held : Bool} {r : Reach} {b0 : Nat} {v : Value} {d : DataW H} {ps : List MemPlace}
theorem allB_wf {zs : List Int} (hw : ∀ z ∈ zs, (Lit.int .u8 z).wf = true) : allB zs := fun z hz => by have := wf_u8 z (hw z hz); omega
end
end Go.Proofs.YtoadeekdgikghaaDoor
namespace Go.Proofs.YtoadeekdgikghaaDoor
open Go.RowKit Go.ChangeShapes Go.WideShapes Go.ChangeAt
theorem post_gr {H : Type} {enc : TypeId × Value → H} {f : Func} {s : ChangeSpec} {apart fresh handsOn again : Bool} {W W' : World} {args : Array Value} {v : Value} {ds gs : List (DataW H)} {before : List MemPlace}
  (hW : DataW.Whole enc Tryd.prog f.params.toList s.vars apart W args.toList ds gs before) (hp : ∃ p, W' = gw W p)
  (hres : ∀ (b : Nat) (sp : Nat → Bool) (hd : Bool), DataW.TrodAll enc Tryd.prog W' b sp hd f.resultTypes.toList (v.resultList f.resultTypes.size) (s.fn H (ds ++ gs)).results [])
  (hargs : ∀ (q : Gro) (sp : Nat → Bool), (∀ p ∈ before, sp p.block = true) → DataW.TrodAll enc Tryd.prog (gw W q) 0 sp true f.params.toList args.toList (s.fn H (ds ++ gs)).args before)
  (hvars : ∀ sp : Nat → Bool, DataW.TrodVars enc Tryd.prog W' sp s.vars (s.fn H (ds ++ gs)).vars [])
  (hok : ∀ (j : Nat) (t : TypeId) (r : Value), f.resultTypes[j]? = some t → (v.resultList f.resultTypes.size)[j]? = some r → Value.okWide Tryd.prog W' .any 0 t r) :
  s.post enc Tryd.prog f apart fresh handsOn again W args v W' := by
 obtain ⟨p, rfl⟩ := hp
 have hlt := hW.lt
 refine ⟨ds, gs, before, [], before, [], hW, hres _ _ _, hargs p _ (fun q hq => by simpa using hlt q hq), hvars _, (gw_below W p).frame _, fun _ => ?_⟩
 obtain ⟨_, _, _, _, _, hz, hn⟩ := hW
 refine ⟨hok, _, _, ([] ++ before) ++ [], ⟨[] ++ before, [], trodAll_append (hargs p _ (fun _ _ => rfl)) (hres _ _ _), hvars _, rfl, ?_, ?_⟩, ?_⟩
 ·intro b off hp
  have hp' : MemPlace.cell b off ∈ before := by simpa using hp
  rw [gw_frozen W p b off (hlt _ hp')]
  exact hz b off hp'
 ·intro ha
  simpa using hn ha
 ·intro q hq _
  simpa using hq
section
variable {H : Type} {enc : TypeId × Value → H} {P : Program} {W : World} {r : Reach} {b0 : Nat} {t e : TypeId} {v : Value} {d : DataW H} {ps : List MemPlace} {k : IntKind}
theorem sl_form (ht : P.underlying t = some (.slice e)) (hval : Value.okWide P W r b0 t v) : ∃ a n c, v = .slice a n c := by
 unfold Value.okWide at hval
 rw [ht] at hval
 unfold Cell.okWide at hval
 simp only [ht] at hval
 unfold Cell.ok at hval
 simp only [ht] at hval
 cases v <;> first | exact ⟨_, _, _, rfl⟩ | (simp at hval)
end
theorem calls_args {P : Program} {f : FuncId} {args args' : Array Value} {w : World} {R : Ending → World → Prop} (h : args = args') (hc : Calls P f args w R) : Calls P f args' w R := h ▸ hc
section
variable {H : Type} {enc : TypeId × Value → H} {P : Program} {w : World} {base : Nat} {spare : Nat → Bool} {held : Bool}
theorem trodAll_five {t0 t1 t2 t3 t4 : TypeId} {args : Array Value} {ds : List (DataW H)} {ps : List MemPlace} (h : DataW.TrodAll enc P w base spare held [t0, t1, t2, t3, t4] args.toList ds ps) :
  ∃ v0 v1 v2 v3 v4 d0 d1 d2 d3 d4 p0 p1 p2 p3 p4, args = #[v0, v1, v2, v3, v4] ∧ ds = [d0, d1, d2, d3, d4] ∧ ps = p0 ++ p1 ++ p2 ++ p3 ++ p4 ∧ DataW.Trod enc P w base spare held t0 v0 d0 p0 ∧ DataW.Trod enc P w base spare held t1 v1 d1 p1 ∧ DataW.Trod enc P w base spare held t2 v2 d2 p2 ∧ DataW.Trod enc P w base spare held t3 v3 d3 p3 ∧ DataW.Trod enc P w base spare held t4 v4 d4 p4 := by
 obtain ⟨v0, vs0, d0, ds0, p0, q0, hargs, rfl, rfl, hd0, hrest0⟩ := trodAll_cons h
 obtain ⟨v1, vs1, d1, ds1, p1, q1, rfl, rfl, rfl, hd1, hrest1⟩ := trodAll_cons hrest0
 obtain ⟨v2, vs2, d2, ds2, p2, q2, rfl, rfl, rfl, hd2, hrest2⟩ := trodAll_cons hrest1
 obtain ⟨v3, vs3, d3, ds3, p3, q3, rfl, rfl, rfl, hd3, hrest3⟩ := trodAll_cons hrest2
 obtain ⟨v4, vs4, d4, ds4, p4, q4, rfl, rfl, rfl, hd4, hrest4⟩ := trodAll_cons hrest3
 obtain ⟨rfl, rfl, rfl⟩ := trodAll_nil hrest4
 exact ⟨v0, v1, v2, v3, v4, d0, d1, d2, d3, d4, p0, p1, p2, p3, p4, by cases args; simp_all, rfl, by simp, hd0, hd1, hd2, hd3, hd4⟩
end
end Go.Proofs.YtoadeekdgikghaaDoor
namespace Go.Proofs.YtoadeekdgikghaaDoor
open Go.RowKit
def xo (a b : Int) : Int := bits .xor .u64 a b
def an (a b : Int) : Int := bits .and .u64 a b
def no (a : Int) : Int := bits .xor .u64 18446744073709551615 a
def rt (v : Int) (n : Nat) : Int := bits .or .u64 (IntKind.u64.wrap (v * 2 ^ n)) (v / 2 ^ (64 - n))
def it {α : Type} (f : α → Nat → α) (n : Nat) (a : α) : α := (List.range n).foldl f a
theorem it_s {α : Type} (f : α → Nat → α) (n : Nat) (a : α) : it f (n + 1) a = f (it f n a) n := by unfold it; rw [List.range_succ, List.foldl_append]; rfl
def kPath : List Nat := [10, 7, 11, 17, 18, 3, 5, 16, 8, 21, 24, 4, 15, 23, 19, 13, 12, 2, 20, 14, 22, 9, 6, 1]
def kCs (l c : List Int) (k : Nat) : List Int := c.set k (xo (xo (xo (xo (l.getD k 0) (l.getD (k + 5) 0)) (l.getD (k + 10) 0)) (l.getD (k + 15) 0)) (l.getD (k + 20) 0))
def kC (l : List Int) (n : Nat) : List Int := it (kCs l) n [0, 0, 0, 0, 0]
def kD (c : List Int) (x : Nat) : Int := xo (c.getD ((x + 4) % 5) 0) (rt (c.getD ((x + 1) % 5) 0) 1)
def kIs (d : Int) (x : Nat) (s : List Int) (y : Nat) : List Int := s.set (5 * y + x) (xo (s.getD (5 * y + x) 0) d)
def kIn (s : List Int) (d : Int) (x n : Nat) : List Int := it (kIs d x) n s
def kSs (d : Nat → Int) (s : List Int) (x : Nat) : List Int := kIn s (d x) x 5
def kSp (l : List Int) (d : Nat → Int) (n : Nat) : List Int := it (kSs d) n l
def kMs (p : List Int × Int) (t : Nat) : List Int × Int := (p.1.set (kPath.getD t 0) (rt p.2 ((t + 1) * (t + 2) / 2 % 64)), p.1.getD (kPath.getD t 0) 0)
def kMv (l : List Int) (n : Nat) : List Int × Int := it kMs n (l, l.getD 1 0)
def kRow (l : List Int) (y x : Nat) : Int := xo (l.getD (5 * y + x) 0) (an (no (l.getD (5 * y + (x + 1) % 5) 0)) (l.getD (5 * y + (x + 2) % 5) 0))
def kBs (l : List Int) (y : Nat) : List Int := ((((l.set (5 * y) (kRow l y 0)).set (5 * y + 1) (kRow l y 1)).set (5 * y + 2) (kRow l y 2)).set (5 * y + 3) (kRow l y 3)).set (5 * y + 4) (kRow l y 4)
def kBe (l : List Int) (n : Nat) : List Int := it kBs n l
def kSpr (l : List Int) : List Int := kSp l (kD (kC l 5)) 5
def kMov (l : List Int) : List Int := (kMv l 24).1
def kBen (l : List Int) : List Int := kBe l 5
def kRnd (k : Int) (l : List Int) : List Int := (kBen (kMov (kSpr l))).set 0 (xo ((kBen (kMov (kSpr l))).getD 0 0) k)
section
variable (x0 x1 x2 x3 x4 x5 x6 x7 x8 x9 x10 x11 x12 x13 x14 x15 x16 x17 x18 x19 x20 x21 x22 x23 x24 : Int) (d : Nat → Int)
end
end Go.Proofs.YtoadeekdgikghaaDoor
namespace Go.Proofs.YtoadeekdgikghaaDoor
open Go.RowKit
theorem lmI_len (x : Nat) : (lmI x).length = 4 := rfl
theorem cc_lmI (x : Nat) : cc (.ints .u64 (lmI x)) = cc (.words [x]) := by simp [cc, lmI, wcs]
theorem allU_lmI (x : Nat) : allU (lmI x) := by
 have h0 := lm_lt x 0
 have h1 := lm_lt x 1
 have h2 := lm_lt x 2
 have h3 := lm_lt x 3
 exact ⟨by omega, by omega, by omega, by omega, trivial⟩
theorem numI_lmI {x : Nat} (h : x < W) : numI (lmI x) = x := by
 simp only [numI, lmI, Int.toNat_natCast]; exact num_lm h
end Go.Proofs.YtoadeekdgikghaaDoor
