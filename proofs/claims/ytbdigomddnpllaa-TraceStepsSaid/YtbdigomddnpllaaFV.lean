/-
  Slices of words as a law is handed them: opened and shut. No condition.
-/
import Derived.Test.YtbdigomddnpllaaRD
import Derived.Test.YtbdigomddnpllaaEG
import Derived.ChangeOld
import Derived.ChangeMaps5
import Derived.Deep.Slices
namespace Go.Proofs.Ytbdigomddnpllaa
set_option linter.unusedSimpArgs false
set_option linter.unusedVariables false
set_option maxRecDepth 10000
open Go.RowKit Go.ChangeShapes Go.WideShapes Go.ChangeAt
theorem mapM_all {α β : Type} {f : α → Option β} : ∀ {l : List α} {ys : List β}, l.mapM f = some ys → ys.length = l.length ∧ ∀ (i : Nat) (x : α), l[i]? = some x → ∃ y, ys[i]? = some y ∧ f x = some y
  | [], ys, h => by simp at h; subst h; simp
  | a :: l, ys, h => by
    rw [List.mapM_cons] at h
    cases ha : f a with
    | none => rw [ha] at h; cases h
    | some y =>
      rw [ha] at h
      cases hl : l.mapM f with
      | none => rw [hl] at h; cases h
      | some zs =>
        rw [hl] at h
        simp at h
        subst h
        obtain ⟨h1, h2⟩ := mapM_all hl
        refine ⟨by simp [h1], fun i x hx => ?_⟩
        cases i with
        | zero => simp at hx; subst hx; exact ⟨y, by simp, ha⟩
        | succ i => simpa using h2 i x (by simpa using hx)
section
variable {H : Type} {enc : TypeId × Value → H} {P : Program} {w : World} {base : Nat} {spare : Nat → Bool} {held : Bool}
theorem arr_open {t e : TypeId} {n : Nat} {k : IntKind} {fuel : Nat} {cs : List Value} {x : DataW H × List MemPlace} (ht : P.underlying t = some (.array n e)) (he : P.underlying e = some (.int k)) (ce : P.cellsOf e = 1) (ct : P.cellsOf t = n)
    (h : DataW.trod enc P w base spare held fuel t cs = some x) : ∃ zs : List Int, zs.length = n ∧ cs = zs.map (Value.int k) ∧ x = (.agg (zs.map fun z => .lit (.int k z)), []) ∧ ∀ z ∈ zs, (Lit.int k z).wf = true := by
  cases fuel with
  | zero => simp [DataW.trod] at h
  | succ fuel =>
    unfold DataW.trod at h
    simp only [ht, ct, ce, Nat.mul_one] at h
    split at h
    · rename_i hl
      simp only [Option.map_eq_some_iff] at h
      obtain ⟨ys, hy, rfl⟩ := h
      obtain ⟨h1, h2⟩ := mapM_all hy
      simp only [List.length_range] at h1
      have each : ∀ i, i < n → ∃ z, cs[i]? = some (Value.int k z) ∧ ys[i]? = some (.lit (.int k z), []) ∧ (Lit.int k z).wf = true := by
        intro i hi
        obtain ⟨y, hy1, hy2⟩ := h2 i i (by simp [hi])
        obtain ⟨z, g1, g2, g3⟩ := DataW.trod_int he hy2
        refine ⟨z, ?_, by rw [hy1, g2], g3⟩
        have h0 : ((cs.drop i).take 1)[0]? = some (Value.int k z) := by rw [g1]; rfl
        simpa using h0
      refine ⟨ys.map numOf, by simp [h1], ?_, ?_, ?_⟩
      · apply List.ext_getElem?
        intro i
        by_cases hi : i < n
        · obtain ⟨z, g1, g2, _⟩ := each i hi
          rw [g1, List.getElem?_map, List.getElem?_map, g2]; rfl
        · rw [List.getElem?_eq_none (by omega), List.getElem?_eq_none (by simp; omega)]
      · have hys : ys = (ys.map numOf).map fun z => (DataW.lit (.int k z), []) := by
          apply List.ext_getElem?
          intro i
          by_cases hi : i < n
          · obtain ⟨z, _, g2, _⟩ := each i hi
            rw [List.getElem?_map, List.getElem?_map, g2]; rfl
          · rw [List.getElem?_eq_none (by omega), List.getElem?_eq_none (by simp; omega)]
        generalize ys.map numOf = zs at hys
        subst hys
        simp [List.map_map, Function.comp_def]
      · intro z hz
        obtain ⟨y, hy, rfl⟩ := List.mem_map.1 hz
        obtain ⟨i, hi⟩ := List.getElem?_of_mem hy
        have hin : i < n := by have := (List.getElem?_eq_some_iff.1 hi).1; omega
        obtain ⟨z', _, g2, g3⟩ := each i hin
        rw [hi] at g2
        simp only [Option.some.injEq] at g2
        rw [g2]; exact g3
    · cases h
end
theorem addr_cells : Try.prog.cellsOf 24 = 20 := by kernel_rfl
theorem byte_cells : Try.prog.cellsOf 5 = 1 := by kernel_rfl
section
variable {H : Type} {enc : TypeId × Value → H} {w : World} {base : Nat} {spare : Nat → Bool} {held : Bool} {r : Reach} {b0 : Nat} {v : Value} {d : DataW H} {ps : List MemPlace}
theorem allB_wf {zs : List Int} (hw : ∀ z ∈ zs, (Lit.int .u8 z).wf = true) : allB zs := fun z hz => by have := wf_u8 z (hw z hz); omega
end
end Go.Proofs.Ytbdigomddnpllaa
namespace Go.Proofs.Ytbdigomddnpllaa
set_option linter.unusedSimpArgs false
set_option linter.unusedVariables false
set_option maxRecDepth 10000
open Go.RowKit Go.ChangeShapes Go.WideShapes Go.ChangeAt
theorem post_gr {H : Type} {enc : TypeId × Value → H} {f : Func} {s : ChangeSpec} {apart fresh handsOn again : Bool} {W W' : World} {args : Array Value} {v : Value} {ds gs : List (DataW H)} {before : List MemPlace}
    (hW : DataW.Whole enc Try.prog f.params.toList s.vars apart W args.toList ds gs before) (hp : ∃ p, W' = gw W p)
    (hres : ∀ (b : Nat) (sp : Nat → Bool) (hd : Bool), DataW.TrodAll enc Try.prog W' b sp hd f.resultTypes.toList (v.resultList f.resultTypes.size) (s.fn H (ds ++ gs)).results [])
    (hargs : ∀ (q : Gro) (sp : Nat → Bool), (∀ p ∈ before, sp p.block = true) → DataW.TrodAll enc Try.prog (gw W q) 0 sp true f.params.toList args.toList (s.fn H (ds ++ gs)).args before)
    (hvars : ∀ sp : Nat → Bool, DataW.TrodVars enc Try.prog W' sp s.vars (s.fn H (ds ++ gs)).vars [])
    (hok : ∀ (j : Nat) (t : TypeId) (r : Value), f.resultTypes[j]? = some t → (v.resultList f.resultTypes.size)[j]? = some r → Value.okWide Try.prog W' .any 0 t r) :
    s.post enc Try.prog f apart fresh handsOn again W args v W' := by
  obtain ⟨p, rfl⟩ := hp
  have hlt := hW.lt
  refine ⟨ds, gs, before, [], before, [], hW, hres _ _ _, hargs p _ (fun q hq => by simpa using hlt q hq), hvars _, (gw_below W p).frame _, fun _ => ?_⟩
  obtain ⟨_, _, _, _, _, hz, hn⟩ := hW
  refine ⟨hok, _, _, ([] ++ before) ++ [], ⟨[] ++ before, [], trodAll_append (hargs p _ (fun _ _ => rfl)) (hres _ _ _), hvars _, rfl, ?_, ?_⟩, ?_⟩
  · intro b off hp
    have hp' : MemPlace.cell b off ∈ before := by simpa using hp
    rw [gw_frozen W p b off (hlt _ hp')]
    exact hz b off hp'
  · intro ha
    simpa using hn ha
  · intro q hq _
    simpa using hq
section
variable {H : Type} {enc : TypeId × Value → H} {P : Program} {W : World} {r : Reach} {b0 : Nat} {t e : TypeId} {v : Value} {d : DataW H} {ps : List MemPlace} {k : IntKind}
theorem sl_form (ht : P.underlying t = some (.slice e)) (hval : Value.okWide P W r b0 t v) : ∃ a n c, v = .slice a n c := by
  unfold Value.okWide at hval
  rw [ht] at hval
  unfold Cell.okWide at hval
  simp only [ht] at hval
  unfold Cell.ok at hval
  simp only [ht] at hval
  cases v <;> first | exact ⟨_, _, _, rfl⟩ | (simp at hval)
end
theorem calls_args {P : Program} {f : FuncId} {args args' : Array Value} {w : World} {R : Ending → World → Prop} (h : args = args') (hc : Calls P f args w R) : Calls P f args' w R := h ▸ hc
section
variable {H : Type} {enc : TypeId × Value → H} {P : Program} {w : World} {base : Nat} {spare : Nat → Bool} {held : Bool}
end
end Go.Proofs.Ytbdigomddnpllaa
namespace Go.Proofs.Ytbdigomddnpllaa
set_option linter.unusedSimpArgs false
set_option linter.unusedVariables false
open Go.RowKit Go.ChangeShapes Go.WideShapes Go.ChangeAt
section
variable {H : Type} {enc : TypeId × Value → H} {w : World} {base : Nat} {spare : Nat → Bool} {held : Bool}
theorem word_cells {fuel : Nat} {cs : List Value} {x : DataW H × List MemPlace} (hf : DataW.trod enc Try.prog w base spare held fuel 27 cs = some x) (hl : cs.length = 4) :
    ∃ a, cs = wcs a ∧ x = (DV a, []) ∧ a < W := by
  obtain ⟨c0, c1, c2, c3, rfl⟩ := list4 cs hl
  obtain ⟨y0, y1, y2, y3, m, hx, hy0, hy1, hy2, hy3⟩ := trod_array4 Try.underlying27 cellsU hf
  obtain ⟨x0, e0, rfl, w0⟩ := DataW.trod_int Try.underlying25 hy0
  obtain ⟨x1, e1, rfl, w1⟩ := DataW.trod_int Try.underlying25 hy1
  obtain ⟨x2, e2, rfl, w2⟩ := DataW.trod_int Try.underlying25 hy2
  obtain ⟨x3, e3, rfl, w3⟩ := DataW.trod_int Try.underlying25 hy3
  simp at e0 e1 e2 e3
  subst e0 e1 e2 e3
  subst hx
  obtain ⟨n0, rfl, h0⟩ := of_wf w0
  obtain ⟨n1, rfl, h1⟩ := of_wf w1
  obtain ⟨n2, rfl, h2⟩ := of_wf w2
  obtain ⟨n3, rfl, h3⟩ := of_wf w3
  refine ⟨num n0 n1 n2 n3, ?_, ?_, num_lt h0 h1 h2 h3⟩
  · unfold wcs; rw [lm0_num h0, lm1_num h0 h1, lm2_num h0 h1 h2, lm3_num h0 h1 h2 h3]
  · unfold DV; rw [lm0_num h0, lm1_num h0 h1, lm2_num h0 h1 h2, lm3_num h0 h1 h2 h3]; rfl
end
end Go.Proofs.Ytbdigomddnpllaa
