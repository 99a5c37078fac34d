/-
 Slices of words as a law is handed them: opened and shut. No condition.
-/
import Derived.Test.YtpebhddacbdicaaBS
import Derived.ChangeOld
import Derived.ChangeMaps5
import Derived.Deep.Slices
set_option maxRecDepth 10000
set_option linter.unusedVariables false
set_option linter.unusedSimpArgs false
namespace Go.Proofs.Ytpebhddacbdicaa
open Go.RowKit Go.ChangeShapes Go.WideShapes Go.ChangeAt
theorem post_gr {H : Type} {enc : TypeId × Value → H} {f : Func} {s : ChangeSpec} {apart fresh handsOn again : Bool} {W W' : World} {args : Array Value} {v : Value} {ds gs : List (DataW H)} {before : List MemPlace}
  (hW : DataW.Whole enc Try.prog f.params.toList s.vars apart W args.toList ds gs before) (hp : ∃ p, W' = gw W p)
  (hres : ∀ (b : Nat) (sp : Nat → Bool) (hd : Bool), DataW.TrodAll enc Try.prog W' b sp hd f.resultTypes.toList (v.resultList f.resultTypes.size) (s.fn H (ds ++ gs)).results [])
  (hargs : ∀ (q : Gro) (sp : Nat → Bool), (∀ p ∈ before, sp p.block = true) → DataW.TrodAll enc Try.prog (gw W q) 0 sp true f.params.toList args.toList (s.fn H (ds ++ gs)).args before)
  (hvars : ∀ sp : Nat → Bool, DataW.TrodVars enc Try.prog W' sp s.vars (s.fn H (ds ++ gs)).vars [])
  (hok : ∀ (j : Nat) (t : TypeId) (r : Value), f.resultTypes[j]? = some t → (v.resultList f.resultTypes.size)[j]? = some r → Value.okWide Try.prog W' .any 0 t r) :
  s.post enc Try.prog f apart fresh handsOn again W args v W' := by
 obtain ⟨p, rfl⟩ := hp
 have hlt := hW.lt
 refine ⟨ds, gs, before, [], before, [], hW, hres _ _ _, hargs p _ (fun q hq => by simpa using hlt q hq), hvars _, (gw_below W p).frame _, fun _ => ?_⟩
 obtain ⟨_, _, _, _, _, hz, hn⟩ := hW
 refine ⟨hok, _, _, ([] ++ before) ++ [], ⟨[] ++ before, [], trodAll_append (hargs p _ (fun _ _ => rfl)) (hres _ _ _), hvars _, rfl, ?_, ?_⟩, ?_⟩
 ·intro b off hp
  have hp' : MemPlace.cell b off ∈ before := by simpa using hp
  rw [gw_frozen W p b off (hlt _ hp')]
  exact hz b off hp'
 ·intro ha
  simpa using hn ha
 ·intro q hq _
  simpa using hq
section
variable {H : Type} {enc : TypeId × Value → H} {P : Program} {W : World} {r : Reach} {b0 : Nat} {t e : TypeId} {v : Value} {d : DataW H} {ps : List MemPlace} {k : IntKind}
theorem sl_form (ht : P.underlying t = some (.slice e)) (hval : Value.okWide P W r b0 t v) : ∃ a n c, v = .slice a n c := by
 unfold Value.okWide at hval
 rw [ht] at hval
 unfold Cell.okWide at hval
 simp only [ht] at hval
 unfold Cell.ok at hval
 simp only [ht] at hval
 cases v <;> first | exact ⟨_, _, _, rfl⟩ | (simp at hval)
end
theorem calls_args {P : Program} {f : FuncId} {args args' : Array Value} {w : World} {R : Ending → World → Prop} (h : args = args') (hc : Calls P f args w R) : Calls P f args' w R := h ▸ hc
section
variable {H : Type} {enc : TypeId × Value → H} {P : Program} {w : World} {base : Nat} {spare : Nat → Bool} {held : Bool}
end
end Go.Proofs.Ytpebhddacbdicaa
namespace Go.Proofs.Ytpebhddacbdicaa
open Go.RowKit Go.ChangeShapes Go.WideShapes Go.ChangeAt
section
variable {H : Type} {enc : TypeId × Value → H} {w : World} {base : Nat} {spare : Nat → Bool} {held : Bool}
theorem word_cells {fuel : Nat} {cs : List Value} {x : DataW H × List MemPlace} (hf : DataW.trod enc Try.prog w base spare held fuel 27 cs = some x) (hl : cs.length = 4) :
  ∃ a, cs = wcs a ∧ x = (DV a, []) ∧ a < W := by
 obtain ⟨c0, c1, c2, c3, rfl⟩ := list4 cs hl
 obtain ⟨y0, y1, y2, y3, m, hx, hy0, hy1, hy2, hy3⟩ := trod_array4 Try.underlying27 cellsU hf
 obtain ⟨x0, e0, rfl, w0⟩ := DataW.trod_int Try.underlying25 hy0
 obtain ⟨x1, e1, rfl, w1⟩ := DataW.trod_int Try.underlying25 hy1
 obtain ⟨x2, e2, rfl, w2⟩ := DataW.trod_int Try.underlying25 hy2
 obtain ⟨x3, e3, rfl, w3⟩ := DataW.trod_int Try.underlying25 hy3
 simp at e0 e1 e2 e3
 subst e0 e1 e2 e3
 subst hx
 obtain ⟨n0, rfl, h0⟩ := of_wf w0
 obtain ⟨n1, rfl, h1⟩ := of_wf w1
 obtain ⟨n2, rfl, h2⟩ := of_wf w2
 obtain ⟨n3, rfl, h3⟩ := of_wf w3
 refine ⟨num n0 n1 n2 n3, ?_, ?_, num_lt h0 h1 h2 h3⟩
 ·unfold wcs; rw [lm0_num h0, lm1_num h0 h1, lm2_num h0 h1 h2, lm3_num h0 h1 h2 h3]
 ·unfold DV; rw [lm0_num h0, lm1_num h0 h1, lm2_num h0 h1 h2, lm3_num h0 h1 h2 h3]; rfl
end
end Go.Proofs.Ytpebhddacbdicaa
