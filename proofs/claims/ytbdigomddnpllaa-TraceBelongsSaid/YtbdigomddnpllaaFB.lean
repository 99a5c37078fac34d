/-
  Slices of numbers and strings as a law is handed them: opened and shut; a law's end where slices came in. No condition.
-/
import Derived.Test.YtbdigomddnpllaaFA
import Derived.Test.YtbdigomddnpllaaBS
import Derived.ChangeOld
import Derived.ChangeMaps5
namespace Go.Proofs.Ytbdigomddnpllaa
set_option linter.unusedSimpArgs false
set_option linter.unusedVariables false
set_option maxRecDepth 10000
open Go.RowKit Go.ChangeShapes Go.WideShapes Go.ChangeAt
/-- Behind a call that made memory alone. -/
theorem post_gr {H : Type} {enc : TypeId × Value → H} {f : Func} {s : ChangeSpec} {apart fresh handsOn again : Bool} {W W' : World} {args : Array Value} {v : Value} {ds gs : List (DataW H)} {before : List MemPlace}
    (hW : DataW.Whole enc Try.prog f.params.toList s.vars apart W args.toList ds gs before) (hp : ∃ p, W' = gw W p)
    (hres : ∀ (b : Nat) (sp : Nat → Bool) (hd : Bool), DataW.TrodAll enc Try.prog W' b sp hd f.resultTypes.toList (v.resultList f.resultTypes.size) (s.fn H (ds ++ gs)).results [])
    (hargs : ∀ (q : Gro) (sp : Nat → Bool), (∀ p ∈ before, sp p.block = true) → DataW.TrodAll enc Try.prog (gw W q) 0 sp true f.params.toList args.toList (s.fn H (ds ++ gs)).args before)
    (hvars : ∀ sp : Nat → Bool, DataW.TrodVars enc Try.prog W' sp s.vars (s.fn H (ds ++ gs)).vars [])
    (hok : ∀ (j : Nat) (t : TypeId) (r : Value), f.resultTypes[j]? = some t → (v.resultList f.resultTypes.size)[j]? = some r → Value.okWide Try.prog W' .any 0 t r) :
    s.post enc Try.prog f apart fresh handsOn again W args v W' := by
  obtain ⟨p, rfl⟩ := hp
  have hlt := hW.lt
  refine ⟨ds, gs, before, [], before, [], hW, hres _ _ _, hargs p _ (fun q hq => by simpa using hlt q hq), hvars _, (gw_below W p).frame _, fun _ => ?_⟩
  obtain ⟨_, _, _, _, _, hz, hn⟩ := hW
  refine ⟨hok, _, _, ([] ++ before) ++ [], ⟨[] ++ before, [], trodAll_append (hargs p _ (fun _ _ => rfl)) (hres _ _ _), hvars _, rfl, ?_, ?_⟩, ?_⟩
  · intro b off hp
    have hp' : MemPlace.cell b off ∈ before := by simpa using hp
    rw [gw_frozen W p b off (hlt _ hp')]
    exact hz b off hp'
  · intro ha
    simpa using hn ha
  · intro q hq _
    simpa using hq
section
variable {H : Type} {enc : TypeId × Value → H} {P : Program} {W : World} {r : Reach} {b0 : Nat} {t e : TypeId} {v : Value} {d : DataW H} {ps : List MemPlace} {k : IntKind}
theorem sl_spot (ht : P.underlying t = some (.slice e)) {a : Addr} {len cap : Nat} (hval : Value.okWide P W r b0 t (.slice (some a) len cap)) : a.spot = none := by
  unfold Value.okWide at hval
  rw [ht] at hval
  unfold Cell.okWide at hval
  simp only [ht] at hval
  unfold Cell.ok at hval
  simp only [ht] at hval
  exact hval.2.2.2.1
theorem cv_sl (nm : Nat) (a : Option Addr) (es n c : Nat) : cv (.sl nm a 0 0 es n c) = .slice a n c := by
  simp only [cv, ite_self, Nat.zero_mul, Value.slice.injEq, and_true]
  cases a with
  | none => rfl
  | some a => simp [Addr.add]
theorem sl_form (ht : P.underlying t = some (.slice e)) (hval : Value.okWide P W r b0 t v) : ∃ a n c, v = .slice a n c := by
  unfold Value.okWide at hval
  rw [ht] at hval
  unfold Cell.okWide at hval
  simp only [ht] at hval
  unfold Cell.ok at hval
  simp only [ht] at hval
  cases v <;> first | exact ⟨_, _, _, rfl⟩ | (simp at hval)
theorem wrap_cells (a : Option Addr) (n c : Nat) : (Value.slice a n c).cells.toList = [.slice a n c] := rfl
theorem ints_open (ht : P.underlying t = some (.slice e)) (he : P.underlying e = some (.int k)) (hc : P.cellsOf e = 1) (hval : Value.okWide P W r b0 t v) (hd : DataW.Trod enc P W 0 (fun _ => true) true t v d ps) :
    ∃ (a : Option Addr) (len cap : Nat) (xs : List Int), v = .slice a len cap ∧ xs.length = len ∧ len ≤ cap ∧ cap ≤ maxLen ∧ adr a len cap ∧ (∀ x ∈ xs, (Lit.int k x).wf = true) ∧ RoOk W a (.ints k xs) ∧
      ∀ (q : Gro) (sp : Nat → Bool), (∀ p ∈ ps, sp p.block = true) → DataW.Trod enc P (gw W q) 0 sp true t v d ps := by
  obtain ⟨fuel, hf⟩ := hd
  obtain ⟨a0, n0, c0, rfl⟩ := sl_form ht hval
  rcases open_ints ht he hc hf with ⟨h1, h2⟩ | ⟨a, len, cap, zs, h1, h2, h3, h4, h5, h6, h7, h8⟩
  · rw [wrap_cells] at h1
    simp only [List.cons.injEq, Value.slice.injEq, and_true] at h1
    obtain ⟨rfl, rfl, rfl⟩ := h1
    simp only [Prod.mk.injEq] at h2
    obtain ⟨rfl, rfl⟩ := h2
    exact ⟨none, 0, 0, [], rfl, rfl, Nat.le_refl _, Nat.zero_le _, .inr ⟨rfl, rfl, rfl⟩, by simp, by intro j u hj; simp [cc] at hj, fun q sp _ => shut_slice_nil ht⟩
  · rw [wrap_cells] at h1
    simp only [List.cons.injEq, Value.slice.injEq, and_true] at h1
    obtain ⟨rfl, rfl, rfl⟩ := h1
    have hs := sl_spot ht hval
    obtain ⟨b, off, sp0⟩ := a
    simp only at hs
    subst hs
    rw [if_pos rfl] at h5
    have hcell : ∀ i, i < zs.length → W.cell? ⟨b, off + i, none⟩ = some (.int k (zs.getD i 0)) := fun i hi => by have := h7 i hi; rwa [addr_add] at this
    have hblk : ∀ j, j < zs.length → b < W.heap.size := fun j hj => World.block_lt_of_cell? W ⟨b, off + j, none⟩ (hcell j hj)
    simp only [Prod.mk.injEq] at h6
    obtain ⟨rfl, rfl⟩ := h6
    refine ⟨some ⟨b, off, none⟩, n0, c0, zs.take n0, rfl, by rw [List.length_take]; omega, h3, h4, .inl rfl, fun x hx => h8 x (List.mem_of_mem_take hx), fun j u hj => ?_, fun q sp hsp => ⟨2, ?_⟩⟩
    · simp only [cc, List.getElem?_map, Option.map_eq_some_iff, List.getElem?_take] at hj
      obtain ⟨x, hx, rfl⟩ := hj
      split at hx
      · have hjl := (List.getElem?_eq_some_iff.1 hx).1
        refine ⟨b, off, rfl, hblk j hjl, ?_⟩
        rw [hcell j hjl, List.getD_eq_getElem?_getD, hx]; rfl
      · cases hx
    · have hz : zs.length = if sp b = true then c0 else n0 := by
        by_cases hn : 0 < zs.length
        · have : sp b = true := hsp (.cell b (off + 0)) (List.mem_map.2 ⟨0, by simpa using hn, rfl⟩)
          rw [if_pos this]; exact h5
        · split <;> omega
      exact shut_ints' 0 ht he hc (Nat.zero_le _) h3 h4 hz (fun i hi => by rw [gw_cell W q b _ (hblk i hi)]; exact hcell i hi) h8
end
theorem bytes_open {H : Type} {enc : TypeId × Value → H} {W : World} {r : Reach} {b0 : Nat} {v : Value} {d : DataW H} {ps : List MemPlace} (hval : Value.okWide Try.prog W r b0 43 v) (hd : DataW.Trod enc Try.prog W 0 (fun _ => true) true 43 v d ps) :
    ∃ (a : Option Addr) (len cap : Nat) (xs : List Int), v = .slice a len cap ∧ xs.length = len ∧ len ≤ cap ∧ cap ≤ maxLen ∧ adr a len cap ∧ allB xs ∧ RoOk W a (.ints .u8 xs) ∧
      ∀ (q : Gro) (sp : Nat → Bool), (∀ p ∈ ps, sp p.block = true) → DataW.Trod enc Try.prog (gw W q) 0 sp true 43 v d ps := by
  obtain ⟨a, n, c, xs, h1, h2, h3, h4, h5, h6, h7, h8⟩ := ints_open Try.underlying43 Try.underlying5 byte_cells hval hd
  exact ⟨a, n, c, xs, h1, h2, h3, h4, h5, allB_wf h6, h7, h8⟩
theorem calls_args {P : Program} {f : FuncId} {args args' : Array Value} {w : World} {R : Ending → World → Prop} (h : args = args') (hc : Calls P f args w R) : Calls P f args' w R := h ▸ hc
section
variable {H : Type} {enc : TypeId × Value → H} {P : Program} {w : World} {base : Nat} {spare : Nat → Bool} {held : Bool}
theorem trodAll_five {t0 t1 t2 t3 t4 : TypeId} {args : Array Value} {ds : List (DataW H)} {ps : List MemPlace} (h : DataW.TrodAll enc P w base spare held [t0, t1, t2, t3, t4] args.toList ds ps) :
    ∃ v0 v1 v2 v3 v4 d0 d1 d2 d3 d4 p0 p1 p2 p3 p4, args = #[v0, v1, v2, v3, v4] ∧ ds = [d0, d1, d2, d3, d4] ∧ ps = p0 ++ p1 ++ p2 ++ p3 ++ p4 ∧ DataW.Trod enc P w base spare held t0 v0 d0 p0 ∧ DataW.Trod enc P w base spare held t1 v1 d1 p1 ∧ DataW.Trod enc P w base spare held t2 v2 d2 p2 ∧ DataW.Trod enc P w base spare held t3 v3 d3 p3 ∧ DataW.Trod enc P w base spare held t4 v4 d4 p4 := by
  obtain ⟨v0, vs0, d0, ds0, p0, q0, hargs, rfl, rfl, hd0, hrest0⟩ := trodAll_cons h
  obtain ⟨v1, vs1, d1, ds1, p1, q1, rfl, rfl, rfl, hd1, hrest1⟩ := trodAll_cons hrest0
  obtain ⟨v2, vs2, d2, ds2, p2, q2, rfl, rfl, rfl, hd2, hrest2⟩ := trodAll_cons hrest1
  obtain ⟨v3, vs3, d3, ds3, p3, q3, rfl, rfl, rfl, hd3, hrest3⟩ := trodAll_cons hrest2
  obtain ⟨v4, vs4, d4, ds4, p4, q4, rfl, rfl, rfl, hd4, hrest4⟩ := trodAll_cons hrest3
  obtain ⟨rfl, rfl, rfl⟩ := trodAll_nil hrest4
  exact ⟨v0, v1, v2, v3, v4, d0, d1, d2, d3, d4, p0, p1, p2, p3, p4, by cases args; simp_all, rfl, by simp, hd0, hd1, hd2, hd3, hd4⟩
theorem trodAll_mk5 {t0 t1 t2 t3 t4 : TypeId} {v0 v1 v2 v3 v4 : Value} {d0 d1 d2 d3 d4 : DataW H} {p0 p1 p2 p3 p4 : List MemPlace} (h0 : DataW.Trod enc P w base spare held t0 v0 d0 p0) (h1 : DataW.Trod enc P w base spare held t1 v1 d1 p1)
    (h2 : DataW.Trod enc P w base spare held t2 v2 d2 p2) (h3 : DataW.Trod enc P w base spare held t3 v3 d3 p3) (h4 : DataW.Trod enc P w base spare held t4 v4 d4 p4) : DataW.TrodAll enc P w base spare held [t0, t1, t2, t3, t4] [v0, v1, v2, v3, v4] [d0, d1, d2, d3, d4] (p0 ++ (p1 ++ (p2 ++ (p3 ++ p4)))) := ⟨p0, p1 ++ (p2 ++ (p3 ++ p4)), h0, trodAll_mk4 h1 h2 h3 h4, rfl⟩
end
end Go.Proofs.Ytbdigomddnpllaa
