/-
  What a law is handed, whatever its types: read again behind the call; slices opened. No condition.
-/
import Derived.Test.YtdanlclhnehieaaFB
import Derived.Test.YtdanlclhnehieaaFV
import Derived.Test.YtdanlclhnehieaaEG
import Derived.ReadAgain
import Derived.ChangeReads
import Derived.ChangeBears
import Derived.Deep.Slices
import Derived.Deep.Strs
set_option maxRecDepth 20000
namespace Go.Proofs.Ytdanlclhnehieaa
set_option linter.unusedSimpArgs false
set_option linter.unusedVariables false
open Go.RowKit Go.ChangeShapes Go.WideShapes Go.ChangeAt
theorem Try.laidOut : laidOutB Try.prog = true := by kernel_rfl
theorem Try.mapsRow : mapsRowed Try.prog = true := by kernel_rfl
theorem Try.slicesFull : ((List.range Try.prog.types.size).all fun t => match Try.prog.underlying t with | some (.slice e) => decide (0 < Try.prog.cellsOf e) | _ => true) = true := by kernel_rfl
section
variable {H : Type} {enc : TypeId × Value → H} {P : Program} {w w' : World} {base : Nat} {spare : Nat → Bool} {held : Bool}
theorem Trod.carry {t : TypeId} {v : Value} {d : DataW H} {ps : List MemPlace} (h : DataW.Trod enc P w base spare held t v d ps) (hs : ∀ p ∈ ps, w.sameAt w' p) : DataW.Trod enc P w' base spare held t v d ps := by
  obtain ⟨n, hn⟩ := h
  exact ⟨n, DataW.trod_carry n _ _ _ hn hs⟩
theorem TrodAll.carry : ∀ {ts : List TypeId} {vs : List Value} {ds : List (DataW H)} {ps : List MemPlace}, DataW.TrodAll enc P w base spare held ts vs ds ps → (∀ p ∈ ps, w.sameAt w' p) → DataW.TrodAll enc P w' base spare held ts vs ds ps
  | [], [], [], _, h, _ => h
  | _ :: _, _ :: _, _ :: _, _, ⟨p, q, h1, h2, e⟩, hs => ⟨p, q, Trod.carry h1 (fun x hx => hs x (by rw [e]; exact List.mem_append_left _ hx)), TrodAll.carry h2 (fun x hx => hs x (by rw [e]; exact List.mem_append_right _ hx)), e⟩
end
theorem post_any {H : Type} {enc : TypeId × Value → H} {f : Func} {s : ChangeSpec} {apart fresh handsOn again : Bool} {W W' : World} {args : Array Value} {v : Value} {ds gs : List (DataW H)} {before : List MemPlace}
    (hW : DataW.Whole enc Try.prog f.params.toList s.vars apart W args.toList ds gs before) (hvn : s.vars = []) (hp : ∃ p, W' = gw W p)
    (hT : (f.params.toList.all fun t => decide (t < Try.prog.types.size)) = true) (hfa : (s.fn H (ds ++ gs)).args = ds)
    (hres : ∀ (b : Nat) (sp : Nat → Bool) (hd : Bool), DataW.TrodAll enc Try.prog W' b sp hd f.resultTypes.toList (v.resultList f.resultTypes.size) (s.fn H (ds ++ gs)).results [])
    (hvars : ∀ sp : Nat → Bool, DataW.TrodVars enc Try.prog W' sp s.vars (s.fn H (ds ++ gs)).vars [])
    (hok : ∀ (j : Nat) (t : TypeId) (r : Value), f.resultTypes[j]? = some t → (v.resultList f.resultTypes.size)[j]? = some r → Value.okWide Try.prog W' .any 0 t r) :
    s.post enc Try.prog f apart fresh handsOn again W args v W' := by
  refine post_gr hW hp hres (fun q sp hsp => ?_) hvars hok
  have hlt := hW.lt
  rw [hfa]
  obtain ⟨p, q', hA, hV, rfl, _, _⟩ := hW
  rw [hvn] at hV
  have hq : q' = [] := by
    cases gs with
    | nil => exact hV
    | cons g gs => exact hV.elim
  subst hq
  rw [List.append_nil] at hsp hlt ⊢
  refine TrodAll.carry (DataW.TrodAll.respare (kids_rows Try.laidOut Try.mapsRow) (slices_full_of Try.prog Try.slicesFull) (fun t ht => of_decide_eq_true (List.all_eq_true.1 hT t ht)) hA hsp) (fun x hx => ?_)
  have hb := hlt x hx
  cases x with
  | cell b off => exact gw_cell W q b _ hb
  | map b => show (gw W q).heap[b]? = W.heap[b]?; unfold gw; exact Array.getElem?_append_left hb
theorem adr_spot {a : Addr} {len cap : Nat} (h1 : len ≤ cap) (h : 0 < cap → a.spot = none) : adr (some a) len cap := by
  by_cases hc : 0 < cap
  · obtain ⟨b, o, sp⟩ := a
    have := h hc
    simp only at this
    subst this
    exact .inl rfl
  · exact .inr ⟨rfl, by omega, by omega⟩
theorem lies_cells {w : World} {b off : Nat} {cs : List Value} (hc : ∀ j u, cs[j]? = some u → w.cell? ⟨b, off + j, none⟩ = some u) : LiesH (H0 w) (some ⟨b, off, none⟩) cs := by
  cases cs with
  | nil => exact .inl rfl
  | cons u0 l =>
    have h4 := hc 0 u0 rfl
    have hcell : ∃ arr t fr, w.heap[b]? = some (.cells arr t fr) := by
      cases ho : w.heap[b]? with
      | none => simp [World.cell?, ho] at h4
      | some o =>
        cases o with
        | cells arr t fr => exact ⟨arr, t, fr, rfl⟩
        | _ => simp [World.cell?, ho] at h4
    obtain ⟨arr, t, fr, ho⟩ := hcell
    refine .inr ⟨b, off, arr, t, fr, rfl, ho, fun j u hj => ?_⟩
    have h5 := hc j u hj
    simpa [World.cell?, ho] using h5
section
variable {H : Type} {enc : TypeId × Value → H} {w : World}
theorem sl_rows {t e : TypeId} {sz : Nat} (ht : Try.prog.underlying t = some (.slice e)) (hsz : Try.prog.cellsOf e = sz) (h0 : 0 < sz) {α : Type} [Inhabited α] {Q : List SV → α → Prop} {fuel : Nat} {cs : List Value} {x : DataW H × List MemPlace} (h : DataW.trod enc Try.prog w 0 (fun _ => true) true fuel t cs = some x)
    (hQ : ∀ (k : Nat) (cs' : List Value) (y : DataW H × List MemPlace), DataW.trod enc Try.prog w 0 (fun _ => true) true k e cs' = some y → ∃ l p, cs' = cvs l ∧ Q l p) :
    ∃ (a : Option Addr) (n c : Nat) (rs : List (List SV)) (ps : List α), cs = [.slice a n c] ∧ rs.length = n ∧ ps.length = n ∧ n ≤ c ∧ adr a n c ∧ c ≤ maxLen ∧ (∀ r ∈ rs, r.length = sz) ∧ LiesH (H0 w) a (rs.flatMap cvs) ∧ ∀ (i : Nat) (r : List SV) (p : α), rs[i]? = some r → ps[i]? = some p → Q r p := by
  rcases DataW.trod_slice ht h with ⟨hk, _⟩ | ⟨a', len, cap, elems, rest, k, rfl, hk, _, _, hlc, hcm, hel, hels, hsp, _⟩
  · exact ⟨none, 0, 0, [], [], hk, rfl, rfl, Nat.le_refl _, .inr ⟨rfl, rfl, rfl⟩, Nat.zero_le _, (fun r h => absurd h List.not_mem_nil), .inl rfl, fun i r p h _ => by simp at h⟩
  · rw [hsz] at hels hsp
    have each : ∀ i, i < len → ∃ p : List SV × α, p.1.length = sz ∧ Q p.1 p.2 ∧ w.cells? 0 (a'.add (i * sz)) sz = some (cvs p.1) := fun i hi => by
      have he := hels i hi
      rw [List.getElem?_eq_getElem (by omega)] at he
      obtain ⟨cs', q1, q2⟩ := Option.bind_eq_some_iff.1 he
      obtain ⟨l, t, rfl, q3⟩ := hQ k cs' _ q2
      obtain ⟨_, q4, _⟩ := World.cells?_some q1
      exact ⟨(l, t), by rw [cvs_eq, List.length_map] at q4; exact q4, q3, q1⟩
    have hsn : 0 < cap → a'.spot = none := fun hc => by
      have key : ∃ cs', w.cells? 0 (a'.add (0 * sz)) sz = some cs' := by
        by_cases hl0 : 0 < len
        · obtain ⟨p, _, _, q⟩ := each 0 hl0
          exact ⟨_, q⟩
        · obtain ⟨r1, r2⟩ := hsp rfl
          have := r2 0 (by omega)
          rw [List.getElem?_eq_getElem (by omega), show len + 0 = 0 by omega] at this
          obtain ⟨cs', q1, _⟩ := Option.bind_eq_some_iff.1 this
          exact ⟨cs', q1⟩
      obtain ⟨cs', q⟩ := key
      obtain ⟨_, q1, q2⟩ := World.cells?_some q
      have q3 := q2 0 (by omega)
      rw [List.getElem?_eq_getElem (by omega)] at q3
      have := World.cell?_spot q3
      simpa [Addr.add] using this
    obtain ⟨F, hF⟩ := Go.Deep.choose_lt (α := List SV × α) each
    obtain ⟨rs, hrs⟩ : ∃ rs : List (List SV), rs = (List.range len).map fun i => (F i).1 := ⟨_, rfl⟩
    obtain ⟨ks, hks⟩ : ∃ ks : List α, ks = (List.range len).map fun i => (F i).2 := ⟨_, rfl⟩
    have hrl : rs.length = len := by rw [hrs, List.length_map, List.length_range]
    have hkl : ks.length = len := by rw [hks, List.length_map, List.length_range]
    have hrg : ∀ i, i < len → rs[i]? = some (F i).1 := fun i hi => by rw [hrs, List.getElem?_map, List.getElem?_range hi]; rfl
    have hkg : ∀ i, i < len → ks[i]? = some (F i).2 := fun i hi => by rw [hks, List.getElem?_map, List.getElem?_range hi]; rfl
    have h3 : ∀ r ∈ rs, r.length = sz := fun r hr => by
      rw [hrs] at hr
      obtain ⟨i, hi, rfl⟩ := List.mem_map.1 hr
      exact (hF i (List.mem_range.1 hi)).1
    refine ⟨some a', len, cap, rs, ks, hk, hrl, hkl, hlc, adr_spot hlc hsn, hcm, h3, ?_, fun i r k hr hk => ?_⟩
    · by_cases hc : 0 < cap
      · obtain ⟨b, o, sp⟩ := a'
        have := hsn hc
        simp only at this
        subst this
        refine lies_cells fun j u hj => ?_
        have hfl : ∀ (L : List (List SV)), (∀ r ∈ L, r.length = sz) → (L.flatMap cvs).length = L.length * sz := by
          intro L
          induction L with
          | nil => intro _; simp
          | cons r L ihL =>
            intro hL
            rw [List.flatMap_cons, List.length_append, ihL (fun r hr => hL r (List.mem_cons_of_mem _ hr)), cvs_eq, List.length_map, hL r List.mem_cons_self, List.length_cons, Nat.add_mul]; omega
        have hjl := (List.getElem?_eq_some_iff.1 hj).1
        rw [hfl rs h3, hrl] at hjl
        have hj3 : j / sz < len := (Nat.div_lt_iff_lt_mul h0).2 hjl
        have hjm : j % sz < sz := Nat.mod_lt _ h0
        have e1 := flat_get cvs sz rs (j / sz) (j % sz) (F (j / sz)).1 (fun r hr => by rw [cvs_eq, List.length_map, h3 r hr]) (hrg _ hj3) hjm
        rw [Nat.div_add_mod' j sz, hj] at e1
        obtain ⟨_, _, q2⟩ := World.cells?_some (hF (j / sz) hj3).2.2
        have q3 := q2 (j % sz) hjm
        rw [← e1, addr_add, addr_add] at q3
        rw [← q3]; congr 2
        rw [Nat.add_assoc, Nat.div_add_mod' j sz]
      · have : len = 0 := by omega
        have hr0 : rs = [] := List.length_eq_zero_iff.1 (by omega)
        rw [hr0]; exact .inl rfl
    · have hi : i < len := by rw [← hrl]; exact (List.getElem?_eq_some_iff.1 hr).1
      rw [hrg i hi] at hr
      rw [hkg i hi] at hk
      cases hr; cases hk
      exact (hF i hi).2.1
end
end Go.Proofs.Ytdanlclhnehieaa
