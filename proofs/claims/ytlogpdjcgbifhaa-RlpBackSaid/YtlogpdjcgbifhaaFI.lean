/-
  What a law is handed, whatever its types: read again behind the call; items opened. No condition.
-/
import Derived.Test.YtlogpdjcgbifhaaFB
import Derived.Test.YtlogpdjcgbifhaaP7
import Derived.ReadAgain
import Derived.ChangeReads
import Derived.ChangeBears
import Derived.Deep.Slices
import Derived.Deep.Strs
namespace Go.Proofs.Ytlogpdjcgbifhaa
set_option linter.unusedSimpArgs false
set_option linter.unusedVariables false
set_option maxRecDepth 10000
open Go.RowKit Go.ChangeShapes Go.WideShapes Go.ChangeAt
theorem Try.laidOut : laidOutB Try.prog = true := by kernel_rfl
theorem Try.mapsRow : mapsRowed Try.prog = true := by kernel_rfl
theorem Try.slicesFull : ((List.range Try.prog.types.size).all fun t => match Try.prog.underlying t with | some (.slice e) => decide (0 < Try.prog.cellsOf e) | _ => true) = true := by kernel_rfl
section
variable {H : Type} {enc : TypeId × Value → H} {P : Program} {w w' : World} {base : Nat} {spare : Nat → Bool} {held : Bool}
theorem Trod.carry {t : TypeId} {v : Value} {d : DataW H} {ps : List MemPlace} (h : DataW.Trod enc P w base spare held t v d ps) (hs : ∀ p ∈ ps, w.sameAt w' p) : DataW.Trod enc P w' base spare held t v d ps := by
  obtain ⟨n, hn⟩ := h
  exact ⟨n, DataW.trod_carry n _ _ _ hn hs⟩
theorem TrodAll.carry : ∀ {ts : List TypeId} {vs : List Value} {ds : List (DataW H)} {ps : List MemPlace}, DataW.TrodAll enc P w base spare held ts vs ds ps → (∀ p ∈ ps, w.sameAt w' p) → DataW.TrodAll enc P w' base spare held ts vs ds ps
  | [], [], [], _, h, _ => h
  | _ :: _, _ :: _, _ :: _, _, ⟨p, q, h1, h2, e⟩, hs => ⟨p, q, Trod.carry h1 (fun x hx => hs x (by rw [e]; exact List.mem_append_left _ hx)), TrodAll.carry h2 (fun x hx => hs x (by rw [e]; exact List.mem_append_right _ hx)), e⟩
end
/-- Behind a call that made memory alone, whatever came in. -/
theorem post_any {H : Type} {enc : TypeId × Value → H} {f : Func} {s : ChangeSpec} {apart fresh handsOn again : Bool} {W W' : World} {args : Array Value} {v : Value} {ds gs : List (DataW H)} {before : List MemPlace}
    (hW : DataW.Whole enc Try.prog f.params.toList s.vars apart W args.toList ds gs before) (hvn : s.vars = []) (hp : ∃ p, W' = gw W p)
    (hT : (f.params.toList.all fun t => decide (t < Try.prog.types.size)) = true) (hfa : (s.fn H (ds ++ gs)).args = ds)
    (hres : ∀ (b : Nat) (sp : Nat → Bool) (hd : Bool), DataW.TrodAll enc Try.prog W' b sp hd f.resultTypes.toList (v.resultList f.resultTypes.size) (s.fn H (ds ++ gs)).results [])
    (hvars : ∀ sp : Nat → Bool, DataW.TrodVars enc Try.prog W' sp s.vars (s.fn H (ds ++ gs)).vars [])
    (hok : ∀ (j : Nat) (t : TypeId) (r : Value), f.resultTypes[j]? = some t → (v.resultList f.resultTypes.size)[j]? = some r → Value.okWide Try.prog W' .any 0 t r) :
    s.post enc Try.prog f apart fresh handsOn again W args v W' := by
  refine post_gr hW hp hres (fun q sp hsp => ?_) hvars hok
  have hlt := hW.lt
  rw [hfa]
  obtain ⟨p, q', hA, hV, rfl, _, _⟩ := hW
  rw [hvn] at hV
  have hq : q' = [] := by
    cases gs with
    | nil => exact hV
    | cons g gs => exact hV.elim
  subst hq
  rw [List.append_nil] at hsp hlt ⊢
  refine TrodAll.carry (DataW.TrodAll.respare (kids_rows Try.laidOut Try.mapsRow) (slices_full_of Try.prog Try.slicesFull) (fun t ht => of_decide_eq_true (List.all_eq_true.1 hT t ht)) hA hsp) (fun x hx => ?_)
  have hb := hlt x hx
  cases x with
  | cell b off => exact gw_cell W q b _ hb
  | map b => show (gw W q).heap[b]? = W.heap[b]?; unfold gw; exact Array.getElem?_append_left hb
/-! ### Items -/
theorem cellsItem : Try.prog.cellsOf 25 = 3 := by kernel_rfl
theorem cells8 : Try.prog.cellsOf 5 = 1 := by kernel_rfl
theorem adr_spot {a : Addr} {len cap : Nat} (h1 : len ≤ cap) (h : 0 < cap → a.spot = none) : adr (some a) len cap := by
  by_cases hc : 0 < cap
  · obtain ⟨b, o, sp⟩ := a
    have := h hc
    simp only at this
    subst this
    exact .inl rfl
  · exact .inr ⟨rfl, by omega, by omega⟩
theorem lies_cells {w : World} {b off : Nat} {cs : List Value} (hc : ∀ j u, cs[j]? = some u → w.cell? ⟨b, off + j, none⟩ = some u) : LiesH (H0 w) (some ⟨b, off, none⟩) cs := by
  cases cs with
  | nil => exact .inl rfl
  | cons u0 l =>
    have h4 := hc 0 u0 rfl
    have hcell : ∃ arr t fr, w.heap[b]? = some (.cells arr t fr) := by
      cases ho : w.heap[b]? with
      | none => simp [World.cell?, ho] at h4
      | some o =>
        cases o with
        | cells arr t fr => exact ⟨arr, t, fr, rfl⟩
        | _ => simp [World.cell?, ho] at h4
    obtain ⟨arr, t, fr, ho⟩ := hcell
    refine .inr ⟨b, off, arr, t, fr, rfl, ho, fun j u hj => ?_⟩
    have h5 := hc j u hj
    simpa [World.cell?, ho] using h5
section
variable {H : Type} {enc : TypeId × Value → H} {w : World}
theorem bytes_cell {fuel : Nat} {cs : List Value} {x : DataW H × List MemPlace} (h : DataW.trod enc Try.prog w 0 (fun _ => true) true fuel 22 cs = some x) :
    ∃ a n c bs, cs = [.slice a n c] ∧ bs.length = n ∧ n ≤ c ∧ adr a n c ∧ LiesH (H0 w) a (cc (.ints .u8 bs)) ∧ allB bs ∧ n ≤ maxLen := by
  rcases open_ints Try.underlying22 Try.underlying5 cells8 h with ⟨rfl, _⟩ | ⟨a, len, cap, zs, rfl, _, h3, h4, h5, _, h7, h8⟩
  · exact ⟨none, 0, 0, [], rfl, rfl, Nat.le_refl _, .inr ⟨rfl, rfl, rfl⟩, .inl rfl, fun _ h => absurd h List.not_mem_nil, Nat.zero_le _⟩
  · rw [if_pos rfl] at h5
    have hsp : 0 < cap → a.spot = none := fun hc => by
      have := World.cell?_spot (h7 0 (by omega))
      simpa [Addr.add] using this
    refine ⟨some a, len, cap, zs.take len, rfl, by rw [List.length_take]; omega, h3, adr_spot h3 hsp, ?_, allB_wf (fun x hx => h8 x (List.mem_of_mem_take hx)), Nat.le_trans h3 h4⟩
    by_cases hc : 0 < cap
    · obtain ⟨b, o, sp⟩ := a
      have := hsp hc
      simp only at this
      subst this
      refine lies_cells fun j u hj => ?_
      simp only [cc, List.getElem?_map, Option.map_eq_some_iff, List.getElem?_take] at hj
      obtain ⟨x, hx, rfl⟩ := hj
      split at hx
      · have hjl := (List.getElem?_eq_some_iff.1 hx).1
        have := h7 j hjl
        rw [addr_add, List.getD_eq_getElem?_getD, hx] at this
        exact this
      · cases hx
    · have : len = 0 := by omega
      subst this
      exact .inl rfl
theorem cvs_inj3 {l : List SV} {c0 c1 c2 : Value} (h : [c0, c1, c2] = cvs l) : l.length = 3 := by
  have := congrArg List.length h
  rw [cvs_eq, List.length_map] at this
  exact this.symm
theorem item_cells : ∀ (fuel : Nat) (cs : List Value) (x : DataW H × List MemPlace), DataW.trod enc Try.prog w 0 (fun _ => true) true fuel 25 cs = some x → ∃ l t, cs = cvs l ∧ ItR (H0 w) l t := by
  intro fuel
  induction fuel using Nat.strongRecOn with
  | ind fuel ih =>
    intro cs x h
    obtain ⟨xs, n, rfl, _, hl, hxl, hf⟩ := DataW.trod_struct Try.underlying25 h
    rw [cellsItem] at hl
    match cs, hl, xs, hxl with
    | [c0, c1, c2], _, [y0, y1, y2], _ =>
      have h0 : DataW.trod enc Try.prog w 0 (fun _ => true) true n 4 (List.take (Try.prog.cellsOf 4) (List.drop 0 [c0, c1, c2])) = some y0 := hf 0 _ rfl
      have h1 : DataW.trod enc Try.prog w 0 (fun _ => true) true n 22 (List.take (Try.prog.cellsOf 22) (List.drop 1 [c0, c1, c2])) = some y1 := hf 1 _ rfl
      have h2 : DataW.trod enc Try.prog w 0 (fun _ => true) true n 23 (List.take (Try.prog.cellsOf 23) (List.drop 2 [c0, c1, c2])) = some y2 := hf 2 _ rfl
      clear hf
      have e4 : Try.prog.cellsOf 4 = 1 := by kernel_rfl
      have e22 : Try.prog.cellsOf 22 = 1 := by kernel_rfl
      have e23 : Try.prog.cellsOf 23 = 1 := by kernel_rfl
      rw [e4] at h0
      rw [e22] at h1
      rw [e23] at h2
      replace h0 : DataW.trod enc Try.prog w 0 (fun _ => true) true n 4 [c0] = some y0 := h0
      replace h1 : DataW.trod enc Try.prog w 0 (fun _ => true) true n 22 [c1] = some y1 := h1
      replace h2 : DataW.trod enc Try.prog w 0 (fun _ => true) true n 23 [c2] = some y2 := h2
      obtain ⟨lb, hb0, _⟩ := DataW.trod_bool Try.underlying4 h0
      cases hb0
      obtain ⟨a, m, c, bs, hb1, g1, g2, g3, g4, g5, g6⟩ := bytes_cell h1
      cases hb1
      rcases DataW.trod_slice Try.underlying23 h2 with ⟨hk, _⟩ | ⟨a', len, cap, elems, rest, k, rfl, hk, _, _, hlc, hcm, hel, hels, hsp, _⟩
      · cases hk
        exact ⟨[.bool lb, .gh a m c (.ints .u8 bs), .gh none 0 0 (.rows 3 [])], .mk lb bs [], rfl, .mk g1 g2 g3 g4 g5 rfl (Nat.le_refl _) (.inr ⟨rfl, rfl, rfl⟩) (fun _ h => absurd h List.not_mem_nil) (.inl rfl) rfl (fun i r k h _ => by simp at h) g6 (Nat.zero_le _)⟩
      · cases hk
        rw [cellsItem] at hels hsp
        have each : ∀ i, i < len → ∃ p : List SV × Itm, p.1.length = 3 ∧ ItR (H0 w) p.1 p.2 ∧ w.cells? 0 (a'.add (i * 3)) 3 = some (cvs p.1) := fun i hi => by
          have he := hels i hi
          rw [List.getElem?_eq_getElem (by omega)] at he
          obtain ⟨cs', q1, q2⟩ := Option.bind_eq_some_iff.1 he
          obtain ⟨l, t, rfl, q3⟩ := ih k (by omega) cs' _ q2
          obtain ⟨_, q4, _⟩ := World.cells?_some q1
          exact ⟨(l, t), by rw [cvs_eq, List.length_map] at q4; exact q4, q3, q1⟩
        have hsn : 0 < cap → a'.spot = none := fun hc => by
          have key : ∃ cs', w.cells? 0 (a'.add (0 * 3)) 3 = some cs' := by
            by_cases hl0 : 0 < len
            · obtain ⟨p, _, _, q⟩ := each 0 hl0
              exact ⟨_, q⟩
            · obtain ⟨r1, r2⟩ := hsp rfl
              have := r2 0 (by omega)
              rw [List.getElem?_eq_getElem (by omega), show len + 0 = 0 by omega] at this
              obtain ⟨cs', q1, _⟩ := Option.bind_eq_some_iff.1 this
              exact ⟨cs', q1⟩
          obtain ⟨cs', q⟩ := key
          obtain ⟨_, q1, q2⟩ := World.cells?_some q
          have q3 := q2 0 (by omega)
          rw [List.getElem?_eq_getElem (by omega)] at q3
          have := World.cell?_spot q3
          simpa [Addr.add] using this
        obtain ⟨F, hF⟩ := Go.Deep.choose_lt (α := List SV × Itm) each
        obtain ⟨rs, hrs⟩ : ∃ rs : List (List SV), rs = (List.range len).map fun i => (F i).1 := ⟨_, rfl⟩
        obtain ⟨ks, hks⟩ : ∃ ks : List Itm, ks = (List.range len).map fun i => (F i).2 := ⟨_, rfl⟩
        have hrl : rs.length = len := by rw [hrs, List.length_map, List.length_range]
        have hkl : ks.length = len := by rw [hks, List.length_map, List.length_range]
        have hrg : ∀ i, i < len → rs[i]? = some (F i).1 := fun i hi => by rw [hrs, List.getElem?_map, List.getElem?_range hi]; rfl
        have hkg : ∀ i, i < len → ks[i]? = some (F i).2 := fun i hi => by rw [hks, List.getElem?_map, List.getElem?_range hi]; rfl
        have h3 : ∀ r ∈ rs, r.length = 3 := fun r hr => by
          rw [hrs] at hr
          obtain ⟨i, hi, rfl⟩ := List.mem_map.1 hr
          exact (hF i (List.mem_range.1 hi)).1
        refine ⟨[.bool lb, .gh a m c (.ints .u8 bs), .gh (some a') len cap (.rows 3 rs)], .mk lb bs ks, rfl, .mk g1 g2 g3 g4 g5 hrl hlc (adr_spot hlc hsn) h3 ?_ (by omega) (fun i r k hr hk => ?_) g6 (Nat.le_trans hlc hcm)⟩
        · by_cases hc : 0 < cap
          · obtain ⟨b, o, sp⟩ := a'
            have := hsn hc
            simp only at this
            subst this
            refine lies_cells fun j u hj => ?_
            have hfl : ∀ (L : List (List SV)), (∀ r ∈ L, r.length = 3) → (L.flatMap cvs).length = L.length * 3 := by
              intro L
              induction L with
              | nil => intro _; rfl
              | cons r L ihL =>
                intro hL
                rw [List.flatMap_cons, List.length_append, ihL (fun r hr => hL r (List.mem_cons_of_mem _ hr)), cvs_eq, List.length_map, hL r List.mem_cons_self, List.length_cons]; omega
            have hjl := (List.getElem?_eq_some_iff.1 hj).1
            simp only [cc] at hj hjl
            rw [hfl rs h3, hrl] at hjl
            have hj3 : j / 3 < len := by omega
            have e1 := flat_get cvs 3 rs (j / 3) (j % 3) (F (j / 3)).1 (fun r hr => by rw [cvs_eq, List.length_map, h3 r hr]) (hrg _ hj3) (by omega)
            rw [show j / 3 * 3 + j % 3 = j by omega, hj] at e1
            obtain ⟨_, _, q2⟩ := World.cells?_some (hF (j / 3) hj3).2.2
            have q3 := q2 (j % 3) (by omega)
            rw [← e1, addr_add, addr_add] at q3
            rw [← q3]; congr 2; omega
          · have : len = 0 := by omega
            have hr0 : rs = [] := List.length_eq_zero_iff.1 (by omega)
            rw [hr0]; exact .inl rfl
        · have hi : i < len := by rw [← hrl]; exact (List.getElem?_eq_some_iff.1 hr).1
          rw [hrg i hi] at hr
          rw [hkg i hi] at hk
          cases hr; cases hk
          exact (hF i hi).2.1
theorem item_open {r : Reach} {b0 : Nat} {v : Value} {d : DataW H} {p : List MemPlace} (hval : Value.okWide Try.prog w r b0 25 v) (h : DataW.Trod enc Try.prog w 0 (fun _ => true) true 25 v d p) :
    ∃ l t, v = cv (.agg l) ∧ ItR (H0 w) l t := by
  obtain ⟨cs, rfl, hsz, _⟩ : ∃ cs, v = .agg cs ∧ cs.size = Try.prog.cellsOf 25 ∧ Row.okWide Try.prog w r b0 25 cs := by
    simpa [Value.okWide, Try.underlying25] using hval
  obtain ⟨fuel, hf⟩ := h
  obtain ⟨l, t, h1, h2⟩ := item_cells fuel _ _ hf
  refine ⟨l, t, ?_, h2⟩
  have : cs.toList = cvs l := h1
  simp only [cv]
  congr 1
  exact Array.ext' this
theorem items_open {r : Reach} {b0 : Nat} {v : Value} {d : DataW H} {p : List MemPlace} (hval : Value.okWide Try.prog w r b0 23 v) (h : DataW.Trod enc Try.prog w 0 (fun _ => true) true 23 v d p) :
    ∃ a n c rs ks, v = .slice a n c ∧ ItR (H0 w) [.bool true, .gh none 0 0 (.ints .u8 []), .gh a n c (.rows 3 rs)] (.mk true [] ks) := by
  obtain ⟨a0, n0, c0, rfl⟩ := sl_form Try.underlying23 hval
  obtain ⟨fuel, hf⟩ := h
  have e4 : Try.prog.cellsOf 4 = 1 := by kernel_rfl
  have e22 : Try.prog.cellsOf 22 = 1 := by kernel_rfl
  have e23 : Try.prog.cellsOf 23 = 1 := by kernel_rfl
  cases fuel with
  | zero => simp [DataW.trod] at hf
  | succ k =>
    have hb : DataW.trod enc Try.prog w 0 (fun _ => true) true (k + 1) 4 [.bool true] = some (.lit (.bool true), []) := by simp [DataW.trod, Try.underlying4]
    have hs : DataW.trod enc Try.prog w 0 (fun _ => true) true (k + 1) 22 [.slice none 0 0] = some (.nil, []) := by simp [DataW.trod, Try.underlying22]
    have hi := Go.Deep.trod_struct3_mk (cs := [.bool true, .slice none 0 0, .slice a0 n0 c0]) Try.underlying25 cellsItem.symm (by rw [e4]; exact hb) (by rw [e22]; exact hs) (by rw [e23]; exact hf)
    obtain ⟨l, t, h1, h2⟩ := item_cells _ _ _ hi
    cases h2 with
    | @mk lb a a' n c n' c' bs rs ks g1 g2 g3 g4 g5 g6 g7 g8 g9 g10 g11 g12 g13 g14 =>
      simp only [cvs, cv, List.cons.injEq, Value.bool.injEq, Value.slice.injEq, and_true] at h1
      obtain ⟨rfl, ⟨rfl, rfl, rfl⟩, rfl, rfl, rfl⟩ := h1
      obtain rfl := List.length_eq_zero_iff.1 g1
      exact ⟨_, _, _, rs, ks, rfl, .mk g1 g2 g3 g4 g5 g6 g7 g8 g9 g10 g11 g12 g13 g14⟩
end
end Go.Proofs.Ytlogpdjcgbifhaa
