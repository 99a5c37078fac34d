/-
 What a law is handed, whatever its types: read again behind the call; truth values and parts opened. No condition.
-/
import Derived.Test.YtoadeekdgikghaaDoorRE
import Derived.Test.YtoadeekdgikghaaDoorHK
import Derived.Test.YtoadeekdgikghaaDoorFV
import Derived.ReadAgain
import Derived.ChangeReads
import Derived.ChangeBears
import Derived.Deep.Slices
import Derived.Deep.Strs
set_option maxRecDepth 10000
set_option linter.unusedVariables false
set_option linter.unusedSimpArgs false
namespace Go.Proofs.YtoadeekdgikghaaDoor
open Go.RowKit Go.ChangeShapes Go.WideShapes Go.ChangeAt
theorem Tryd.laidOut : laidOutB Tryd.prog = true := by kernel_rfl
theorem Tryd.mapsRow : mapsRowed Tryd.prog = true := by kernel_rfl
theorem Tryd.slicesFull : ((List.range Tryd.prog.types.size).all fun t => match Tryd.prog.underlying t with | some (.slice e) => decide (0 < Tryd.prog.cellsOf e) | _ => true) = true := by kernel_rfl
section
variable {H : Type} {enc : TypeId × Value → H} {P : Program} {w w' : World} {base : Nat} {spare : Nat → Bool} {held : Bool}
theorem Trod.carry {t : TypeId} {v : Value} {d : DataW H} {ps : List MemPlace} (h : DataW.Trod enc P w base spare held t v d ps) (hs : ∀ p ∈ ps, w.sameAt w' p) : DataW.Trod enc P w' base spare held t v d ps := by
 obtain ⟨n, hn⟩ := h
 exact ⟨n, DataW.trod_carry n _ _ _ hn hs⟩
theorem TrodAll.carry : ∀ {ts : List TypeId} {vs : List Value} {ds : List (DataW H)} {ps : List MemPlace}, DataW.TrodAll enc P w base spare held ts vs ds ps → (∀ p ∈ ps, w.sameAt w' p) → DataW.TrodAll enc P w' base spare held ts vs ds ps
 | [], [], [], _, h, _ => h
 | _ :: _, _ :: _, _ :: _, _, ⟨p, q, h1, h2, e⟩, hs => ⟨p, q, Trod.carry h1 (fun x hx => hs x (by rw [e]; exact List.mem_append_left _ hx)), TrodAll.carry h2 (fun x hx => hs x (by rw [e]; exact List.mem_append_right _ hx)), e⟩
end
theorem post_any {H : Type} {enc : TypeId × Value → H} {f : Func} {s : ChangeSpec} {apart fresh handsOn again : Bool} {W W' : World} {args : Array Value} {v : Value} {ds gs : List (DataW H)} {before : List MemPlace}
  (hW : DataW.Whole enc Tryd.prog f.params.toList s.vars apart W args.toList ds gs before) (hvn : s.vars = []) (hp : ∃ p, W' = gw W p)
  (hT : (f.params.toList.all fun t => decide (t < Tryd.prog.types.size)) = true) (hfa : (s.fn H (ds ++ gs)).args = ds)
  (hres : ∀ (b : Nat) (sp : Nat → Bool) (hd : Bool), DataW.TrodAll enc Tryd.prog W' b sp hd f.resultTypes.toList (v.resultList f.resultTypes.size) (s.fn H (ds ++ gs)).results [])
  (hvars : ∀ sp : Nat → Bool, DataW.TrodVars enc Tryd.prog W' sp s.vars (s.fn H (ds ++ gs)).vars [])
  (hok : ∀ (j : Nat) (t : TypeId) (r : Value), f.resultTypes[j]? = some t → (v.resultList f.resultTypes.size)[j]? = some r → Value.okWide Tryd.prog W' .any 0 t r) :
  s.post enc Tryd.prog f apart fresh handsOn again W args v W' := by
 refine post_gr hW hp hres (fun q sp hsp => ?_) hvars hok
 have hlt := hW.lt
 rw [hfa]
 obtain ⟨p, q', hA, hV, rfl, _, _⟩ := hW
 rw [hvn] at hV
 have hq : q' = [] := by
  cases gs with
  | nil => exact hV
  | cons g gs => exact hV.elim
 subst hq
 rw [List.append_nil] at hsp hlt ⊢
 refine TrodAll.carry (DataW.TrodAll.respare (kids_rows Tryd.laidOut Tryd.mapsRow) (slices_full_of Tryd.prog Tryd.slicesFull) (fun t ht => of_decide_eq_true (List.all_eq_true.1 hT t ht)) hA hsp) (fun x hx => ?_)
 have hb := hlt x hx
 cases x with
 | cell b off => exact gw_cell W q b _ hb
 | map b => show (gw W q).heap[b]? = W.heap[b]?; unfold gw; exact Array.getElem?_append_left hb
theorem cells8 : Tryd.prog.cellsOf 5 = 1 := by kernel_rfl
theorem adr_spot {a : Addr} {len cap : Nat} (h1 : len ≤ cap) (h : 0 < cap → a.spot = none) : adr (some a) len cap := by
 by_cases hc : 0 < cap
 ·obtain ⟨b, o, sp⟩ := a
  have := h hc
  simp only at this
  subst this
  exact .inl rfl
 ·exact .inr ⟨rfl, by omega, by omega⟩
theorem lies_cells {w : World} {b off : Nat} {cs : List Value} (hc : ∀ j u, cs[j]? = some u → w.cell? ⟨b, off + j, none⟩ = some u) : LiesH (H0 w) (some ⟨b, off, none⟩) cs := by
 cases cs with
 | nil => exact .inl rfl
 | cons u0 l =>
  have h4 := hc 0 u0 rfl
  have hcell : ∃ arr t fr, w.heap[b]? = some (.cells arr t fr) := by
   cases ho : w.heap[b]? with
   | none => simp [World.cell?, ho] at h4
   | some o =>
    cases o with
    | cells arr t fr => exact ⟨arr, t, fr, rfl⟩
    | _ => simp [World.cell?, ho] at h4
  obtain ⟨arr, t, fr, ho⟩ := hcell
  refine .inr ⟨b, off, arr, t, fr, rfl, ho, fun j u hj => ?_⟩
  have h5 := hc j u hj
  simpa [World.cell?, ho] using h5
section
variable {H : Type} {enc : TypeId × Value → H} {w : World}
theorem bytes_cell {fuel : Nat} {cs : List Value} {x : DataW H × List MemPlace} (h : DataW.trod enc Tryd.prog w 0 (fun _ => true) true fuel 28 cs = some x) :
  ∃ a n c bs, cs = [.slice a n c] ∧ bs.length = n ∧ n ≤ c ∧ adr a n c ∧ LiesH (H0 w) a (cc (.ints .u8 bs)) ∧ allB bs ∧ n ≤ maxLen := by
 rcases open_ints Tryd.underlying28 Tryd.underlying5 cells8 h with ⟨rfl, _⟩ | ⟨a, len, cap, zs, rfl, _, h3, h4, h5, _, h7, h8⟩
 ·exact ⟨none, 0, 0, [], rfl, rfl, Nat.le_refl _, .inr ⟨rfl, rfl, rfl⟩, .inl rfl, fun _ h => absurd h List.not_mem_nil, Nat.zero_le _⟩
 ·rw [if_pos rfl] at h5
  have hsp : 0 < cap → a.spot = none := fun hc => by
   have := World.cell?_spot (h7 0 (by omega))
   simpa [Addr.add] using this
  refine ⟨some a, len, cap, zs.take len, rfl, by rw [List.length_take]; omega, h3, adr_spot h3 hsp, ?_, allB_wf (fun x hx => h8 x (List.mem_of_mem_take hx)), Nat.le_trans h3 h4⟩
  by_cases hc : 0 < cap
  ·obtain ⟨b, o, sp⟩ := a
   have := hsp hc
   simp only at this
   subst this
   refine lies_cells fun j u hj => ?_
   simp only [cc, List.getElem?_map, Option.map_eq_some_iff, List.getElem?_take] at hj
   obtain ⟨x, hx, rfl⟩ := hj
   split at hx
   ·have hjl := (List.getElem?_eq_some_iff.1 hx).1
    have := h7 j hjl
    rw [addr_add, List.getD_eq_getElem?_getD, hx] at this
    exact this
   ·cases hx
  ·have : len = 0 := by omega
   subst this
   exact .inl rfl

theorem sl_rows {t e : TypeId} {sz : Nat} (ht : Tryd.prog.underlying t = some (.slice e)) (hsz : Tryd.prog.cellsOf e = sz) (h0 : 0 < sz) {α : Type} [Inhabited α] {Q : List SV → α → Prop} {fuel : Nat} {cs : List Value} {x : DataW H × List MemPlace} (h : DataW.trod enc Tryd.prog w 0 (fun _ => true) true fuel t cs = some x)
  (hQ : ∀ (k : Nat) (cs' : List Value) (y : DataW H × List MemPlace), DataW.trod enc Tryd.prog w 0 (fun _ => true) true k e cs' = some y → ∃ l p, cs' = cvs l ∧ Q l p) :
  ∃ (a : Option Addr) (n c : Nat) (rs : List (List SV)) (ps : List α), cs = [.slice a n c] ∧ rs.length = n ∧ ps.length = n ∧ n ≤ c ∧ adr a n c ∧ c ≤ maxLen ∧ (∀ r ∈ rs, r.length = sz) ∧ LiesH (H0 w) a (rs.flatMap cvs) ∧ ∀ (i : Nat) (r : List SV) (p : α), rs[i]? = some r → ps[i]? = some p → Q r p := by
 rcases DataW.trod_slice ht h with ⟨hk, _⟩ | ⟨a', len, cap, elems, rest, k, rfl, hk, _, _, hlc, hcm, hel, hels, hsp, _⟩
 ·exact ⟨none, 0, 0, [], [], hk, rfl, rfl, Nat.le_refl _, .inr ⟨rfl, rfl, rfl⟩, Nat.zero_le _, (fun r h => absurd h List.not_mem_nil), .inl rfl, fun i r p h _ => by simp at h⟩
 ·rw [hsz] at hels hsp
  have each : ∀ i, i < len → ∃ p : List SV × α, p.1.length = sz ∧ Q p.1 p.2 ∧ w.cells? 0 (a'.add (i * sz)) sz = some (cvs p.1) := fun i hi => by
   have he := hels i hi
   rw [List.getElem?_eq_getElem (by omega)] at he
   obtain ⟨cs', q1, q2⟩ := Option.bind_eq_some_iff.1 he
   obtain ⟨l, t, rfl, q3⟩ := hQ k cs' _ q2
   obtain ⟨_, q4, _⟩ := World.cells?_some q1
   exact ⟨(l, t), by rw [cvs_eq, List.length_map] at q4; exact q4, q3, q1⟩
  have hsn : 0 < cap → a'.spot = none := fun hc => by
   have key : ∃ cs', w.cells? 0 (a'.add (0 * sz)) sz = some cs' := by
    by_cases hl0 : 0 < len
    ·obtain ⟨p, _, _, q⟩ := each 0 hl0
     exact ⟨_, q⟩
    ·obtain ⟨r1, r2⟩ := hsp rfl
     have := r2 0 (by omega)
     rw [List.getElem?_eq_getElem (by omega), show len + 0 = 0 by omega] at this
     obtain ⟨cs', q1, _⟩ := Option.bind_eq_some_iff.1 this
     exact ⟨cs', q1⟩
   obtain ⟨cs', q⟩ := key
   obtain ⟨_, q1, q2⟩ := World.cells?_some q
   have q3 := q2 0 (by omega)
   rw [List.getElem?_eq_getElem (by omega)] at q3
   have := World.cell?_spot q3
   simpa [Addr.add] using this
  obtain ⟨F, hF⟩ := Go.Deep.choose_lt (α := List SV × α) each
  obtain ⟨rs, hrs⟩ : ∃ rs : List (List SV), rs = (List.range len).map fun i => (F i).1 := ⟨_, rfl⟩
  obtain ⟨ks, hks⟩ : ∃ ks : List α, ks = (List.range len).map fun i => (F i).2 := ⟨_, rfl⟩
  have hrl : rs.length = len := by rw [hrs, List.length_map, List.length_range]
  have hkl : ks.length = len := by rw [hks, List.length_map, List.length_range]
  have hrg : ∀ i, i < len → rs[i]? = some (F i).1 := fun i hi => by rw [hrs, List.getElem?_map, List.getElem?_range hi]; rfl
  have hkg : ∀ i, i < len → ks[i]? = some (F i).2 := fun i hi => by rw [hks, List.getElem?_map, List.getElem?_range hi]; rfl
  have h3 : ∀ r ∈ rs, r.length = sz := fun r hr => by
   rw [hrs] at hr
   obtain ⟨i, hi, rfl⟩ := List.mem_map.1 hr
   exact (hF i (List.mem_range.1 hi)).1
  refine ⟨some a', len, cap, rs, ks, hk, hrl, hkl, hlc, adr_spot hlc hsn, hcm, h3, ?_, fun i r k hr hk => ?_⟩
  ·by_cases hc : 0 < cap
   ·obtain ⟨b, o, sp⟩ := a'
    have := hsn hc
    simp only at this
    subst this
    refine lies_cells fun j u hj => ?_
    have hfl : ∀ (L : List (List SV)), (∀ r ∈ L, r.length = sz) → (L.flatMap cvs).length = L.length * sz := by
     intro L
     induction L with
     | nil => intro _; simp
     | cons r L ihL =>
      intro hL
      rw [List.flatMap_cons, List.length_append, ihL (fun r hr => hL r (List.mem_cons_of_mem _ hr)), cvs_eq, List.length_map, hL r List.mem_cons_self, List.length_cons, Nat.add_mul]; omega
    have hjl := (List.getElem?_eq_some_iff.1 hj).1
    rw [hfl rs h3, hrl] at hjl
    have hj3 : j / sz < len := (Nat.div_lt_iff_lt_mul h0).2 hjl
    have hjm : j % sz < sz := Nat.mod_lt _ h0
    have e1 := flat_get cvs sz rs (j / sz) (j % sz) (F (j / sz)).1 (fun r hr => by rw [cvs_eq, List.length_map, h3 r hr]) (hrg _ hj3) hjm
    rw [Nat.div_add_mod' j sz, hj] at e1
    obtain ⟨_, _, q2⟩ := World.cells?_some (hF (j / sz) hj3).2.2
    have q3 := q2 (j % sz) hjm
    rw [← e1, addr_add, addr_add] at q3
    rw [← q3]; congr 2
    rw [Nat.add_assoc, Nat.div_add_mod' j sz]
   ·have : len = 0 := by omega
    have hr0 : rs = [] := List.length_eq_zero_iff.1 (by omega)
    rw [hr0]; exact .inl rfl
  ·have hi : i < len := by rw [← hrl]; exact (List.getElem?_eq_some_iff.1 hr).1
   rw [hrg i hi] at hr
   rw [hkg i hi] at hk
   cases hr; cases hk
   exact (hF i hi).2.1
theorem bools_open {r : Reach} {b0 : Nat} {v : Value} {d : DataW H} {p : List MemPlace} (hval : Value.okWide Tryd.prog w r b0 43 v) (h : DataW.Trod enc Tryd.prog w 0 (fun _ => true) true 43 v d p) :
  ∃ (a : Option Addr) (n c : Nat) (ds : List Bool), v = .slice a n c ∧ ds.length = n ∧ n ≤ c ∧ adr a n c ∧ n ≤ maxLen ∧ LiesH (H0 w) a (cc (.cells (ds.map SV.bool))) := by
 obtain ⟨a0, n0, c0, rfl⟩ := sl_form Tryd.underlying43 hval
 obtain ⟨fuel, hf⟩ := h
 obtain ⟨a, n, c, rs, ds, h1, h2, h3, h4, h5, h6, h7, h8, h9⟩ := sl_rows (α := Bool) (Q := fun l d => l = [.bool d]) (sz := 1) Tryd.underlying43 (by kernel_rfl) (by omega) hf (fun k cs' y hk => by
  obtain ⟨lb, rfl, _⟩ := DataW.trod_bool Tryd.underlying4 hk
  exact ⟨[.bool lb], lb, rfl, rfl⟩)
 cases h1
 refine ⟨a0, n0, c0, ds, rfl, h3, h4, h5, Nat.le_trans h4 h6, ?_⟩
 have e : rs = ds.map fun d => [SV.bool d] := by
  apply List.ext_getElem?
  intro i
  by_cases hi : i < n0
  ·have e1 := List.getElem?_eq_getElem (show i < rs.length by omega)
   have e2 := List.getElem?_eq_getElem (show i < ds.length by omega)
   rw [List.getElem?_map, e1, e2, h9 i _ _ e1 e2]; rfl
  ·rw [List.getElem?_eq_none (by omega), List.getElem?_eq_none (by rw [List.length_map]; omega)]
 have e2 : rs.flatMap cvs = cc (.cells (ds.map SV.bool)) := by
  rw [e]
  show _ = cvs (ds.map SV.bool)
  clear e h9 h8 h7 h3
  induction ds with
  | nil => rfl
  | cons d ds ih => rw [List.map_cons, List.flatMap_cons, ih]; rfl
 rw [← e2]; exact h8
theorem byt_open {r : Reach} {b0 : Nat} {v : Value} {d : DataW H} {p : List MemPlace} (hval : Value.okWide Tryd.prog w r b0 28 v) (h : DataW.Trod enc Tryd.prog w 0 (fun _ => true) true 28 v d p) :
  ∃ (a : Option Addr) (n c : Nat) (xs : List Int), v = .slice a n c ∧ xs.length = n ∧ n ≤ c ∧ adr a n c ∧ LiesH (H0 w) a (cc (.ints .u8 xs)) ∧ allB xs ∧ n ≤ maxLen := by
 obtain ⟨a0, n0, c0, rfl⟩ := sl_form Tryd.underlying28 hval
 obtain ⟨fuel, hf⟩ := h
 obtain ⟨a, n, c, bs, h1, h2⟩ := bytes_cell hf
 cases h1
 exact ⟨a0, n0, c0, bs, rfl, h2⟩
end
theorem PsR.lt {H : Nat → Obj → Prop} {rs : List (List SV)} {l : List Prt} (h : PsR H rs l) : ∀ p ∈ l, p.w < W := fun p hp => by
 obtain ⟨i, hi⟩ := List.getElem?_of_mem hp
 have hlt : i < rs.length := by rw [h.1]; exact (List.getElem?_eq_some_iff.1 hi).1
 obtain ⟨x0, x1, x2, x3, a, n, c, e, g1, g2, _⟩ := h.2.2 i _ p (List.getElem?_eq_getElem hlt) hi
 rw [← g2]; exact numI_lt g1
theorem PsR.all {H : Nat → Obj → Prop} {rs : List (List SV)} {l : List Prt} (h : PsR H rs l) : ∀ p ∈ l, allB p.bs := fun p hp => by
 obtain ⟨i, hi⟩ := List.getElem?_of_mem hp
 have hlt : i < rs.length := by rw [h.1]; exact (List.getElem?_eq_some_iff.1 hi).1
 obtain ⟨x0, x1, x2, x3, a, n, c, e, g1, g2, g3, g4, g5, g6, g7, g8⟩ := h.2.2 i _ p (List.getElem?_eq_getElem hlt) hi
 exact g7
section
variable {H : Type} {enc : TypeId × Value → H} {w : World}
instance : Inhabited Prt := ⟨⟨false, 0, []⟩⟩
end
end Go.Proofs.YtoadeekdgikghaaDoor
