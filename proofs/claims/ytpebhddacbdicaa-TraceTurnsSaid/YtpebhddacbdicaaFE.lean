/-
 What a law is handed, whatever its types: read again behind the call; bytes, slices, events opened. No condition.
-/
import Derived.Test.YtpebhddacbdicaaFV
import Derived.Test.YtpebhddacbdicaaT1
import Derived.Test.YtpebhddacbdicaaBS
import Derived.ReadAgain
import Derived.ChangeReads
import Derived.ChangeBears
import Derived.Deep.Slices
import Derived.Deep.Strs
set_option maxRecDepth 20000
set_option linter.unusedVariables false
set_option linter.unusedSimpArgs false
namespace Go.Proofs.Ytpebhddacbdicaa
open Go.RowKit Go.ChangeShapes Go.WideShapes Go.ChangeAt
theorem Try.laidOut : laidOutB Try.prog = true := by kernel_rfl
theorem Try.mapsRow : mapsRowed Try.prog = true := by kernel_rfl
theorem Try.slicesFull : ((List.range Try.prog.types.size).all fun t => match Try.prog.underlying t with | some (.slice e) => decide (0 < Try.prog.cellsOf e) | _ => true) = true := by kernel_rfl
section
variable {H : Type} {enc : TypeId × Value → H} {P : Program} {w w' : World} {base : Nat} {spare : Nat → Bool} {held : Bool}
theorem Trod.carry {t : TypeId} {v : Value} {d : DataW H} {ps : List MemPlace} (h : DataW.Trod enc P w base spare held t v d ps) (hs : ∀ p ∈ ps, w.sameAt w' p) : DataW.Trod enc P w' base spare held t v d ps := by
 obtain ⟨n, hn⟩ := h
 exact ⟨n, DataW.trod_carry n _ _ _ hn hs⟩
theorem TrodAll.carry : ∀ {ts : List TypeId} {vs : List Value} {ds : List (DataW H)} {ps : List MemPlace}, DataW.TrodAll enc P w base spare held ts vs ds ps → (∀ p ∈ ps, w.sameAt w' p) → DataW.TrodAll enc P w' base spare held ts vs ds ps
 | [], [], [], _, h, _ => h
 | _ :: _, _ :: _, _ :: _, _, ⟨p, q, h1, h2, e⟩, hs => ⟨p, q, Trod.carry h1 (fun x hx => hs x (by rw [e]; exact List.mem_append_left _ hx)), TrodAll.carry h2 (fun x hx => hs x (by rw [e]; exact List.mem_append_right _ hx)), e⟩
end
theorem post_any {H : Type} {enc : TypeId × Value → H} {f : Func} {s : ChangeSpec} {apart fresh handsOn again : Bool} {W W' : World} {args : Array Value} {v : Value} {ds gs : List (DataW H)} {before : List MemPlace}
  (hW : DataW.Whole enc Try.prog f.params.toList s.vars apart W args.toList ds gs before) (hvn : s.vars = []) (hp : ∃ p, W' = gw W p)
  (hT : (f.params.toList.all fun t => decide (t < Try.prog.types.size)) = true) (hfa : (s.fn H (ds ++ gs)).args = ds)
  (hres : ∀ (b : Nat) (sp : Nat → Bool) (hd : Bool), DataW.TrodAll enc Try.prog W' b sp hd f.resultTypes.toList (v.resultList f.resultTypes.size) (s.fn H (ds ++ gs)).results [])
  (hvars : ∀ sp : Nat → Bool, DataW.TrodVars enc Try.prog W' sp s.vars (s.fn H (ds ++ gs)).vars [])
  (hok : ∀ (j : Nat) (t : TypeId) (r : Value), f.resultTypes[j]? = some t → (v.resultList f.resultTypes.size)[j]? = some r → Value.okWide Try.prog W' .any 0 t r) :
  s.post enc Try.prog f apart fresh handsOn again W args v W' := by
 refine post_gr hW hp hres (fun q sp hsp => ?_) hvars hok
 have hlt := hW.lt
 rw [hfa]
 obtain ⟨p, q', hA, hV, rfl, _, _⟩ := hW
 rw [hvn] at hV
 have hq : q' = [] := by
  cases gs with
  | nil => exact hV
  | cons g gs => exact hV.elim
 subst hq
 rw [List.append_nil] at hsp hlt ⊢
 refine TrodAll.carry (DataW.TrodAll.respare (kids_rows Try.laidOut Try.mapsRow) (slices_full_of Try.prog Try.slicesFull) (fun t ht => of_decide_eq_true (List.all_eq_true.1 hT t ht)) hA hsp) (fun x hx => ?_)
 have hb := hlt x hx
 cases x with
 | cell b off => exact gw_cell W q b _ hb
 | map b => show (gw W q).heap[b]? = W.heap[b]?; unfold gw; exact Array.getElem?_append_left hb
theorem cells8 : Try.prog.cellsOf 5 = 1 := by kernel_rfl
theorem adr_spot {a : Addr} {len cap : Nat} (h1 : len ≤ cap) (h : 0 < cap → a.spot = none) : adr (some a) len cap := by
 by_cases hc : 0 < cap
 ·obtain ⟨b, o, sp⟩ := a
  have := h hc
  simp only at this
  subst this
  exact .inl rfl
 ·exact .inr ⟨rfl, by omega, by omega⟩
theorem lies_cells {w : World} {b off : Nat} {cs : List Value} (hc : ∀ j u, cs[j]? = some u → w.cell? ⟨b, off + j, none⟩ = some u) : LiesH (H0 w) (some ⟨b, off, none⟩) cs := by
 cases cs with
 | nil => exact .inl rfl
 | cons u0 l =>
  have h4 := hc 0 u0 rfl
  have hcell : ∃ arr t fr, w.heap[b]? = some (.cells arr t fr) := by
   cases ho : w.heap[b]? with
   | none => simp [World.cell?, ho] at h4
   | some o =>
    cases o with
    | cells arr t fr => exact ⟨arr, t, fr, rfl⟩
    | _ => simp [World.cell?, ho] at h4
  obtain ⟨arr, t, fr, ho⟩ := hcell
  refine .inr ⟨b, off, arr, t, fr, rfl, ho, fun j u hj => ?_⟩
  have h5 := hc j u hj
  simpa [World.cell?, ho] using h5
section
variable {H : Type} {enc : TypeId × Value → H} {w : World}
theorem bytes_cell {fuel : Nat} {cs : List Value} {x : DataW H × List MemPlace} (h : DataW.trod enc Try.prog w 0 (fun _ => true) true fuel 43 cs = some x) :
  ∃ a n c bs, cs = [.slice a n c] ∧ bs.length = n ∧ n ≤ c ∧ adr a n c ∧ LiesH (H0 w) a (cc (.ints .u8 bs)) ∧ allB bs ∧ n ≤ maxLen := by
 rcases open_ints Try.underlying43 Try.underlying5 cells8 h with ⟨rfl, _⟩ | ⟨a, len, cap, zs, rfl, _, h3, h4, h5, _, h7, h8⟩
 ·exact ⟨none, 0, 0, [], rfl, rfl, Nat.le_refl _, .inr ⟨rfl, rfl, rfl⟩, .inl rfl, fun _ h => absurd h List.not_mem_nil, Nat.zero_le _⟩
 ·rw [if_pos rfl] at h5
  have hsp : 0 < cap → a.spot = none := fun hc => by
   have := World.cell?_spot (h7 0 (by omega))
   simpa [Addr.add] using this
  refine ⟨some a, len, cap, zs.take len, rfl, by rw [List.length_take]; omega, h3, adr_spot h3 hsp, ?_, allB_wf (fun x hx => h8 x (List.mem_of_mem_take hx)), Nat.le_trans h3 h4⟩
  by_cases hc : 0 < cap
  ·obtain ⟨b, o, sp⟩ := a
   have := hsp hc
   simp only at this
   subst this
   refine lies_cells fun j u hj => ?_
   simp only [cc, List.getElem?_map, Option.map_eq_some_iff, List.getElem?_take] at hj
   obtain ⟨x, hx, rfl⟩ := hj
   split at hx
   ·have hjl := (List.getElem?_eq_some_iff.1 hx).1
    have := h7 j hjl
    rw [addr_add, List.getD_eq_getElem?_getD, hx] at this
    exact this
   ·cases hx
  ·have : len = 0 := by omega
   subst this
   exact .inl rfl

theorem sl_rows {t e : TypeId} {sz : Nat} (ht : Try.prog.underlying t = some (.slice e)) (hsz : Try.prog.cellsOf e = sz) (h0 : 0 < sz) {α : Type} [Inhabited α] {Q : List SV → α → Prop} {fuel : Nat} {cs : List Value} {x : DataW H × List MemPlace} (h : DataW.trod enc Try.prog w 0 (fun _ => true) true fuel t cs = some x)
  (hQ : ∀ (k : Nat) (cs' : List Value) (y : DataW H × List MemPlace), DataW.trod enc Try.prog w 0 (fun _ => true) true k e cs' = some y → ∃ l p, cs' = cvs l ∧ Q l p) :
  ∃ (a : Option Addr) (n c : Nat) (rs : List (List SV)) (ps : List α), cs = [.slice a n c] ∧ rs.length = n ∧ ps.length = n ∧ n ≤ c ∧ adr a n c ∧ c ≤ maxLen ∧ (∀ r ∈ rs, r.length = sz) ∧ LiesH (H0 w) a (rs.flatMap cvs) ∧ ∀ (i : Nat) (r : List SV) (p : α), rs[i]? = some r → ps[i]? = some p → Q r p := by
 rcases DataW.trod_slice ht h with ⟨hk, _⟩ | ⟨a', len, cap, elems, rest, k, rfl, hk, _, _, hlc, hcm, hel, hels, hsp, _⟩
 ·exact ⟨none, 0, 0, [], [], hk, rfl, rfl, Nat.le_refl _, .inr ⟨rfl, rfl, rfl⟩, Nat.zero_le _, (fun r h => absurd h List.not_mem_nil), .inl rfl, fun i r p h _ => by simp at h⟩
 ·rw [hsz] at hels hsp
  have each : ∀ i, i < len → ∃ p : List SV × α, p.1.length = sz ∧ Q p.1 p.2 ∧ w.cells? 0 (a'.add (i * sz)) sz = some (cvs p.1) := fun i hi => by
   have he := hels i hi
   rw [List.getElem?_eq_getElem (by omega)] at he
   obtain ⟨cs', q1, q2⟩ := Option.bind_eq_some_iff.1 he
   obtain ⟨l, t, rfl, q3⟩ := hQ k cs' _ q2
   obtain ⟨_, q4, _⟩ := World.cells?_some q1
   exact ⟨(l, t), by rw [cvs_eq, List.length_map] at q4; exact q4, q3, q1⟩
  have hsn : 0 < cap → a'.spot = none := fun hc => by
   have key : ∃ cs', w.cells? 0 (a'.add (0 * sz)) sz = some cs' := by
    by_cases hl0 : 0 < len
    ·obtain ⟨p, _, _, q⟩ := each 0 hl0
     exact ⟨_, q⟩
    ·obtain ⟨r1, r2⟩ := hsp rfl
     have := r2 0 (by omega)
     rw [List.getElem?_eq_getElem (by omega), show len + 0 = 0 by omega] at this
     obtain ⟨cs', q1, _⟩ := Option.bind_eq_some_iff.1 this
     exact ⟨cs', q1⟩
   obtain ⟨cs', q⟩ := key
   obtain ⟨_, q1, q2⟩ := World.cells?_some q
   have q3 := q2 0 (by omega)
   rw [List.getElem?_eq_getElem (by omega)] at q3
   have := World.cell?_spot q3
   simpa [Addr.add] using this
  obtain ⟨F, hF⟩ := Go.Deep.choose_lt (α := List SV × α) each
  obtain ⟨rs, hrs⟩ : ∃ rs : List (List SV), rs = (List.range len).map fun i => (F i).1 := ⟨_, rfl⟩
  obtain ⟨ks, hks⟩ : ∃ ks : List α, ks = (List.range len).map fun i => (F i).2 := ⟨_, rfl⟩
  have hrl : rs.length = len := by rw [hrs, List.length_map, List.length_range]
  have hkl : ks.length = len := by rw [hks, List.length_map, List.length_range]
  have hrg : ∀ i, i < len → rs[i]? = some (F i).1 := fun i hi => by rw [hrs, List.getElem?_map, List.getElem?_range hi]; rfl
  have hkg : ∀ i, i < len → ks[i]? = some (F i).2 := fun i hi => by rw [hks, List.getElem?_map, List.getElem?_range hi]; rfl
  have h3 : ∀ r ∈ rs, r.length = sz := fun r hr => by
   rw [hrs] at hr
   obtain ⟨i, hi, rfl⟩ := List.mem_map.1 hr
   exact (hF i (List.mem_range.1 hi)).1
  refine ⟨some a', len, cap, rs, ks, hk, hrl, hkl, hlc, adr_spot hlc hsn, hcm, h3, ?_, fun i r k hr hk => ?_⟩
  ·by_cases hc : 0 < cap
   ·obtain ⟨b, o, sp⟩ := a'
    have := hsn hc
    simp only at this
    subst this
    refine lies_cells fun j u hj => ?_
    have hfl : ∀ (L : List (List SV)), (∀ r ∈ L, r.length = sz) → (L.flatMap cvs).length = L.length * sz := by
     intro L
     induction L with
     | nil => intro _; simp
     | cons r L ihL =>
      intro hL
      rw [List.flatMap_cons, List.length_append, ihL (fun r hr => hL r (List.mem_cons_of_mem _ hr)), cvs_eq, List.length_map, hL r List.mem_cons_self, List.length_cons, Nat.add_mul]; omega
    have hjl := (List.getElem?_eq_some_iff.1 hj).1
    rw [hfl rs h3, hrl] at hjl
    have hj3 : j / sz < len := (Nat.div_lt_iff_lt_mul h0).2 hjl
    have hjm : j % sz < sz := Nat.mod_lt _ h0
    have e1 := flat_get cvs sz rs (j / sz) (j % sz) (F (j / sz)).1 (fun r hr => by rw [cvs_eq, List.length_map, h3 r hr]) (hrg _ hj3) hjm
    rw [Nat.div_add_mod' j sz, hj] at e1
    obtain ⟨_, _, q2⟩ := World.cells?_some (hF (j / sz) hj3).2.2
    have q3 := q2 (j % sz) hjm
    rw [← e1, addr_add, addr_add] at q3
    rw [← q3]; congr 2
    rw [Nat.add_assoc, Nat.div_add_mod' j sz]
   ·have : len = 0 := by omega
    have hr0 : rs = [] := List.length_eq_zero_iff.1 (by omega)
    rw [hr0]; exact .inl rfl
  ·have hi : i < len := by rw [← hrl]; exact (List.getElem?_eq_some_iff.1 hr).1
   rw [hrg i hi] at hr
   rw [hkg i hi] at hk
   cases hr; cases hk
   exact (hF i hi).2.1
end
theorem cellsEvt : Try.prog.cellsOf 47 = 32 := by kernel_rfl
section
variable {H : Type} {enc : TypeId × Value → H} {w : World}
theorem list20 {α : Type} (l : List α) (h : l.length = 20) : ∃ a0 a1 a2 a3 a4 a5 a6 a7 a8 a9 a10 a11 a12 a13 a14 a15 a16 a17 a18 a19, l = [a0, a1, a2, a3, a4, a5, a6, a7, a8, a9, a10, a11, a12, a13, a14, a15, a16, a17, a18, a19] := by
 match l, h with
 | [a0, a1, a2, a3, a4, a5, a6, a7, a8, a9, a10, a11, a12, a13, a14, a15, a16, a17, a18, a19], _ => exact ⟨_, _, _, _, _, _, _, _, _, _, _, _, _, _, _, _, _, _, _, _, rfl⟩
theorem list7 {α : Type} (l : List α) (h : l.length = 7) : ∃ a0 a1 a2 a3 a4 a5 a6, l = [a0, a1, a2, a3, a4, a5, a6] := by
 match l, h with
 | [a0, a1, a2, a3, a4, a5, a6], _ => exact ⟨_, _, _, _, _, _, _, rfl⟩
theorem cut_cells {cs : List Value} (n k : Nat) (h : n + k ≤ cs.length) : (List.take k (List.drop n cs)).length = k := by rw [List.length_take, List.length_drop]; omega
set_option maxRecDepth 20000 in
theorem event_cells {fuel : Nat} {cs : List Value} {x : DataW H × List MemPlace} (h : DataW.trod enc Try.prog w 0 (fun _ => true) true fuel 47 cs = some x) : ∃ l e, cs = cvs l ∧ EvR (H0 w) l e := by
 obtain ⟨xs, n, rfl, _, hl, hxl, hf⟩ := DataW.trod_struct Try.underlying47 h
 rw [cellsEvt] at hl
 obtain ⟨z0, z1, z2, z3, z4, z5, z6, rfl⟩ := list7 xs hxl
 have k8 : Try.prog.cellsOf 5 = 1 := by kernel_rfl
 have ki : Try.prog.cellsOf 3 = 1 := by kernel_rfl
 have ka : Try.prog.cellsOf 24 = 20 := by kernel_rfl
 have kw : Try.prog.cellsOf 27 = 4 := by kernel_rfl
 have kb : Try.prog.cellsOf 43 = 1 := by kernel_rfl
 have ke : Try.prog.cellsOf 45 = 1 := by kernel_rfl
 have h0 : DataW.trod enc Try.prog w 0 (fun _ => true) true n 5 (List.take (Try.prog.cellsOf 5) (List.drop 0 cs)) = some z0 := hf 0 _ rfl
 rw [k8] at h0
 have h1 : DataW.trod enc Try.prog w 0 (fun _ => true) true n 3 (List.take (Try.prog.cellsOf 3) (List.drop 1 cs)) = some z1 := hf 1 _ rfl
 rw [ki] at h1
 have h2 : DataW.trod enc Try.prog w 0 (fun _ => true) true n 24 (List.take (Try.prog.cellsOf 24) (List.drop 2 cs)) = some z2 := hf 2 _ rfl
 rw [ka] at h2
 have h3 : DataW.trod enc Try.prog w 0 (fun _ => true) true n 27 (List.take (Try.prog.cellsOf 27) (List.drop 22 cs)) = some z3 := hf 3 _ rfl
 rw [kw] at h3
 have h4 : DataW.trod enc Try.prog w 0 (fun _ => true) true n 27 (List.take (Try.prog.cellsOf 27) (List.drop 26 cs)) = some z4 := hf 4 _ rfl
 rw [kw] at h4
 have h5 : DataW.trod enc Try.prog w 0 (fun _ => true) true n 43 (List.take (Try.prog.cellsOf 43) (List.drop 30 cs)) = some z5 := hf 5 _ rfl
 rw [kb] at h5
 have h6 : DataW.trod enc Try.prog w 0 (fun _ => true) true n 45 (List.take (Try.prog.cellsOf 45) (List.drop 31 cs)) = some z6 := hf 6 _ rfl
 rw [ke] at h6
 clear hf
 have hs : cs = List.take 1 (List.drop 0 cs) ++ (List.take 1 (List.drop 1 cs) ++ (List.take 20 (List.drop 2 cs) ++ (List.take 4 (List.drop 22 cs) ++ (List.take 4 (List.drop 26 cs) ++ (List.take 1 (List.drop 30 cs) ++ List.take 1 (List.drop 31 cs)))))) := by
  rw [show List.take 1 (List.drop 31 cs) = List.drop 31 cs from List.take_of_length_le (by rw [List.length_drop]; omega)]
  have st : ∀ (i j : Nat) (l : List Value), List.drop i l = List.take j (List.drop i l) ++ List.drop (i + j) l := fun i j l => by rw [← List.drop_drop, List.take_append_drop]
  conv => lhs; rw [← List.drop_zero (l := cs), st 0 1 cs, st (0 + 1) 1 cs, st (0 + 1 + 1) 20 cs, st (0 + 1 + 1 + 20) 4 cs, st (0 + 1 + 1 + 20 + 4) 4 cs, st (0 + 1 + 1 + 20 + 4 + 4) 1 cs]
 have l3 := cut_cells (cs := cs) 22 4 (by omega)
 have l4 := cut_cells (cs := cs) 26 4 (by omega)
 revert h0 h1 h2 h3 h4 h5 h6 l3 l4 hs
 generalize List.take 1 (List.drop 0 cs) = q0
 generalize List.take 1 (List.drop 1 cs) = q1
 generalize List.take 20 (List.drop 2 cs) = q2
 generalize List.take 4 (List.drop 22 cs) = q3
 generalize List.take 4 (List.drop 26 cs) = q4
 generalize List.take 1 (List.drop 30 cs) = q5
 generalize List.take 1 (List.drop 31 cs) = q6
 intro h0 h1 h2 h3 h4 h5 h6 hs l3 l4
 subst hs
 obtain ⟨op, rfl, _, wop⟩ := DataW.trod_int Try.underlying5 h0
 obtain ⟨dep, rfl, _, wdep⟩ := DataW.trod_int Try.underlying3 h1
 obtain ⟨self, hsl, rfl, _, wself⟩ := arr_open Try.underlying24 Try.underlying5 byte_cells addr_cells h2
 obtain ⟨arg, rfl, _, hW1⟩ := word_cells h3 l3
 obtain ⟨val, rfl, _, hW2⟩ := word_cells h4 l4
 obtain ⟨a, m, c, bs, rfl, g1, g2, g3, g4, g5, g6⟩ := bytes_cell h5
 obtain ⟨flt, rfl, _, wflt⟩ := DataW.trod_int Try.underlying45 h6
 have hall := allB_wf wself
 obtain ⟨s0, s1, s2, s3, s4, s5, s6, s7, s8, s9, s10, s11, s12, s13, s14, s15, s16, s17, s18, s19, rfl⟩ := list20 self hsl
 have e1 := wf_u8 _ wop
 have e2 := wf_i64 _ wdep
 have e3 := wf_u16 _ wflt
 have e1b : op ≤ 255 := by omega
 have e3b : flt ≤ 65535 := by omega
 exact ⟨_, ⟨op, dep, _, arg, val, bs, flt⟩, rfl, s0, s1, s2, s3, s4, s5, s6, s7, s8, s9, s10, s11, s12, s13, s14, s15, s16, s17, s18, s19, _, _, _, _, _, _, _, _, a, m, c, rfl, rfl, hall, allU_lmI arg, numI_lmI hW1, allU_lmI val, numI_lmI hW2, g1, g2, g3, g4, g5, g6, e1.1, e1b, e2, e3.1, e3b⟩
theorem events_open {r : Reach} {b0 : Nat} {v : Value} {d : DataW H} {p : List MemPlace} (hval : Value.okWide Try.prog w r b0 22 v) (h : DataW.Trod enc Try.prog w 0 (fun _ => true) true 22 v d p) :
  ∃ (a : Option Addr) (n c : Nat) (rs : List (List SV)) (l : List Evt), v = .slice a n c ∧ EvL (H0 w) a n c rs l := by
 obtain ⟨a0, n0, c0, rfl⟩ := sl_form Try.underlying22 hval
 obtain ⟨fuel, hf⟩ := h
 obtain ⟨a, n, c, rs, ps, h1, h2, h3, h4, h5, h6, h7, h8, h9⟩ := sl_rows (α := Evt) (Q := EvR (H0 w)) (sz := 32) Try.underlying22 cellsEvt (by omega) hf (fun k cs' y hk => event_cells hk)
 cases h1
 exact ⟨a0, n0, c0, rs, ps, rfl, h3, h4, h5, Nat.le_trans h4 h6, h8, by rw [h2, h3], h7, h9⟩
end
end Go.Proofs.Ytpebhddacbdicaa
