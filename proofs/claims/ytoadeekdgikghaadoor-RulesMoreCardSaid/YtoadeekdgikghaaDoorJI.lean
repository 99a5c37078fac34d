/-
 Events, entries, four truth values as a law is handed them. No condition.
-/
import Derived.Test.YtoadeekdgikghaaDoorJD
import Derived.Test.YtoadeekdgikghaaDoorU5
import Derived.Laws.IdiomArrays
set_option maxRecDepth 20000
set_option linter.unusedVariables false
set_option linter.unusedSimpArgs false
namespace Go.Proofs.YtoadeekdgikghaaDoor
open Go.RowKit Go.ChangeShapes Go.WideShapes Go.ChangeAt
section
variable {H : Type} {enc : TypeId × Value → H} {w : World}
theorem cellsEvt : Tryd.prog.cellsOf 47 = 32 := by kernel_rfl
theorem list20J {α : Type} (l : List α) (h : l.length = 20) : ∃ a0 a1 a2 a3 a4 a5 a6 a7 a8 a9 a10 a11 a12 a13 a14 a15 a16 a17 a18 a19, l = [a0, a1, a2, a3, a4, a5, a6, a7, a8, a9, a10, a11, a12, a13, a14, a15, a16, a17, a18, a19] := by
 match l, h with
 | [a0, a1, a2, a3, a4, a5, a6, a7, a8, a9, a10, a11, a12, a13, a14, a15, a16, a17, a18, a19], _ => exact ⟨_, _, _, _, _, _, _, _, _, _, _, _, _, _, _, _, _, _, _, _, rfl⟩
theorem list7J {α : Type} (l : List α) (h : l.length = 7) : ∃ a0 a1 a2 a3 a4 a5 a6, l = [a0, a1, a2, a3, a4, a5, a6] := by
 match l, h with
 | [a0, a1, a2, a3, a4, a5, a6], _ => exact ⟨_, _, _, _, _, _, _, rfl⟩
theorem cut_cellsJ {cs : List Value} (n k : Nat) (h : n + k ≤ cs.length) : (List.take k (List.drop n cs)).length = k := by rw [List.length_take, List.length_drop]; omega
set_option maxRecDepth 20000 in
theorem event_cells {fuel : Nat} {cs : List Value} {x : DataW H × List MemPlace} (h : DataW.trod enc Tryd.prog w 0 (fun _ => true) true fuel 47 cs = some x) : ∃ l e, cs = cvs l ∧ EvR (H0 w) l e := by
 obtain ⟨xs, n, rfl, _, hl, hxl, hf⟩ := DataW.trod_struct Tryd.underlying47 h
 rw [cellsEvt] at hl
 obtain ⟨z0, z1, z2, z3, z4, z5, z6, rfl⟩ := list7J xs hxl
 have k8 : Tryd.prog.cellsOf 5 = 1 := by kernel_rfl
 have ki : Tryd.prog.cellsOf 3 = 1 := by kernel_rfl
 have ka : Tryd.prog.cellsOf 24 = 20 := by kernel_rfl
 have kw : Tryd.prog.cellsOf 27 = 4 := by kernel_rfl
 have kb : Tryd.prog.cellsOf 28 = 1 := by kernel_rfl
 have ke : Tryd.prog.cellsOf 45 = 1 := by kernel_rfl
 have h0 : DataW.trod enc Tryd.prog w 0 (fun _ => true) true n 5 (List.take (Tryd.prog.cellsOf 5) (List.drop 0 cs)) = some z0 := hf 0 _ rfl
 rw [k8] at h0
 have h1 : DataW.trod enc Tryd.prog w 0 (fun _ => true) true n 3 (List.take (Tryd.prog.cellsOf 3) (List.drop 1 cs)) = some z1 := hf 1 _ rfl
 rw [ki] at h1
 have h2 : DataW.trod enc Tryd.prog w 0 (fun _ => true) true n 24 (List.take (Tryd.prog.cellsOf 24) (List.drop 2 cs)) = some z2 := hf 2 _ rfl
 rw [ka] at h2
 have h3 : DataW.trod enc Tryd.prog w 0 (fun _ => true) true n 27 (List.take (Tryd.prog.cellsOf 27) (List.drop 22 cs)) = some z3 := hf 3 _ rfl
 rw [kw] at h3
 have h4 : DataW.trod enc Tryd.prog w 0 (fun _ => true) true n 27 (List.take (Tryd.prog.cellsOf 27) (List.drop 26 cs)) = some z4 := hf 4 _ rfl
 rw [kw] at h4
 have h5 : DataW.trod enc Tryd.prog w 0 (fun _ => true) true n 28 (List.take (Tryd.prog.cellsOf 28) (List.drop 30 cs)) = some z5 := hf 5 _ rfl
 rw [kb] at h5
 have h6 : DataW.trod enc Tryd.prog w 0 (fun _ => true) true n 45 (List.take (Tryd.prog.cellsOf 45) (List.drop 31 cs)) = some z6 := hf 6 _ rfl
 rw [ke] at h6
 clear hf
 have hs : cs = List.take 1 (List.drop 0 cs) ++ (List.take 1 (List.drop 1 cs) ++ (List.take 20 (List.drop 2 cs) ++ (List.take 4 (List.drop 22 cs) ++ (List.take 4 (List.drop 26 cs) ++ (List.take 1 (List.drop 30 cs) ++ List.take 1 (List.drop 31 cs)))))) := by
  rw [show List.take 1 (List.drop 31 cs) = List.drop 31 cs from List.take_of_length_le (by rw [List.length_drop]; omega)]
  have st : ∀ (i j : Nat) (l : List Value), List.drop i l = List.take j (List.drop i l) ++ List.drop (i + j) l := fun i j l => by rw [← List.drop_drop, List.take_append_drop]
  conv => lhs; rw [← List.drop_zero (l := cs), st 0 1 cs, st (0 + 1) 1 cs, st (0 + 1 + 1) 20 cs, st (0 + 1 + 1 + 20) 4 cs, st (0 + 1 + 1 + 20 + 4) 4 cs, st (0 + 1 + 1 + 20 + 4 + 4) 1 cs]
 have l3 := cut_cellsJ (cs := cs) 22 4 (by omega)
 have l4 := cut_cellsJ (cs := cs) 26 4 (by omega)
 revert h0 h1 h2 h3 h4 h5 h6 l3 l4 hs
 generalize List.take 1 (List.drop 0 cs) = q0
 generalize List.take 1 (List.drop 1 cs) = q1
 generalize List.take 20 (List.drop 2 cs) = q2
 generalize List.take 4 (List.drop 22 cs) = q3
 generalize List.take 4 (List.drop 26 cs) = q4
 generalize List.take 1 (List.drop 30 cs) = q5
 generalize List.take 1 (List.drop 31 cs) = q6
 intro h0 h1 h2 h3 h4 h5 h6 hs l3 l4
 subst hs
 obtain ⟨op, rfl, _, wop⟩ := DataW.trod_int Tryd.underlying5 h0
 obtain ⟨dep, rfl, _, wdep⟩ := DataW.trod_int Tryd.underlying3 h1
 obtain ⟨self, hsl, rfl, _, wself⟩ := arr_open Tryd.underlying24 Tryd.underlying5 byte_cells addr_cells h2
 obtain ⟨arg, rfl, _, hW1⟩ := word_cells h3 l3
 obtain ⟨val, rfl, _, hW2⟩ := word_cells h4 l4
 obtain ⟨a, m, c, bs, rfl, g1, g2, g3, g4, g5, g6⟩ := bytes_cell h5
 obtain ⟨flt, rfl, _, wflt⟩ := DataW.trod_int Tryd.underlying45 h6
 have hall := allB_wf wself
 obtain ⟨s0, s1, s2, s3, s4, s5, s6, s7, s8, s9, s10, s11, s12, s13, s14, s15, s16, s17, s18, s19, rfl⟩ := list20J self hsl
 have e1 := wf_u8 _ wop
 have e2 := wf_i64 _ wdep
 have e3 := wf_u16 _ wflt
 have e1b : op ≤ 255 := by omega
 have e3b : flt ≤ 65535 := by omega
 exact ⟨_, ⟨op, dep, _, arg, val, bs, flt⟩, rfl, s0, s1, s2, s3, s4, s5, s6, s7, s8, s9, s10, s11, s12, s13, s14, s15, s16, s17, s18, s19, _, _, _, _, _, _, _, _, a, m, c, rfl, rfl, hall, allU_lmI arg, numI_lmI hW1, allU_lmI val, numI_lmI hW2, g1, g2, g3, g4, g5, g6, e1.1, e1b, e2, e3.1, e3b⟩
theorem events_open {r : Reach} {b0 : Nat} {v : Value} {d : DataW H} {p : List MemPlace} (hval : Value.okWide Tryd.prog w r b0 31 v) (h : DataW.Trod enc Tryd.prog w 0 (fun _ => true) true 31 v d p) :
  ∃ (a : Option Addr) (n c : Nat) (rs : List (List SV)) (l : List Evt), v = .slice a n c ∧ EvL (H0 w) a n c rs l := by
 obtain ⟨a0, n0, c0, rfl⟩ := sl_form Tryd.underlying31 hval
 obtain ⟨fuel, hf⟩ := h
 obtain ⟨a, n, c, rs, ps, h1, h2, h3, h4, h5, h6, h7, h8, h9⟩ := sl_rows (α := Evt) (Q := EvR (H0 w)) (sz := 32) Tryd.underlying31 cellsEvt (by omega) hf (fun k cs' y hk => event_cells hk)
 cases h1
 exact ⟨a0, n0, c0, rs, ps, rfl, h3, h4, h5, Nat.le_trans h4 h6, h8, by rw [h2, h3], h7, h9⟩
theorem mem_all {P : Program} {e : TypeId} {d : DataW H} {n : Nat} : ∀ {l : List (DataW H)}, d ∈ l → n ∈ d.weights P e → n ∈ DataW.weightsAll P e l
 | y :: l, hd, hn => by
  simp only [DataW.weightsAll, List.mem_append]
  rcases List.mem_cons.1 hd with rfl | hd
  ·exact .inl hn
  ·exact .inr (mem_all hd hn)
theorem sl_bound {t e : TypeId} (ht : Tryd.prog.underlying t = some (.slice e)) {fuel : Nat} {a : Option Addr} {n c : Nat} {x : DataW H × List MemPlace} (h : DataW.trod enc Tryd.prog w 0 (fun _ => true) true fuel t [.slice a n c] = some x) (hw : ∀ n ∈ x.1.weights Tryd.prog t, n ≤ reachBytes) : n * Tryd.prog.bytesOf e ≤ reachBytes := by
 rcases DataW.trod_slice ht h with ⟨hk, _⟩ | ⟨a', len, cap, elems, rest, k, rfl, hk, hx, _, _, _, hel, _⟩
 ·cases hk; rw [Nat.zero_mul]; exact Nat.zero_le _
 ·cases hk
  have h1 := hw ((elems.length + rest.length) * Tryd.prog.bytesOf e) (by rw [hx]; simp only [DataW.weights, ht, List.length_map]; exact List.mem_cons_self)
  rw [← hel]
  exact Nat.le_trans (Nat.mul_le_mul_right _ (by omega)) h1
theorem sl_rowsW {t e : TypeId} {sz : Nat} (ht : Tryd.prog.underlying t = some (.slice e)) (hsz : Tryd.prog.cellsOf e = sz) (h0 : 0 < sz) {α : Type} [Inhabited α] {Q : List SV → α → Prop} {fuel : Nat} {cs : List Value} {x : DataW H × List MemPlace} (h : DataW.trod enc Tryd.prog w 0 (fun _ => true) true fuel t cs = some x) (hw : ∀ n ∈ x.1.weights Tryd.prog t, n ≤ reachBytes)
  (hQ : ∀ (k : Nat) (cs' : List Value) (y : DataW H × List MemPlace), DataW.trod enc Tryd.prog w 0 (fun _ => true) true k e cs' = some y → (∀ n ∈ y.1.weights Tryd.prog e, n ≤ reachBytes) → ∃ l p, cs' = cvs l ∧ Q l p) :
  ∃ (a : Option Addr) (n c : Nat) (rs : List (List SV)) (ps : List α), cs = [.slice a n c] ∧ rs.length = n ∧ ps.length = n ∧ n ≤ c ∧ adr a n c ∧ c ≤ maxLen ∧ (∀ r ∈ rs, r.length = sz) ∧ LiesH (H0 w) a (rs.flatMap cvs) ∧ ∀ (i : Nat) (r : List SV) (p : α), rs[i]? = some r → ps[i]? = some p → Q r p := by
 rcases DataW.trod_slice ht h with ⟨hk, _⟩ | ⟨a', len, cap, elems, rest, k, rfl, hk, hx, _, hlc, hcm, hel, hels, hsp, _⟩
 ·exact ⟨none, 0, 0, [], [], hk, rfl, rfl, Nat.le_refl _, .inr ⟨rfl, rfl, rfl⟩, Nat.zero_le _, (fun r h => absurd h List.not_mem_nil), .inl rfl, fun i r p h _ => by simp at h⟩
 ·rw [hsz] at hels hsp
  have hwe : ∀ y ∈ elems, ∀ n ∈ y.1.weights Tryd.prog e, n ≤ reachBytes := fun y hy n hn => by
   refine hw n ?_
   rw [hx]
   simp only [DataW.weights, ht]
   exact List.mem_cons_of_mem _ (List.mem_append_left _ (mem_all (List.mem_map_of_mem hy) hn))
  have each : ∀ i, i < len → ∃ p : List SV × α, p.1.length = sz ∧ Q p.1 p.2 ∧ w.cells? 0 (a'.add (i * sz)) sz = some (cvs p.1) := fun i hi => by
   have he := hels i hi
   rw [List.getElem?_eq_getElem (by omega)] at he
   obtain ⟨cs', q1, q2⟩ := Option.bind_eq_some_iff.1 he
   obtain ⟨l, t, rfl, q3⟩ := hQ k cs' _ q2 (hwe _ (List.getElem_mem _))
   obtain ⟨_, q4, _⟩ := World.cells?_some q1
   exact ⟨(l, t), by rw [cvs_eq, List.length_map] at q4; exact q4, q3, q1⟩
  have hsn : 0 < cap → a'.spot = none := fun hc => by
   have key : ∃ cs', w.cells? 0 (a'.add (0 * sz)) sz = some cs' := by
    by_cases hl0 : 0 < len
    ·obtain ⟨p, _, _, q⟩ := each 0 hl0
     exact ⟨_, q⟩
    ·obtain ⟨r1, r2⟩ := hsp rfl
     have := r2 0 (by omega)
     rw [List.getElem?_eq_getElem (by omega), show len + 0 = 0 by omega] at this
     obtain ⟨cs', q1, _⟩ := Option.bind_eq_some_iff.1 this
     exact ⟨cs', q1⟩
   obtain ⟨cs', q⟩ := key
   obtain ⟨_, q1, q2⟩ := World.cells?_some q
   have q3 := q2 0 (by omega)
   rw [List.getElem?_eq_getElem (by omega)] at q3
   have := World.cell?_spot q3
   simpa [Addr.add] using this
  obtain ⟨F, hF⟩ := Go.Deep.choose_lt (α := List SV × α) each
  obtain ⟨rs, hrs⟩ : ∃ rs : List (List SV), rs = (List.range len).map fun i => (F i).1 := ⟨_, rfl⟩
  obtain ⟨ks, hks⟩ : ∃ ks : List α, ks = (List.range len).map fun i => (F i).2 := ⟨_, rfl⟩
  have hrl : rs.length = len := by rw [hrs, List.length_map, List.length_range]
  have hkl : ks.length = len := by rw [hks, List.length_map, List.length_range]
  have hrg : ∀ i, i < len → rs[i]? = some (F i).1 := fun i hi => by rw [hrs, List.getElem?_map, List.getElem?_range hi]; rfl
  have hkg : ∀ i, i < len → ks[i]? = some (F i).2 := fun i hi => by rw [hks, List.getElem?_map, List.getElem?_range hi]; rfl
  have h3 : ∀ r ∈ rs, r.length = sz := fun r hr => by
   rw [hrs] at hr
   obtain ⟨i, hi, rfl⟩ := List.mem_map.1 hr
   exact (hF i (List.mem_range.1 hi)).1
  refine ⟨some a', len, cap, rs, ks, hk, hrl, hkl, hlc, adr_spot hlc hsn, hcm, h3, ?_, fun i r k hr hk => ?_⟩
  ·by_cases hc : 0 < cap
   ·obtain ⟨b, o, sp⟩ := a'
    have := hsn hc
    simp only at this
    subst this
    refine lies_cells fun j u hj => ?_
    have hfl : ∀ (L : List (List SV)), (∀ r ∈ L, r.length = sz) → (L.flatMap cvs).length = L.length * sz := by
     intro L
     induction L with
     | nil => intro _; simp
     | cons r L ihL =>
      intro hL
      rw [List.flatMap_cons, List.length_append, ihL (fun r hr => hL r (List.mem_cons_of_mem _ hr)), cvs_eq, List.length_map, hL r List.mem_cons_self, List.length_cons, Nat.add_mul]; omega
    have hjl := (List.getElem?_eq_some_iff.1 hj).1
    rw [hfl rs h3, hrl] at hjl
    have hj3 : j / sz < len := (Nat.div_lt_iff_lt_mul h0).2 hjl
    have hjm : j % sz < sz := Nat.mod_lt _ h0
    have e1 := flat_get cvs sz rs (j / sz) (j % sz) (F (j / sz)).1 (fun r hr => by rw [cvs_eq, List.length_map, h3 r hr]) (hrg _ hj3) hjm
    rw [Nat.div_add_mod' j sz, hj] at e1
    obtain ⟨_, _, q2⟩ := World.cells?_some (hF (j / sz) hj3).2.2
    have q3 := q2 (j % sz) hjm
    rw [← e1, addr_add, addr_add] at q3
    rw [← q3]; congr 2
    rw [Nat.add_assoc, Nat.div_add_mod' j sz]
   ·have : len = 0 := by omega
    have hr0 : rs = [] := List.length_eq_zero_iff.1 (by omega)
    rw [hr0]; exact .inl rfl
  ·have hi : i < len := by rw [← hrl]; exact (List.getElem?_eq_some_iff.1 hr).1
   rw [hrg i hi] at hr
   rw [hkg i hi] at hk
   cases hr; cases hk
   exact (hF i hi).2.1
theorem bytesSlot : Tryd.prog.bytesOf 86 = 64 := by kernel_rfl

instance : Inhabited EntV := ⟨⟨[], 0, 0, none, 0, [], none, 0, []⟩⟩
theorem cellsSlot : Tryd.prog.cellsOf 86 = 8 := by kernel_rfl
theorem cellsEntry : Tryd.prog.cellsOf 70 = 27 := by kernel_rfl
theorem cellsAcct : Tryd.prog.cellsOf 68 = 7 := by kernel_rfl
def SlQ (l : List SV) (p : Nat × Nat) : Prop := l = slR p ∧ p.1 < W ∧ p.2 < W
theorem slot_cells {fuel : Nat} {cs : List Value} {x : DataW H × List MemPlace} (h : DataW.trod enc Tryd.prog w 0 (fun _ => true) true fuel 86 cs = some x) : ∃ l p, cs = cvs l ∧ SlQ l p := by
 obtain ⟨xs, n, rfl, _, hl, hxl, hf⟩ := DataW.trod_struct Tryd.underlying86 h
 rw [cellsSlot] at hl
 match xs, hxl with
 | [z0, z1], _ =>
  have kw : Tryd.prog.cellsOf 27 = 4 := by kernel_rfl
  have h0 : DataW.trod enc Tryd.prog w 0 (fun _ => true) true n 27 (List.take (Tryd.prog.cellsOf 27) (List.drop 0 cs)) = some z0 := hf 0 _ rfl
  rw [kw] at h0
  have h1 : DataW.trod enc Tryd.prog w 0 (fun _ => true) true n 27 (List.take (Tryd.prog.cellsOf 27) (List.drop 4 cs)) = some z1 := hf 1 _ rfl
  rw [kw] at h1
  have hs : cs = List.take 4 (List.drop 0 cs) ++ List.take 4 (List.drop 4 cs) := by
   rw [show List.take 4 (List.drop 4 cs) = List.drop 4 cs from List.take_of_length_le (by rw [List.length_drop]; omega), List.drop_zero, List.take_append_drop]
  obtain ⟨k, e0, _, w0⟩ := word_cells h0 (by rw [List.length_take, List.length_drop]; omega)
  obtain ⟨v, e1, _, w1⟩ := word_cells h1 (by rw [List.length_take, List.length_drop]; omega)
  refine ⟨slR (k, v), (k, v), ?_, rfl, w0, w1⟩
  rw [hs, e0, e1]; rfl
theorem rows_of {α : Type} {Q : List SV → α → Prop} {f : α → List SV} (hQ : ∀ r p, Q r p → r = f p) {rs : List (List SV)} {ps : List α} (hl : rs.length = ps.length) (h : ∀ (i : Nat) (r : List SV) (p : α), rs[i]? = some r → ps[i]? = some p → Q r p) : rs = ps.map f ∧ ∀ p ∈ ps, ∃ r, Q r p := by
 refine ⟨?_, fun p hp => ?_⟩
 ·apply List.ext_getElem?
  intro i
  rw [List.getElem?_map]
  by_cases hi : i < rs.length
  ·have e1 := List.getElem?_eq_getElem hi
   have e2 := List.getElem?_eq_getElem (show i < ps.length by omega)
   rw [e1, e2, Option.map_some, hQ _ _ (h i _ _ e1 e2)]
  ·rw [List.getElem?_eq_none (by omega), List.getElem?_eq_none (by omega)]; rfl
 ·obtain ⟨i, hi⟩ := List.getElem?_of_mem hp
  have hlt := (List.getElem?_eq_some_iff.1 hi).1
  exact ⟨_, h i _ _ (List.getElem?_eq_getElem (by omega)) hi⟩
theorem slots_cell {fuel : Nat} {cs : List Value} {x : DataW H × List MemPlace} (h : DataW.trod enc Tryd.prog w 0 (fun _ => true) true fuel 66 cs = some x) :
  ∃ a c ss, cs = [.slice a (List.length ss) c] ∧ ss.length ≤ c ∧ adr a ss.length c ∧ LiesH (H0 w) a (cc (.rows 8 (ss.map slR))) ∧ ∀ y ∈ ss, y.1 < W ∧ y.2 < W := by
 obtain ⟨a, n, c, rs, ps, h1, h2, h3, h4, h5, h6, h7, h8, h9⟩ := sl_rows (α := Nat × Nat) (Q := SlQ) (sz := 8) Tryd.underlying66 cellsSlot (by omega) h (fun k cs' y hk => slot_cells hk)
 obtain ⟨e1, e2⟩ := rows_of (f := slR) (fun r p h => h.1) (by omega) h9
 refine ⟨a, c, ps, by rw [h3]; exact h1, by omega, by rw [h3]; exact h5, by rw [← e1]; exact h8, fun y hy => ?_⟩
 obtain ⟨r, hr⟩ := e2 y hy
 exact hr.2
def EntO (z : EntV) : Prop := okA z.a ∧ okAcc ⟨z.n, z.b, z.c⟩ ∧ z.c.length ≤ z.cp ∧ adr z.ca z.c.length z.cp ∧ z.s.length ≤ z.sp ∧ adr z.sa z.s.length z.sp ∧ (∀ y ∈ z.s, y.1 < W ∧ y.2 < W) ∧ z.s.length ≤ 140737488355328
def EntQ (w : World) (l : List SV) (z : EntV) : Prop := l = entL z ∧ EntO z ∧ EntLies (H0 w) z
theorem acct_cells {fuel : Nat} {cs : List Value} {x : DataW H × List MemPlace} (h : DataW.trod enc Tryd.prog w 0 (fun _ => true) true fuel 68 cs = some x) (hw : ∀ n ∈ x.1.weights Tryd.prog 68, n ≤ reachBytes) (a0 : List Int) (ha : okA a0) : ∃ z, cs = cvs ((entL z).drop 20) ∧ z.a = a0 ∧ EntO z ∧ EntLies (H0 w) z := by
 obtain ⟨xs, n, rfl, hx, hl, hxl, hf⟩ := DataW.trod_struct Tryd.underlying68 h
 rw [cellsAcct] at hl
 match xs, hxl with
 | [z0, z1, z2, z3], _ =>
  have ku : Tryd.prog.cellsOf 25 = 1 := by kernel_rfl
  have kw : Tryd.prog.cellsOf 27 = 4 := by kernel_rfl
  have kb : Tryd.prog.cellsOf 28 = 1 := by kernel_rfl
  have ks : Tryd.prog.cellsOf 66 = 1 := by kernel_rfl
  have h0 : DataW.trod enc Tryd.prog w 0 (fun _ => true) true n 25 (List.take (Tryd.prog.cellsOf 25) (List.drop 0 cs)) = some z0 := hf 0 _ rfl
  rw [ku] at h0
  have h1 : DataW.trod enc Tryd.prog w 0 (fun _ => true) true n 27 (List.take (Tryd.prog.cellsOf 27) (List.drop 1 cs)) = some z1 := hf 1 _ rfl
  rw [kw] at h1
  have h2 : DataW.trod enc Tryd.prog w 0 (fun _ => true) true n 28 (List.take (Tryd.prog.cellsOf 28) (List.drop 5 cs)) = some z2 := hf 2 _ rfl
  rw [kb] at h2
  have h3 : DataW.trod enc Tryd.prog w 0 (fun _ => true) true n 66 (List.take (Tryd.prog.cellsOf 66) (List.drop 6 cs)) = some z3 := hf 3 _ rfl
  rw [ks] at h3
  have hs : cs = List.take 1 (List.drop 0 cs) ++ (List.take 4 (List.drop 1 cs) ++ (List.take 1 (List.drop 5 cs) ++ List.take 1 (List.drop 6 cs))) := by
   rw [show List.take 1 (List.drop 6 cs) = List.drop 6 cs from List.take_of_length_le (by rw [List.length_drop]; omega)]
   have st : ∀ (i j : Nat) (l : List Value), List.drop i l = List.take j (List.drop i l) ++ List.drop (i + j) l := fun i j l => by rw [← List.drop_drop, List.take_append_drop]
   conv => lhs; rw [← List.drop_zero (l := cs), st 0 1 cs, st (0 + 1) 4 cs, st (0 + 1 + 4) 1 cs]
  have l1 : (List.take 4 (List.drop 1 cs)).length = 4 := by rw [List.length_take, List.length_drop]; omega
  obtain ⟨nn, e0, _, wn⟩ := DataW.trod_int Tryd.underlying25 h0
  obtain ⟨b, e1, _, wb⟩ := word_cells h1 l1
  obtain ⟨ca, cn, cp, c, e2, g1, g2, g3, g4, g5, g6⟩ := bytes_cell h2
  obtain ⟨sa, sp, ss, e3, g7, g8, g9, g10⟩ := slots_cell h3
  have g11 : ss.length ≤ 140737488355328 := by
   rw [e3] at h3
   have := sl_bound Tryd.underlying66 h3 (fun n hn => hw n (by rw [hx]; simp only [DataW.weights, Tryd.underlying68, DataW.weightsEach, List.map, List.mem_append]; exact .inr (.inr (.inr (.inl hn)))))
   rw [bytesSlot] at this
   unfold reachBytes at this; omega
  have un := wf_u64 _ wn
  refine ⟨⟨a0, nn, b, ca, cp, c, sa, sp, ss⟩, ?_, rfl, ⟨ha, ⟨⟨un.1, by show nn ≤ 18446744073709551615; omega⟩, wb, g5, by unfold maxLen at g6; show c.length ≤ _; omega⟩, by show c.length ≤ cp; omega, by show adr ca c.length cp; rw [g1]; exact g3, g7, g8, g10, g11⟩, g4, g9⟩
  rw [hs, e0, e1, e2, e3, ← g1]
  have hd : (entL ⟨a0, nn, b, ca, cp, c, sa, sp, ss⟩).drop 20 = [.int .u64 nn, .int .u64 (lm b 0 : Nat), .int .u64 (lm b 1 : Nat), .int .u64 (lm b 2 : Nat), .int .u64 (lm b 3 : Nat), .gh ca c.length cp (.ints .u8 c), .gh sa ss.length sp (.rows 8 (ss.map slR))] := by
   unfold entL
   rw [List.drop_append_of_le_length (by simp [ha.1]), List.drop_of_length_le (by simp [ha.1])]; rfl
  rw [hd]; rfl
theorem entry_cells {fuel : Nat} {cs : List Value} {x : DataW H × List MemPlace} (h : DataW.trod enc Tryd.prog w 0 (fun _ => true) true fuel 70 cs = some x) (hw : ∀ n ∈ x.1.weights Tryd.prog 70, n ≤ reachBytes) : ∃ l z, cs = cvs l ∧ EntQ w l z := by
 obtain ⟨xs, n, rfl, hx, hl, hxl, hf⟩ := DataW.trod_struct Tryd.underlying70 h
 rw [cellsEntry] at hl
 match xs, hxl with
 | [z0, z1], _ =>
  have ka : Tryd.prog.cellsOf 24 = 20 := by kernel_rfl
  have h0 : DataW.trod enc Tryd.prog w 0 (fun _ => true) true n 24 (List.take (Tryd.prog.cellsOf 24) (List.drop 0 cs)) = some z0 := hf 0 _ rfl
  rw [ka] at h0
  have h1 : DataW.trod enc Tryd.prog w 0 (fun _ => true) true n 68 (List.take (Tryd.prog.cellsOf 68) (List.drop 20 cs)) = some z1 := hf 1 _ rfl
  rw [cellsAcct] at h1
  have hs : cs = List.take 20 (List.drop 0 cs) ++ List.take 7 (List.drop 20 cs) := by
   rw [show List.take 7 (List.drop 20 cs) = List.drop 20 cs from List.take_of_length_le (by rw [List.length_drop]; omega), List.drop_zero, List.take_append_drop]
  obtain ⟨a0, la, e0, _, wa⟩ := arr_open Tryd.underlying24 Tryd.underlying5 byte_cells addr_cells h0
  obtain ⟨z, e1, hz, hO, hL⟩ := acct_cells h1 (fun n hn => hw n (by rw [hx]; simp only [DataW.weights, Tryd.underlying70, DataW.weightsEach, List.map, List.mem_append]; exact .inr (.inl hn))) a0 ⟨la, allB_wf wa⟩
  refine ⟨entL z, z, ?_, rfl, hO, hL⟩
  rw [hs, e0, e1]
  have h2 : entL z = z.a.map (.int .u8 ·) ++ (entL z).drop 20 := by
   unfold entL
   rw [List.drop_append_of_le_length (by simp [hz, la]), List.drop_of_length_le (by simp [hz, la])]; rfl
  conv => rhs; rw [h2]
  rw [cvs_eq, cvs_eq, List.map_append, List.map_map, hz]; rfl
theorem entries_open {r : Reach} {b0 : Nat} {v : Value} {d : DataW H} {p : List MemPlace} (hval : Value.okWide Tryd.prog w r b0 22 v) (h : DataW.Trod enc Tryd.prog w 0 (fun _ => true) true 22 v d p) (hw : ∀ n ∈ d.weights Tryd.prog 22, n ≤ reachBytes) :
  ∃ (a : Option Addr) (c : Nat) (es : List EntV), v = .slice a (List.length es) c ∧ es.length ≤ c ∧ c ≤ maxLen ∧ adr a es.length c ∧ (∀ z ∈ es, EntO z ∧ EntLies (H0 w) z) ∧ LiesH (H0 w) a (cc (.rows 27 (es.map entL))) := by
 obtain ⟨a0, n0, c0, rfl⟩ := sl_form Tryd.underlying22 hval
 obtain ⟨fuel, hf⟩ := h
 obtain ⟨a, n, c, rs, ps, h1, h2, h3, h4, h5, h6, h7, h8, h9⟩ := sl_rowsW (α := EntV) (Q := EntQ w) (sz := 27) Tryd.underlying22 cellsEntry (by omega) hf hw (fun k cs' y hk hy => entry_cells hk hy)
 cases h1
 obtain ⟨e1, e2⟩ := rows_of (f := entL) (fun r p h => h.1) (by omega) h9
 refine ⟨a0, c0, ps, by rw [h3], by omega, h6, by rw [h3]; exact h5, fun z hz => ?_, by rw [← e1]; exact h8⟩
 obtain ⟨r, hr⟩ := e2 z hz
 exact hr.2
theorem b4_open {r : Reach} {b0 : Nat} {v : Value} {d : DataW H} {p : List MemPlace} (hval : Value.okWide Tryd.prog w r b0 32 v) (h : DataW.Trod enc Tryd.prog w 0 (fun _ => true) true 32 v d p) :
  ∃ s0 s1 s2 s3 : Bool, v = .agg #[.bool s0, .bool s1, .bool s2, .bool s3] := by
 obtain ⟨cs, rfl, hsz, _⟩ : ∃ cs, v = .agg cs ∧ cs.size = Tryd.prog.cellsOf 32 ∧ Row.okWide Tryd.prog w r b0 32 cs := by
  simpa [Value.okWide, Tryd.underlying32] using hval
 rw [show Tryd.prog.cellsOf 32 = 4 by kernel_rfl] at hsz
 obtain ⟨l⟩ := cs
 obtain ⟨c0, c1, c2, c3, rfl⟩ := list4 l hsz
 obtain ⟨fuel, hf⟩ := h
 obtain ⟨y0, y1, y2, y3, m, hx, hy0, hy1, hy2, hy3⟩ := trod_array4 Tryd.underlying32 (by kernel_rfl) hf
 obtain ⟨s0, e0, _⟩ := DataW.trod_bool Tryd.underlying4 hy0
 obtain ⟨s1, e1, _⟩ := DataW.trod_bool Tryd.underlying4 hy1
 obtain ⟨s2, e2, _⟩ := DataW.trod_bool Tryd.underlying4 hy2
 obtain ⟨s3, e3, _⟩ := DataW.trod_bool Tryd.underlying4 hy3
 cases e0; cases e1; cases e2; cases e3
 exact ⟨s0, s1, s2, s3, rfl⟩
end
end Go.Proofs.YtoadeekdgikghaaDoor
