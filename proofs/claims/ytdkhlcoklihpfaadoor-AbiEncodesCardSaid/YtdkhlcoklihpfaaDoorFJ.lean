/-
  What a law is handed, whatever its types: read again behind the call; truth values and parts opened. No condition.
-/
import Derived.Test.YtdkhlcoklihpfaaDoorFB
import Derived.Test.YtdkhlcoklihpfaaDoorD2
import Derived.Test.YtdkhlcoklihpfaaDoorFV
import Derived.ReadAgain
import Derived.ChangeReads
import Derived.ChangeBears
import Derived.Deep.Slices
import Derived.Deep.Strs
namespace Go.Proofs.YtdkhlcoklihpfaaDoor
set_option linter.unusedSimpArgs false
set_option linter.unusedVariables false
set_option maxHeartbeats 4000000
set_option maxRecDepth 10000
open Go.RowKit Go.ChangeShapes Go.WideShapes Go.ChangeAt
theorem Tryd.laidOut : laidOutB Tryd.prog = true := by kernel_rfl
theorem Tryd.mapsRow : mapsRowed Tryd.prog = true := by kernel_rfl
theorem Tryd.slicesFull : ((List.range Tryd.prog.types.size).all fun t => match Tryd.prog.underlying t with | some (.slice e) => decide (0 < Tryd.prog.cellsOf e) | _ => true) = true := by kernel_rfl
section
variable {H : Type} {enc : TypeId × Value → H} {P : Program} {w w' : World} {base : Nat} {spare : Nat → Bool} {held : Bool}
theorem Trod.carry {t : TypeId} {v : Value} {d : DataW H} {ps : List MemPlace} (h : DataW.Trod enc P w base spare held t v d ps) (hs : ∀ p ∈ ps, w.sameAt w' p) : DataW.Trod enc P w' base spare held t v d ps := by
  obtain ⟨n, hn⟩ := h
  exact ⟨n, DataW.trod_carry n _ _ _ hn hs⟩
theorem TrodAll.carry : ∀ {ts : List TypeId} {vs : List Value} {ds : List (DataW H)} {ps : List MemPlace}, DataW.TrodAll enc P w base spare held ts vs ds ps → (∀ p ∈ ps, w.sameAt w' p) → DataW.TrodAll enc P w' base spare held ts vs ds ps
  | [], [], [], _, h, _ => h
  | _ :: _, _ :: _, _ :: _, _, ⟨p, q, h1, h2, e⟩, hs => ⟨p, q, Trod.carry h1 (fun x hx => hs x (by rw [e]; exact List.mem_append_left _ hx)), TrodAll.carry h2 (fun x hx => hs x (by rw [e]; exact List.mem_append_right _ hx)), e⟩
end
/-- Behind a call that made memory alone, whatever came in. -/
theorem post_any {H : Type} {enc : TypeId × Value → H} {f : Func} {s : ChangeSpec} {apart fresh handsOn again : Bool} {W W' : World} {args : Array Value} {v : Value} {ds gs : List (DataW H)} {before : List MemPlace}
    (hW : DataW.Whole enc Tryd.prog f.params.toList s.vars apart W args.toList ds gs before) (hvn : s.vars = []) (hp : ∃ p, W' = gw W p)
    (hT : (f.params.toList.all fun t => decide (t < Tryd.prog.types.size)) = true) (hfa : (s.fn H (ds ++ gs)).args = ds)
    (hres : ∀ (b : Nat) (sp : Nat → Bool) (hd : Bool), DataW.TrodAll enc Tryd.prog W' b sp hd f.resultTypes.toList (v.resultList f.resultTypes.size) (s.fn H (ds ++ gs)).results [])
    (hvars : ∀ sp : Nat → Bool, DataW.TrodVars enc Tryd.prog W' sp s.vars (s.fn H (ds ++ gs)).vars [])
    (hok : ∀ (j : Nat) (t : TypeId) (r : Value), f.resultTypes[j]? = some t → (v.resultList f.resultTypes.size)[j]? = some r → Value.okWide Tryd.prog W' .any 0 t r) :
    s.post enc Tryd.prog f apart fresh handsOn again W args v W' := by
  refine post_gr hW hp hres (fun q sp hsp => ?_) hvars hok
  have hlt := hW.lt
  rw [hfa]
  obtain ⟨p, q', hA, hV, rfl, _, _⟩ := hW
  rw [hvn] at hV
  have hq : q' = [] := by
    cases gs with
    | nil => exact hV
    | cons g gs => exact hV.elim
  subst hq
  rw [List.append_nil] at hsp hlt ⊢
  refine TrodAll.carry (DataW.TrodAll.respare (kids_rows Tryd.laidOut Tryd.mapsRow) (slices_full_of Tryd.prog Tryd.slicesFull) (fun t ht => of_decide_eq_true (List.all_eq_true.1 hT t ht)) hA hsp) (fun x hx => ?_)
  have hb := hlt x hx
  cases x with
  | cell b off => exact gw_cell W q b _ hb
  | map b => show (gw W q).heap[b]? = W.heap[b]?; unfold gw; exact Array.getElem?_append_left hb
theorem cells8 : Tryd.prog.cellsOf 5 = 1 := by kernel_rfl
theorem adr_spot {a : Addr} {len cap : Nat} (h1 : len ≤ cap) (h : 0 < cap → a.spot = none) : adr (some a) len cap := by
  by_cases hc : 0 < cap
  · obtain ⟨b, o, sp⟩ := a
    have := h hc
    simp only at this
    subst this
    exact .inl rfl
  · exact .inr ⟨rfl, by omega, by omega⟩
theorem lies_cells {w : World} {b off : Nat} {cs : List Value} (hc : ∀ j u, cs[j]? = some u → w.cell? ⟨b, off + j, none⟩ = some u) : LiesH (H0 w) (some ⟨b, off, none⟩) cs := by
  cases cs with
  | nil => exact .inl rfl
  | cons u0 l =>
    have h4 := hc 0 u0 rfl
    have hcell : ∃ arr t fr, w.heap[b]? = some (.cells arr t fr) := by
      cases ho : w.heap[b]? with
      | none => simp [World.cell?, ho] at h4
      | some o =>
        cases o with
        | cells arr t fr => exact ⟨arr, t, fr, rfl⟩
        | _ => simp [World.cell?, ho] at h4
    obtain ⟨arr, t, fr, ho⟩ := hcell
    refine .inr ⟨b, off, arr, t, fr, rfl, ho, fun j u hj => ?_⟩
    have h5 := hc j u hj
    simpa [World.cell?, ho] using h5
section
variable {H : Type} {enc : TypeId × Value → H} {w : World}
theorem bytes_cell {fuel : Nat} {cs : List Value} {x : DataW H × List MemPlace} (h : DataW.trod enc Tryd.prog w 0 (fun _ => true) true fuel 26 cs = some x) :
    ∃ a n c bs, cs = [.slice a n c] ∧ bs.length = n ∧ n ≤ c ∧ adr a n c ∧ LiesH (H0 w) a (cc (.ints .u8 bs)) ∧ allB bs ∧ n ≤ maxLen := by
  rcases open_ints Tryd.underlying26 Tryd.underlying5 cells8 h with ⟨rfl, _⟩ | ⟨a, len, cap, zs, rfl, _, h3, h4, h5, _, h7, h8⟩
  · exact ⟨none, 0, 0, [], rfl, rfl, Nat.le_refl _, .inr ⟨rfl, rfl, rfl⟩, .inl rfl, fun _ h => absurd h List.not_mem_nil, Nat.zero_le _⟩
  · rw [if_pos rfl] at h5
    have hsp : 0 < cap → a.spot = none := fun hc => by
      have := World.cell?_spot (h7 0 (by omega))
      simpa [Addr.add] using this
    refine ⟨some a, len, cap, zs.take len, rfl, by rw [List.length_take]; omega, h3, adr_spot h3 hsp, ?_, allB_wf (fun x hx => h8 x (List.mem_of_mem_take hx)), Nat.le_trans h3 h4⟩
    by_cases hc : 0 < cap
    · obtain ⟨b, o, sp⟩ := a
      have := hsp hc
      simp only at this
      subst this
      refine lies_cells fun j u hj => ?_
      simp only [cc, List.getElem?_map, Option.map_eq_some_iff, List.getElem?_take] at hj
      obtain ⟨x, hx, rfl⟩ := hj
      split at hx
      · have hjl := (List.getElem?_eq_some_iff.1 hx).1
        have := h7 j hjl
        rw [addr_add, List.getD_eq_getElem?_getD, hx] at this
        exact this
      · cases hx
    · have : len = 0 := by omega
      subst this
      exact .inl rfl

/-- A slice whose elements can be told. -/
theorem sl_rows {t e : TypeId} {sz : Nat} (ht : Tryd.prog.underlying t = some (.slice e)) (hsz : Tryd.prog.cellsOf e = sz) (h0 : 0 < sz) {α : Type} [Inhabited α] {Q : List SV → α → Prop} {fuel : Nat} {cs : List Value} {x : DataW H × List MemPlace} (h : DataW.trod enc Tryd.prog w 0 (fun _ => true) true fuel t cs = some x)
    (hQ : ∀ (k : Nat) (cs' : List Value) (y : DataW H × List MemPlace), DataW.trod enc Tryd.prog w 0 (fun _ => true) true k e cs' = some y → ∃ l p, cs' = cvs l ∧ Q l p) :
    ∃ (a : Option Addr) (n c : Nat) (rs : List (List SV)) (ps : List α), cs = [.slice a n c] ∧ rs.length = n ∧ ps.length = n ∧ n ≤ c ∧ adr a n c ∧ c ≤ maxLen ∧ (∀ r ∈ rs, r.length = sz) ∧ LiesH (H0 w) a (rs.flatMap cvs) ∧ ∀ (i : Nat) (r : List SV) (p : α), rs[i]? = some r → ps[i]? = some p → Q r p := by
  rcases DataW.trod_slice ht h with ⟨hk, _⟩ | ⟨a', len, cap, elems, rest, k, rfl, hk, _, _, hlc, hcm, hel, hels, hsp, _⟩
  · exact ⟨none, 0, 0, [], [], hk, rfl, rfl, Nat.le_refl _, .inr ⟨rfl, rfl, rfl⟩, Nat.zero_le _, (fun r h => absurd h List.not_mem_nil), .inl rfl, fun i r p h _ => by simp at h⟩
  · rw [hsz] at hels hsp
    have each : ∀ i, i < len → ∃ p : List SV × α, p.1.length = sz ∧ Q p.1 p.2 ∧ w.cells? 0 (a'.add (i * sz)) sz = some (cvs p.1) := fun i hi => by
      have he := hels i hi
      rw [List.getElem?_eq_getElem (by omega)] at he
      obtain ⟨cs', q1, q2⟩ := Option.bind_eq_some_iff.1 he
      obtain ⟨l, t, rfl, q3⟩ := hQ k cs' _ q2
      obtain ⟨_, q4, _⟩ := World.cells?_some q1
      exact ⟨(l, t), by rw [cvs_eq, List.length_map] at q4; exact q4, q3, q1⟩
    have hsn : 0 < cap → a'.spot = none := fun hc => by
      have key : ∃ cs', w.cells? 0 (a'.add (0 * sz)) sz = some cs' := by
        by_cases hl0 : 0 < len
        · obtain ⟨p, _, _, q⟩ := each 0 hl0
          exact ⟨_, q⟩
        · obtain ⟨r1, r2⟩ := hsp rfl
          have := r2 0 (by omega)
          rw [List.getElem?_eq_getElem (by omega), show len + 0 = 0 by omega] at this
          obtain ⟨cs', q1, _⟩ := Option.bind_eq_some_iff.1 this
          exact ⟨cs', q1⟩
      obtain ⟨cs', q⟩ := key
      obtain ⟨_, q1, q2⟩ := World.cells?_some q
      have q3 := q2 0 (by omega)
      rw [List.getElem?_eq_getElem (by omega)] at q3
      have := World.cell?_spot q3
      simpa [Addr.add] using this
    obtain ⟨F, hF⟩ := Go.Deep.choose_lt (α := List SV × α) each
    obtain ⟨rs, hrs⟩ : ∃ rs : List (List SV), rs = (List.range len).map fun i => (F i).1 := ⟨_, rfl⟩
    obtain ⟨ks, hks⟩ : ∃ ks : List α, ks = (List.range len).map fun i => (F i).2 := ⟨_, rfl⟩
    have hrl : rs.length = len := by rw [hrs, List.length_map, List.length_range]
    have hkl : ks.length = len := by rw [hks, List.length_map, List.length_range]
    have hrg : ∀ i, i < len → rs[i]? = some (F i).1 := fun i hi => by rw [hrs, List.getElem?_map, List.getElem?_range hi]; rfl
    have hkg : ∀ i, i < len → ks[i]? = some (F i).2 := fun i hi => by rw [hks, List.getElem?_map, List.getElem?_range hi]; rfl
    have h3 : ∀ r ∈ rs, r.length = sz := fun r hr => by
      rw [hrs] at hr
      obtain ⟨i, hi, rfl⟩ := List.mem_map.1 hr
      exact (hF i (List.mem_range.1 hi)).1
    refine ⟨some a', len, cap, rs, ks, hk, hrl, hkl, hlc, adr_spot hlc hsn, hcm, h3, ?_, fun i r k hr hk => ?_⟩
    · by_cases hc : 0 < cap
      · obtain ⟨b, o, sp⟩ := a'
        have := hsn hc
        simp only at this
        subst this
        refine lies_cells fun j u hj => ?_
        have hfl : ∀ (L : List (List SV)), (∀ r ∈ L, r.length = sz) → (L.flatMap cvs).length = L.length * sz := by
          intro L
          induction L with
          | nil => intro _; simp
          | cons r L ihL =>
            intro hL
            rw [List.flatMap_cons, List.length_append, ihL (fun r hr => hL r (List.mem_cons_of_mem _ hr)), cvs_eq, List.length_map, hL r List.mem_cons_self, List.length_cons, Nat.add_mul]; omega
        have hjl := (List.getElem?_eq_some_iff.1 hj).1
        rw [hfl rs h3, hrl] at hjl
        have hj3 : j / sz < len := (Nat.div_lt_iff_lt_mul h0).2 hjl
        have hjm : j % sz < sz := Nat.mod_lt _ h0
        have e1 := flat_get cvs sz rs (j / sz) (j % sz) (F (j / sz)).1 (fun r hr => by rw [cvs_eq, List.length_map, h3 r hr]) (hrg _ hj3) hjm
        rw [Nat.div_add_mod' j sz, hj] at e1
        obtain ⟨_, _, q2⟩ := World.cells?_some (hF (j / sz) hj3).2.2
        have q3 := q2 (j % sz) hjm
        rw [← e1, addr_add, addr_add] at q3
        rw [← q3]; congr 2
        rw [Nat.add_assoc, Nat.div_add_mod' j sz]
      · have : len = 0 := by omega
        have hr0 : rs = [] := List.length_eq_zero_iff.1 (by omega)
        rw [hr0]; exact .inl rfl
    · have hi : i < len := by rw [← hrl]; exact (List.getElem?_eq_some_iff.1 hr).1
      rw [hrg i hi] at hr
      rw [hkg i hi] at hk
      cases hr; cases hk
      exact (hF i hi).2.1
/-- Truth values, wherever they lie. -/
theorem bools_open {r : Reach} {b0 : Nat} {v : Value} {d : DataW H} {p : List MemPlace} (hval : Value.okWide Tryd.prog w r b0 30 v) (h : DataW.Trod enc Tryd.prog w 0 (fun _ => true) true 30 v d p) :
    ∃ (a : Option Addr) (n c : Nat) (ds : List Bool), v = .slice a n c ∧ ds.length = n ∧ n ≤ c ∧ adr a n c ∧ n ≤ maxLen ∧ LiesH (H0 w) a (cc (.cells (ds.map SV.bool))) := by
  obtain ⟨a0, n0, c0, rfl⟩ := sl_form Tryd.underlying30 hval
  obtain ⟨fuel, hf⟩ := h
  obtain ⟨a, n, c, rs, ds, h1, h2, h3, h4, h5, h6, h7, h8, h9⟩ := sl_rows (α := Bool) (Q := fun l d => l = [.bool d]) (sz := 1) Tryd.underlying30 (by kernel_rfl) (by omega) hf (fun k cs' y hk => by
    obtain ⟨lb, rfl, _⟩ := DataW.trod_bool Tryd.underlying4 hk
    exact ⟨[.bool lb], lb, rfl, rfl⟩)
  cases h1
  refine ⟨a0, n0, c0, ds, rfl, h3, h4, h5, Nat.le_trans h4 h6, ?_⟩
  have e : rs = ds.map fun d => [SV.bool d] := by
    apply List.ext_getElem?
    intro i
    by_cases hi : i < n0
    · have e1 := List.getElem?_eq_getElem (show i < rs.length by omega)
      have e2 := List.getElem?_eq_getElem (show i < ds.length by omega)
      rw [List.getElem?_map, e1, e2, h9 i _ _ e1 e2]; rfl
    · rw [List.getElem?_eq_none (by omega), List.getElem?_eq_none (by rw [List.length_map]; omega)]
  have e2 : rs.flatMap cvs = cc (.cells (ds.map SV.bool)) := by
    rw [e]
    show _ = cvs (ds.map SV.bool)
    clear e h9 h8 h7 h3
    induction ds with
    | nil => rfl
    | cons d ds ih => rw [List.map_cons, List.flatMap_cons, ih]; rfl
  rw [← e2]; exact h8
/-- Bytes, wherever they lie. -/
theorem byt_open {r : Reach} {b0 : Nat} {v : Value} {d : DataW H} {p : List MemPlace} (hval : Value.okWide Tryd.prog w r b0 26 v) (h : DataW.Trod enc Tryd.prog w 0 (fun _ => true) true 26 v d p) :
    ∃ (a : Option Addr) (n c : Nat) (xs : List Int), v = .slice a n c ∧ xs.length = n ∧ n ≤ c ∧ adr a n c ∧ LiesH (H0 w) a (cc (.ints .u8 xs)) ∧ allB xs ∧ n ≤ maxLen := by
  obtain ⟨a0, n0, c0, rfl⟩ := sl_form Tryd.underlying26 hval
  obtain ⟨fuel, hf⟩ := h
  obtain ⟨a, n, c, bs, h1, h2⟩ := bytes_cell hf
  cases h1
  exact ⟨a0, n0, c0, bs, rfl, h2⟩
end
/-! ### Parts -/
/-- How much parts are, as far as it is looked at. -/
def muG : List Prt → Int → Int
  | [], n => n
  | p :: l, n => if n ≤ 2000 then muG l (n + (min (p.bs.length : Int) 2000 + 1)) else n
def muA (l : List Prt) : Bool := decide (2000 < muG l l.length)
theorem muG_big : ∀ (l : List Prt) (n : Int), 2000 < n → muG l n = n
  | [], _, _ => rfl
  | p :: l, n, h => if_neg (by omega)
theorem muG_psz : ∀ (l : List Prt) (n : Int), 0 ≤ n → muG l n ≤ 2000 → n + psz l ≤ 2000
  | [], n, _, h => by simp only [muG] at h; simp only [psz]; omega
  | p :: l, n, h0, h => by
    by_cases hn : n ≤ 2000
    · simp only [muG, if_pos hn] at h
      have := muG_psz l _ (by omega) h
      simp only [psz]; omega
    · rw [muG_big _ _ (by omega)] at h; omega
theorem muA_no {l : List Prt} (h : muA l = false) : psz l ≤ 2000 ∧ l.length ≤ 2000 := by
  unfold muA at h
  have := muG_psz l _ (by omega) (Int.not_lt.1 (of_decide_eq_false h))
  have h2 := psz_len l
  constructor <;> omega
set_option maxRecDepth 20000 in
theorem much_vc (a : Option Addr) (n c : Nat) (rs : List (List SV)) (l : List Prt) (hl : l.length = n) (hn : n ≤ c) (ha : adr a n c) (hm : n ≤ maxLen) (w : World) (hL : LiesH (H0 w) a (cc (.rows 6 rs))) (hR : PsR (H0 w) rs l) :
    Calls Tryd.prog 9 (cvs [.gh a n c (.rows 6 rs)]).toArray w (fun en w' => ∃ u, en = .returned u ∧ ∃ v' m', u = cv v' ∧ MemOk w [] m' w' ∧ v' = .bool (muA l)) := by
  obtain ⟨r1, r2, r3⟩ := hR
  unfold maxLen at hm
  have hLx : ∀ m, allOld w ∈ m → LiesH (HM m) a (cc (.rows 6 rs)) := fun m hin => hL.mono (H0.hm hin)
  refine Vc.calls T0_ok Tryd.func9 rfl rfl (args := [.gh a n c (.rows 6 rs)]) (k := 28) rfl (old_start w) ?_; change Vc _ _ (c8 (.gh a n c (.rows 6 rs)) .undef .undef .undef .undef .undef .undef .undef (c8 .undef .undef .undef .undef .undef .undef .undef .undef (c8 .undef .undef .undef .undef .undef .undef .undef .undef ([.undef, .undef, .undef, .undef, .undef])))) _ _
  ((repeat (first | (with_reducible refine Vc.seq fun N hN => ?_) | (with_reducible refine Vc.block ?_) | ((first | with_reducible refine Vc.skip ?_ | with_reducible refine Vc.exit ?_); dsimp only [thenK, blockK, Nat.beq]; (first | (refine hN _ _ ?_; clear hN N) | skip)) | (with_reducible intro _) | ((with_reducible refine And.intro ?_ ?_); (focus (first | exact sideQ | exact sd0))) | ((first | ((with_reducible refine askT_of ?_ (fun hb => ?_)); (focus (first | exact sideQ | exact sd0)); (try simp only [hb])) | ((with_reducible refine Vc.fin ?_); dsimp only [thenK, blockK, retK, resS, resOne, resAll]) | ((with_reducible refine Vc.hold ?_); first | refine Vc.regiont T0_ok GD2_ok ?_)); (try simp only [v8X, v8A, v8B, v8C, Nat.beq, Nat.ble, Int.reduceToNat, Int.reduceLE, Int.reduceLT, Nat.reduceLT, Nat.reduceLeDiff, Nat.reduceAdd, Nat.reduceMul, Nat.reduceSub, Int.reduceAdd, Int.reduceSub, Int.reduceMul, eq_self, decide_true, beq_self_eq_true, List.length_cons, List.length_nil, Nat.min_eq_left, IntKind.bits, tabs, GD2_set]); (try simp (disch := omega) only [v8W])) | ((with_reducible refine hN _ _ ?_); clear hN N; (try simp (disch := omega) only [v8W])))); (try ((with_reducible refine Fin.of ?_); (try with_reducible exact True.intro))))
  (revert N; intro N1 hN1)
  refine Vc.loop 3 29 (fun (x : Nat × Int) => [(3, .int .i64 x.2), (4, .int .i64 (x.1 : Nat))]) (fun x => [allOld w]) (fun x => x.1 ≤ n ∧ 0 ≤ x.2 ∧ (x.2 ≤ n ∨ x.2 ≤ 5000) ∧ muG (l.drop x.1) x.2 = muG l n) (fun x => n - x.1) (0, (n : Int)) ⟨⟨Nat.zero_le _, by simp only; omega, .inl (Int.le_refl _), by simp⟩, ?_, ?_⟩ (fun x junk hx2 => ?_)
  · ((try simp only [v8X, v8A, v8B, v8C, Nat.beq, Nat.ble, Int.reduceToNat, Int.reduceLE, Int.reduceLT, Nat.reduceLT, Nat.reduceLeDiff, Nat.reduceAdd, Nat.reduceMul, Nat.reduceSub, Int.reduceAdd, Int.reduceSub, Int.reduceMul, eq_self, decide_true, beq_self_eq_true, List.length_cons, List.length_nil, Nat.min_eq_left, IntKind.bits, tabs]); (repeat' with_reducible apply And.intro) <;> first | with_reducible exact True.intro | rfl | with_reducible rfl | (congr 1 <;> omega) | trivial)
  · ((try simp only [v8X, v8A, v8B, v8C, Nat.beq, Nat.ble, Int.reduceToNat, Int.reduceLE, Int.reduceLT, Nat.reduceLT, Nat.reduceLeDiff, Nat.reduceAdd, Nat.reduceMul, Nat.reduceSub, Int.reduceAdd, Int.reduceSub, Int.reduceMul, eq_self, decide_true, beq_self_eq_true, List.length_cons, List.length_nil, Nat.min_eq_left, IntKind.bits, tabs]); (repeat' with_reducible apply And.intro) <;> first | with_reducible exact True.intro | rfl | with_reducible rfl | (congr 1 <;> omega) | trivial)
  · obtain ⟨k, s⟩ := x
    simp only at hx2 ⊢
    obtain ⟨k1, k2, k3, k4⟩ := hx2
    (simp only [v8X, v8A, v8B, v8C, Nat.beq, Nat.ble, Int.reduceToNat, Int.reduceLE, Int.reduceLT, Nat.reduceLT, Nat.reduceLeDiff, Nat.reduceAdd, Nat.reduceMul, Nat.reduceSub, Int.reduceAdd, Int.reduceSub, Int.reduceMul, eq_self, decide_true, beq_self_eq_true, List.length_cons, List.length_nil, Nat.min_eq_left, IntKind.bits, tabs])
    by_cases hc1 : k < n
    · have d1 : decide ((k : Int) < (n : Int)) = true := decide_eq_true (by omega)
      have e1 := List.getElem?_eq_getElem (show k < rs.length by omega)
      have e2 := List.getElem?_eq_getElem (show k < l.length by omega)
      have hp := r3 k _ _ e1 e2
      have hgd := getD_of e1
      have hdk : l.drop k = l[k] :: l.drop (k + 1) := List.drop_eq_getElem_cons (by omega)
      have tk : ((k : Nat) : Int).toNat = k := by omega
      generalize rs[k] = r at *
      generalize l[k] = p at *
      obtain ⟨x0, x1, x2, x3, pa, pn, pc, rfl, g1, g2, g3, g4, g5, g6, g7, g8⟩ := hp
      unfold maxLen at g8
      rw [hdk] at k4
      by_cases hs : s ≤ 2000
      · have d2 : decide (s ≤ 2000) = true := decide_eq_true hs
        simp only [muG, if_pos hs] at k4
        rw [g3] at k4
        ((repeat (first | (with_reducible refine Vc.seq fun N hN => ?_) | (with_reducible refine Vc.block ?_) | ((first | with_reducible refine Vc.skip ?_ | with_reducible refine Vc.exit ?_); dsimp only [thenK, blockK, Nat.beq]; (first | (refine hN _ _ ?_; clear hN N) | skip)) | (with_reducible intro _) | ((with_reducible refine And.intro ?_ ?_); (focus (first | exact sideQ | exact sd0))) | ((first | ((with_reducible refine askT_of ?_ (fun hb => ?_)); (focus (first | exact sideQ | exact sd0)); (try simp only [hb])) | ((with_reducible refine Vc.fin ?_); dsimp only [thenK, blockK, retK, resS, resOne, resAll]) | ((with_reducible refine Vc.hold ?_); first | refine Vc.regiont T0_ok GD2_ok ?_)); (try simp only [v8X, v8A, v8B, v8C, Nat.beq, Nat.ble, Int.reduceToNat, Int.reduceLE, Int.reduceLT, Nat.reduceLT, Nat.reduceLeDiff, Nat.reduceAdd, Nat.reduceMul, Nat.reduceSub, Int.reduceAdd, Int.reduceSub, Int.reduceMul, eq_self, decide_true, beq_self_eq_true, List.length_cons, List.length_nil, Nat.min_eq_left, IntKind.bits, tabs, GD2_set, d1, d2]); (try simp (disch := omega) only [v8W])) | ((with_reducible refine hN _ _ ?_); clear hN N; (try simp (disch := omega) only [v8W])))); (try ((with_reducible refine Fin.of ?_); (try with_reducible exact True.intro))))
        (refine Vc.cond T0_ok (t := true) (by rfl) (fun _ => ?_) (fun h => Bool.noConfusion h))
        ((repeat (first | (with_reducible refine Vc.seq fun N hN => ?_) | (with_reducible refine Vc.block ?_) | ((first | with_reducible refine Vc.skip ?_ | with_reducible refine Vc.exit ?_); dsimp only [thenK, blockK, Nat.beq]; (first | (refine hN _ _ ?_; clear hN N) | skip)) | (with_reducible intro _) | ((with_reducible refine And.intro ?_ ?_); (focus (first | ((repeat' with_reducible apply And.intro) <;> first | exact sideQ | (exact hLx _ (by simp))) | exact sd0))) | ((first | ((with_reducible refine askT_of ?_ (fun hb => ?_)); (focus (first | ((repeat' with_reducible apply And.intro) <;> first | exact sideQ | (exact hLx _ (by simp))) | exact sd0)); (try simp only [hb])) | ((with_reducible refine Vc.fin ?_); dsimp only [thenK, blockK, retK, resS, resOne, resAll]) | ((with_reducible refine Vc.hold ?_); first | refine Vc.regiont T0_ok GD2_ok ?_)); (try simp only [v8X, v8A, v8B, v8C, Nat.beq, Nat.ble, Int.reduceToNat, Int.reduceLE, Int.reduceLT, Nat.reduceLT, Nat.reduceLeDiff, Nat.reduceAdd, Nat.reduceMul, Nat.reduceSub, Int.reduceAdd, Int.reduceSub, Int.reduceMul, eq_self, decide_true, beq_self_eq_true, List.length_cons, List.length_nil, Nat.min_eq_left, IntKind.bits, tabs, GD2_set, d1, d2, tk, hgd]); (try simp (disch := omega) only [v8W])) | ((with_reducible refine hN _ _ ?_); clear hN N; (try simp (disch := omega) only [v8W])))); (try ((with_reducible refine Fin.of ?_); (try with_reducible exact True.intro))))
        have hmin : (if (2000 : Int) < (pn : Int) then (2000 : Int) else (pn : Int)) = min (pn : Int) 2000 := by split <;> omega
        rw [hmin]
        refine ⟨(k + 1, s + (min (pn : Int) 2000 + 1)), ⟨by simp only; omega, by simp only; omega, by simp only; omega, k4⟩, ?_, ?_, by simp only; omega⟩
        · ((try simp only [v8X, v8A, v8B, v8C, Nat.beq, Nat.ble, Int.reduceToNat, Int.reduceLE, Int.reduceLT, Nat.reduceLT, Nat.reduceLeDiff, Nat.reduceAdd, Nat.reduceMul, Nat.reduceSub, Int.reduceAdd, Int.reduceSub, Int.reduceMul, eq_self, decide_true, beq_self_eq_true, List.length_cons, List.length_nil, Nat.min_eq_left, IntKind.bits, tabs]); (repeat' with_reducible apply And.intro) <;> first | with_reducible exact True.intro | rfl | (congr 1 <;> omega))
        · ((try simp only [v8X, v8A, v8B, v8C, Nat.beq, Nat.ble, Int.reduceToNat, Int.reduceLE, Int.reduceLT, Nat.reduceLT, Nat.reduceLeDiff, Nat.reduceAdd, Nat.reduceMul, Nat.reduceSub, Int.reduceAdd, Int.reduceSub, Int.reduceMul, eq_self, decide_true, beq_self_eq_true, List.length_cons, List.length_nil, Nat.min_eq_left, IntKind.bits, tabs]); (repeat' with_reducible apply And.intro) <;> first | with_reducible exact True.intro | rfl | (congr 1 <;> omega))
      · have d2 : decide (s ≤ 2000) = false := decide_eq_false hs
        have hfin : muA l = true := decide_eq_true (by rw [hl, ← k4, muG_big _ _ (by omega)]; omega)
        have d3 : decide (2000 < s) = true := decide_eq_true (by omega)
        ((repeat (first | (with_reducible refine Vc.seq fun N hN => ?_) | (with_reducible refine Vc.block ?_) | ((first | with_reducible refine Vc.skip ?_ | with_reducible refine Vc.exit ?_); dsimp only [thenK, blockK, Nat.beq]; (first | (refine hN _ _ ?_; clear hN N) | skip)) | (with_reducible intro _) | ((with_reducible refine And.intro ?_ ?_); (focus (first | exact sideQ | exact sd0))) | ((first | ((with_reducible refine askT_of ?_ (fun hb => ?_)); (focus (first | exact sideQ | exact sd0)); (try simp only [hb])) | ((with_reducible refine Vc.fin ?_); dsimp only [thenK, blockK, retK, resS, resOne, resAll]) | ((with_reducible refine Vc.hold ?_); first | refine Vc.regiont T0_ok GD2_ok ?_)); (try simp only [v8X, v8A, v8B, v8C, Nat.beq, Nat.ble, Int.reduceToNat, Int.reduceLE, Int.reduceLT, Nat.reduceLT, Nat.reduceLeDiff, Nat.reduceAdd, Nat.reduceMul, Nat.reduceSub, Int.reduceAdd, Int.reduceSub, Int.reduceMul, eq_self, decide_true, beq_self_eq_true, List.length_cons, List.length_nil, Nat.min_eq_left, IntKind.bits, tabs, GD2_set, d1, d2]); (try simp (disch := omega) only [v8W])) | ((with_reducible refine hN _ _ ?_); clear hN N; (try simp (disch := omega) only [v8W])))); (try ((with_reducible refine Fin.of ?_); (try with_reducible exact True.intro))))
        (refine Vc.cond T0_ok (t := false) (by rfl) (fun h => Bool.noConfusion h) (fun _ => ?_))
        ((repeat (first | (with_reducible refine Vc.seq fun N hN => ?_) | (with_reducible refine Vc.block ?_) | ((first | with_reducible refine Vc.skip ?_ | with_reducible refine Vc.exit ?_); dsimp only [thenK, blockK, Nat.beq]; (first | (refine hN _ _ ?_; clear hN N) | skip)) | (with_reducible intro _) | ((with_reducible refine And.intro ?_ ?_); (focus (first | exact sideQ | exact sd0))) | ((first | ((with_reducible refine askT_of ?_ (fun hb => ?_)); (focus (first | exact sideQ | exact sd0)); (try simp only [hb])) | ((with_reducible refine Vc.fin ?_); dsimp only [thenK, blockK, retK, resS, resOne, resAll]) | ((with_reducible refine Vc.hold ?_); first | refine Vc.regiont T0_ok GD2_ok ?_)); (try simp only [v8X, v8A, v8B, v8C, Nat.beq, Nat.ble, Int.reduceToNat, Int.reduceLE, Int.reduceLT, Nat.reduceLT, Nat.reduceLeDiff, Nat.reduceAdd, Nat.reduceMul, Nat.reduceSub, Int.reduceAdd, Int.reduceSub, Int.reduceMul, eq_self, decide_true, beq_self_eq_true, List.length_cons, List.length_nil, Nat.min_eq_left, IntKind.bits, tabs, GD2_set]); (try simp (disch := omega) only [v8W])) | ((with_reducible refine hN _ _ ?_); clear hN N; (try simp (disch := omega) only [v8W])))); (try ((with_reducible refine Fin.of ?_); (try with_reducible exact True.intro))))
        (refine hN1 _ _ ?_; (try clear hN N); clear hN1 N1)
        ((repeat (first | (with_reducible refine Vc.seq fun N hN => ?_) | (with_reducible refine Vc.block ?_) | ((first | with_reducible refine Vc.skip ?_ | with_reducible refine Vc.exit ?_); dsimp only [thenK, blockK, Nat.beq]; (first | (refine hN _ _ ?_; clear hN N) | skip)) | (with_reducible intro _) | ((with_reducible refine And.intro ?_ ?_); (focus (first | exact sideQ | exact sd0))) | ((first | ((with_reducible refine askT_of ?_ (fun hb => ?_)); (focus (first | exact sideQ | exact sd0)); (try simp only [hb])) | ((with_reducible refine Vc.fin ?_); dsimp only [thenK, blockK, retK, resS, resOne, resAll]) | ((with_reducible refine Vc.hold ?_); first | refine Vc.regiont T0_ok GD2_ok ?_)); (try simp only [v8X, v8A, v8B, v8C, Nat.beq, Nat.ble, Int.reduceToNat, Int.reduceLE, Int.reduceLT, Nat.reduceLT, Nat.reduceLeDiff, Nat.reduceAdd, Nat.reduceMul, Nat.reduceSub, Int.reduceAdd, Int.reduceSub, Int.reduceMul, eq_self, decide_true, beq_self_eq_true, List.length_cons, List.length_nil, Nat.min_eq_left, IntKind.bits, tabs, GD2_set, d3]); (try simp (disch := omega) only [v8W])) | ((with_reducible refine hN _ _ ?_); clear hN N; (try simp (disch := omega) only [v8W])))); (try ((with_reducible refine Fin.of ?_); (try with_reducible exact True.intro))))
        exact ⟨trivial, by rw [hfin]⟩
    · have d1 : decide ((k : Int) < (n : Int)) = false := decide_eq_false (by omega)
      obtain rfl : k = n := by omega
      rw [List.drop_eq_nil_of_le (by omega)] at k4
      simp only [muG] at k4
      ((repeat (first | (with_reducible refine Vc.seq fun N hN => ?_) | (with_reducible refine Vc.block ?_) | ((first | with_reducible refine Vc.skip ?_ | with_reducible refine Vc.exit ?_); dsimp only [thenK, blockK, Nat.beq]; (first | (refine hN _ _ ?_; clear hN N) | skip)) | (with_reducible intro _) | ((with_reducible refine And.intro ?_ ?_); (focus (first | exact sideQ | exact sd0))) | ((first | ((with_reducible refine askT_of ?_ (fun hb => ?_)); (focus (first | exact sideQ | exact sd0)); (try simp only [hb])) | ((with_reducible refine Vc.fin ?_); dsimp only [thenK, blockK, retK, resS, resOne, resAll]) | ((with_reducible refine Vc.hold ?_); first | refine Vc.regiont T0_ok GD2_ok ?_)); (try simp only [v8X, v8A, v8B, v8C, Nat.beq, Nat.ble, Int.reduceToNat, Int.reduceLE, Int.reduceLT, Nat.reduceLT, Nat.reduceLeDiff, Nat.reduceAdd, Nat.reduceMul, Nat.reduceSub, Int.reduceAdd, Int.reduceSub, Int.reduceMul, eq_self, decide_true, beq_self_eq_true, List.length_cons, List.length_nil, Nat.min_eq_left, IntKind.bits, tabs, GD2_set, d1]); (try simp (disch := omega) only [v8W])) | ((with_reducible refine hN _ _ ?_); clear hN N; (try simp (disch := omega) only [v8W])))); (try ((with_reducible refine Fin.of ?_); (try with_reducible exact True.intro))))
      (refine Vc.cond T0_ok (t := false) (by rfl) (fun h => Bool.noConfusion h) (fun _ => ?_))
      ((repeat (first | (with_reducible refine Vc.seq fun N hN => ?_) | (with_reducible refine Vc.block ?_) | ((first | with_reducible refine Vc.skip ?_ | with_reducible refine Vc.exit ?_); dsimp only [thenK, blockK, Nat.beq]; (first | (refine hN _ _ ?_; clear hN N) | skip)) | (with_reducible intro _) | ((with_reducible refine And.intro ?_ ?_); (focus (first | exact sideQ | exact sd0))) | ((first | ((with_reducible refine askT_of ?_ (fun hb => ?_)); (focus (first | exact sideQ | exact sd0)); (try simp only [hb])) | ((with_reducible refine Vc.fin ?_); dsimp only [thenK, blockK, retK, resS, resOne, resAll]) | ((with_reducible refine Vc.hold ?_); first | refine Vc.regiont T0_ok GD2_ok ?_)); (try simp only [v8X, v8A, v8B, v8C, Nat.beq, Nat.ble, Int.reduceToNat, Int.reduceLE, Int.reduceLT, Nat.reduceLT, Nat.reduceLeDiff, Nat.reduceAdd, Nat.reduceMul, Nat.reduceSub, Int.reduceAdd, Int.reduceSub, Int.reduceMul, eq_self, decide_true, beq_self_eq_true, List.length_cons, List.length_nil, Nat.min_eq_left, IntKind.bits, tabs, GD2_set]); (try simp (disch := omega) only [v8W])) | ((with_reducible refine hN _ _ ?_); clear hN N; (try simp (disch := omega) only [v8W])))); (try ((with_reducible refine Fin.of ?_); (try with_reducible exact True.intro))))
      (refine hN1 _ _ ?_; (try clear hN N); clear hN1 N1)
      ((repeat (first | (with_reducible refine Vc.seq fun N hN => ?_) | (with_reducible refine Vc.block ?_) | ((first | with_reducible refine Vc.skip ?_ | with_reducible refine Vc.exit ?_); dsimp only [thenK, blockK, Nat.beq]; (first | (refine hN _ _ ?_; clear hN N) | skip)) | (with_reducible intro _) | ((with_reducible refine And.intro ?_ ?_); (focus (first | exact sideQ | exact sd0))) | ((first | ((with_reducible refine askT_of ?_ (fun hb => ?_)); (focus (first | exact sideQ | exact sd0)); (try simp only [hb])) | ((with_reducible refine Vc.fin ?_); dsimp only [thenK, blockK, retK, resS, resOne, resAll]) | ((with_reducible refine Vc.hold ?_); first | refine Vc.regiont T0_ok GD2_ok ?_)); (try simp only [v8X, v8A, v8B, v8C, Nat.beq, Nat.ble, Int.reduceToNat, Int.reduceLE, Int.reduceLT, Nat.reduceLT, Nat.reduceLeDiff, Nat.reduceAdd, Nat.reduceMul, Nat.reduceSub, Int.reduceAdd, Int.reduceSub, Int.reduceMul, eq_self, decide_true, beq_self_eq_true, List.length_cons, List.length_nil, Nat.min_eq_left, IntKind.bits, tabs, GD2_set]); (try simp (disch := omega) only [v8W])) | ((with_reducible refine hN _ _ ?_); clear hN N; (try simp (disch := omega) only [v8W])))); (try ((with_reducible refine Fin.of ?_); (try with_reducible exact True.intro))))
      exact ⟨trivial, by unfold muA; rw [hl, ← k4]⟩
noncomputable def g_much (args : List SV) (m : List Blk) : CR :=
  match args with
  | [.gh a n c (.rows 6 rs)] => .pure (∃ l, PsR (HM m) rs l ∧ l.length = n ∧ n ≤ c ∧ adr a n c ∧ n ≤ maxLen ∧ LiesH (HM m) a (cc (.rows 6 rs))) (.bool (muA (lOf rs)))
  | _ => .none
theorem g_much_ok (w0 : World) (B : List Nat) (args : List SV) (m : List Blk) : CROk Tryd.prog w0 B 9 args m (g_much args m) := by
  unfold g_much
  split
  · rename_i a n c rs
    intro ⟨l, hR, h1, h2, h3, h4, h5⟩ w hm
    rw [lOf_eq hR]
    exact calls_pure Tryd.func9 rfl rfl (much_vc a n c rs l h1 h2 h3 h4 w (h5.mono fun b o h => hm.hm h) (hR.mono fun b o h => hm.hm h))
  · exact trivial
theorem PsR.lt {H : Nat → Obj → Prop} {rs : List (List SV)} {l : List Prt} (h : PsR H rs l) : ∀ p ∈ l, p.w < W := fun p hp => by
  obtain ⟨i, hi⟩ := List.getElem?_of_mem hp
  have hlt : i < rs.length := by rw [h.1]; exact (List.getElem?_eq_some_iff.1 hi).1
  obtain ⟨x0, x1, x2, x3, a, n, c, e, g1, g2, _⟩ := h.2.2 i _ p (List.getElem?_eq_getElem hlt) hi
  rw [← g2]; exact numI_lt g1
theorem PsR.all {H : Nat → Obj → Prop} {rs : List (List SV)} {l : List Prt} (h : PsR H rs l) : ∀ p ∈ l, allB p.bs := fun p hp => by
  obtain ⟨i, hi⟩ := List.getElem?_of_mem hp
  have hlt : i < rs.length := by rw [h.1]; exact (List.getElem?_eq_some_iff.1 hi).1
  obtain ⟨x0, x1, x2, x3, a, n, c, e, g1, g2, g3, g4, g5, g6, g7, g8⟩ := h.2.2 i _ p (List.getElem?_eq_getElem hlt) hi
  exact g7
theorem allB_app {x y : List Int} (hx : allB x) (hy : allB y) : allB (x ++ y) := fun z hz => (List.mem_append.1 hz).elim (hx z) (hy z)
theorem fold_all (N : Nat) : ∀ (l : List Prt) (s : List Int × List Int), allB s.1 → allB s.2 → (∀ p ∈ l, allB p.bs) → allB (l.foldl (stE N) s).1 ∧ allB (l.foldl (stE N) s).2
  | [], s, h1, h2, _ => ⟨h1, h2⟩
  | p :: l, s, h1, h2, h => by
    simp only [List.foldl_cons]
    refine fold_all N l _ ?_ ?_ fun q hq => h q (List.mem_cons_of_mem _ hq)
    · unfold stE; split <;> exact allB_app h1 (bytI_all _ _)
    · unfold stE; split
      · refine allB_app h2 ?_
        unfold abTail
        refine allB_app (allB_app (bytI_all _ _) (h p List.mem_cons_self)) fun z hz => ?_
        rw [List.eq_of_mem_replicate hz]; omega
      · exact h2
theorem abEnc_all {H : Nat → Obj → Prop} {rs : List (List SV)} {l : List Prt} (h : PsR H rs l) : allB (abEnc l) := by
  have := fold_all l.length l ([], []) (fun z hz => absurd hz List.not_mem_nil) (fun z hz => absurd hz List.not_mem_nil) h.all
  exact allB_app this.1 this.2
theorem cellsPart : Tryd.prog.cellsOf 44 = 6 := by kernel_rfl
section
variable {H : Type} {enc : TypeId × Value → H} {w : World}
theorem part_cells {fuel : Nat} {cs : List Value} {x : DataW H × List MemPlace} (h : DataW.trod enc Tryd.prog w 0 (fun _ => true) true fuel 44 cs = some x) : ∃ l p, cs = cvs l ∧ PtR (H0 w) l p := by
  obtain ⟨xs, n, rfl, _, hl, hxl, hf⟩ := DataW.trod_struct Tryd.underlying44 h
  rw [cellsPart] at hl
  match cs, hl, xs, hxl with
  | [c0, c1, c2, c3, c4, c5], _, [y0, y1, y2], _ =>
    have h0 : DataW.trod enc Tryd.prog w 0 (fun _ => true) true n 4 (List.take (Tryd.prog.cellsOf 4) (List.drop 0 [c0, c1, c2, c3, c4, c5])) = some y0 := hf 0 _ rfl
    have h1 : DataW.trod enc Tryd.prog w 0 (fun _ => true) true n 42 (List.take (Tryd.prog.cellsOf 42) (List.drop 1 [c0, c1, c2, c3, c4, c5])) = some y1 := hf 1 _ rfl
    have h2 : DataW.trod enc Tryd.prog w 0 (fun _ => true) true n 26 (List.take (Tryd.prog.cellsOf 26) (List.drop 5 [c0, c1, c2, c3, c4, c5])) = some y2 := hf 2 _ rfl
    clear hf
    have e4 : Tryd.prog.cellsOf 4 = 1 := by kernel_rfl
    have e22 : Tryd.prog.cellsOf 42 = 4 := by kernel_rfl
    have e23 : Tryd.prog.cellsOf 26 = 1 := by kernel_rfl
    rw [e4] at h0
    rw [e22] at h1
    rw [e23] at h2
    replace h0 : DataW.trod enc Tryd.prog w 0 (fun _ => true) true n 4 [c0] = some y0 := h0
    replace h1 : DataW.trod enc Tryd.prog w 0 (fun _ => true) true n 42 [c1, c2, c3, c4] = some y1 := h1
    replace h2 : DataW.trod enc Tryd.prog w 0 (fun _ => true) true n 26 [c5] = some y2 := h2
    obtain ⟨lb, hb0, _⟩ := DataW.trod_bool Tryd.underlying4 h0
    cases hb0
    obtain ⟨a, m, c, bs, hb1, g1, g2, g3, g4, g5, g6⟩ := bytes_cell h2
    cases hb1
    obtain ⟨v, hv, _, hvW⟩ := word_cells h1 rfl
    unfold wcs at hv
    cases hv
    exact ⟨[.bool lb, .int .u64 (lm v 0 : Nat), .int .u64 (lm v 1 : Nat), .int .u64 (lm v 2 : Nat), .int .u64 (lm v 3 : Nat), .gh a m c (.ints .u8 bs)], ⟨lb, v, bs⟩, rfl, _, _, _, _, a, m, c, rfl, allU_lmI v, numI_lmI hvW, g1, g2, g3, g4, g5, g6⟩
instance : Inhabited Prt := ⟨⟨false, 0, []⟩⟩
/-- Parts, wherever they lie. -/
theorem parts_open {r : Reach} {b0 : Nat} {v : Value} {d : DataW H} {p : List MemPlace} (hval : Value.okWide Tryd.prog w r b0 22 v) (h : DataW.Trod enc Tryd.prog w 0 (fun _ => true) true 22 v d p) :
    ∃ (a : Option Addr) (n c : Nat) (rs : List (List SV)) (ps : List Prt), v = .slice a n c ∧ ps.length = n ∧ n ≤ c ∧ adr a n c ∧ n ≤ maxLen ∧ LiesH (H0 w) a (cc (.rows 6 rs)) ∧ PsR (H0 w) rs ps := by
  obtain ⟨a0, n0, c0, rfl⟩ := sl_form Tryd.underlying22 hval
  obtain ⟨fuel, hf⟩ := h
  obtain ⟨a, n, c, rs, ps, h1, h2, h3, h4, h5, h6, h7, h8, h9⟩ := sl_rows (α := Prt) (Q := PtR (H0 w)) (sz := 6) Tryd.underlying22 cellsPart (by omega) hf (fun k cs' y hk => part_cells hk)
  cases h1
  exact ⟨a0, n0, c0, rs, ps, rfl, h3, h4, h5, Nat.le_trans h4 h6, h8, by rw [h2, h3], h7, h9⟩
end
end Go.Proofs.YtdkhlcoklihpfaaDoor
