/-
  What the walks of hashes share: loops as folds, callees that turn a block, other names, listed arrays. No condition.
-/
import Derived.Test.YtnncomlliobobaaDoorFB
import Derived.Test.YtnncomlliobobaaDoorX4
import Derived.Test.YtnncomlliobobaaDoorEO
import Derived.Test.YtnncomlliobobaaDoorTie
import Derived.Lib.LaidTab
import Derived.Laws.Bits64b
import Derived.Laws.BitsLemmas
namespace Go.Proofs.YtnncomlliobobaaDoor
set_option linter.unusedSimpArgs false
set_option linter.unusedVariables false
set_option maxRecDepth 10000
open Go.RowKit Go.ChangeShapes Go.WideShapes Go.ChangeAt
def it {α : Type} (f : α → Nat → α) (n : Nat) (a : α) : α := (List.range n).foldl f a
theorem it_0 {α : Type} (f : α → Nat → α) (a : α) : it f 0 a = a := rfl
theorem it_s {α : Type} (f : α → Nat → α) (n : Nat) (a : α) : it f (n + 1) a = f (it f n a) n := by unfold it; rw [List.range_succ, List.foldl_append]; rfl
/-! ### A callee that turns a block of its caller's. -/
theorem turn_start {w0 : World} {B : List Nat} {m : List Blk} {w : World} (hm : MemOk w0 B m w) {nm b : Nat} {t : TypeId} {con : Con} (hb : bget m nm = .blk b t con) : MemOk w [b] [.blk b t con] w :=
  ⟨rfl, rfl, rfl, Nat.le_refl _, fun _ _ _ => rfl, fun e he => by
    rw [List.mem_singleton] at he
    subst he
    exact ⟨(hm.each _ (bget_mem hb (by simp))).1, .inr List.mem_cons_self⟩, by simp [Blk.num?]⟩
theorem turn_ro {w : World} {b : Nat} {m : List Blk} (h : MemOk w [b] m w) {w0 : World} {B : List Nat} {M : List Blk} (hm : MemOk w0 B M w) {nm nr : Nat} {t : TypeId} {con c : Con} {a : Option Addr} (hb : bget M nm = .blk b t con) (hr : bget M nr = .ro a c) : MemOk w [b] (.ro a c :: m) w :=
  ⟨h.os, h.tape, h.output, h.size, h.old, fun x hx => by
    rcases List.mem_cons.1 hx with rfl | hx
    · intro j u hj
      obtain ⟨b', off, h1, h2, h3, h4⟩ := hm.each _ (bget_mem hr (by simp)) j u hj
      have hbb := (hm.each _ (bget_mem hb (by simp))).2
      refine ⟨b', off, h1, Nat.lt_of_lt_of_le h2 hm.size, ?_, h4⟩
      rw [List.mem_singleton]
      rintro rfl
      rcases hbb with hbb | hbb
      · omega
      · exact h3 hbb
    · exact h.each x hx, by rw [List.filterMap_cons_none rfl]; exact h.nodup⟩
theorem turn_end {w0 : World} {B : List Nat} {m m' : List Blk} {w w' : World} (hm : MemOk w0 B m w) {nm k b : Nat} {t t' : TypeId} {con con' : Con} (hb : bget m nm = .blk b t con) (h : MemOk w [b] m' w') (hb' : bget m' k = .blk b t' con') : MemOk w0 B (bset m nm (.blk b t' con')) w' := by
  have h4 := hm.each _ (bget_mem hb (by simp))
  have h5 := h.each _ (bget_mem hb' (by simp))
  refine hm.turn hb (by simp) ⟨h.os, h.tape, h.output, h.size, fun k hk hkb => h.old k hk (by rw [List.mem_singleton]; intro e; apply hkb; simp [Blk.num?, e])⟩ (fun b hb => by simp [Blk.num?] at hb; subst hb; exact h4.2) ⟨h5.1, h4.2⟩ (fun b hb => .inl (by simpa [Blk.num?] using hb))
theorem calls_turn {P : Program} {f : FuncId} {fn : Func} {args args' : List SV} {w0 w : World} {B : List Nat} {m : List Blk} {nm k b : Nat} {t : TypeId} {con con' : Con} {v : SV} (hf : P.funcs[f]? = some fn) (hn : (fn.name == "runtime.NumGoroutine") = false) (hb : fn.body.isNone = false)
    (hm : MemOk w0 B m w) (hbg : bget m nm = .blk b t con) (he : cvs args = cvs args') (h : Calls P f (cvs args').toArray w (fun en w' => ∃ u, en = .returned u ∧ ∃ v' m', u = cv v' ∧ MemOk w [b] m' w' ∧ v' = v ∧ bget m' k = .blk b t con')) :
    Enters P f (cvs args).toArray w fun u w' => u = cv v ∧ MemOk w0 B (bset m nm (withCon (bget m nm) con')) w' := by
  rw [he]
  refine .inr ⟨enter_run hf hn hb _ w, h.mono fun e w' ⟨u, hu, v', m', hv, hm', hvv, hk⟩ => ⟨u, hu, by rw [hv, hvv], ?_⟩⟩
  rw [hbg]
  exact turn_end hm hbg hm' hk
def GZ0 : Ctr := fun _ _ _ => .none
theorem GZ0_ok : GOk Tryd.prog GZ0 := fun _ _ _ _ _ => trivial
theorem it_len {f : List Int → Nat → List Int} (hf : ∀ l k, (f l k).length = l.length) (a : List Int) : ∀ n, (it f n a).length = a.length
  | 0 => rfl
  | n + 1 => by rw [it_s, hf, it_len hf a n]
theorem by_rng {xs : List Int} (hx : allB xs) (k : Nat) : 0 ≤ xs.getD k 0 ∧ xs.getD k 0 ≤ 255 := by
  rw [List.getD_eq_getElem?_getD]
  cases h : xs[k]? with
  | none => decide
  | some y => exact hx y (List.mem_of_getElem? h)
theorem wrap8_rng (x : Int) : 0 ≤ IntKind.u8.wrap x ∧ IntKind.u8.wrap x ≤ 255 := by rw [mod_u8]; omega
theorem ro_blk {w0 : World} {B : List Nat} {m : List Blk} {w : World} (hm : MemOk w0 B m w) {nm b : Nat} {t : TypeId} {con : Con} (hb : bget m nm = .blk b t con) : MemOk w [] [.ro (some ⟨b, 0, none⟩) con] w := by
  have h := (hm.each _ (bget_mem hb (by simp))).1
  refine ⟨rfl, rfl, rfl, Nat.le_refl _, fun _ _ _ => rfl, fun e he => ?_, List.nodup_nil⟩
  rw [List.mem_singleton] at he
  subst he
  intro j u hj
  refine ⟨b, 0, rfl, (Array.getElem?_eq_some_iff.1 h).1, List.not_mem_nil, ?_⟩
  simp only [World.cell?, h, Nat.zero_add]
  simpa using hj
theorem allB_set {xs : List Int} (hx : allB xs) (k : Nat) {v : Int} (hv : 0 ≤ v ∧ v ≤ 255) : allB (xs.set k v) := fun y hy => by
  rcases List.mem_or_eq_of_mem_set hy with h | h
  · exact hx y h
  · rw [h]; exact hv
theorem allB_take {xs : List Int} (h : allB xs) (n : Nat) : allB (xs.take n) := fun x hx => h x (List.mem_of_mem_take hx)
theorem allB_rep (n : Nat) : allB (List.replicate n 0) := fun y hy => by rw [List.eq_of_mem_replicate hy]; decide
theorem Vc.loop2 {P : Program} {c : Code} {K : Kont} {env : List SV} {m : List Blk} {α : Type} (lo hi : Nat) (u : α → List (Nat × SV)) (M : α → List Blk) (Pr : α → Prop) (μ : α → Nat) (N : Nat)
    (h0 : Vc P c env m (thenK (fun env' m' => ∃ x', Pr x' ∧ agr lo hi (u x') 0 env env' ∧ bpre (M x') m' ∧ μ x' < N) K))
    (hb : ∀ x junk, Pr x → Vc P c (hav junk lo hi (u x) 0 env) (M x) (thenK (fun env' m' => ∃ x', Pr x' ∧ agr lo hi (u x') 0 env env' ∧ bpre (M x') m' ∧ μ x' < μ x) K)) : Vc P (.loop c) env m K := by
  have wk : ∀ {c : Code} {env : List SV} {l r : List Blk} {K : Kont}, Vc P c env l K → Vc P c env (l ++ r) K := fun h w0 B a w hf hd hm => h w0 B a w hf hd hm.front
  refine Vc.loopJ (fun (o : Option α) e m' => match o with | none => e = env ∧ m' = m | some x => Pr x ∧ agr lo hi (u x) 0 env e ∧ bpre (M x) m') (fun o => match o with | none => N | some x => μ x) none ⟨rfl, rfl⟩ fun o e m' hJ => ?_
  cases o with
  | none =>
    obtain ⟨rfl, rfl⟩ := hJ
    refine Vc.mono h0 fun e env' m' hk => ?_
    cases e <;> first | exact hk | (obtain ⟨x', a, b, c, d⟩ := hk; exact ⟨some x', ⟨a, b, c⟩, d⟩)
  | some x =>
    obtain ⟨h1, h2, h3⟩ := hJ
    obtain ⟨junk, _, rfl⟩ := agr_hav h2
    obtain ⟨r, rfl⟩ := bpre_app h3
    refine wk (Vc.mono (hb x junk h1) fun e env' m' hk => ?_)
    cases e <;> first | exact hk | (obtain ⟨x', a, b, c, d⟩ := hk; exact ⟨some x', ⟨a, b, c⟩, d⟩)
theorem cvs_sset_same : ∀ (l : List SV) (i : Nat) {x : SV}, cv x = cv (sget l i) → cvs (sset l i x) = cvs l
  | [], _, _, _ => rfl
  | y :: l, 0, x, h => by simp only [sget] at h; simp only [sset, cvs, h]
  | y :: l, i + 1, x, h => by simp only [sget] at h; simp only [sset, cvs, cvs_sset_same l i h]
theorem Vc.nameS {P : Program} {c : Code} {env : List SV} {m : List Blk} {K : Kont} (i : Nat) (x : SV) (hx : cv x = cv (sget env i)) (h : Vc P c (sset env i x) m K) : Vc P c env m K :=
  fun w0 B a w hf hd hm => h w0 B a w (by unfold Fr at *; rw [cvs_sset_same env i hx]; exact hf) hd hm
theorem Vc.nameM {P : Program} {c : Code} {env : List SV} {m : List Blk} {K : Kont} (m' : List Blk) (hs : (m'.filterMap Blk.num?).Sublist (m.filterMap Blk.num?)) (he : ∀ e ∈ m', e ∈ m ∨ e = .gone) (h : Vc P c env m' K) : Vc P c env m K :=
  fun w0 B a w hf hd hm => h w0 B a w hf hd ⟨hm.os, hm.tape, hm.output, hm.size, hm.old, fun e hx => by
    rcases he e hx with h1 | rfl
    · exact hm.each e h1
    · trivial, hm.nodup.sublist hs⟩
/-- A region that begins with a new slice of numbers, which is taken as one's own. -/
theorem Vc.regionOwn {P : Program} {T : Tab} (hT : TabOk P T) {G : Ctr} (hG : GOk P G) {id : Nat} {d : Option Tmp} {t : TypeId} {n : Nat} {parts : Array (Nat × Operand)} {ty : TypeId} {pos : String} {af : Array Edge} {rest : List Oper} {env : List SV} {m : List Blk} {K : Kont} {e : TypeId} {k : IntKind} {xs : List Int}
    (hz : litS T t n (evp T env parts.toList) = some (e, 1, .ints k xs)) (hn : xs.length = n) (hmax : n ≤ maxLen)
    (h : ∀ v : Value, vcOpst .go T G (⟨d, .buildSlice t n parts, ty, pos, af, none⟩ :: rest) rest (upd env d (.own (blen m) v n)) (bpush m (.own v n e 1 (.ints k xs))) (fun _ => K .normal)) :
    Vc P (.region id (⟨d, .buildSlice t n parts, ty, pos, af, none⟩ :: rest).toArray false) env m K := by
  intro w0 B a w hf hd hm
  refine wp_region_lit ?_
  unfold wpList
  rw [if_pos (by simp [Region.wanted])]
  refine .inl ?_
  have e1 : (parts.map fun (i, x) => (i, a.eval x)) = ((evp T env parts.toList).map fun p => (p.1, cv p.2)).toArray := by
    rw [← evp_map hT.gl hf]
    apply Array.ext'
    simp
  have hr := litS_sound (P := P) hT hz w
  rw [← e1] at hr
  have hrow : (w.alloc (.cells (cc (.ints k xs)).toArray e)).ownsRow w.heap.size e 1 (.slice (some ⟨w.heap.size, 0, none⟩) n n) n (cc (.ints k xs)) := by
    have hl : (cc (.ints k xs)).length = n := by simp only [cc, List.length_map, hn]
    have hh : (w.alloc (.cells (cc (.ints k xs)).toArray e)).heap[w.heap.size]? = some (.cells (cc (.ints k xs)).toArray e (0, 0)) := by simp only [World.alloc, Array.getElem?_push_size]
    refine ⟨by rw [hl, Nat.mul_one], .inr ⟨w.heap.size, n, (cc (.ints k xs)).toArray, rfl, Nat.le_refl _, hh, Nat.le_refl _, hmax, by rw [List.size_toArray, hl, Nat.mul_one], ?_⟩⟩
    rw [List.toList_toArray, List.take_of_length_le (by rw [hl, Nat.mul_one]; exact Nat.le_refl _)]
  refine wp_of_run (w' := w.alloc (.cells (cc (.ints k xs)).toArray e)) (u := .slice (some ⟨w.heap.size, 0, none⟩) n n) (by simp only [execOp, Sem.run_bind, hr, Result.andThen_ok, Sem.run_pure]) ?_
  have hm' := hm.push (World.grownBy_alloc w (.cells (cc (.ints k xs)).toArray e) none) (e := .own (.slice (some ⟨w.heap.size, 0, none⟩) n n) n e 1 (.ints k xs)) (own_base hrow hm.size) (fun b hb => own_fresh hrow (by simpa [Blk.num?] using hb))
  rw [← bpush_eq] at hm'
  refine vcOps_sound hT hG (ds := []) (fun e m a w h1 h2 h3 h4 => ⟨e, m, h1, h2, h3, h4⟩) rest _ _ _ _ (h (.slice (some ⟨w.heap.size, 0, none⟩) n n)) (hf.put d (.own (blen m) (.slice (some ⟨w.heap.size, 0, none⟩) n n) n)) (by rw [← hd]; cases d <;> rfl) hm'
theorem ro_add {w : World} {m : List Blk} {a : Option Addr} {c : Con} (h : MemOk w [] m w) (h1 : MemOk w [] [.ro a c] w) : MemOk w [] (.ro a c :: m) w :=
  ro_cons h fun j u hj => by
    obtain ⟨b, off, e1, e2, _, e3⟩ := h1.each _ List.mem_cons_self j u hj
    exact ⟨b, off, e1, e2, e3⟩
theorem ro_ro {w0 : World} {B : List Nat} {m : List Blk} {w : World} (hm : MemOk w0 B m w) {nr : Nat} {a : Option Addr} {c : Con} (hr : bget m nr = .ro a c) : MemOk w [] [.ro a c] w :=
  ro_cons (ro_nil w) fun j u hj => by
    obtain ⟨b, off, e1, e2, _, e3⟩ := hm.each _ (bget_mem hr (by simp)) j u hj
    exact ⟨b, off, e1, Nat.lt_of_lt_of_le e2 hm.size, e3⟩
/-- The g-th variable is an array of integers of kind k. -/
def arrOf (P : Program) (g : Nat) (k : IntKind) : Bool :=
  match P.globals[g]? with
  | some v => match P.underlying v.type with
    | some (.array n e) => (match P.underlying e with | some (.int k') => decide (k' = k) | _ => false) && P.cellsOf e == 1 && P.cellsOf v.type == n
    | _ => false
  | none => false
theorem ro_of_laid {P : Program} {w : World} {name : String} {g : Nat} {k : IntKind} {zs : List Int} {t : TypeId} {cs : Array Value} {fuel : Nat} {p : List MemPlace} {H : Type} {enc : TypeId × Value → H} (hg : P.globalNamed name = some g) (ha : arrOf P g k = true)
    (h1 : ∃ g', P.globalNamed name = some g' ∧ (P.globals[g']?).map (·.type) = some t) (h3 : w.var? P name = some cs) (h4 : DataW.trod enc P w 0 (fun _ => true) false fuel t cs.toList = some (Lib.tabData k zs, p)) : RoOk w (some ⟨g, 0, none⟩) (.ints k zs) := by
  obtain ⟨g', h1, h2⟩ := h1
  rw [hg] at h1; cases h1
  unfold arrOf at ha
  split at ha
  · rename_i v hv
    rw [hv] at h2
    cases h2
    split at ha
    · rename_i n e hu
      simp only [Bool.and_eq_true, beq_iff_eq] at ha
      have he : P.underlying e = some (.int k) := by
        have h5 := ha.1.1
        split at h5
        · rename_i k' hk
          rw [hk, of_decide_eq_true h5]
        · cases h5
      have e1 := Lib.cells_of_tab hu he ha.1.2 ha.2 h4
      unfold World.var? at h3
      rw [hg] at h3
      simp only [Option.bind_some] at h3
      split at h3
      · rename_i cs' a b hh
        cases h3
        intro j u hj
        refine ⟨g, 0, rfl, (Array.getElem?_eq_some_iff.1 hh).1, ?_⟩
        unfold World.cell?
        simp only [hh, Nat.zero_add]
        rw [← Array.getElem?_toList, e1]
        exact hj
      · cases h3
    · cases ha
  · cases ha
theorem laid_two {P : Program} {w : World} {n1 n2 : String} {g1 g2 : Nat} {k1 k2 : IntKind} {z1 z2 : List Int} (h : laidMetH P [(n1, Lib.tabData k1 z1), (n2, Lib.tabData k2 z2)] w) (a1 : P.globalNamed n1 = some g1) (b1 : arrOf P g1 k1 = true) (a2 : P.globalNamed n2 = some g2) (b2 : arrOf P g2 k2 = true)
    (c1 : (Lib.tabData k1 z1 : DataW Unit).handleName? = none) (c2 : (Lib.tabData k2 z2 : DataW Unit).handleName? = none) : RoOk w (some ⟨g1, 0, none⟩) (.ints k1 z1) ∧ RoOk w (some ⟨g2, 0, none⟩) (.ints k2 z2) := by
  have h0 : laidMet P [(n1, Lib.tabData k1 z1), (n2, Lib.tabData k2 z2)] w := by
    unfold laidMetH at h
    simpa [c1, c2] using h
  obtain ⟨ps, hv, _⟩ := h0
  obtain ⟨g, t, cs, fuel, p, q, d1, d2, d3, d4, hv2, _⟩ := hv
  obtain ⟨g', t', cs', fuel', p', q', d1', d2', d3', d4', _, _⟩ := hv2
  exact ⟨ro_of_laid a1 b1 ⟨g, d1, d2⟩ d3 d4, ro_of_laid a2 b2 ⟨g', d1', d2'⟩ d3' d4'⟩
end Go.Proofs.YtnncomlliobobaaDoor
