/-
  Plain helpers of this claim: regions whose order is drawn and which end in a forced tail; worlds behind a call that made memory.
-/
import Derived.Test.YtdanlclhnehieaaRows
import Derived.WalkKit
import Derived.WalkSpells
import Derived.WalkLawsBesides
import Derived.BigQuiet
import Derived.StillTailTactics
import Derived.Lib.Hide
import Derived.Lib.QuietBelow
import Derived.Shelf.Spec.BitsCarry
import Derived.Test.YtdanlclhnehieaaA1
namespace Go.Proofs.Ytdanlclhnehieaa
set_option linter.unusedSimpArgs false
set_option linter.unusedVariables false
open Go.RowKit

section tail
variable {P : Program} {ops : Array Oper} {md : Region.Mode} {C : World → Prop}

def plainOp : Op → Bool
  | .move _ => true
  | .assign _ => true
  | .extract .. => true
  | .binOp .lss _ _ (.const (.int _ _)) _ => true
  | .binOp .leq _ _ (.const (.int _ _)) _ => true
  | .binOp .gtr _ _ (.const (.int _ _)) _ => true
  | .binOp .geq _ _ (.const (.int _ _)) _ => true
  | _ => false
theorem cmp_run {ρ : Operand → Value} {o : Oper} {c : BinOp} {t yt : TypeId} {x : Operand} {k : IntKind} {n : Int} (ho : o.op = .binOp c t x (.const (.int k n)) yt)
    (hc : c = .lss ∨ c = .leq ∨ c = .gtr ∨ c = .geq) (hρ : ρ (.const (.int k n)) = .int k n) :
    (∃ v, ∀ w, (execOp ρ o).run P w = .ok (.value v) w) ∨ ∃ s, ∀ w, (execOp ρ o).run P w = .halt s w := by
  obtain ⟨dst, op, type, pos, after, guard⟩ := o
  simp only at ho
  subst ho
  rcases hc with rfl | rfl | rfl | rfl
  all_goals
    simp only [execOp, eqGuard, hρ, binOp]
    cases ρ x
    case int k' m =>
      by_cases hk : k' = k
      · exact .inl ⟨_, fun w => by simp [hk, Op.intCmp, Sem.run_pure]; rfl⟩
      · exact .inr ⟨_, fun w => by simp [hk]; rfl⟩
    case pointer p => cases p <;> exact .inr ⟨_, fun w => rfl⟩
    all_goals exact .inr ⟨_, fun w => rfl⟩

theorem plain_run {a : Act} {o : Oper} (h : plainOp o.op = true) :
    (∃ v, ∀ w, (execOp a.eval o).run P w = .ok (.value v) w) ∨ ∃ s, ∀ w, (execOp a.eval o).run P w = .halt s w := by
  unfold plainOp at h
  split at h
  · rename_i x ho; exact .inl ⟨a.eval x, fun w => BigFrame.run_move x ho w⟩
  · rename_i x ho; exact .inl ⟨a.eval x, fun w => BigFrame.run_assign x ho w⟩
  · rename_i t i ho
    obtain ⟨dst, op, type, pos, after, guard⟩ := o
    simp only at ho
    subst ho
    simp only [execOp, Instr.extract]
    split
    · split
      · exact .inl ⟨_, fun _ => rfl⟩
      · exact .inr ⟨_, fun _ => rfl⟩
    · exact .inr ⟨_, fun _ => rfl⟩
  · rename_i ho; exact cmp_run ho (.inl rfl) rfl
  · rename_i ho; exact cmp_run ho (.inr (.inl rfl)) rfl
  · rename_i ho; exact cmp_run ho (.inr (.inr (.inl rfl))) rfl
  · rename_i ho; exact cmp_run ho (.inr (.inr (.inr rfl))) rfl
  · exact Bool.noConfusion h

theorem plain_yields {o : Oper} {v : Value} {a : Act} {w0 : World} (h : plainOp o.op = true) (hC : C w0) (hy : YieldsIn P ops C o v a) : Yields P ops o v a := by
  rcases hy with ⟨hw, hq⟩ | ⟨hw, hv⟩
  · refine .inl ⟨hw, fun w => ?_⟩
    have h1 := hq w0 hC
    unfold Oper.quietAt at h1
    rcases plain_run (P := P) (a := a) h with ⟨u, hu⟩ | ⟨s, hs⟩
    · rw [hu] at h1 ⊢
      rw [h1.2]
    · rw [hs] at h1
      exact False.elim h1
  · exact .inr ⟨hw, hv⟩

def anyT (P : Program) (md : Region.Mode) (ops : Array Oper) (C : World → Prop) (Q : Exit → Act → World → Prop) (n g : Nat) : Nat → Array Bool → Act → Prop
  | 0, listed, a => (∀ k, k < n → listed.getD k true = true) ∧ ∀ w, C w → wpAny P md ops Q g listed a w
  | f + 1, listed, a => Region.ready md ops listed ≠ [] ∧
      ∀ j ∈ Region.ready md ops listed,
        (j < n → qOp P ops C j (anyT P md ops C Q n g f (listed.setIfInBounds j true)) a) ∧
        (n ≤ j → ∀ w, C w → wpOp P ops Q j (wpAny P md ops Q (f + g) (listed.setIfInBounds j true)) a w)

theorem any_of_T {n g : Nat} {Q : Exit → Act → World → Prop} :
    ∀ (f : Nat) (listed : Array Bool) (a : Act) (w : World), C w → anyT P md ops C Q n g f listed a → wpAny P md ops Q (f + g) listed a w := by
  intro f
  induction f with
  | zero => intro listed a w hw h; rw [Nat.zero_add]; exact h.2 _ hw
  | succ f ih =>
    intro listed a w hw h
    rw [show f + 1 + g = (f + g) + 1 by omega]
    refine ⟨fun h0 => absurd h0 h.1, fun i hi => ?_⟩
    by_cases hin : i < n
    · exact wpOp_of_qOp hw (fun a' w' hw' h' => ih _ a' w' hw' h') ((h.2 i hi).1 hin)
    · exact (h.2 i hi).2 (by omega) w hw

def chainTo (md : Region.Mode) (ops : Array Oper) (n : Nat) : Nat → Nat → Bool
  | 0, _ => false
  | f + 1, i => Region.waitsFor md ops n i || (List.range n).any fun j => decide (i < j) && Region.waitsFor md ops j i && chainTo md ops n f j
def tailB (md : Region.Mode) (ops : Array Oper) (n : Nat) : Bool :=
  ((List.range n).all fun i => (match ops[i]? with | some o => plainOp o.op | none => false) || chainTo md ops n n i) &&
  ((List.range ops.size).all fun t => decide (t ≤ n) || Region.waitsFor md ops t (t - 1))

theorem tail_only {n t : Nat} {listed : Array Bool} (hB : tailB md ops n = true) (inv : HeadInv md ops n listed)
    (hr : t ∈ Region.ready md ops listed) (ht : n ≤ t) : t = n := by
  simp only [tailB, Bool.and_eq_true, List.all_eq_true, List.mem_range, Bool.or_eq_true, decide_eq_true_eq] at hB
  obtain ⟨_, ot, hot, hall⟩ := mem_ready.1 hr
  have htl : t < ops.size := (Array.getElem?_eq_some_iff.1 hot).1
  rcases hB.2 t htl with h | h
  · omega
  · by_cases htn : t = n
    · exact htn
    · obtain ⟨o', ho', e, he, hb, hon⟩ := Region.waitsFor_spec h
      obtain rfl : o' = ot := Option.some.inj (ho'.symm.trans hot)
      have h2 := hall e he hb
      rw [hon, getD_both (inv.tail (t - 1) (by omega) (by omega))] at h2
      exact Bool.noConfusion h2

theorem chain_waits {n : Nat} {listed : Array Bool} (inv : HeadInv md ops n listed) : ∀ (f i : Nat), chainTo md ops n f i = true → listed.getD i true = false →
    n ∉ Region.ready md ops listed := by
  intro f
  induction f with
  | zero => intro i h; exact Bool.noConfusion h
  | succ f ih =>
    intro i h hiu hr
    simp only [chainTo, Bool.or_eq_true, List.any_eq_true, List.mem_range, Bool.and_eq_true, decide_eq_true_eq] at h
    rcases h with h | ⟨j, hj, ⟨hij, hw⟩, hc⟩
    · obtain ⟨_, ot, hot, hall⟩ := mem_ready.1 hr
      obtain ⟨o', ho', e, he, hb, hon⟩ := Region.waitsFor_spec h
      obtain rfl : o' = ot := Option.some.inj (ho'.symm.trans hot)
      have h2 := hall e he hb
      rw [hon, getD_both hiu] at h2
      exact Bool.noConfusion h2
    · obtain ⟨oj, hoj, e, he, hb, hon⟩ := Region.waitsFor_spec hw
      have hjs : j < listed.size := by rw [inv.size]; exact (Array.getElem?_eq_some_iff.1 hoj).1
      cases hl : listed.getD j false with
      | true =>
        have h2 := inv.closed j oj hoj hl e he hb
        rw [hon, getD_both hiu] at h2
        exact Bool.noConfusion h2
      | false => exact ih j hc (getD_in hjs hl) hr

theorem tail_plain {n i t : Nat} {oi : Oper} {listed : Array Bool} (hi : ops[i]? = some oi) (hB : tailB md ops n = true) (hin : i < n)
    (inv : HeadInv md ops n listed) (hiu : listed.getD i true = false)
    (hr : t ∈ Region.ready md ops listed) (ht : n ≤ t) : plainOp oi.op = true := by
  obtain rfl := tail_only hB inv hr ht
  simp only [tailB, Bool.and_eq_true, List.all_eq_true, List.mem_range, Bool.or_eq_true, decide_eq_true_eq] at hB
  rcases hB.1 i hin with h | h
  · simpa only [hi] using h
  · exact absurd hr (chain_waits inv _ _ h hiu)

theorem anyT_first {n g i : Nat} {oi : Oper} {v : Value} {Q : Exit → Act → World → Prop} {w0 : World} (hi : ops[i]? = some oi)
    (hsel : ∀ (j : Nat) (o : Oper) cs b, ops[j]? = some o → o.op ≠ .select cs b)
    (hB : tailB md ops n = true) (hin : i < n) (hC : C w0)
    (hQ : ∀ c (a : Act) d u w, Q (.panic c) (a.put d u) w → Q (.panic c) a w) :
    ∀ (f : Nat) (listed : Array Bool) (a : Act), HeadInv md ops n listed →
      (∀ j oj, ops[j]? = some oj → j ≠ i → listed.getD j true = false → (∀ e ∈ oj.after, Region.binds md e = true → e.on ≠ i) → oi.apart ops oj = true) →
      i ∈ Region.ready md ops listed → YieldsIn P ops C oi v a →
      anyT P md ops C Q n g f (listed.setIfInBounds i true) (a.put oi.dst v) → anyT P md ops C Q n g (f + 1) listed a := by
  have tailPart : ∀ (f : Nat) (listed : Array Bool) (a : Act), HeadInv md ops n listed →
      (∀ j oj, ops[j]? = some oj → j ≠ i → listed.getD j true = false → (∀ e ∈ oj.after, Region.binds md e = true → e.on ≠ i) → oi.apart ops oj = true) →
      i ∈ Region.ready md ops listed → YieldsIn P ops C oi v a →
      anyT P md ops C Q n g f (listed.setIfInBounds i true) (a.put oi.dst v) →
      ∀ j ∈ Region.ready md ops listed, n ≤ j → ∀ w, C w → wpOp P ops Q j (wpAny P md ops Q (f + g) (listed.setIfInBounds j true)) a w := by
    intro f listed a hun hfree hr hy H j hj hjn w hw
    have hp := tail_plain hi hB hin hun (mem_ready.1 hr).1 hj hjn
    have h1 := wpAny_first (Q := Q) hi hsel (fun c a w => hQ c a _ _ w) (f + g) listed a w hfree hr (plain_yields hp hC hy) (any_of_T f _ _ w hw H)
    exact h1.2 j hj
  intro f
  induction f with
  | zero =>
    intro listed a hun hfree hr hy H
    refine ⟨fun h => List.not_mem_nil (h ▸ hr), fun j hj => ⟨fun hjn => ?_, fun hjn => tailPart 0 listed a hun hfree hr hy H j hj hjn⟩⟩
    by_cases hji : j = i
    · subst hji; exact hy.qOp hi H
    · have h1 := H.1 j hjn
      rw [getD_set_ne true (Ne.symm hji), (mem_ready.1 hj).1] at h1
      exact Bool.noConfusion h1
  | succ f ih =>
    intro listed a hun hfree hr hy H
    refine ⟨fun h => List.not_mem_nil (h ▸ hr), fun j hj => ⟨fun hjn => ?_, fun hjn => tailPart (f + 1) listed a hun hfree hr hy H j hj hjn⟩⟩
    by_cases hji : j = i
    · subst hji; exact hy.qOp hi H
    · have h1 := (H.2 j (ready_mono hj hji)).1 hjn
      obtain ⟨hjun, oj, hoj, hall⟩ := mem_ready.1 hj
      have hnot : ∀ e ∈ oj.after, Region.binds md e = true → e.on ≠ i := fun e he hb heq => by
        have h3 := hall e he hb
        rw [heq, getD_both (mem_ready.1 hr).1] at h3
        exact Bool.noConfusion h3
      have h2 := qOp_put hoj (hfree j oj hoj hji hjun hnot) (fun cs b => hsel i oi cs b hi) (fun cs b => hsel j oj cs b hoj) hy h1
      refine qOp_mono (fun a' h3 => ih (listed.setIfInBounds j true) a' ?_ ?_ (ready_mono hr (Ne.symm hji)) h3.1 ?_) h2
      · exact hun.set hj hjn
      · intro k ok hk hki hku hno
        refine hfree k ok hk hki ?_ hno
        by_cases hjk : j = k
        · exact hjk ▸ hjun
        · rwa [getD_set_ne true hjk] at hku
      · rw [Array.setIfInBounds_comm _ _ hji]
        exact h3.2

def headB (md : Region.Mode) (ops : Array Oper) (g : Nat) : Nat → Nat → Array Bool → Bool
  | 0, k, listed => Region.seqB md ops g k listed
  | f + 1, k, listed => (Region.ready md ops listed).contains k && Region.free md ops listed k && headB md ops g f (k + 1) (listed.setIfInBounds k true)

theorem anyT_lex {n g : Nat} {Q : Exit → Act → World → Prop} {Lq : Act → Prop} {w0 : World} (hsel : Region.noSelect ops = true) (hB : tailB md ops n = true) (hC : C w0)
    (hQ : ∀ c (a : Act) d u w, Q (.panic c) (a.put d u) w → Q (.panic c) a w)
    (hL : ∀ listed a, Region.seqB md ops g n listed = true → Lq a → ∀ w, C w → wpAny P md ops Q g listed a w) :
    ∀ (l : List Oper) (k : Nat) (listed : Array Bool) (a : Act), (∀ j, j < l.length → l[j]? = ops[k + j]?) → k + l.length = n →
    HeadInv md ops n listed → (∀ t, t < k → listed.getD t true = true) →
    headB md ops g l.length k listed = true → wpQuiet P ops C Lq l a →
    anyT P md ops C Q n g l.length listed a := by
  intro l
  induction l with
  | nil =>
    intro k listed a _ hk _ hd hb h
    have hkn : k = n := by simpa using hk
    subst hkn
    exact ⟨hd, fun w hw => hL listed a (by simpa [headB] using hb) h w hw⟩
  | cons o l ih =>
    intro k listed a hl hk hun hd hb h
    have h0 : ops[k]? = some o := by simpa using (hl 0 (by simp)).symm
    simp only [List.length_cons, headB, Bool.and_eq_true] at hb hk
    obtain ⟨⟨hr, hf⟩, hb'⟩ := hb
    have hkn : k < n := by omega
    have hr' : k ∈ Region.ready md ops listed := by simpa using hr
    have hst : qOp P ops C k (wpQuiet P ops C Lq l) a := by unfold qOp; simp only [h0]; exact h
    obtain ⟨v, hy, hK⟩ := yieldsIn_of_qOp h0 hst
    refine anyT_first h0 (Region.noSelect_spec hsel) hB hkn hC hQ l.length listed a hun (Region.free_spec h0 hf) hr' hy
      (ih (k + 1) _ _ (fun j hj => ?_) (by omega) (hun.set hr' hkn) (fun t ht => ?_) hb' hK)
    · have h5 := hl (j + 1) (by simp; omega)
      simpa [Nat.add_assoc, Nat.add_comm 1 j] using h5
    · by_cases hkt : k = t
      · subst hkt
        rcases Nat.lt_or_ge k listed.size with h' | h'
        · simp [h']
        · simp [h']
      · rw [getD_set_ne true hkt]; exact hd t (by omega)

theorem wp_region_quiet_tail {id : Nat} {Q : Exit → Act → World → Prop} {a : Act} {w : World} {l : List Oper} (n : Nat)
    (hm : P.follows .mixedOrders = true)
    (hB : (Region.noSelect l.toArray && decide (n < l.length) && tailB .any l.toArray n && headB .any l.toArray (l.length - n) n 0 (Array.replicate l.length false)) = true)
    (hQ : ∀ c (a : Act) d u w, Q (.panic c) (a.put d u) w → Q (.panic c) a w) (hC : C w.drew)
    (h : wpQuiet P l.toArray C (fun a' => ∀ w', C w' → wpList P l.toArray Q (l.drop n) a' w') (l.take n) a) : (Code.region id l.toArray true).wp P Q a w := by
  simp only [Bool.and_eq_true, decide_eq_true_eq] at hB
  obtain ⟨⟨⟨hsel, hn⟩, hB⟩, hlex⟩ := hB
  have htl : (l.take n).length = n := by simp; omega
  have hdl : (l.drop n).length = l.length - n := by simp
  have H := anyT_lex (md := .any) (g := l.length - n) (Q := Q) hsel hB hC hQ (fun listed a' hs hL w' hw' => by
      have h6 := wpAny_of_seq (md := .any) (Q' := Q) (l.drop n) n listed a' w' (fun j => by simp [List.getElem?_drop]) (by rw [hdl]; exact hs) (hL w' hw')
      rwa [hdl] at h6) (l.take n) 0 (Array.replicate l.length false) a
    (fun j hj => by rw [htl] at hj; simp [hj]) (by simpa using htl) ⟨by simp, fun j oj _ hl => (by rw [getD_replicate_false] at hl; exact Bool.noConfusion hl), fun t _ ht => getD_in (by simpa using ht) (getD_replicate_false _ _)⟩ (fun t ht => absurd ht (Nat.not_lt_zero t)) (by rw [htl]; exact hlex) h
  refine wp_region_any hm ?_
  have H2 := any_of_T (n := n) (g := l.length - n) _ _ _ w.drew hC H
  rw [htl, show n + (l.length - n) = l.toArray.size by simp; omega] at H2
  simpa using H2
end tail

structure Gro where
  d : Nat
  os : Array Obj
  deriving Inhabited
def gw (w : World) (p : Gro) : World := { w with heap := w.heap ++ p.os, drawn := p.d }

@[go_sem] theorem gw_size (w : World) (p : Gro) : (gw w p).heap.size = w.heap.size + p.os.size := by simp [gw]
theorem gw_block (w : World) (p : Gro) {b : Nat} (h : b < w.heap.size) : (gw w p).heap[b]? = w.heap[b]? := by
  simp [gw, Array.getElem?_append, h]
@[go_sem] theorem gw_cell (w : World) (p : Gro) (b o : Nat) (h : b < w.heap.size) : (gw w p).cell? ⟨b, o, none⟩ = w.cell? ⟨b, o, none⟩ :=
  World.cell?_of_block (gw_block w p h)
@[go_sem] theorem gw_frozen (w : World) (p : Gro) (b o : Nat) (h : b < w.heap.size) : (gw w p).frozen? ⟨b, o, none⟩ = w.frozen? ⟨b, o, none⟩ :=
  World.frozen?_of_block (gw_block w p h)
@[go_sem] theorem gw_setCell (w : World) (p : Gro) (b o : Nat) (v : Value) (h : b < w.heap.size) :
    (gw w p).setCell ⟨b, o, none⟩ v = gw (w.setCell ⟨b, o, none⟩ v) p := by
  simp only [gw, World.setCell]
  congr 1
  apply Array.ext_getElem?
  intro k
  simp only [Array.getElem?_modify, Array.getElem?_append, Array.size_modify]
  by_cases hk : b = k
  · subst hk; simp [h]
  · simp [hk]
@[go_sem] theorem gw_drew (w : World) (p : Gro) : (gw w p).drew = gw w ⟨p.d + 1, p.os⟩ := rfl
@[go_sem] theorem gw_of_drew (w : World) (p : Gro) : gw w.drew p = gw w p := rfl
@[go_sem] theorem gw_gw (w : World) (p q : Gro) : gw (gw w p) q = gw w ⟨q.d, p.os ++ q.os⟩ := by simp [gw, Array.append_assoc]
theorem gw_below (w : World) (p : Gro) : Below w.heap.size w (gw w p) :=
  ⟨rfl, rfl, rfl, by simp [gw_size], fun k hk => gw_block w p hk⟩
theorem gw_of_below {w w' : World} (h : Below w.heap.size w w') : ∃ p : Gro, w' = gw w p := by
  obtain ⟨q, rfl⟩ := regrown_of_below h
  exact ⟨⟨q.d, q.os⟩, rfl⟩
@[go_sem] theorem lt_more1 {a b k0 : Nat} (h : a < b) : (a < b + k0) = True := by simp only [eq_iff_iff, iff_true]; omega
@[go_sem] theorem lt_more2 {a b k0 k1 : Nat} (h : a < b) : (a < b + k0 + k1) = True := by simp only [eq_iff_iff, iff_true]; omega
@[go_sem] theorem lt_more3 {a b k0 k1 k2 : Nat} (h : a < b) : (a < b + k0 + k1 + k2) = True := by simp only [eq_iff_iff, iff_true]; omega
@[go_sem] theorem lt_more4 {a b k0 k1 k2 k3 : Nat} (h : a < b) : (a < b + k0 + k1 + k2 + k3) = True := by simp only [eq_iff_iff, iff_true]; omega
@[go_sem] theorem lt_more5 {a b k0 k1 k2 k3 k4 : Nat} (h : a < b) : (a < b + k0 + k1 + k2 + k3 + k4) = True := by simp only [eq_iff_iff, iff_true]; omega
@[go_sem] theorem lt_more6 {a b k0 k1 k2 k3 k4 k5 : Nat} (h : a < b) : (a < b + k0 + k1 + k2 + k3 + k4 + k5) = True := by simp only [eq_iff_iff, iff_true]; omega
@[go_sem] theorem lt_more7 {a b k0 k1 k2 k3 k4 k5 k6 : Nat} (h : a < b) : (a < b + k0 + k1 + k2 + k3 + k4 + k5 + k6) = True := by simp only [eq_iff_iff, iff_true]; omega
@[go_sem] theorem lt_more8 {a b k0 k1 k2 k3 k4 k5 k6 k7 : Nat} (h : a < b) : (a < b + k0 + k1 + k2 + k3 + k4 + k5 + k6 + k7) = True := by simp only [eq_iff_iff, iff_true]; omega
@[go_sem] theorem lt_more9 {a b k0 k1 k2 k3 k4 k5 k6 k7 k8 : Nat} (h : a < b) : (a < b + k0 + k1 + k2 + k3 + k4 + k5 + k6 + k7 + k8) = True := by simp only [eq_iff_iff, iff_true]; omega
@[go_sem] theorem lt_more10 {a b k0 k1 k2 k3 k4 k5 k6 k7 k8 k9 : Nat} (h : a < b) : (a < b + k0 + k1 + k2 + k3 + k4 + k5 + k6 + k7 + k8 + k9) = True := by simp only [eq_iff_iff, iff_true]; omega
@[go_sem] theorem lt_more11 {a b k0 k1 k2 k3 k4 k5 k6 k7 k8 k9 k10 : Nat} (h : a < b) : (a < b + k0 + k1 + k2 + k3 + k4 + k5 + k6 + k7 + k8 + k9 + k10) = True := by simp only [eq_iff_iff, iff_true]; omega
@[go_sem] theorem lt_more12 {a b k0 k1 k2 k3 k4 k5 k6 k7 k8 k9 k10 k11 : Nat} (h : a < b) : (a < b + k0 + k1 + k2 + k3 + k4 + k5 + k6 + k7 + k8 + k9 + k10 + k11) = True := by simp only [eq_iff_iff, iff_true]; omega
@[go_sem] theorem lt_more13 {a b k0 k1 k2 k3 k4 k5 k6 k7 k8 k9 k10 k11 k12 : Nat} (h : a < b) : (a < b + k0 + k1 + k2 + k3 + k4 + k5 + k6 + k7 + k8 + k9 + k10 + k11 + k12) = True := by simp only [eq_iff_iff, iff_true]; omega
@[go_sem] theorem lt_more14 {a b k0 k1 k2 k3 k4 k5 k6 k7 k8 k9 k10 k11 k12 k13 : Nat} (h : a < b) : (a < b + k0 + k1 + k2 + k3 + k4 + k5 + k6 + k7 + k8 + k9 + k10 + k11 + k12 + k13) = True := by simp only [eq_iff_iff, iff_true]; omega
@[go_sem] theorem ne_more {a b k : Nat} (h : a < b) : (a = b + k) = False := by simp only [eq_iff_iff, iff_false]; omega
@[go_sem] theorem ne_more' {a b k : Nat} (h : a < b) : (b + k = a) = False := by simp only [eq_iff_iff, iff_false]; omega

def Ret (w : World) (v : Value) (e : Ending) (w' : World) : Prop := e = .returned v ∧ ∃ p : Gro, w' = gw w p
theorem Ret.of' {w w' : World} {v : Value} {e : Ending} (he : e = .returned v) (h : Below w.heap.size w w') : Ret w v e w' := ⟨he, gw_of_below h⟩
theorem Ret.of {w w' : World} {v : Value} (h : Below w.heap.size w w') : Ret w v (.returned v) w' := ⟨rfl, gw_of_below h⟩
theorem gw_one (w : World) : ∃ p : Gro, w.drew = gw w p := ⟨⟨w.drawn + 1, #[]⟩, by unfold gw; rw [Array.append_empty]; rfl⟩
theorem wp_quiet_tail {P : Program} {id : Nat} {Q : Exit → Act → World → Prop} {a : Act} {w : World} {l : List Oper} (n : Nat) (hm : P.follows .mixedOrders = true)
    (hB : (Region.noSelect l.toArray && decide (n < l.length) && tailB .any l.toArray n && headB .any l.toArray (l.length - n) n 0 (Array.replicate l.length false)) = true)
    (hQ : ∀ c (a : Act) d u w, Q (.panic c) (a.put d u) w → Q (.panic c) a w)
    (h : wpQuiet P l.toArray (fun w' => ∃ p : Gro, w' = gw w p) (fun a' => ∀ p : Gro, wpList P l.toArray Q (l.drop n) a' (gw w p)) (l.take n) a) : (Code.region id l.toArray true).wp P Q a w :=
  wp_region_quiet_tail (C := fun w' => ∃ p : Gro, w' = gw w p) n hm hB hQ (gw_one w) (by
    have e : (fun a' => ∀ p : Gro, wpList P l.toArray Q (l.drop n) a' (gw w p)) = fun a' => ∀ w', (∃ p : Gro, w' = gw w p) → wpList P l.toArray Q (l.drop n) a' w' := by
      funext a'; apply propext; exact ⟨fun h w' ⟨p, hp⟩ => hp ▸ h p, fun h p => h _ ⟨p, rfl⟩⟩
    rw [e] at h; exact h)

abbrev WV (a : Nat) : Value := .agg #[.int .u64 (lm a 0 : Nat), .int .u64 (lm a 1 : Nat), .int .u64 (lm a 2 : Nat), .int .u64 (lm a 3 : Nat)]
attribute [go_sem] lm_lt lo_lt
theorem below_gw {B : Nat} {a w : World} (h : Below B a w) (hB : B ≤ w.heap.size) (p : Gro) : Below B a (gw w p) := h.trans ((gw_below w p).mono hB)
theorem calls_ret {P : Program} {f : FuncId} {args : Array Value} {w : World} {v : Value} {R : Ending → World → Prop}
    (h : Calls P f args w (Ret w v)) (k : ∀ p, R (.returned v) (gw w p)) : Calls P f args w R :=
  h.mono fun e w' ⟨he, p, hp⟩ => by subst he; subst hp; exact k p
section
variable {P : Program}
theorem part_int {k : IntKind} {e : TypeId} (he : P.underlying e = some (.int k)) (w : World) (xs : List Int) (i : Nat) (h : i < xs.length) :
    (part e (xs.map (Value.int k)).toArray i).run P w = .ok (.int k xs[i]) w := by
  have ha : (isAgg e).run P w = .ok false w := by unfold isAgg; simp [run_underlying he, go_sem]
  unfold part
  simp [ha, go_sem, h]
theorem eqArr_loop {k : IntKind} {e : TypeId} (he : P.underlying e = some (.int k)) (d : Nat) (w : World) (xs ys : List Int) :
    ∀ (n i : Nat), i + n ≤ xs.length → i + n ≤ ys.length →
    Sem.run P (forIn (List.range' i n) ((none : Option Bool), ()) fun i __s => do
        if !(← Op.equalIn (d + 1) e (← part e (xs.map (Value.int k)).toArray i) (← part e (ys.map (Value.int k)).toArray i)) then pure (ForInStep.done (some false, ())) else pure (ForInStep.yield (none, ()))) w =
      .ok (if (xs.drop i).take n == (ys.drop i).take n then (none, ()) else (some false, ())) w := by
  intro n
  induction n with
  | zero => intro i _ _; simp [go_sem]
  | succ n ih =>
    intro i hx hy
    have hx' : i < xs.length := by omega
    have hy' : i < ys.length := by omega
    rw [List.range'_succ, List.forIn_cons, List.drop_eq_getElem_cons hx', List.drop_eq_getElem_cons hy', List.take_succ_cons, List.take_succ_cons]
    simp only [Sem.run_bind, part_int he w xs i hx', part_int he w ys i hy', Result.andThen_ok, run_equalIn_int w d e k k _ _ he]
    by_cases hq : xs[i] = ys[i]
    · simp only [hq, beq_self_eq_true, Bool.not_true, Bool.false_eq_true, if_false, Sem.run_pure, Result.andThen_ok]
      rw [ih (i + 1) (by omega) (by omega)]
      simp
    · have hb : (xs[i] == ys[i]) = false := by simpa using hq
      simp [hb, go_sem]
theorem eqArr {k : IntKind} {t e : TypeId} (n : Nat) (ht : P.underlying t = some (.array n e)) (he : P.underlying e = some (.int k)) (hs : ∀ w, (sizeOf e).run P w = .ok 1 w)
    (w : World) (xs ys : List Int) (hx : xs.length = n) (hy : ys.length = n) :
    (Op.equalIn 10000 t (.agg (xs.map (Value.int k)).toArray) (.agg (ys.map (Value.int k)).toArray)).run P w = .ok (xs == ys) w := by
  rw [show (10000 : Nat) = 9998 + 1 + 1 from rfl, Op.equalIn]
  simp only [Sem.run_bind, run_underlying ht, Result.andThen_ok, hs, Nat.mul_one]
  simp only [Std.Legacy.Range.forIn_eq_forIn_range', Std.Legacy.Range.size]
  rw [show (n - 0 + 1 - 1) / 1 = n by simp, eqArr_loop he 9998 w xs ys n 0 (by omega) (by omega)]
  have e1 : List.take n (List.drop 0 xs) = xs := by rw [List.drop_zero, ← hx, List.take_length]
  have e2 : List.take n (List.drop 0 ys) = ys := by rw [List.drop_zero, ← hy, List.take_length]
  rw [e1, e2]
  cases hq : xs == ys <;> simp [go_sem]
end
theorem size22 (w : World) : (sizeOf 34).run Try.prog w = .ok 1 w := by kernel_rfl
theorem eqlW (x0 x1 x2 x3 y0 y1 y2 y3 : Int) (w : World) :
    (Op.equalIn 10000 36 (.agg #[.int .u64 x0, .int .u64 x1, .int .u64 x2, .int .u64 x3]) (.agg #[.int .u64 y0, .int .u64 y1, .int .u64 y2, .int .u64 y3])).run Try.prog w =
      .ok (x0 == y0 && x1 == y1 && x2 == y2 && x3 == y3) w := by
  have h := eqArr (P := Try.prog) 4 Try.underlying36 Try.underlying34 size22 w [x0, x1, x2, x3] [y0, y1, y2, y3] rfl rfl
  simpa [Bool.and_assoc] using h
@[go_sem] theorem eqlWV (a b : Nat) (w : World) : (Op.equalIn 10000 36 (WV a) (WV b)).run Try.prog w = .ok (decide (a % W = b % W)) w := by
  rw [eqlW]
  congr 1
  rw [Bool.eq_iff_iff]
  simp only [Bool.and_eq_true, beq_iff_eq, decide_eq_true_iff]
  constructor
  · rintro ⟨⟨⟨h0, h1⟩, h2⟩, h3⟩
    refine eq_of_lm (Nat.mod_lt _ (by decide)) (Nat.mod_lt _ (by decide)) ?_ ?_ ?_ ?_ <;> rw [lm_mod _ _ (by decide), lm_mod _ _ (by decide)] <;> omega
  · intro h
    have e : ∀ i, i < 4 → lm a i = lm b i := fun i hi => by rw [← lm_mod a i hi, ← lm_mod b i hi, h]
    refine ⟨⟨⟨?_, ?_⟩, ?_⟩, ?_⟩ <;> exact_mod_cast e _ (by decide)
end Go.Proofs.Ytdanlclhnehieaa
