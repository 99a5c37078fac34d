/-
  A symbolic walk of my own: a region whose order is drawn. What only reads comes first; calls come one behind the other; new variables may come at any time; the tail is forced.
-/
import Derived.Test.YtkljpgdcmahenaaED
import Derived.StillTailTactics
import Derived.OrdersHeld
namespace Go.Proofs.Ytkljpgdcmahenaa
set_option linter.unusedSimpArgs false
set_option linter.unusedVariables false
open Go.RowKit

/-- An operation that looks at no world. -/
def ePlain : Op → Bool
  | .move _ => true
  | .assign _ => true
  | .pick _ _ _ => true
  | .binOp _ _ _ _ _ => true
  | .unOp _ _ _ => true
  | .extract _ _ => true
  | .nilCheck _ => true
  | .makeFunc _ _ _ => true
  | _ => false
theorem dplain_run {P : Program} {T : Tab} (hT : TabOk P T) {env : List SV} {m : List Blk} {o : Oper} (hpl : ePlain o.op = true) {p : Prop} {v : SV} (h : dstep T env m o = some (p, v)) (hp : p)
    {a : Act} (hf : Fr env a) (w : World) : (execOp a.eval o).run P w = .ok (.value (cv v)) w := by
  obtain ⟨dst, op, type, pos, after, guard⟩ := o
  have hm : MemOk w [] [] w := MemOk.start w
  have key : dstep T env [] ⟨dst, op, type, pos, after, guard⟩ = some (p, v) := by
    cases op <;> first | exact Bool.noConfusion hpl | exact h
  exact dstep_sound hT key hp hf hm
section
variable {P : Program} {ops : Array Oper} {md : Region.Mode}
/-- Operation n waits for i, or for one that does. -/
def eChain (md : Region.Mode) (ops : Array Oper) (n : Nat) : Nat → Nat → Bool
  | 0, _ => false
  | f + 1, i => Region.waitsFor md ops n i || (List.range n).any fun j => decide (i < j) && Region.waitsFor md ops j i && eChain md ops n f j
/-- Operation n waits for each of the first n that is not plain; each behind it waits for the one ahead. -/
def eTail (md : Region.Mode) (ops : Array Oper) (n : Nat) : Bool :=
  (decide (ops.size ≤ n) || (List.range n).all fun i => (match ops[i]? with | some o => ePlain o.op | none => false) || eChain md ops n n i) &&
  ((List.range ops.size).all fun t => decide (t ≤ n) || Region.waitsFor md ops t (t - 1))

theorem e_tail_only {n t : Nat} {listed : Array Bool} (hB : eTail md ops n = true) (inv : HeadInv md ops n listed)
    (hr : t ∈ Region.ready md ops listed) (ht : n ≤ t) : t = n := by
  simp only [eTail, Bool.and_eq_true, List.all_eq_true, List.mem_range, Bool.or_eq_true, decide_eq_true_eq] at hB
  obtain ⟨_, ot, hot, hall⟩ := mem_ready.1 hr
  have htl : t < ops.size := (Array.getElem?_eq_some_iff.1 hot).1
  rcases hB.2 t htl with h | h
  · omega
  · by_cases htn : t = n
    · exact htn
    · obtain ⟨o', ho', e, he, hb, hon⟩ := Region.waitsFor_spec h
      obtain rfl : o' = ot := Option.some.inj (ho'.symm.trans hot)
      have h2 := hall e he hb
      rw [hon, getD_both (inv.tail (t - 1) (by omega) (by omega))] at h2
      exact Bool.noConfusion h2

theorem e_chain_waits {n : Nat} {listed : Array Bool} (inv : HeadInv md ops n listed) : ∀ (f i : Nat), eChain md ops n f i = true → listed.getD i true = false →
    n ∉ Region.ready md ops listed := by
  intro f
  induction f with
  | zero => intro i h; exact Bool.noConfusion h
  | succ f ih =>
    intro i h hiu hr
    simp only [eChain, Bool.or_eq_true, List.any_eq_true, List.mem_range, Bool.and_eq_true, decide_eq_true_eq] at h
    rcases h with h | ⟨j, hj, ⟨hij, hw⟩, hc⟩
    · obtain ⟨_, ot, hot, hall⟩ := mem_ready.1 hr
      obtain ⟨o', ho', e, he, hb, hon⟩ := Region.waitsFor_spec h
      obtain rfl : o' = ot := Option.some.inj (ho'.symm.trans hot)
      have h2 := hall e he hb
      rw [hon, getD_both hiu] at h2
      exact Bool.noConfusion h2
    · obtain ⟨oj, hoj, e, he, hb, hon⟩ := Region.waitsFor_spec hw
      have hjs : j < listed.size := by rw [inv.size]; exact (Array.getElem?_eq_some_iff.1 hoj).1
      cases hl : listed.getD j false with
      | true =>
        have h2 := inv.closed j oj hoj hl e he hb
        rw [hon, getD_both hiu] at h2
        exact Bool.noConfusion h2
      | false => exact ih j hc (getD_in hjs hl) hr

theorem e_tail_plain {n i t : Nat} {oi : Oper} {listed : Array Bool} (hi : ops[i]? = some oi) (hB : eTail md ops n = true) (hin : i < n)
    (inv : HeadInv md ops n listed) (hiu : listed.getD i true = false)
    (hr : t ∈ Region.ready md ops listed) (ht : n ≤ t) : ePlain oi.op = true := by
  have hns : ¬ ops.size ≤ n := by
    obtain ⟨_, ot, hot, _⟩ := mem_ready.1 hr
    have := (Array.getElem?_eq_some_iff.1 hot).1
    omega
  obtain rfl := e_tail_only hB inv hr ht
  simp only [eTail, Bool.and_eq_true, List.all_eq_true, List.mem_range, Bool.or_eq_true, decide_eq_true_eq] at hB
  rcases (hB.1.resolve_left hns) i hin with h | h
  · simpa only [hi] using h
  · exact absurd hr (e_chain_waits inv _ _ h hiu)


def anyV (P : Program) (md : Region.Mode) (ops : Array Oper) (Q : Exit → Act → World → Prop) (n g : Nat) : Nat → Array Bool → Act → (World → Prop) → Prop
  | 0, listed, a, F => (∀ k, k < n → listed.getD k true = true) ∧ ∀ w, F w → wpAny P md ops Q g listed a w
  | f + 1, listed, a, F => Region.ready md ops listed ≠ [] ∧ ∀ j ∈ Region.ready md ops listed,
      (j < n → ∀ w, F w → wpOp P ops Q j (fun a' w' => ∃ F' : World → Prop, (∀ w, F' w → F w) ∧ F' w' ∧ anyV P md ops Q n g f (listed.setIfInBounds j true) a' F') a w) ∧
      (n ≤ j → ∀ w, F w → wpOp P ops Q j (wpAny P md ops Q (f + g) (listed.setIfInBounds j true)) a w)
theorem any_of_V {Q : Exit → Act → World → Prop} {n g : Nat} : ∀ (f : Nat) (listed : Array Bool) (a : Act) (F : World → Prop) (w : World), F w → anyV P md ops Q n g f listed a F → wpAny P md ops Q (f + g) listed a w
  | 0, listed, a, F, w, hw, h => by rw [Nat.zero_add]; exact h.2 w hw
  | f + 1, listed, a, F, w, hw, h => by
    rw [show f + 1 + g = (f + g) + 1 by omega]
    refine ⟨fun h0 => absurd h0 h.1, fun j hj => ?_⟩
    obtain ⟨h1, h2⟩ := h.2 j hj
    by_cases hjn : j < n
    · exact wpOp_mono (fun a' w' ⟨F', _, hF', h3⟩ => any_of_V f _ _ F' w' hF' h3) (h1 hjn w hw)
    · exact h2 (by omega) w hw
theorem yields_plain {o : Oper} {v : Value} {a : Act} {F : World → Prop} (hp : ePlain o.op = true) (hy : YieldsIf P ops (fun w => F w ∨ ePlain o.op = true) o v a) : Yields P ops o v a :=
  hy.imp (fun ⟨x, y⟩ => ⟨x, fun w => y w (.inr hp)⟩) id
theorem anyV_first {Q : Exit → Act → World → Prop} {n g i : Nat} {oi : Oper} {v : Value} (hi : ops[i]? = some oi) (hsel : ∀ (j : Nat) (o : Oper) cs b, ops[j]? = some o → o.op ≠ .select cs b)
    (hB : eTail md ops n = true) (hin : i < n) (hQ : ∀ c (a : Act) d u w, Q (.panic c) (a.put d u) w → Q (.panic c) a w) :
    ∀ (f : Nat) (listed : Array Bool) (a : Act) (F : World → Prop), HeadInv md ops n listed →
      (∀ j oj, ops[j]? = some oj → j ≠ i → listed.getD j true = false → (∀ e ∈ oj.after, Region.binds md e = true → e.on ≠ i) → oi.apart ops oj = true) →
      i ∈ Region.ready md ops listed → YieldsIf P ops (fun w => F w ∨ ePlain oi.op = true) oi v a →
      anyV P md ops Q n g f (listed.setIfInBounds i true) (a.put oi.dst v) F → anyV P md ops Q n g (f + 1) listed a F := by
  intro f
  induction f with
  | zero =>
    intro listed a F inv hfree hr hy H
    refine ⟨fun h => List.not_mem_nil (h ▸ hr), fun j hj => ⟨fun hjn w hw => ?_, fun hjn w hw => ?_⟩⟩
    · by_cases hji : j = i
      · subst hji; exact hy.wpOp hi (.inl hw) ⟨F, fun _ h => h, hw, H⟩
      · have h1 := H.1 j hjn
        rw [getD_set_ne true (Ne.symm hji), (mem_ready.1 hj).1] at h1
        exact Bool.noConfusion h1
    · have hp := e_tail_plain hi hB hin inv (mem_ready.1 hr).1 hj hjn
      exact (wpAny_first (Q := Q) hi hsel (fun c a w => hQ c a _ _ w) (0 + g) listed a w hfree hr (yields_plain hp hy) (any_of_V 0 _ _ F w hw H)).2 j hj
  | succ f ih =>
    intro listed a F inv hfree hr hy H
    have hnot : ∀ j oj, ops[j]? = some oj → j ∈ Region.ready md ops listed → ∀ e ∈ oj.after, Region.binds md e = true → e.on ≠ i := fun j oj hoj hj e he hb heq => by
      obtain ⟨_, oj', hoj', hall⟩ := mem_ready.1 hj
      obtain rfl : oj = oj' := Option.some.inj (hoj.symm.trans hoj')
      have h3 := hall e he hb
      rw [heq, getD_both (mem_ready.1 hr).1] at h3
      exact Bool.noConfusion h3
    refine ⟨fun h => List.not_mem_nil (h ▸ hr), fun j hj => ⟨fun hjn w hw => ?_, fun hjn w hw => ?_⟩⟩
    · by_cases hji : j = i
      · subst hji; exact hy.wpOp hi (.inl hw) ⟨F, fun _ h => h, hw, H⟩
      · have h1 := (H.2 j (ready_mono hj hji)).1 hjn w hw
        obtain ⟨hjun, oj, hoj, hall⟩ := mem_ready.1 hj
        have h2 := wpOp_putIf hoj (hfree j oj hoj hji hjun (hnot j oj hoj hj)) (fun cs b => hsel i oi cs b hi) (fun cs b => hsel j oj cs b hoj) (fun c a w => hQ c a _ _ w) hy h1
        refine wpOp_mono (fun a' w' ⟨hy', F', hF1, hF2, h3⟩ => ⟨F', hF1, hF2, ih (listed.setIfInBounds j true) a' F' (inv.set hj hjn) ?_ (ready_mono hr (Ne.symm hji)) ?_ ?_⟩) h2
        · intro k ok hk hki hku hno
          refine hfree k ok hk hki ?_ hno
          by_cases hjk : j = k
          · exact hjk ▸ hjun
          · rwa [getD_set_ne true hjk] at hku
        · exact hy'.imp (fun ⟨x, y⟩ => ⟨x, fun w hw => y w (hw.imp (hF1 w) id)⟩) id
        · rw [Array.setIfInBounds_comm _ _ hji]; exact h3
    · have hp := e_tail_plain hi hB hin inv (mem_ready.1 hr).1 hj hjn
      exact (wpAny_first (Q := Q) hi hsel (fun c a w => hQ c a _ _ w) (f + 1 + g) listed a w hfree hr (yields_plain hp hy) (any_of_V (f + 1) _ _ F w hw H)).2 j hj
end
end Go.Proofs.Ytkljpgdcmahenaa
