/-
  A symbolic walk of my own: a region whose order is drawn. What only reads comes first; calls come one behind the other; new variables may come at any time; the tail is forced.
-/
import Derived.Test.YtdanlclhnehieaaEB
import Derived.StillTailTactics
import Derived.OrdersHeld
namespace Go.Proofs.Ytdanlclhnehieaa
set_option linter.unusedSimpArgs false
set_option linter.unusedVariables false
open Go.RowKit

def ePlain : Op → Bool
  | .move _ => true
  | .assign _ => true
  | .pick _ _ _ => true
  | .binOp _ _ _ _ _ => true
  | .unOp _ _ _ => true
  | .extract _ _ => true
  | .nilCheck _ => true
  | .makeFunc _ _ _ => true
  | .index _ _ _ => true
  | .fieldAddr _ _ _ => true
  | .makeInterface _ _ => true
  | .call { callee := .builtin .len, .. } => true
  | _ => false
theorem dplain_run {P : Program} {T : Tab} (hT : TabOk P T) {env : List SV} {m : List Blk} {o : Oper} (hpl : ePlain o.op = true) {p : Prop} {v : SV} (h : dstep T env m o = some (p, v)) (hp : p)
    {a : Act} (hf : Fr env a) (w : World) : (execOp a.eval o).run P w = .ok (.value (cv v)) w := by
  obtain ⟨dst, op, type, pos, after, guard⟩ := o
  have hm : MemOk w [] [] w := MemOk.start w
  have key : dstep T env [] ⟨dst, op, type, pos, after, guard⟩ = some (p, v) := by
    cases op with
    | call c =>
      obtain ⟨callee, args, ts⟩ := c
      cases callee <;> first | exact Bool.noConfusion hpl | exact h
    | _ => first | exact Bool.noConfusion hpl | exact h
  exact dstep_sound hT key hp hf hm
section
variable {P : Program} {ops : Array Oper} {md : Region.Mode}
def eChain (md : Region.Mode) (ops : Array Oper) (n : Nat) : Nat → Nat → Bool
  | 0, _ => false
  | f + 1, i => Region.waitsFor md ops n i || (List.range n).any fun j => decide (i < j) && Region.waitsFor md ops j i && eChain md ops n f j
def eTail (md : Region.Mode) (ops : Array Oper) (n : Nat) : Bool :=
  (decide (ops.size ≤ n) || (List.range n).all fun i => (match ops[i]? with | some o => ePlain o.op | none => false) || eChain md ops n n i) &&
  ((List.range ops.size).all fun t => decide (t ≤ n) || Region.waitsFor md ops t (t - 1))

theorem e_tail_only {n t : Nat} {listed : Array Bool} (hB : eTail md ops n = true) (inv : HeadInv md ops n listed)
    (hr : t ∈ Region.ready md ops listed) (ht : n ≤ t) : t = n := by
  simp only [eTail, Bool.and_eq_true, List.all_eq_true, List.mem_range, Bool.or_eq_true, decide_eq_true_eq] at hB
  obtain ⟨_, ot, hot, hall⟩ := mem_ready.1 hr
  have htl : t < ops.size := (Array.getElem?_eq_some_iff.1 hot).1
  rcases hB.2 t htl with h | h
  · omega
  · by_cases htn : t = n
    · exact htn
    · obtain ⟨o', ho', e, he, hb, hon⟩ := Region.waitsFor_spec h
      obtain rfl : o' = ot := Option.some.inj (ho'.symm.trans hot)
      have h2 := hall e he hb
      rw [hon, getD_both (inv.tail (t - 1) (by omega) (by omega))] at h2
      exact Bool.noConfusion h2

theorem e_chain_waits {n : Nat} {listed : Array Bool} (inv : HeadInv md ops n listed) : ∀ (f i : Nat), eChain md ops n f i = true → listed.getD i true = false →
    n ∉ Region.ready md ops listed := by
  intro f
  induction f with
  | zero => intro i h; exact Bool.noConfusion h
  | succ f ih =>
    intro i h hiu hr
    simp only [eChain, Bool.or_eq_true, List.any_eq_true, List.mem_range, Bool.and_eq_true, decide_eq_true_eq] at h
    rcases h with h | ⟨j, hj, ⟨hij, hw⟩, hc⟩
    · obtain ⟨_, ot, hot, hall⟩ := mem_ready.1 hr
      obtain ⟨o', ho', e, he, hb, hon⟩ := Region.waitsFor_spec h
      obtain rfl : o' = ot := Option.some.inj (ho'.symm.trans hot)
      have h2 := hall e he hb
      rw [hon, getD_both hiu] at h2
      exact Bool.noConfusion h2
    · obtain ⟨oj, hoj, e, he, hb, hon⟩ := Region.waitsFor_spec hw
      have hjs : j < listed.size := by rw [inv.size]; exact (Array.getElem?_eq_some_iff.1 hoj).1
      cases hl : listed.getD j false with
      | true =>
        have h2 := inv.closed j oj hoj hl e he hb
        rw [hon, getD_both hiu] at h2
        exact Bool.noConfusion h2
      | false => exact ih j hc (getD_in hjs hl) hr

theorem e_tail_plain {n i t : Nat} {oi : Oper} {listed : Array Bool} (hi : ops[i]? = some oi) (hB : eTail md ops n = true) (hin : i < n)
    (inv : HeadInv md ops n listed) (hiu : listed.getD i true = false)
    (hr : t ∈ Region.ready md ops listed) (ht : n ≤ t) : ePlain oi.op = true := by
  have hns : ¬ ops.size ≤ n := by
    obtain ⟨_, ot, hot, _⟩ := mem_ready.1 hr
    have := (Array.getElem?_eq_some_iff.1 hot).1
    omega
  obtain rfl := e_tail_only hB inv hr ht
  simp only [eTail, Bool.and_eq_true, List.all_eq_true, List.mem_range, Bool.or_eq_true, decide_eq_true_eq] at hB
  rcases (hB.1.resolve_left hns) i hin with h | h
  · simpa only [hi] using h
  · exact absurd hr (e_chain_waits inv _ _ h hiu)


def anyV (P : Program) (md : Region.Mode) (ops : Array Oper) (Q : Exit → Act → World → Prop) (n g : Nat) : Nat → Array Bool → Act → (World → Prop) → Prop
  | 0, listed, a, F => (∀ k, k < n → listed.getD k true = true) ∧ ∀ w, F w → wpAny P md ops Q g listed a w
  | f + 1, listed, a, F => Region.ready md ops listed ≠ [] ∧ ∀ j ∈ Region.ready md ops listed,
      (j < n → ∀ w, F w → wpOp P ops Q j (fun a' w' => ∃ F' : World → Prop, (∀ w, F' w → F w) ∧ F' w' ∧ anyV P md ops Q n g f (listed.setIfInBounds j true) a' F') a w) ∧
      (n ≤ j → ∀ w, F w → wpOp P ops Q j (wpAny P md ops Q (f + g) (listed.setIfInBounds j true)) a w)
theorem any_of_V {Q : Exit → Act → World → Prop} {n g : Nat} : ∀ (f : Nat) (listed : Array Bool) (a : Act) (F : World → Prop) (w : World), F w → anyV P md ops Q n g f listed a F → wpAny P md ops Q (f + g) listed a w
  | 0, listed, a, F, w, hw, h => by rw [Nat.zero_add]; exact h.2 w hw
  | f + 1, listed, a, F, w, hw, h => by
    rw [show f + 1 + g = (f + g) + 1 by omega]
    refine ⟨fun h0 => absurd h0 h.1, fun j hj => ?_⟩
    obtain ⟨h1, h2⟩ := h.2 j hj
    by_cases hjn : j < n
    · exact wpOp_mono (fun a' w' ⟨F', _, hF', h3⟩ => any_of_V f _ _ F' w' hF' h3) (h1 hjn w hw)
    · exact h2 (by omega) w hw
theorem yields_plain {o : Oper} {v : Value} {a : Act} {F : World → Prop} (hp : ePlain o.op = true) (hy : YieldsIf P ops (fun w => F w ∨ ePlain o.op = true) o v a) : Yields P ops o v a :=
  hy.imp (fun ⟨x, y⟩ => ⟨x, fun w => y w (.inr hp)⟩) id
theorem anyV_first {Q : Exit → Act → World → Prop} {n g i : Nat} {oi : Oper} {v : Value} (hi : ops[i]? = some oi) (hsel : ∀ (j : Nat) (o : Oper) cs b, ops[j]? = some o → o.op ≠ .select cs b)
    (hB : eTail md ops n = true) (hin : i < n) (hQ : ∀ c (a : Act) d u w, Q (.panic c) (a.put d u) w → Q (.panic c) a w) :
    ∀ (f : Nat) (listed : Array Bool) (a : Act) (F : World → Prop), HeadInv md ops n listed →
      (∀ j oj, ops[j]? = some oj → j ≠ i → listed.getD j true = false → (∀ e ∈ oj.after, Region.binds md e = true → e.on ≠ i) → oi.apart ops oj = true) →
      i ∈ Region.ready md ops listed → YieldsIf P ops (fun w => F w ∨ ePlain oi.op = true) oi v a →
      anyV P md ops Q n g f (listed.setIfInBounds i true) (a.put oi.dst v) F → anyV P md ops Q n g (f + 1) listed a F := by
  intro f
  induction f with
  | zero =>
    intro listed a F inv hfree hr hy H
    refine ⟨fun h => List.not_mem_nil (h ▸ hr), fun j hj => ⟨fun hjn w hw => ?_, fun hjn w hw => ?_⟩⟩
    · by_cases hji : j = i
      · subst hji; exact hy.wpOp hi (.inl hw) ⟨F, fun _ h => h, hw, H⟩
      · have h1 := H.1 j hjn
        rw [getD_set_ne true (Ne.symm hji), (mem_ready.1 hj).1] at h1
        exact Bool.noConfusion h1
    · have hp := e_tail_plain hi hB hin inv (mem_ready.1 hr).1 hj hjn
      exact (wpAny_first (Q := Q) hi hsel (fun c a w => hQ c a _ _ w) (0 + g) listed a w hfree hr (yields_plain hp hy) (any_of_V 0 _ _ F w hw H)).2 j hj
  | succ f ih =>
    intro listed a F inv hfree hr hy H
    have hnot : ∀ j oj, ops[j]? = some oj → j ∈ Region.ready md ops listed → ∀ e ∈ oj.after, Region.binds md e = true → e.on ≠ i := fun j oj hoj hj e he hb heq => by
      obtain ⟨_, oj', hoj', hall⟩ := mem_ready.1 hj
      obtain rfl : oj = oj' := Option.some.inj (hoj.symm.trans hoj')
      have h3 := hall e he hb
      rw [heq, getD_both (mem_ready.1 hr).1] at h3
      exact Bool.noConfusion h3
    refine ⟨fun h => List.not_mem_nil (h ▸ hr), fun j hj => ⟨fun hjn w hw => ?_, fun hjn w hw => ?_⟩⟩
    · by_cases hji : j = i
      · subst hji; exact hy.wpOp hi (.inl hw) ⟨F, fun _ h => h, hw, H⟩
      · have h1 := (H.2 j (ready_mono hj hji)).1 hjn w hw
        obtain ⟨hjun, oj, hoj, hall⟩ := mem_ready.1 hj
        have h2 := wpOp_putIf hoj (hfree j oj hoj hji hjun (hnot j oj hoj hj)) (fun cs b => hsel i oi cs b hi) (fun cs b => hsel j oj cs b hoj) (fun c a w => hQ c a _ _ w) hy h1
        refine wpOp_mono (fun a' w' ⟨hy', F', hF1, hF2, h3⟩ => ⟨F', hF1, hF2, ih (listed.setIfInBounds j true) a' F' (inv.set hj hjn) ?_ (ready_mono hr (Ne.symm hji)) ?_ ?_⟩) h2
        · intro k ok hk hki hku hno
          refine hfree k ok hk hki ?_ hno
          by_cases hjk : j = k
          · exact hjk ▸ hjun
          · rwa [getD_set_ne true hjk] at hku
        · exact hy'.imp (fun ⟨x, y⟩ => ⟨x, fun w hw => y w (hw.imp (hF1 w) id)⟩) id
        · rw [Array.setIfInBounds_comm _ _ hji]; exact h3
    · have hp := e_tail_plain hi hB hin inv (mem_ready.1 hr).1 hj hjn
      exact (wpAny_first (Q := Q) hi hsel (fun c a w => hQ c a _ _ w) (f + 1 + g) listed a w hfree hr (yields_plain hp hy) (any_of_V (f + 1) _ _ F w hw H)).2 j hj
end
end Go.Proofs.Ytdanlclhnehieaa

/-
  A symbolic walk of my own: the walk over a region whose order is drawn.
-/
namespace Go.Proofs.Ytdanlclhnehieaa
set_option linter.unusedSimpArgs false
set_option linter.unusedVariables false
open Go.RowKit

structure AlD where
  j : Nat
  d : Tmp
  t : TypeId
  c : Con
def putAl (β : Nat → Nat) (L : Nat → Bool) : List AlD → Act → Act
  | [], a => a
  | x :: r, a => putAl β L r (match L x.j with | true => a.put (some x.d) (.pointer (some ⟨β x.j, 0, none⟩)) | false => a)
def blkA (β : Nat → Nat) (L : Nat → Bool) : List AlD → List Blk
  | [] => []
  | x :: r => match L x.j with | true => .blk (β x.j) x.t x.c :: blkA β L r | false => blkA β L r
theorem putAl_put {β : Nat → Nat} {L : Nat → Bool} {d : Option Tmp} {v : Value} : ∀ {AL : List AlD} {a : Act}, (∀ x ∈ AL, d ≠ some x.d) → putAl β L AL (a.put d v) = (putAl β L AL a).put d v
  | [], _, _ => rfl
  | x :: r, a, h => by
    have hx := h x List.mem_cons_self
    have hr : ∀ y ∈ r, d ≠ some y.d := fun y hy => h y (List.mem_cons_of_mem _ hy)
    simp only [putAl]
    cases hL : L x.j with
    | true =>
      dsimp only
      rw [Act.put_comm a v _ (fun e he => by rw [he] at hx; exact fun h => hx h.symm), putAl_put hr]
    | false => exact putAl_put hr
theorem putAl_congr {β β' : Nat → Nat} {L L' : Nat → Bool} : ∀ {AL : List AlD} {a : Act}, (∀ x ∈ AL, β x.j = β' x.j ∧ L x.j = L' x.j) → putAl β L AL a = putAl β' L' AL a
  | [], _, _ => rfl
  | x :: r, a, h => by
    obtain ⟨h1, h2⟩ := h x List.mem_cons_self
    simp only [putAl, h1, h2]
    exact putAl_congr (fun y hy => h y (List.mem_cons_of_mem _ hy))
theorem blkA_congr {β β' : Nat → Nat} {L L' : Nat → Bool} : ∀ {AL : List AlD}, (∀ x ∈ AL, β x.j = β' x.j ∧ L x.j = L' x.j) → blkA β L AL = blkA β' L' AL
  | [], _ => rfl
  | x :: r, h => by
    obtain ⟨h1, h2⟩ := h x List.mem_cons_self
    simp only [blkA, h1, h2, blkA_congr (fun y hy => h y (List.mem_cons_of_mem _ hy))]
def updN (β : Nat → Nat) (j b : Nat) : Nat → Nat := fun i => if i = j then b else β i
def updL (L : Nat → Bool) (j : Nat) : Nat → Bool := fun i => if i = j then true else L i
theorem putAl_exec {β : Nat → Nat} {L : Nat → Bool} {b : Nat} {x : AlD} : ∀ {AL : List AlD} {a : Act}, x ∈ AL → (AL.map (·.j)).Nodup → (AL.map (·.d)).Nodup → L x.j = false →
    putAl (updN β x.j b) (updL L x.j) AL a = (putAl β L AL a).put (some x.d) (.pointer (some ⟨b, 0, none⟩)) ∧ (blkA (updN β x.j b) (updL L x.j) AL).Perm (.blk b x.t x.c :: blkA β L AL)
  | y :: r, a, hx, hj, hd, hL => by
    simp only [List.map_cons, List.nodup_cons, List.mem_map, not_exists, not_and] at hj hd
    by_cases hxy : x.j = y.j
    · have hxe : x = y := by
        rcases List.mem_cons.1 hx with h | h
        · exact h
        · exact absurd hxy (hj.1 x h)
      subst hxe
      have hc : ∀ z ∈ r, updN β x.j b z.j = β z.j ∧ updL L x.j z.j = L z.j := fun z hz => by
        have : z.j ≠ x.j := hj.1 z hz
        exact ⟨by simp [updN, this], by simp [updL, this]⟩
      have e1 : updL L x.j x.j = true := by simp [updL]
      have e2 : updN β x.j b x.j = b := by simp [updN]
      simp only [putAl, blkA, e1, e2, hL]
      refine ⟨?_, ?_⟩
      · rw [putAl_congr hc, putAl_put (fun z hz h => hd.1 z hz (by simpa using h.symm))]
      · rw [blkA_congr hc]
    · have hxr : x ∈ r := by
        rcases List.mem_cons.1 hx with h | h
        · rw [h] at hxy; exact absurd rfl hxy
        · exact h
      have e1 : updL L x.j y.j = L y.j := by simp [updL, Ne.symm hxy]
      have e2 : updN β x.j b y.j = β y.j := by simp [updN, Ne.symm hxy]
      simp only [putAl, blkA, e1, e2]
      obtain ⟨i1, i2⟩ := putAl_exec (β := β) (b := b) (a := match L y.j with | true => a.put (some y.d) (.pointer (some ⟨β y.j, 0, none⟩)) | false => a) hxr hj.2 hd.2 hL
      refine ⟨i1, ?_⟩
      cases L y.j with
      | true => exact (i2.cons _).trans (List.Perm.swap _ _ _)
      | false => exact i2
theorem putAl_eval {ops : Array Oper} {β : Nat → Nat} {L : Nat → Bool} {o : Oper} (hs : ∀ cs b, o.op ≠ .select cs b) : ∀ {AL : List AlD} {a : Act}, (∀ x ∈ AL, x.d ∉ o.looksAt ops) →
    execOp (putAl β L AL a).eval o = execOp a.eval o ∧ Region.wanted o (yielded ops (putAl β L AL a).tmps) = Region.wanted o (yielded ops a.tmps)
  | [], _, _ => ⟨rfl, rfl⟩
  | x :: r, a, h => by
    have hx := h x List.mem_cons_self
    have hr : ∀ y ∈ r, y.d ∉ o.looksAt ops := fun y hy => h y (List.mem_cons_of_mem _ hy)
    simp only [putAl]
    cases L x.j with
    | true =>
      dsimp only
      obtain ⟨h1, h2⟩ := putAl_eval (β := β) (L := L) (a := a.put (some x.d) (.pointer (some ⟨β x.j, 0, none⟩))) hs hr
      refine ⟨h1.trans ?_, h2.trans ?_⟩
      · exact execOp_put (ops := ops) o hs a _ _ (fun d hd => by cases hd; exact hx)
      · exact wanted_put (ops := ops) o a _ _ (fun d hd => by cases hd; exact hx)
    | false => exact putAl_eval hs hr
theorem putAl_defers {β : Nat → Nat} {L : Nat → Bool} : ∀ {AL : List AlD} {a : Act}, (putAl β L AL a).defers = a.defers
  | [], _ => rfl
  | x :: r, a => by simp only [putAl]; rw [putAl_defers]; cases L x.j <;> rfl

def dOp : Op → Bool
  | .move _ | .assign _ | .pick _ _ _ | .binOp _ _ _ _ _ | .unOp _ _ _ | .convert _ _ _ | .extract _ _ | .load _ _ | .indexAddr _ _ _ | .slice _ _ _ _ _ | .nilCheck _ | .sliceToArrayPointer _ _
  | .makeFunc _ _ _ | .build _ _ | .index _ _ _ | .fieldAddr _ _ _ | .field _ _ _ | .makeInterface _ _ | .lookup _ _ _ _ | .entry _ => true
  | .call { callee := .builtin .len, .. } => true
  | .call { callee := .builtin .cap, .. } => true
  | .call { callee := .builtin .min, .. } => true
  | .call { callee := .builtin .max, .. } => true
  | _ => false
def callQ (m : List Blk) (r : CR) (N : SV → List Blk → Prop) : Prop :=
  match r with
  | .pure p v => p ∧ N v m
  | .own p t es n con F => p ∧ ∀ v : Value, N (F (.own (blen m) v n)) (bpush m (.own v n t es con))
  | .grw p A Q f g => p ∧ ∀ a : A, Q a → N (f a) (bpush m (g a))
  | _ => False
def effQ (G : Ctr) (m : List Blk) (d : Bool) (e : Eff) (N : SV → List Blk → Prop) : Prop :=
  match e with
  | .val p v => p ∧ N v m
  | .newb f e => d = false ∧ ∀ b : Nat, N (f b) (bpush m (e b))
  | .newo p f e => d = false ∧ p ∧ ∀ v : Value, N (f v) (bpush m (e v))
  | .call f args => d = false ∧ callQ m (G f args m) N
  | _ => False
section
variable {G : Ctr} {m : List Blk} {N : SV → List Blk → Prop} {d : Bool}
@[congr] theorem callQ_congr {r r' : CR} (h : r = r') : callQ m r N = callQ m r' N := by rw [h]
@[congr] theorem effQ_congr {e e' : Eff} {d d' : Bool} (h : e = e') (hd : d = d') : effQ G m d e N = effQ G m d' e' N := by rw [h, hd]
theorem effQ_newb {f : Nat → SV} {e : Nat → Blk} : effQ G m false (.newb f e) N = ∀ b : Nat, N (f b) (bpush m (e b)) := by simp [effQ]
theorem effQ_newo {p : Prop} {f : Value → SV} {e : Value → Blk} : effQ G m false (.newo p f e) N = (p ∧ ∀ v : Value, N (f v) (bpush m (e v))) := by simp [effQ]
theorem effQ_call {f : FuncId} {args : List SV} : effQ G m false (.call f args) N = callQ m (G f args m) N := by simp [effQ]
end
def vcQ (T : Tab) (G : Ctr) (all : List Oper) : List Oper → List SV → List Blk → (List SV → List Blk → Prop) → Prop
  | [], env, m, K => K env m
  | o :: rest, env, m, K =>
    gdK (gd all env o) (effQ G m (dOp o.op) (step T env m o) fun v m' => vcQ T G all rest (upd env o.dst v) m' K) (vcQ T G all rest (upd env o.dst .undef) m K)
theorem vcQ_step {T : Tab} {G : Ctr} {all : List Oper} {o : Oper} {rest : List Oper} {env : List SV} {m : List Blk} {K : List SV → List Blk → Prop} (h : vcQ T G all (o :: rest) env m K)
    {a : Act} (hf : Fr env a) : (Region.wanted o (yielded all.toArray a.tmps) = true ∧ effQ G m (dOp o.op) (step T env m o) fun v m' => vcQ T G all rest (upd env o.dst v) m' K) ∨
      (Region.wanted o (yielded all.toArray a.tmps) = false ∧ vcQ T G all rest (upd env o.dst .undef) m K) := by
  have hg := gd_sound (all := all) hf o
  simp only [vcQ] at h
  cases hgd : gd all env o with
  | go => rw [hgd] at h hg; exact .inl ⟨hg, h⟩
  | skip => rw [hgd] at h hg; exact .inr ⟨hg, h⟩
  | ask b want =>
    rw [hgd] at h hg
    simp only [gdK] at h
    dsimp only at hg
    cases hb : eqB b want with
    | true => rw [hb] at h hg; exact .inl ⟨hg, h⟩
    | false => rw [hb] at h hg; exact .inr ⟨hg, h⟩
  | stuck => rw [hgd] at h; exact h.elim
def NewOk (w0 : World) (B : List Nat) (w w' : World) (r : List Blk) : Prop := (∀ e ∈ r, e.ok w0 B w' ∧ (∀ b ∈ e.nums, w.heap.size ≤ b) ∧ e.nums.Nodup) ∧ r.length ≤ 1
theorem MemOk.perm {w0 : World} {B : List Nat} {m m' : List Blk} {w : World} (h : MemOk w0 B m w) (hp : m.Perm m') : MemOk w0 B m' w :=
  ⟨h.os, h.tape, h.output, h.size, h.old, fun e he => h.each e (hp.mem_iff.2 he), (hp.flatMap_right _).nodup_iff.1 h.nodup⟩
theorem MemOk.pushes {w0 : World} {B : List Nat} {m r : List Blk} {w w' : World} (h : MemOk w0 B m w) (hg : w.grownBy w' none) (hr : NewOk w0 B w w' r) : MemOk w0 B (m ++ r) w' := by
  match r, hr with
  | [], _ => rw [List.append_nil]; exact h.grow hg
  | [e], hr => exact h.push hg (hr.1 e (by simp)).1 (hr.1 e (by simp)).2.1 (hr.1 e (by simp)).2.2
  | _ :: _ :: _, hr => exact absurd hr.2 (by simp)
theorem grown_refl (w : World) : w.grownBy w none := ⟨rfl, rfl, rfl, Nat.le_refl _, fun _ _ _ => rfl⟩
theorem new_none (w0 : World) (B : List Nat) (w w' : World) : NewOk w0 B w w' [] := ⟨fun _ h => absurd h List.not_mem_nil, by simp⟩
theorem appS_new {P : Program} {T : Tab} (hT : TabOk P T) {t e ty : TypeId} {s x : SV} {m : List Blk} {p : Prop} {k es : Nat} {con : Con}
    (h : appS T t s x m = some (p, none, k, e, es, con)) (hp : p) {w0 : World} {B : List Nat} {w : World} (hm : MemOk w0 B m w) :
    ∃ v w', (Builtin.append_ #[t, t] ty #[cv s, cv x]).run P w = .ok v w' ∧ w.grownBy w' none ∧ w'.ownsRow w.heap.size e es v k (cc con) := by
  unfold appS at h
  split at h
  · rename_i e' es' eb q kx c hty hsrc
    have hy := hT.ty t
    rw [hty] at hy
    obtain ⟨g1, g2, i, z, g3, g4, g5, g6, g7⟩ := hy
    split at h
    · rename_i he
      have he' : conEs c = es' := by simpa using he
      split at h
      · split at h
        · split at h
          · simp at h
          · cases h
        · cases h
      · simp only [Option.some.injEq, Prod.mk.injEq] at h
        obtain ⟨rfl, _, rfl, rfl, rfl, rfl⟩ := h
        obtain ⟨hq, h1, h2⟩ := hp
        obtain ⟨s1, s2, s3⟩ := srcC_sound hsrc hq hm
        rw [he'] at s1
        have hown := World.ownsRow_nil w w.heap.size e' es'
        rcases s3 with ⟨a, cp, s4, s5⟩ | ⟨s4, rfl⟩
        · obtain ⟨v1, w1, r1, r2, r3, _, r4⟩ := run_append_own_at (P := P) (w := w) w.heap.size t ty e' i z es' eb g1 g3 g4 g5 g6 (by rw [← g5]; rw [g7, g5]) g2 (.slice none 0 0) 0 [] hown a kx cp (cc c) s1 s5 s2
            (by unfold maxLen; omega) (by rw [Nat.zero_add]; exact h1) (Nat.le_refl _)
          refine ⟨v1, w1, by rw [s4]; simpa only [cv] using r1, by simpa [Value.ownBlock] using r3, ?_⟩
          rw [Nat.zero_add] at r2
          exact r2
        · have hce : cc c = [] := List.eq_nil_of_length_eq_zero (by rw [s1, Nat.zero_mul])
          refine ⟨.slice none 0 0, w, by rw [s4]; simpa only [cv] using run_append_owned_none (P := P) w w.heap.size t ty e' i es' g1 g3 _ 0 [] hown, grown_refl w, by rw [hce]; exact hown⟩
      · rename_i a len cap con0
        split at h
        · rename_i con1 hca hes
          simp only [Option.some.injEq, Prod.mk.injEq] at h
          obtain ⟨rfl, _, rfl, rfl, rfl, rfl⟩ := h
          obtain ⟨hq, hL, hl, h0, hc, hk, had, hb, h63⟩ := hp
          obtain ⟨s1, s2, s3⟩ := srcC_sound hsrc hq hm
          rw [he'] at s1
          rcases s3 with ⟨a2, cp, s4, s5⟩ | ⟨s4, rfl⟩
          · obtain ⟨v1, w1, r1, r2, r3⟩ := app_gh (ty := ty) g1 g2 g3 g4 g5 g6 (by rw [← g5]; rw [g7, g5]) had (hL.mono fun b o h => hm.hm h) hl h0 hc s1 s5 hk hb h63
            exact ⟨v1, w1, by rw [s4]; simpa only [cv] using r1, r2, by rw [conApp_cells hca]; exact r3⟩
          · omega
        · cases h
      · cases h
    · cases h
  · cases h
theorem newok_own {w0 : World} {B : List Nat} {w w' : World} {m : List Blk} (hm : MemOk w0 B m w) {t : TypeId} {es n : Nat} {v : Value} {con : Con} (ho : w'.ownsRow w.heap.size t es v n (cc con)) :
    NewOk w0 B w w' [.own v n t es con] := ⟨fun e he => by
      obtain rfl := List.mem_singleton.1 he
      exact ⟨own_ok ho hm.size, fun b hb => own_fresh ho (by simpa [Blk.nums] using hb), oneNum_nodup rfl⟩, by simp⟩
theorem newok_blk {w0 : World} {B : List Nat} {w : World} {m : List Blk} (hm : MemOk w0 B m w) {t : TypeId} {c : Con} :
    NewOk w0 B w (w.alloc (.cells (cc c).toArray t)) [.blk w.heap.size t c] := ⟨fun e he => by
      obtain rfl := List.mem_singleton.1 he
      exact ⟨⟨heap_alloc_new w _, .inl hm.size⟩, fun b hb => by simp [Blk.nums] at hb; omega, oneNum_nodup rfl⟩, by simp⟩
theorem effQ_sound {P : Program} {T : Tab} (hT : TabOk P T) {G : Ctr} (hG : GOk P G) {env : List SV} {m : List Blk} {o : Oper} {d : Bool} {N : SV → List Blk → Prop} (h : effQ G m d (step T env m o) N)
    {a0 a : Act} (hf : Fr env a0) (he : execOp a.eval o = execOp a0.eval o) {w0 : World} {B : List Nat} {w : World} (hm : MemOk w0 B m w) {Q : Exit → Act → World → Prop} :
    o.wp P a w (fun a' w' => ∃ v r, a' = a.put o.dst (cv v) ∧ w.grownBy w' none ∧ NewOk w0 B w w' r ∧ N v (m ++ r)) Q := by
  have E := fun x => hf.ev hT.gl x
  unfold step at h
  cases hd : dstep T env m o with
  | some r =>
    obtain ⟨p, v⟩ := r
    rw [hd] at h
    exact wp_of_run (by rw [he]; exact dstep_sound hT hd h.1 hf hm) ⟨v, [], rfl, grown_refl w, new_none _ _ _ _, by rw [List.append_nil]; exact h.2⟩
  | none =>
    rw [hd] at h
    obtain ⟨dst, op, type, pos, after, guard⟩ := o
    cases op <;> try (exact h.elim)
    case alloc t =>
      dsimp only at h
      cases hz : T.zc t with
      | none => rw [hz] at h; exact h.elim
      | some c =>
        rw [hz] at h
        obtain ⟨i, z, h1, h2, h3⟩ := hT.zc _ _ hz
        have hr : (Instr.alloc t true (.tuple #[])).run P w = .ok (.pointer (some ⟨w.heap.size, 0, none⟩)) (w.alloc (.cells (cc c).toArray t)) := by
          simp [Instr.alloc, zeroValue, typeInfo, h1, h2, newVar, newRow, h3]
        refine wp_of_run (u := .pointer (some ⟨w.heap.size, 0, none⟩)) (by rw [he]; simp only [execOp, Sem.run_bind, hr, Result.andThen_ok, Sem.run_pure]) ⟨.ptr (blen m) w.heap.size 0 0 0 0, [.blk w.heap.size t c], by simp [cv], World.grownBy_alloc w _ none, newok_blk hm, by have := h.2 w.heap.size; rwa [bpush_eq] at this⟩
    case box t x =>
      dsimp only at h
      cases hz : boxCon (ev T env x) with
      | none => rw [hz] at h; exact h.elim
      | some c =>
        rw [hz] at h
        have hr : (Instr.box t (cv (ev T env x))).run P w = .ok (.pointer (some ⟨w.heap.size, 0, none⟩)) (w.alloc (.cells (cc c).toArray t)) := by
          simp [Instr.box, newVar, newRow, boxCon_some hz]
        refine wp_of_run (u := .pointer (some ⟨w.heap.size, 0, none⟩)) (by rw [he]; simp only [execOp, E, Sem.run_bind, hr, Result.andThen_ok, Sem.run_pure]) ⟨.ptr (blen m) w.heap.size 0 0 0 0, [.blk w.heap.size t c], by simp [cv], World.grownBy_alloc w _ none, newok_blk hm, by have := h.2 w.heap.size; rwa [bpush_eq] at this⟩
    case store t b x =>
      dsimp only at h
      cases hz : storeS (T.ty t) (ev T env b) (ev T env x) m with
      | none => rw [hz] at h; exact h.elim
      | some r => rw [hz] at h; exact h.elim
    case mapUpdate t b i x =>
      dsimp only at h
      cases hz : updS (T.ty t) (ev T env b) (ev T env i) (ev T env x) m with
      | none => rw [hz] at h; exact h.elim
      | some r => rw [hz] at h; exact h.elim
    case range t x =>
      dsimp only at h
      rcases rngS_cases (T.ty t) (ev T env x) m with hs | ⟨ks, z, nm, b, b', ks', f, hy, hx, hb, hs⟩
      · rw [hs] at h; exact h.elim
      · rw [hs] at h; exact h.elim
    case next x s =>
      cases s with
      | true => exact h.elim
      | false =>
        dsimp only at h
        rcases nxtS_cases (ev T env x) m with hs | ⟨nm, r, b, r', ks, f, left, cnt, last, hx, hb, hs⟩
        · rw [hs] at h; exact h.elim
        · rw [hs] at h; exact h.elim
    case makeMap t rs =>
      cases rs with
      | some _ => exact h.elim
      | none =>
        dsimp only at h
        rcases mkM_cases (T.ty t) m with hs | ⟨ks, z, hy, hs⟩
        · rw [hs] at h; exact h.elim
        · rw [hs] at h
          have hr : (Instr.makeMap t ((none : Option Operand).map a0.eval)).run P w = .ok (.map (some w.heap.size)) (w.alloc (.map #[] 0)) := by
            simp [Instr.makeMap]
          refine wp_of_run (w' := w.alloc (.map #[] 0)) (u := .map (some w.heap.size)) (by rw [he]; simp only [execOp, Sem.run_bind, hr, Result.andThen_ok, Sem.run_pure]) ⟨.mpv (blen m) w.heap.size, [.mp w.heap.size ks fun _ => none], rfl, World.grownBy_alloc w _ none, ⟨fun e he => ?_, by simp⟩, by have := h.2 w.heap.size; rwa [bpush_eq] at this⟩
          obtain rfl := List.mem_singleton.1 he
          exact ⟨⟨⟨#[], 0, heap_alloc_new w _, MapKept.stamped_empty 0, ⟨by simp, by simp⟩⟩, .inl hm.size⟩, fun b hb => by simp [Blk.nums] at hb; omega, oneNum_nodup rfl⟩
    case buildSlice t n parts =>
      dsimp only at h
      cases hz : litS T t n (evp T env parts.toList) with
      | none => rw [hz] at h; exact h.elim
      | some r =>
        obtain ⟨e, es, c⟩ := r
        rw [hz] at h
        have e1 : (parts.map fun (i, x) => (i, a0.eval x)) = ((evp T env parts.toList).map fun p => (p.1, cv p.2)).toArray := by
          rw [← evp_map hT.gl hf]
          apply Array.ext'
          simp
        have hr := litS_sound (P := P) hT hz w
        rw [← e1] at hr
        refine wp_of_run (u := .slice (some ⟨w.heap.size, 0, none⟩) n n) (by rw [he]; simp only [execOp, Sem.run_bind, hr, Result.andThen_ok, Sem.run_pure]) ⟨.sl (blen m) (some ⟨w.heap.size, 0, none⟩) 0 0 es n n, [.blk w.heap.size e c], by simp [cv, Addr.add], World.grownBy_alloc w _ none, newok_blk hm, by have := h.2 w.heap.size; rwa [bpush_eq] at this⟩
    case makeSlice t l c =>
      dsimp only at h
      cases hz : makeS T t (ev T env l) (ev T env c) with
      | none => rw [hz] at h; exact h.elim
      | some r =>
        obtain ⟨p, e, es, n, z⟩ := r
        rw [hz] at h
        obtain ⟨v, w', h1, h2, h3⟩ := makeS_sound hT hz h.2.1 (MemOk.start w)
        refine wp_of_run (u := v) (by rw [he]; simp only [execOp, E, Sem.run_bind, h1, Result.andThen_ok, Sem.run_pure]) ⟨.own (blen m) v n, [.own v n e es z], by simp [cv, own_slV (h2.each (.own v n e es z) (by simp [bpush])).1], h3, newok_own hm ?_, by have := h.2.2 v; rwa [bpush_eq] at this⟩
        exact own_ok0 (h2.each (.own v n e es z) (by simp [bpush]))
    case call c =>
      obtain ⟨callee, args, ts⟩ := c
      cases callee with
      | invoke r s => exact h.elim
      | builtin b =>
        cases b <;> try (exact h.elim)
        case delete =>
          dsimp only at h
          rcases delStep_cases T m ts.toList (evs T env args.toList) with hs | ⟨t, t2, nm, b, i, ks, z, b', ks', f, p, c, hts, hxs, hy, hb, hc, hs⟩
          · rw [hs] at h; exact h.elim
          · rw [hs] at h; exact h.elim
        case copy =>
          dsimp only at h
          rcases copyStep_cases T m ts.toList (evs T env args.toList) with hs | ⟨t, t', x, y, p, nm, n, e, hts, hxs, hz, hs⟩
          · rw [hs] at h; exact h.elim
          · rw [hs] at h; exact h.elim
        dsimp only at h
        rcases appStep_cases T m ts.toList (evs T env args.toList) with hs | ⟨t, s, x, p, Q9, f9, g9, hts, hxs, hz, hs⟩ | ⟨t, t', s, x, r, hts, hxs, hz, hs⟩
        · rw [hs] at h; exact h.elim
        · rw [hs] at h; exact h.elim
        · rw [hs] at h
          obtain ⟨p, o, k, e, es, con⟩ := r
          cases o with
          | none =>
            obtain ⟨v, w', h1, h2, h3⟩ : ∃ v w', (Builtin.append_ #[t, t'] type #[cv s, cv x]).run P w = .ok v w' ∧ w.grownBy w' none ∧ w'.ownsRow w.heap.size e es v k (cc con) := by
              rcases hz with ⟨rfl, hz'⟩ | hz'
              · exact appS_new (ty := type) hT hz' h.2.1 hm
              · exact appT_new (ty := type) hT hz' h.2.1 hm
            have e1 : args.map a0.eval = (cvs (evs T env args.toList)).toArray := by apply Array.ext'; rw [← hf.evs hT.gl]; simp
            have hr : (execOp a.eval ⟨dst, .call { callee := .builtin .append, args := args, argTypes := ts }, type, pos, after, guard⟩).run P w = .ok (.value v) w' := by
              have e2 : ts = #[t, t'] := by apply Array.ext'; exact hts
              rw [he]
              simp only [execOp, resolve, e1, hxs, cvs, Sem.run_bind, Sem.run_pure, Result.andThen_ok, invoke, builtin, e2, h1]
            refine wp_of_run (u := v) hr ⟨.own (blen m) v k, [.own v k e es con], by simp [cv, own_slV h3], h2, newok_own hm h3, by have := h.2.2 v; rwa [bpush_eq] at this⟩
          | some nm => exact h.elim
      | value f =>
        dsimp only at h
        rcases callStep_cases (ev T env f) (evs T env args.toList) with hs | ⟨g, first, cap, hv, hs⟩
        · rw [hs] at h; exact h.elim
        · rw [hs] at h
          have h' := h.2
          have hr := op_call (P := P) (w := w) (d := dst) (args := args) (ts := ts) (ty := type) (pos := pos) (af := after) (g := guard) hT hf hv
          rw [← he] at hr
          have hc := hG w0 B g (sapp first (sapp (evs T env args.toList) cap)) m
          generalize G g (sapp first (sapp (evs T env args.toList) cap)) m = r at *
          cases r with
          | none => exact h'.elim
          | pure p v => exact wp_of_enters hr (hc h'.1 w hm) fun u w' ⟨hu, hg⟩ => ⟨v, [], by rw [hu], hg, new_none _ _ _ _, by rw [List.append_nil]; exact h'.2⟩
          | own p t es n con F =>
            exact wp_of_enters hr (hc h'.1 w hm) fun u w' ⟨v, hu, hg, ho⟩ => ⟨F (.own (blen m) v n), [.own v n t es con], by rw [hu], hg, newok_own hm ho, by have := h'.2 v; rwa [bpush_eq] at this⟩
          | turn p nm con v => exact h'.elim
          | rel p A Q F g => exact h'.elim
          | grw p A Q F g => exact wp_of_enters hr (hc h'.1 w hm) fun u w' ⟨a, hQ, hu, hg, h1, h2, h3⟩ => ⟨F a, [g a], by rw [hu], hg, ⟨fun e he => by
              obtain rfl := List.mem_singleton.1 he
              exact ⟨h1, h2, h3⟩, by simp⟩, by have := h'.2 a hQ; rwa [bpush_eq] at this⟩
end Go.Proofs.Ytdanlclhnehieaa

/-
  A symbolic walk of my own: the walk over a region whose order is drawn, its soundness.
-/
namespace Go.Proofs.Ytdanlclhnehieaa
set_option linter.unusedSimpArgs false
set_option linter.unusedVariables false
open Go.RowKit

def alsOk (T : Tab) (l : List Oper) : List AlD → Prop
  | [] => True
  | x :: r => ((∃ ty pos, l[x.j]? = some ⟨some x.d, .alloc x.t, ty, pos, #[], none⟩) ∧ T.zc x.t = some x.c) ∧ alsOk T l r
theorem alsOk_mem {T : Tab} {l : List Oper} : ∀ {AL : List AlD}, alsOk T l AL → ∀ x ∈ AL, (∃ ty pos, l[x.j]? = some ⟨some x.d, .alloc x.t, ty, pos, #[], none⟩) ∧ T.zc x.t = some x.c
  | [], _, x, hx => absurd hx List.not_mem_nil
  | y :: r, h, x, hx => by
    rcases List.mem_cons.1 hx with rfl | hx
    · exact h.1
    · exact alsOk_mem h.2 x hx
def alK : List AlD → List SV → List Blk → (List SV → List Blk → Prop) → Prop
  | [], env, m, N => N env m
  | x :: r, env, m, N => ∀ b : Nat, alK r (sset env x.d (.ptr (blen m) b 0 0 0 0)) (bpush m (.blk b x.t x.c)) N
theorem alK_run {β : Nat → Nat} {L : Nat → Bool} {N : List SV → List Blk → Prop} : ∀ {AL : List AlD} {env : List SV} {m : List Blk} {a : Act}, alK AL env m N → (∀ x ∈ AL, L x.j = true) → Fr env a →
    ∃ env', Fr env' (putAl β L AL a) ∧ N env' (m ++ blkA β L AL)
  | [], env, m, a, h, _, hf => ⟨env, hf, by rw [blkA, List.append_nil]; exact h⟩
  | x :: r, env, m, a, h, hL, hf => by
    have hx := hL x List.mem_cons_self
    obtain ⟨env', h1, h2⟩ := alK_run (h (β x.j)) (fun y hy => hL y (List.mem_cons_of_mem _ hy)) (hf.put (some x.d) (.ptr (blen m) (β x.j) 0 0 0 0))
    refine ⟨env', ?_, ?_⟩
    · simp only [putAl, hx]
      simpa [cv] using h1
    · simp only [blkA, hx]
      rw [bpush_eq, List.append_assoc] at h2
      exact h2
def pickL (l : List Oper) : List Nat → List Oper
  | [] => []
  | i :: r => match l[i]? with | some o => o :: pickL l r | none => pickL l r
def nodB : List Nat → Bool
  | [] => true
  | x :: r => !r.contains x && nodB r
theorem nodB_nodup : ∀ {l : List Nat}, nodB l = true → l.Nodup
  | [], _ => List.nodup_nil
  | x :: r, h => by
    simp only [nodB, Bool.and_eq_true, Bool.not_eq_true', List.contains_eq_mem, decide_eq_false_iff_not] at h
    exact List.nodup_cons.2 ⟨h.1, nodB_nodup h.2⟩
def unl (σ al : List Nat) (n j : Nat) : Bool := σ.contains j || al.contains j || decide (n ≤ j)
def readyB (ops : Array Oper) (σ al : List Nat) (n : Nat) (o : Oper) : Bool := o.after.all fun e => !Region.binds .any e || (decide (e.on < ops.size) && !unl σ al n e.on)
def freeB (ops : Array Oper) (σ al : List Nat) (n s : Nat) (oi : Oper) : Bool :=
  (List.range ops.size).all fun j => j == s || !unl σ al n j || match ops[j]? with
    | some oj => oj.after.any (fun e => Region.binds .any e && e.on == s) || oi.apart ops oj
    | none => true
def lockB (ops : Array Oper) (σ r : List Nat) : Bool := r.all fun j => match ops[j]? with | some o => o.after.any fun e => Region.binds .any e && σ.contains e.on | none => true
def stB (ops : Array Oper) (al : List Nat) (n : Nat) : List Nat → Bool
  | [] => true
  | s :: r => (match ops[s]? with | some o => readyB ops (s :: r) al n o && (match dOp o.op with | true => freeB ops (s :: r) al n s o | false => lockB ops (s :: r) r) | none => false) && stB ops al n r
def cntA (L : Nat → Bool) : List AlD → Nat
  | [] => 0
  | x :: r => match L x.j with | true => cntA L r | false => cntA L r + 1
theorem cntA_zero {L : Nat → Bool} : ∀ {AL : List AlD}, cntA L AL = 0 → ∀ x ∈ AL, L x.j = true
  | [], _, x, hx => absurd hx List.not_mem_nil
  | y :: r, h, x, hx => by
    simp only [cntA] at h
    cases hy : L y.j with
    | true =>
      rw [hy] at h
      rcases List.mem_cons.1 hx with rfl | hx
      · exact hy
      · exact cntA_zero h x hx
    | false => rw [hy] at h; simp at h
theorem cntA_some {L : Nat → Bool} : ∀ {AL : List AlD}, 0 < cntA L AL → ∃ x ∈ AL, L x.j = false
  | [], h => absurd h (by simp [cntA])
  | y :: r, h => by
    cases hy : L y.j with
    | false => exact ⟨y, List.mem_cons_self, hy⟩
    | true =>
      simp only [cntA, hy] at h
      obtain ⟨x, hx, h2⟩ := cntA_some h
      exact ⟨x, List.mem_cons_of_mem _ hx, h2⟩
theorem cntA_congr {L L' : Nat → Bool} : ∀ {AL : List AlD}, (∀ x ∈ AL, L x.j = L' x.j) → cntA L AL = cntA L' AL
  | [], _ => rfl
  | x :: r, h => by simp only [cntA, h x List.mem_cons_self, cntA_congr (fun y hy => h y (List.mem_cons_of_mem _ hy))]
theorem cntA_upd {L : Nat → Bool} {x : AlD} : ∀ {AL : List AlD}, x ∈ AL → (AL.map (·.j)).Nodup → L x.j = false → cntA L AL = cntA (updL L x.j) AL + 1
  | y :: r, hx, hj, hL => by
    simp only [List.map_cons, List.nodup_cons, List.mem_map, not_exists, not_and] at hj
    by_cases hxy : x.j = y.j
    · have hc : ∀ z ∈ r, L z.j = updL L x.j z.j := fun z hz => by
        have : z.j ≠ x.j := by rw [hxy]; exact hj.1 z hz
        simp [updL, this]
      have e1 : updL L x.j y.j = true := by simp [updL, hxy]
      have e2 : L y.j = false := by rw [← hxy]; exact hL
      simp only [cntA, e1, e2, cntA_congr hc]
    · have hxr : x ∈ r := by
        rcases List.mem_cons.1 hx with h | h
        · rw [h] at hxy; exact absurd rfl hxy
        · exact h
      have e1 : updL L x.j y.j = L y.j := by simp [updL, Ne.symm hxy]
      have := cntA_upd hxr hj.2 hL
      simp only [cntA, e1]
      cases L y.j <;> simp only [] <;> omega
theorem putAl_none {β : Nat → Nat} : ∀ {AL : List AlD} {a : Act}, putAl β (fun _ => false) AL a = a
  | [], _ => rfl
  | x :: r, a => by simp only [putAl]; exact putAl_none
theorem blkA_none {β : Nat → Nat} : ∀ {AL : List AlD}, blkA β (fun _ => false) AL = []
  | [] => rfl
  | x :: r => by simp only [blkA]; exact blkA_none
theorem cntA_none : ∀ {AL : List AlD}, cntA (fun _ => false) AL = AL.length
  | [] => rfl
  | x :: r => by simp only [cntA, List.length_cons]; rw [cntA_none]
def canonE (n s : Nat) : Array Bool := (Array.range s).map fun k => decide (k < n)
structure DrawOk (ops : Array Oper) (σ : List Nat) (n : Nat) (AL : List AlD) : Prop where
  sel : ∀ (j : Nat) (o : Oper) cs b, ops[j]? = some o → o.op ≠ .select cs b
  ns : n ≤ ops.size
  tail : eTail .any ops n = true
  ja : (AL.map (·.j)).Nodup
  da : (AL.map (·.d)).Nodup
  nd : σ.Nodup
  lt : ∀ s ∈ σ, s < n
  off : ∀ s ∈ σ, ∀ x ∈ AL, s ≠ x.j
  apart : ∀ s ∈ σ, ∀ o, ops[s]? = some o → ∀ x ∈ AL, x.d ∉ o.looksAt ops ∧ o.dst ≠ some x.d
  alt : ∀ x ∈ AL, x.j < n
  st : stB ops (AL.map (·.j)) n σ = true
def ListedI (ops : Array Oper) (σ : List Nat) (n : Nat) (AL : List AlD) (L : Nat → Bool) (listed : Array Bool) : Prop :=
  listed.size = ops.size ∧ ∀ j, j < ops.size → (listed.getD j true = false ↔ (j ∈ σ ∨ (∃ x ∈ AL, x.j = j ∧ L x.j = false) ∨ n ≤ j))
theorem getD_set_E {listed : Array Bool} {i : Nat} : (listed.setIfInBounds i true).getD i true = true := by
  rcases Nat.lt_or_ge i listed.size with h' | h'
  · simp [h']
  · simp [h']
theorem ListedI.pop {ops : Array Oper} {s : Nat} {r : List Nat} {n : Nat} {AL : List AlD} {L : Nat → Bool} {listed : Array Bool} (h : ListedI ops (s :: r) n AL L listed) (hnd : (s :: r).Nodup) (hs : s < n) (hoff : ∀ x ∈ AL, s ≠ x.j) :
    ListedI ops r n AL L (listed.setIfInBounds s true) := by
  refine ⟨by simp [h.1], fun j hj => ?_⟩
  by_cases hjs : s = j
  · subst hjs
    rw [getD_set_E]
    simp only [Bool.true_eq_false, false_iff, not_or, not_exists, not_and]
    exact ⟨(List.nodup_cons.1 hnd).1, fun x hx he => absurd he.symm (hoff x hx), by omega⟩
  · rw [getD_set_ne true hjs, h.2 j hj, List.mem_cons]
    constructor
    · rintro ((h1 | h1) | h1)
      · exact absurd h1.symm hjs
      · exact .inl h1
      · exact .inr h1
    · rintro (h1 | h1)
      · exact .inl (.inr h1)
      · exact .inr h1
theorem ListedI.al {ops : Array Oper} {σ : List Nat} {n : Nat} {AL : List AlD} {L : Nat → Bool} {listed : Array Bool} (h : ListedI ops σ n AL L listed) {x : AlD} (_hx : x ∈ AL) (hs : x.j < n) (hoff : ∀ s ∈ σ, s ≠ x.j) :
    ListedI ops σ n AL (updL L x.j) (listed.setIfInBounds x.j true) := by
  refine ⟨by simp [h.1], fun j hj => ?_⟩
  by_cases hjs : x.j = j
  · subst hjs
    rw [getD_set_E]
    simp only [Bool.true_eq_false, false_iff, not_or, not_exists, not_and]
    exact ⟨fun h1 => hoff _ h1 rfl, fun y _ he => by simp [updL, he], by omega⟩
  · rw [getD_set_ne true hjs, h.2 j hj]
    have : (∃ y ∈ AL, y.j = j ∧ L y.j = false) ↔ (∃ y ∈ AL, y.j = j ∧ updL L x.j y.j = false) := by
      constructor
      · rintro ⟨y, hy, he, hl⟩; exact ⟨y, hy, he, by simp [updL, he, Ne.symm hjs]; rw [← he]; exact hl⟩
      · rintro ⟨y, hy, he, hl⟩; refine ⟨y, hy, he, ?_⟩; simp [updL, he, Ne.symm hjs] at hl; rw [he]; exact hl
    rw [this]
theorem effQ_true {T : Tab} {G : Ctr} {env : List SV} {m : List Blk} {o : Oper} {N : SV → List Blk → Prop} (h : effQ G m true (step T env m o) N) : ∃ p v, dstep T env m o = some (p, v) ∧ p ∧ N v m := by
  cases hd : dstep T env m o with
  | some r =>
    obtain ⟨p, v⟩ := r
    unfold step at h
    rw [hd] at h
    exact ⟨p, v, rfl, h.1, h.2⟩
  | none =>
    exfalso
    have hne : ∀ p v, step T env m o ≠ .val p v := by
      intro p v he
      unfold step at he
      rw [hd] at he
      obtain ⟨dst, op, type, pos, after, guard⟩ := o
      cases op <;> try (simp at he; done)
      case alloc t => dsimp only at he; split at he <;> cases he
      case box t x => dsimp only at he; split at he <;> cases he
      case store t a x => dsimp only at he; split at he <;> cases he
      case buildSlice t n parts => dsimp only at he; split at he <;> cases he
      case makeSlice t l c => dsimp only at he; split at he <;> cases he
      case mapUpdate t b i x => dsimp only at he; split at he <;> cases he
      case range t x =>
        dsimp only at he
        rcases rngS_cases (T.ty t) (ev T env x) m with hs | ⟨ks, z, nm, b, b', ks', f, hy, hx, hb, hs⟩
        · rw [hs] at he; cases he
        · rw [hs] at he; cases he
      case next x s =>
        cases s with
        | true => simp at he
        | false =>
          dsimp only at he
          rcases nxtS_cases (ev T env x) m with hs | ⟨nm, r, b, r', ks, f, left, cnt, last, hx, hb, hs⟩
          · rw [hs] at he; cases he
          · rw [hs] at he; cases he
      case makeMap t rs =>
        cases rs with
        | some _ => simp at he
        | none =>
          dsimp only at he
          rcases mkM_cases (T.ty t) m with hs | ⟨ks, z, hy, hs⟩
          · rw [hs] at he; cases he
          · rw [hs] at he; cases he
      case call c =>
        obtain ⟨callee, args, ts⟩ := c
        cases callee with
        | invoke r s => simp at he
        | builtin b =>
          cases b <;> try (simp at he; done)
          case delete =>
            dsimp only at he
            rcases delStep_cases T m ts.toList (evs T env args.toList) with hs | ⟨t, t2, nm, b, i, ks, z, b', ks', f, p, c, hts, hxs, hy, hb, hc, hs⟩
            · rw [hs] at he; cases he
            · rw [hs] at he; cases he
          case copy =>
            dsimp only at he
            rcases copyStep_cases T m ts.toList (evs T env args.toList) with hs | ⟨t, t', x, y, p, nm, n, e, hts, hxs, hz, hs⟩
            · rw [hs] at he; cases he
            · rw [hs] at he; cases he
          dsimp only at he
          rcases appStep_cases T m ts.toList (evs T env args.toList) with hs | ⟨t, s, x, p, Q9, f9, g9, hts, hxs, hz, hs⟩ | ⟨t, t2, s, x, r, hts, hxs, hz, hs⟩
          · rw [hs] at he; cases he
          · rw [hs] at he; cases he
          · rw [hs] at he
            obtain ⟨p, o, k, e, es, con⟩ := r
            cases o <;> cases he
        | value f =>
          dsimp only at he
          rcases callStep_cases (ev T env f) (evs T env args.toList) with hs | ⟨g, first, cap, hv, hs⟩ <;> rw [hs] at he <;> cases he
    cases hs : step T env m o with
    | val p v => exact hne p v hs
    | _ => rw [hs] at h; simp [effQ] at h
theorem eplain_dop {o : Op} (h : ePlain o = true) : dOp o = true := by
  cases o with
  | call c =>
    obtain ⟨callee, args, ts⟩ := c
    cases callee <;> first | exact Bool.noConfusion h | (rename_i b; cases b <;> first | rfl | exact Bool.noConfusion h)
  | _ => first | rfl | exact Bool.noConfusion h
section
variable {P : Program} {T : Tab} {G : Ctr} {l : List Oper} {n g : Nat} {AL : List AlD} {w0 : World} {B : List Nat} {Q : Exit → Act → World → Prop} {K : List SV → List Blk → Prop}
theorem dyields (hT : TabOk P T) {env : List SV} {m : List Blk} {o : Oper} {p : Prop} {v : SV} (hd : dstep T env m o = some (p, v)) (hp : p) {a0 a : Act} (hf : Fr env a0) (he : execOp a.eval o = execOp a0.eval o)
    (hw : Region.wanted o (yielded l.toArray a.tmps) = true) {m' : List Blk} : YieldsIf P l.toArray (fun w => MemOk w0 B (m ++ m') w ∨ ePlain o.op = true) o (cv v) a :=
  .inl ⟨hw, fun w h => by
    rw [he]
    rcases h with h | h
    · exact dstep_sound hT hd hp hf h.front
    · exact dplain_run hT h hd hp hf w⟩
theorem draw_al (hT : TabOk P T) {x : AlD} {o : Oper} {ty : TypeId} {pos : String} (ho : o = ⟨some x.d, .alloc x.t, ty, pos, #[], none⟩) (hz : T.zc x.t = some x.c) (hjo : l.toArray[x.j]? = some o)
    {a : Act} {w : World} {K : Act → World → Prop} (h : K (a.put (some x.d) (.pointer (some ⟨w.heap.size, 0, none⟩))) (w.alloc (.cells (cc x.c).toArray x.t))) : wpOp P l.toArray Q x.j K a w := by
  subst ho
  obtain ⟨i, z, h1, h2, h3⟩ := hT.zc _ _ hz
  have hr : (Instr.alloc x.t true (.tuple #[])).run P w = .ok (.pointer (some ⟨w.heap.size, 0, none⟩)) (w.alloc (.cells (cc x.c).toArray x.t)) := by
    simp [Instr.alloc, zeroValue, typeInfo, h1, h2, newVar, newRow, h3]
  unfold wpOp
  simp only [hjo, Region.wanted, if_true]
  exact .inl (wp_of_run (u := .pointer (some ⟨w.heap.size, 0, none⟩)) (by simp only [execOp, Sem.run_bind, hr, Result.andThen_ok, Sem.run_pure]) h)
theorem DrawOk.pop {ops : Array Oper} {s : Nat} {r : List Nat} (h : DrawOk ops (s :: r) n AL) : DrawOk ops r n AL :=
  ⟨h.sel, h.ns, h.tail, h.ja, h.da, (List.nodup_cons.1 h.nd).2, fun x hx => h.lt x (List.mem_cons_of_mem _ hx), fun x hx => h.off x (List.mem_cons_of_mem _ hx),
    fun x hx => h.apart x (List.mem_cons_of_mem _ hx), h.alt, by have := h.st; simp only [stB, Bool.and_eq_true] at this; exact this.2⟩
theorem draw_main (hT : TabOk P T) (hG : GOk P G) (hAL : alsOk T l AL)
    (hQ : ∀ c (a : Act) d u w, Q (.panic c) (a.put d u) w → Q (.panic c) a w)
    (hL : ∀ a w, wpList P l.toArray Q (l.drop n) a w → wpAny P .any l.toArray Q g (canonE n l.toArray.size) a w)
    (hK : ∀ env m a w, Fr env a → a.defers = [] → MemOk w0 B m w → K env m → wpList P l.toArray Q (l.drop n) a w) :
    ∀ (f : Nat) (σ : List Nat) (L : Nat → Bool) (β : Nat → Nat) (env : List SV) (m : List Blk) (a0 : Act) (listed : Array Bool),
      f = σ.length + cntA L AL → DrawOk l.toArray σ n AL → ListedI l.toArray σ n AL L listed → HeadInv .any l.toArray n listed →
      vcQ T G l (pickL l σ) env m (fun env m => alK AL env m K) → Fr env a0 → a0.defers = [] →
      anyV P .any l.toArray Q n g f listed (putAl β L AL a0) (MemOk w0 B (m ++ blkA β L AL)) := by
  intro f
  induction f with
  | zero =>
    intro σ L β env m a0 listed hf0 D I H h hf hd
    obtain rfl : σ = [] := List.eq_nil_of_length_eq_zero (by omega)
    have hall := cntA_zero (L := L) (AL := AL) (by omega)
    have hlist : ∀ k, k < n → listed.getD k true = true := fun k hk => by
      cases hl : listed.getD k true with
      | true => rfl
      | false =>
        rcases (I.2 k (by have := D.ns; omega)).1 hl with h1 | ⟨x, hx, _, h2⟩ | h1
        · exact absurd h1 List.not_mem_nil
        · rw [hall x hx] at h2; cases h2
        · omega
    refine ⟨hlist, fun w hw => ?_⟩
    obtain ⟨env', e1, e2⟩ := alK_run (β := β) h hall hf
    have hcan : listed = canonE n l.toArray.size := by
      apply Array.ext
      · simp [canonE, H.size]
      · intro k hk hk'
        simp only [canonE, Array.getElem_map, Array.getElem_range]
        by_cases hkn : k < n
        · have := hlist k hkn
          simp [hk] at this
          simp [this, hkn]
        · have := H.tail k (by omega) (by rw [← H.size]; exact hk)
          simp [hk] at this
          simp [this, hkn]
    rw [hcan]
    exact hL _ _ (hK env' _ _ _ e1 (by rw [putAl_defers]; exact hd) hw e2)
  | succ f ih =>
    intro σ L β env m a0 listed hf0 D I H h hf hd
    -- a new variable
    have step_al : ∀ x ∈ AL, L x.j = false → x.j ∈ Region.ready .any l.toArray listed ∧ ∀ w, MemOk w0 B (m ++ blkA β L AL) w →
        wpOp P l.toArray Q x.j (fun a' w' => ∃ F' : World → Prop, (∀ w, F' w → MemOk w0 B (m ++ blkA β L AL) w) ∧ F' w' ∧ anyV P .any l.toArray Q n g f (listed.setIfInBounds x.j true) a' F') (putAl β L AL a0) w := by
      intro x hx hLx
      obtain ⟨⟨ty, pos, hjo⟩, hz⟩ := alsOk_mem hAL x hx
      have hjo' : l.toArray[x.j]? = some ⟨some x.d, .alloc x.t, ty, pos, #[], none⟩ := by simpa using hjo
      have hjs : x.j < l.toArray.size := (Array.getElem?_eq_some_iff.1 hjo').1
      have hr : x.j ∈ Region.ready .any l.toArray listed := mem_ready.2 ⟨(I.2 x.j hjs).2 (.inr (.inl ⟨x, hx, rfl, hLx⟩)), _, hjo', fun e he => absurd he (Array.not_mem_empty e)⟩
      refine ⟨hr, fun w hw => draw_al hT rfl hz hjo' ?_⟩
      obtain ⟨p1, p2⟩ := putAl_exec (β := β) (b := w.heap.size) (a := a0) hx D.ja D.da hLx
      refine ⟨MemOk w0 B (m ++ blkA (updN β x.j w.heap.size) (updL L x.j) AL), fun w' hw' => ?_, ?_, ?_⟩
      · have : MemOk w0 B ((m ++ blkA β L AL) ++ [.blk w.heap.size x.t x.c]) w' := hw'.perm (((p2.append_left m).trans (by
          rw [List.append_assoc]
          exact List.Perm.append_left m ((List.perm_append_singleton _ _).symm))))
        exact this.front
      · have : MemOk w0 B ((m ++ blkA β L AL) ++ [.blk w.heap.size x.t x.c]) (w.alloc (.cells (cc x.c).toArray x.t)) := hw.pushes (World.grownBy_alloc w _ none) (newok_blk hw)
        refine this.perm (List.Perm.symm ((p2.append_left m).trans ?_))
        rw [List.append_assoc]
        exact List.Perm.append_left m ((List.perm_append_singleton _ _).symm)
      · rw [← p1]
        exact ih σ _ _ env m a0 _ (by have := cntA_upd hx D.ja hLx; omega) D (I.al hx (D.alt x hx) (fun s hs => D.off s hs x hx)) (H.set hr (D.alt x hx)) h hf hd
    cases σ with
    | nil =>
      obtain ⟨x, hx, hLx⟩ := cntA_some (L := L) (AL := AL) (by simp at hf0; omega)
      obtain ⟨⟨ty, pos, hjo⟩, hz⟩ := alsOk_mem hAL x hx
      have hjo' : l.toArray[x.j]? = some ⟨some x.d, .alloc x.t, ty, pos, #[], none⟩ := by simpa using hjo
      obtain ⟨hr, _⟩ := step_al x hx hLx
      refine ⟨fun h0 => List.not_mem_nil (h0 ▸ hr), fun j hj => ⟨fun hjn w hw => ?_, fun hjn w hw => ?_⟩⟩
      · rcases (I.2 j (by have := D.ns; omega)).1 (mem_ready.1 hj).1 with h1 | ⟨y, hy, rfl, h2⟩ | h1
        · exact absurd h1 List.not_mem_nil
        · exact (step_al y hy h2).2 w hw
        · omega
      · have := e_tail_plain hjo' D.tail (D.alt x hx) H (mem_ready.1 hr).1 hj hjn
        exact Bool.noConfusion this
    | cons s r =>
      have hst := D.st
      simp only [stB, Bool.and_eq_true] at hst
      have hsn := D.lt s List.mem_cons_self
      have hss : s < l.toArray.size := by have := D.ns; omega
      obtain ⟨o, ho⟩ : ∃ o, l.toArray[s]? = some o := ⟨_, Array.getElem?_eq_getElem hss⟩
      rw [ho] at hst
      simp only [Bool.and_eq_true] at hst
      obtain ⟨⟨hready, hkind⟩, _⟩ := hst
      have ho' : l[s]? = some o := by simpa using ho
      have hunl : ∀ j, j < l.toArray.size → unl (s :: r) (AL.map (·.j)) n j = false → listed.getD j true = true := fun j hj hu => by
        simp only [unl, Bool.or_eq_false_iff, List.contains_eq_mem, decide_eq_false_iff_not] at hu
        cases hl : listed.getD j true with
        | true => rfl
        | false =>
          rcases (I.2 j hj).1 hl with h1 | ⟨y, hy, h2, _⟩ | h1
          · exact absurd h1 hu.1.1
          · exact absurd (List.mem_map.2 ⟨y, hy, h2⟩) hu.1.2
          · exact absurd h1 hu.2
      have hsl : listed.getD s true = false := (I.2 s hss).2 (.inl List.mem_cons_self)
      have hr : s ∈ Region.ready .any l.toArray listed := mem_ready.2 ⟨hsl, o, ho, fun e he hb => by
        have h1 := Array.all_eq_true_iff_forall_mem.1 hready e he
        simp only [hb, Bool.not_true, Bool.false_or, Bool.and_eq_true, decide_eq_true_eq, Bool.not_eq_true'] at h1
        have h2 := hunl e.on h1.1 h1.2
        have : e.on < listed.size := by rw [H.size]; exact h1.1
        simp [this] at h2 ⊢; exact h2⟩
      have hap := D.apart s List.mem_cons_self o ho
      obtain ⟨hex, hwa⟩ := putAl_eval (ops := l.toArray) (β := β) (L := L) (a := a0) (o := o) (fun cs b => D.sel s o cs b ho) (fun x hx => (hap x hx).1)
      have hput : ∀ v : Value, (putAl β L AL a0).put o.dst v = putAl β L AL (a0.put o.dst v) := fun v => (putAl_put (fun x hx => (hap x hx).2)).symm
      have hdef : ∀ v : Value, (a0.put o.dst v).defers = [] := fun v => by rw [← hd]; cases o.dst <;> rfl
      have hpk : pickL l (s :: r) = o :: pickL l r := by simp only [pickL, ho']
      rw [hpk] at h
      have hlen : f = r.length + cntA L AL := by simp only [List.length_cons] at hf0; omega
      have next : ∀ (v : SV) (r' : List Blk), vcQ T G l (pickL l r) (upd env o.dst v) (m ++ r') (fun env m => alK AL env m K) →
          anyV P .any l.toArray Q n g f (listed.setIfInBounds s true) ((putAl β L AL a0).put o.dst (cv v)) (MemOk w0 B ((m ++ r') ++ blkA β L AL)) := fun v r' hv => by
        rw [hput]
        exact ih r L β _ _ _ _ hlen D.pop (I.pop D.nd hsn (D.off s List.mem_cons_self)) (H.set hr hsn) hv (hf.put o.dst v) (hdef _)
      have next0 : ∀ v : SV, vcQ T G l (pickL l r) (upd env o.dst v) m (fun env m => alK AL env m K) →
          anyV P .any l.toArray Q n g f (listed.setIfInBounds s true) ((putAl β L AL a0).put o.dst (cv v)) (MemOk w0 B (m ++ blkA β L AL)) := fun v hv => by
        have := next v [] (by rw [List.append_nil]; exact hv)
        rwa [List.append_nil] at this
      cases hdo : dOp o.op with
      | true =>
        rw [hdo] at hkind
        have hfree : ∀ j oj, l.toArray[j]? = some oj → j ≠ s → listed.getD j true = false → (∀ e ∈ oj.after, Region.binds .any e = true → e.on ≠ s) → o.apart l.toArray oj = true := by
          intro j oj hoj hjs hjl hno
          have hjz := (Array.getElem?_eq_some_iff.1 hoj).1
          simp only [freeB, List.all_eq_true, List.mem_range] at hkind
          have h1 := hkind j hjz
          have hu : unl (s :: r) (AL.map (·.j)) n j = true := by
            cases hu : unl (s :: r) (AL.map (·.j)) n j with
            | true => rfl
            | false => rw [hunl j hjz hu] at hjl; cases hjl
          simp only [hoj, hu, Bool.or_eq_true, beq_iff_eq, hjs, false_or, Bool.not_true, Bool.false_eq_true] at h1
          rcases h1 with h1 | h1
          · obtain ⟨e, he, hb⟩ := Array.any_eq_true'.1 h1
            simp only [Bool.and_eq_true, beq_iff_eq] at hb
            exact absurd hb.2 (hno e he hb.1)
          · exact h1
        rcases vcQ_step h hf with ⟨hw, h1⟩ | ⟨hw, h1⟩
        · rw [hdo] at h1
          obtain ⟨p, v, hds, hp, hv⟩ := effQ_true h1
          exact anyV_first ho D.sel D.tail hsn hQ f listed _ _ H hfree hr (dyields hT hds hp hf hex (by rw [hwa]; exact hw)) (next0 v hv)
        · exact anyV_first (v := undef) ho D.sel D.tail hsn hQ f listed _ _ H hfree hr (.inr ⟨by rw [hwa]; exact hw, rfl⟩) (next0 .undef h1)
      | false =>
        rw [hdo] at hkind
        refine ⟨fun h0 => List.not_mem_nil (h0 ▸ hr), fun j hj => ⟨fun hjn w hw => ?_, fun hjn w hw => ?_⟩⟩
        · obtain ⟨hjl, oj, hoj, hall⟩ := mem_ready.1 hj
          rcases (I.2 j (by have := D.ns; omega)).1 hjl with h1 | ⟨y, hy, rfl, h2⟩ | h1
          · rcases List.mem_cons.1 h1 with rfl | h1
            · obtain rfl : oj = o := Option.some.inj (hoj.symm.trans ho)
              unfold wpOp
              simp only [ho, hwa]
              rcases vcQ_step h hf with ⟨hwt, h2⟩ | ⟨hwt, h2⟩
              · rw [if_pos hwt]
                rw [hdo] at h2
                refine .inl (Oper.wp_mono (fun a' w' ⟨v, r', ha, hg, hn, hv⟩ => ?_) (effQ_sound hT hG h2 hf hex hw.front))
                subst ha
                have hm2 : MemOk w0 B ((m ++ r') ++ blkA β L AL) w' := by
                  have h3 : MemOk w0 B ((m ++ blkA β L AL) ++ r') w' := hw.pushes hg hn
                  refine h3.perm ?_
                  rw [List.append_assoc, List.append_assoc]
                  exact List.Perm.append_left m List.perm_append_comm
                refine ⟨_, fun w'' hw'' => ?_, hm2, next v r' hv⟩
                have h3 : MemOk w0 B ((m ++ blkA β L AL) ++ r') w'' := hw''.perm (by
                  rw [List.append_assoc, List.append_assoc]
                  exact List.Perm.append_left m List.perm_append_comm)
                exact h3.front
              · rw [if_neg (by rw [hwt]; simp)]
                exact ⟨_, fun _ h => h, hw, next0 .undef h2⟩
            · exfalso
              have h2 := List.all_eq_true.1 hkind j h1
              rw [hoj] at h2
              obtain ⟨e, he, hb⟩ := Array.any_eq_true'.1 h2
              simp only [Bool.and_eq_true, List.contains_eq_mem, decide_eq_true_eq] at hb
              have h3 := hall e he hb.1
              have h4 := (I.2 e.on (by have := D.ns; have := D.lt e.on hb.2; omega)).2 (.inl hb.2)
              rw [getD_both h4] at h3
              cases h3
          · exact (step_al y hy h2).2 w hw
          · omega
        · have := eplain_dop (e_tail_plain ho D.tail hsn H hsl hj hjn)
          rw [this] at hdo; cases hdo
def drawB (ops : Array Oper) (σ : List Nat) (n : Nat) (aj ad : List Nat) : Bool :=
  Region.noSelect ops && (decide (n ≤ ops.size) && (eTail .any ops n && (Region.seqB .any ops (ops.size - n) n (canonE n ops.size) && (nodB aj && (nodB ad && (nodB σ &&
    (((List.range n).all fun j => σ.contains j || aj.contains j) && ((σ.all fun s => decide (s < n) && (!aj.contains s && match ops[s]? with | some o => ad.all fun d => !(o.looksAt ops).contains d && o.dst != some d | none => false)) &&
    ((aj.all fun j => decide (j < n)) && stB ops aj n σ)))))))))
theorem drawB_ok {ops : Array Oper} {σ : List Nat} (h : drawB ops σ n (AL.map (·.j)) (AL.map (·.d)) = true) : DrawOk ops σ n AL ∧ (∀ j, j < n → j ∈ σ ∨ ∃ x ∈ AL, x.j = j) ∧ Region.seqB .any ops (ops.size - n) n (canonE n ops.size) = true := by
  simp only [drawB, Bool.and_eq_true, decide_eq_true_eq, List.all_eq_true, List.mem_range, Bool.or_eq_true, List.contains_eq_mem, Bool.not_eq_true', decide_eq_false_iff_not] at h
  obtain ⟨h1, h2, h3, h4, h5, h6, h7, h8, h9, h10, h11⟩ := h
  refine ⟨⟨Region.noSelect_spec h1, h2, h3, nodB_nodup h5, nodB_nodup h6, nodB_nodup h7, fun s hs => (h9 s hs).1, fun s hs x hx he => (h9 s hs).2.1 (List.mem_map.2 ⟨x, hx, he.symm⟩), fun s hs o ho x hx => ?_, fun x hx => h10 _ (List.mem_map.2 ⟨x, hx, rfl⟩), h11⟩, fun j hj => ?_, h4⟩
  · have := (h9 s hs).2.2
    rw [ho] at this
    have h := List.all_eq_true.1 this x.d (List.mem_map.2 ⟨x, hx, rfl⟩)
    simpa using h
  · rcases h8 j hj with h | h
    · exact .inl h
    · obtain ⟨x, hx, he⟩ := List.mem_map.1 h
      exact .inr ⟨x, hx, he⟩
end
theorem Vc.draw {P : Program} {T : Tab} (hT : TabOk P T) {G : Ctr} (hG : GOk P G) (hm : P.follows .mixedOrders = true) {id : Nat} {l : List Oper} {env : List SV} {m : List Blk} {K : Kont} (σ : List Nat) (n : Nat) (AL : List AlD)
    (hAL : alsOk T l AL) (hB : drawB l.toArray σ n (AL.map (·.j)) (AL.map (·.d)) = true)
    (h : vcQ T G l (pickL l σ) env m fun env m => alK AL env m fun env m => vcOps T G l (l.drop n) env m (K .normal)) : Vc P (.region id l.toArray true) env m K := by
  intro w0 B a w hf hd hmm
  obtain ⟨D, hall, hseq⟩ := drawB_ok hB
  let Q : Exit → Act → World → Prop := fun x a w => x = .normal ∧ ∃ env m, Fr env a ∧ a.defers = [] ∧ MemOk w0 B m w ∧ K .normal env m
  refine wp_mono (Q := Q) (wp_region_any hm ?_) fun x a' w' ⟨hx, env', m', h1, h2, h3, h4⟩ => by subst hx; exact ⟨env', m', h1, h2, h3, h4⟩
  have hm2 : MemOk w0 B m { w with drawn := w.drawn + 1 } := ⟨hmm.os, hmm.tape, hmm.output, hmm.size, hmm.old, fun e he => by
    have := hmm.each e he
    cases e <;> exact this, hmm.nodup⟩
  have key := draw_main (g := l.length - n) (w0 := w0) (B := B) (Q := Q) hT hG hAL (fun c a d u w h => nomatch h.1)
    (fun a w hL => by
      have hdl : (l.drop n).length = l.length - n := by simp
      have h6 := wpAny_of_seq (P := P) (md := .any) (Q' := Q) (ops := l.toArray) (l.drop n) n (canonE n l.toArray.size) a w (fun j => by simp [List.getElem?_drop]) (by rw [hdl]; simpa using hseq) hL
      rwa [hdl] at h6)
    (fun env m a w h1 h2 h3 h4 => vcOps_sound hT hG (ds := []) (fun e m a w h1 h2 h3 h4 => ⟨rfl, e, m, h1, h2, h3, h4⟩) _ env m a w h4 h1 h2 h3)
    (σ.length + AL.length) σ (fun _ => false) (fun _ => 0) env m a (Array.replicate l.toArray.size false) (by rw [cntA_none]) D
    ⟨by simp, fun j hj => by
      rw [getD_in (by simpa using hj) (getD_replicate_false _ _)]
      simp only [true_iff, and_true]
      rcases Nat.lt_or_ge j n with hn | hn
      · rcases hall j hn with h | h
        · exact .inl h
        · exact .inr (.inl h)
      · exact .inr (.inr hn)⟩
    ⟨by simp, fun j oj _ hl => (by rw [getD_replicate_false] at hl; exact Bool.noConfusion hl), fun t _ ht => getD_in (by simpa using ht) (getD_replicate_false _ _)⟩ h hf hd
  rw [putAl_none, blkA_none, List.append_nil] at key
  have h7 := any_of_V _ _ _ _ _ hm2 key
  have hlen : σ.length + AL.length + (l.length - n) = l.toArray.size := by
    have hp : (σ ++ AL.map (·.j)).Perm (List.range n) := by
      refine (List.perm_ext_iff_of_nodup (List.nodup_append.2 ⟨D.nd, D.ja, fun x hx y hy he => ?_⟩) List.nodup_range).2 fun j => ?_
      · obtain ⟨z, hz, hzj⟩ := List.mem_map.1 hy
        exact D.off x hx z hz (by rw [he, hzj])
      · rw [List.mem_append, List.mem_range]
        constructor
        · rintro (h | h)
          · exact D.lt j h
          · obtain ⟨z, hz, hzj⟩ := List.mem_map.1 h
            rw [← hzj]; exact D.alt z hz
        · intro hj
          rcases hall j hj with h | ⟨x, hx, he⟩
          · exact .inl h
          · exact .inr (List.mem_map.2 ⟨x, hx, he⟩)
    have h8 := hp.length_eq
    have h9 := D.ns
    simp at h8 h9 ⊢
    omega
  rwa [hlen] at h7
end Go.Proofs.Ytdanlclhnehieaa
