/-
  A region whose order is drawn, with calls that make memory, and new variables that may be made at any time among them: one walk for each order of the new variables.
-/
import Derived.Test.YtbdigomddnpllaaBase
namespace Go.Proofs.Ytbdigomddnpllaa
set_option linter.unusedSimpArgs false
set_option linter.unusedVariables false
open Go.RowKit

section
variable {P : Program} {ops : Array Oper} {md : Region.Mode}
/-- What an operation comes to that hands back v and leaves the world but for new memory. -/
def extUpon (P : Program) (w : World) (v : Value) : Result Next → Prop
  | .ok (.value u) w' => w' = w ∧ u = v
  | .ok .skip w' => w' = w ∧ v = undef
  | .ok (.enter f args) w' => w' = w ∧ Calls P f args w (Ret w v)
  | _ => False
def extAt (P : Program) (o : Oper) (a : Act) (w : World) (v : Value) : Prop := extUpon P w v ((execOp a.eval o).run P w)
def ext (P : Program) (o : Oper) (a : Act) (W : World) (K : Act → Prop) : Prop := ∃ v, (∀ p, extAt P o a (gw W p) v) ∧ K (a.put o.dst v)
attribute [go_sem] ext extAt extUpon
def wpExt (P : Program) (ops : Array Oper) (W : World) (Q : Act → Prop) : List Oper → Act → Prop
  | [], a => Q a
  | o :: rest, a => if Region.wanted o (yielded ops a.tmps) then ext P o a W (wpExt P ops W Q rest) else wpExt P ops W Q rest (a.put o.dst undef)
theorem wpExt_nil {W : World} {Q : Act → Prop} {a : Act} (h : Q a) : wpExt P ops W Q [] a := h
theorem wpExt_step {W : World} {Q : Act → Prop} {a : Act} {o : Oper} {rest : List Oper}
    (h : ∀ K : Act → Prop, (∀ a, wpExt P ops W Q rest a → K a) → if Region.wanted o (yielded ops a.tmps) then ext P o a W K else K (a.put o.dst undef)) : wpExt P ops W Q (o :: rest) a :=
  h _ (fun _ h => h)
def eOp (P : Program) (ops : Array Oper) (W : World) (i : Nat) (K : Act → Prop) (a : Act) : Prop :=
  match ops[i]? with
  | none => K a
  | some o => if Region.wanted o (yielded ops a.tmps) then ext P o a W K else K (a.put o.dst undef)
theorem ext_mono {o : Oper} {a : Act} {W : World} {K K' : Act → Prop} (h : ∀ a, K a → K' a) (hh : ext P o a W K) : ext P o a W K' :=
  let ⟨v, h1, h2⟩ := hh
  ⟨v, h1, h _ h2⟩
theorem eOp_mono {i : Nat} {a : Act} {W : World} {K K' : Act → Prop} (h : ∀ a, K a → K' a) (hh : eOp P ops W i K a) : eOp P ops W i K' a := by
  unfold eOp at *
  split
  · rename_i ho; simp only [ho] at hh; exact h _ hh
  · rename_i o ho
    simp only [ho] at hh
    split
    · rename_i hw; simp only [hw, if_true] at hh; exact ext_mono h hh
    · rename_i hw; simp only [hw] at hh; exact h _ hh
def EYields (P : Program) (ops : Array Oper) (W : World) (o : Oper) (v : Value) (a : Act) : Prop :=
  (Region.wanted o (yielded ops a.tmps) = true ∧ ∀ p, extAt P o a (gw W p) v) ∨ (Region.wanted o (yielded ops a.tmps) = false ∧ v = undef)
theorem EYields.eOp {i : Nat} {o : Oper} {v : Value} {a : Act} {W : World} (hi : ops[i]? = some o) (hy : EYields P ops W o v a) {K : Act → Prop} (h : K (a.put o.dst v)) : eOp P ops W i K a := by
  unfold Go.Proofs.Ytbdigomddnpllaa.eOp
  simp only [hi]
  rcases hy with ⟨hw, hv⟩ | ⟨hw, rfl⟩
  · simp only [hw, if_true]; exact ⟨v, hv, h⟩
  · simp only [hw, Bool.false_eq_true, if_false]; exact h
theorem EYields.of_same {o : Oper} {v : Value} {a a' : Act} {W : World} (hy : EYields P ops W o v a) (he : execOp a'.eval o = execOp a.eval o)
    (hw : Region.wanted o (yielded ops a'.tmps) = Region.wanted o (yielded ops a.tmps)) : EYields P ops W o v a' := by
  unfold EYields extAt at *
  rw [he, hw]
  exact hy
theorem gw_alloc_gw (W : World) (p p' : Gro) (o : Obj) : gw ((gw W p).alloc o) p' = gw W ⟨p'.d, p.os ++ #[o] ++ p'.os⟩ := by
  simp only [gw, World.alloc, Array.push_eq_append, Array.append_assoc]
theorem gw_id (W : World) : gw W ⟨W.drawn, #[]⟩ = W := by unfold gw; rw [Array.append_empty]
theorem EYields.later {o : Oper} {v : Value} {a : Act} {W : World} (hy : EYields P ops W o v a) (p : Gro) (ob : Obj) : EYields P ops ((gw W p).alloc ob) o v a := by
  rcases hy with ⟨hw, hv⟩ | h
  · exact .inl ⟨hw, fun p' => by rw [gw_alloc_gw]; exact hv _⟩
  · exact .inr h
theorem eyields_of_eOp {i : Nat} {o : Oper} {a : Act} {W : World} {K : Act → Prop} (hi : ops[i]? = some o) (h : eOp P ops W i K a) : ∃ v, EYields P ops W o v a ∧ K (a.put o.dst v) := by
  unfold eOp at h
  simp only [hi] at h
  by_cases hw : Region.wanted o (yielded ops a.tmps) = true
  · simp only [hw, if_true] at h
    obtain ⟨v, h1, h2⟩ := h
    exact ⟨v, .inl ⟨hw, h1⟩, h2⟩
  · simp only [hw] at h
    exact ⟨undef, .inr ⟨by simpa using hw, rfl⟩, h⟩
theorem eOp_put {j : Nat} {oi oj : Oper} {v : Value} {W : World} (hj : ops[j]? = some oj) (hap : oi.apart ops oj = true)
    (hsi : ∀ cs b, oi.op ≠ .select cs b) (hsj : ∀ cs b, oj.op ≠ .select cs b) {K : Act → Prop} {a : Act}
    (hy : EYields P ops W oi v a) (h : eOp P ops W j K (a.put oi.dst v)) :
    eOp P ops W j (fun a' => EYields P ops W oi v a' ∧ K (a'.put oi.dst v)) a := by
  obtain ⟨h1, h2, h3⟩ := Oper.apart_spec hap
  have keep : ∀ u, EYields P ops W oi v (a.put oj.dst u) := fun u =>
    hy.of_same (execOp_put oi hsi a oj.dst u h3) (wanted_put oi a oj.dst u h3)
  obtain ⟨u, hu, hK⟩ := eyields_of_eOp hj h
  have hu' : EYields P ops W oj u a := hu.of_same (execOp_put oj hsj a oi.dst v h1).symm (wanted_put oj a oi.dst v h1).symm
  exact hu'.eOp hj ⟨keep u, by rw [← Act.put_comm a v u h2]; exact hK⟩
theorem plain_eyields {o : Oper} {v : Value} {a : Act} {W : World} (h : plainOp o.op = true) (hy : EYields P ops W o v a) : Yields P ops o v a := by
  rcases hy with ⟨hw, hq⟩ | ⟨hw, hv⟩
  · refine .inl ⟨hw, fun w => ?_⟩
    have h1 := hq ⟨0, #[]⟩
    unfold extAt at h1
    rcases plain_run (P := P) (a := a) h with ⟨u, hu⟩ | ⟨s, hs⟩
    · rw [hu] at h1 ⊢
      rw [h1.2]
    · rw [hs] at h1
      exact False.elim h1
  · exact .inr ⟨hw, hv⟩
theorem wp_of_ext {o : Oper} {a : Act} {W : World} {K : Act → Prop} {K' : Act → World → Prop} {Q : Exit → Act → World → Prop} (p : Gro)
    (h : ∀ a q, K a → K' a (gw (gw W p) q)) (hh : ext P o a W K) : o.wp P a (gw W p) K' Q := by
  obtain ⟨v, h1, h2⟩ := hh
  have h3 := h1 p
  have h0 := h _ ⟨(gw W p).drawn, #[]⟩ h2
  rw [gw_id] at h0
  unfold extAt at h3
  unfold Oper.wp
  generalize (execOp a.eval o).run P (gw W p) = r at *
  cases r with
  | ok n w' =>
    cases n <;> simp only [extUpon] at h3 <;> simp only [Oper.upon]
    case value u => rw [h3.1, h3.2]; exact h0
    case skip => rw [h3.1, ← h3.2]; exact h0
    case enter f args =>
      rw [h3.1]
      exact h3.2.mono fun e w'' ⟨he, q, hq⟩ => by subst he; subst hq; exact h _ q h2
  | halt x w' => simp only [extUpon] at h3
theorem wpOp_of_eOp {i : Nat} {a : Act} {W : World} {K : Act → Prop} {K' : Act → World → Prop} {Q : Exit → Act → World → Prop} (p : Gro)
    (h : ∀ a q, K a → K' a (gw (gw W p) q)) (hh : eOp P ops W i K a) : wpOp P ops Q i K' a (gw W p) := by
  have h0 : ∀ a, K a → K' a (gw W p) := fun a hk => by have := h a ⟨(gw W p).drawn, #[]⟩ hk; rwa [gw_id] at this
  unfold eOp at hh
  unfold wpOp
  split
  · rename_i ho; simp only [ho] at hh; exact h0 _ hh
  · rename_i o ho
    simp only [ho] at hh
    split
    · rename_i hw; simp only [hw, if_true] at hh; exact .inl (wp_of_ext p h hh)
    · rename_i hw; simp only [hw] at hh; exact h0 _ hh

/-- An operation that makes a new variable. -/
def IsAl (P : Program) (o : Oper) (ob : Obj) : Prop :=
  o.guard = none ∧ ∀ ρ w, (execOp ρ o).run P w = .ok (.value (.pointer (some ⟨w.heap.size, 0, none⟩))) (w.alloc ob)

def anyE (P : Program) (md : Region.Mode) (ops : Array Oper) (al : List (Nat × Obj)) (Q : Exit → Act → World → Prop) (n g : Nat) : Nat → World → Array Bool → Act → Prop
  | 0, W, listed, a => (∀ k, k < n → listed.getD k true = true) ∧ ∀ p, wpAny P md ops Q g listed a (gw W p)
  | f + 1, W, listed, a => Region.ready md ops listed ≠ [] ∧
      ∀ j ∈ Region.ready md ops listed,
        (n ≤ j → ∀ p, wpOp P ops Q j (wpAny P md ops Q (f + g) (listed.setIfInBounds j true)) a (gw W p)) ∧
        (j < n → ∀ oj ob, ops[j]? = some oj → (j, ob) ∈ al → ∀ p, anyE P md ops al Q n g f ((gw W p).alloc ob) (listed.setIfInBounds j true) (a.put oj.dst (.pointer (some ⟨(gw W p).heap.size, 0, none⟩)))) ∧
        (j < n → (∀ ob, (j, ob) ∉ al) → eOp P ops W j (anyE P md ops al Q n g f W (listed.setIfInBounds j true)) a)

theorem anyE_gw {al : List (Nat × Obj)} {Q : Exit → Act → World → Prop} {n g : Nat} (hAl : ∀ j ob, (j, ob) ∈ al → ∃ oj, ops[j]? = some oj ∧ IsAl P oj ob) :
    ∀ (f : Nat) (W : World) (listed : Array Bool) (a : Act) (p : Gro), anyE P md ops al Q n g f W listed a → wpAny P md ops Q (f + g) listed a (gw W p) := by
  intro f
  induction f with
  | zero => intro W listed a p h; rw [Nat.zero_add]; exact h.2 p
  | succ f ih =>
    intro W listed a p h
    rw [show f + 1 + g = (f + g) + 1 by omega]
    refine ⟨fun h0 => absurd h0 h.1, fun j hj => ?_⟩
    obtain ⟨h1, h2, h3⟩ := h.2 j hj
    by_cases hjn : j < n
    · by_cases hal : ∃ ob, (j, ob) ∈ al
      · obtain ⟨ob, hob⟩ := hal
        obtain ⟨oj, hoj, hg, hr⟩ := hAl j ob hob
        unfold wpOp
        simp only [hoj, Region.wanted, hg, if_true]
        refine .inl ?_
        unfold Oper.wp
        rw [hr]
        simp only [Oper.upon]
        have h4 := ih _ _ _ ⟨((gw W p).alloc ob).drawn, #[]⟩ (h2 hjn oj ob hoj hob p)
        rwa [gw_id] at h4
      · refine wpOp_of_eOp p (fun a' q hk => ?_) (h3 hjn fun ob hob => hal ⟨ob, hob⟩)
        rw [gw_gw]
        exact ih _ _ _ _ hk
    · exact h1 (by omega) p

theorem anyE_first {al : List (Nat × Obj)} {n g i : Nat} {oi : Oper} {v : Value} {Q : Exit → Act → World → Prop} (hAl : ∀ j ob, (j, ob) ∈ al → ∃ oj, ops[j]? = some oj ∧ IsAl P oj ob)
    (hi : ops[i]? = some oi) (hia : ∀ ob, (i, ob) ∉ al)
    (hsel : ∀ (j : Nat) (o : Oper) cs b, ops[j]? = some o → o.op ≠ .select cs b)
    (hB : tailB md ops n = true) (hin : i < n)
    (hQ : ∀ c (a : Act) d u w, Q (.panic c) (a.put d u) w → Q (.panic c) a w) :
    ∀ (f : Nat) (W : World) (listed : Array Bool) (a : Act), HeadInv md ops n listed →
      (∀ j oj, ops[j]? = some oj → j ≠ i → listed.getD j true = false → (∀ e ∈ oj.after, Region.binds md e = true → e.on ≠ i) → oi.apart ops oj = true) →
      i ∈ Region.ready md ops listed → EYields P ops W oi v a →
      anyE P md ops al Q n g f W (listed.setIfInBounds i true) (a.put oi.dst v) → anyE P md ops al Q n g (f + 1) W listed a := by
  intro f
  induction f with
  | zero =>
    intro W listed a inv hfree hr hy H
    refine ⟨fun h => List.not_mem_nil (h ▸ hr), fun j hj => ⟨fun hjn p => ?_, fun hjn oj ob hoj hob p => ?_, fun hjn hja => ?_⟩⟩
    · have hp := tail_plain hi hB hin inv (mem_ready.1 hr).1 hj hjn
      exact (wpAny_first (Q := Q) hi hsel (fun c a w => hQ c a _ _ w) (0 + g) listed a (gw W p) hfree hr (plain_eyields hp hy) (anyE_gw hAl _ _ _ _ p H)).2 j hj
    · exfalso
      have hji : j ≠ i := fun h => hia ob (h ▸ hob)
      have h1 := H.1 j hjn
      rw [getD_set_ne true (Ne.symm hji), (mem_ready.1 hj).1] at h1
      exact Bool.noConfusion h1
    · by_cases hji : j = i
      · subst hji; exact hy.eOp hi H
      · exfalso
        have h1 := H.1 j hjn
        rw [getD_set_ne true (Ne.symm hji), (mem_ready.1 hj).1] at h1
        exact Bool.noConfusion h1
  | succ f ih =>
    intro W listed a inv hfree hr hy H
    have hnot : ∀ j oj, ops[j]? = some oj → j ∈ Region.ready md ops listed → ∀ e ∈ oj.after, Region.binds md e = true → e.on ≠ i := fun j oj hoj hj e he hb heq => by
      obtain ⟨_, oj', hoj', hall⟩ := mem_ready.1 hj
      obtain rfl : oj = oj' := Option.some.inj (hoj.symm.trans hoj')
      have h3 := hall e he hb
      rw [heq, getD_both (mem_ready.1 hr).1] at h3
      exact Bool.noConfusion h3
    have hfree' : ∀ j, j ∈ Region.ready md ops listed → ∀ k ok, ops[k]? = some ok → k ≠ i → (listed.setIfInBounds j true).getD k true = false →
        (∀ e ∈ ok.after, Region.binds md e = true → e.on ≠ i) → oi.apart ops ok = true := fun j hj k ok hk hki hku hno => by
      refine hfree k ok hk hki ?_ hno
      by_cases hjk : j = k
      · exact hjk ▸ (mem_ready.1 hj).1
      · rwa [getD_set_ne true hjk] at hku
    refine ⟨fun h => List.not_mem_nil (h ▸ hr), fun j hj => ⟨fun hjn p => ?_, fun hjn oj ob hoj hob p => ?_, fun hjn hja => ?_⟩⟩
    · have hp := tail_plain hi hB hin inv (mem_ready.1 hr).1 hj hjn
      exact (wpAny_first (Q := Q) hi hsel (fun c a w => hQ c a _ _ w) (f + 1 + g) listed a (gw W p) hfree hr (plain_eyields hp hy) (anyE_gw hAl _ _ _ _ p H)).2 j hj
    · have hji : j ≠ i := fun h => hia ob (h ▸ hob)
      have hap := hfree j oj hoj hji (mem_ready.1 hj).1 (hnot j oj hoj hj)
      obtain ⟨h1, h2, h3⟩ := Oper.apart_spec hap
      have H2 := (H.2 j (ready_mono hj hji)).2.1 hjn oj ob hoj hob p
      refine ih _ (listed.setIfInBounds j true) _ (inv.set hj hjn) (hfree' j hj) (ready_mono hr (Ne.symm hji))
        ((hy.later p ob).of_same (execOp_put oi (fun cs b => hsel i oi cs b hi) a oj.dst _ h3) (wanted_put oi a oj.dst _ h3)) ?_
      rw [Array.setIfInBounds_comm _ _ hji, ← Act.put_comm a v _ h2]
      exact H2
    · by_cases hji : j = i
      · subst hji; exact hy.eOp hi H
      · have h1 := (H.2 j (ready_mono hj hji)).2.2 hjn hja
        obtain ⟨hjun, oj, hoj, hall⟩ := mem_ready.1 hj
        have h2 := eOp_put hoj (hfree j oj hoj hji hjun (hnot j oj hoj hj)) (fun cs b => hsel i oi cs b hi) (fun cs b => hsel j oj cs b hoj) hy h1
        refine eOp_mono (fun a' h3 => ih W (listed.setIfInBounds j true) a' (inv.set hj hjn) (hfree' j hj) (ready_mono hr (Ne.symm hji)) h3.1 ?_) h2
        rw [Array.setIfInBounds_comm _ _ hji]
        exact h3.2

def alOf (m n : Nat) (ob : Nat → Obj) : List (Nat × Obj) := (List.range' m (n - m)).map fun j => (j, ob j)
theorem mem_alOf {m n : Nat} {ob : Nat → Obj} {j : Nat} {x : Obj} : (j, x) ∈ alOf m n ob ↔ (m ≤ j ∧ j < n) ∧ x = ob j := by
  unfold alOf
  simp only [List.mem_map, List.mem_range'_1, Prod.mk.injEq]
  constructor
  · rintro ⟨k, hk, rfl, rfl⟩; exact ⟨by omega, rfl⟩
  · rintro ⟨hk, rfl⟩; exact ⟨j, by omega, rfl, rfl⟩
/-- The first n have come up, and no other. -/
def canon (n s : Nat) : Array Bool := (Array.range s).map fun k => decide (k < n)
theorem canon_eq {n : Nat} {listed : Array Bool} (inv : HeadInv md ops n listed) (h : ∀ k, k < n → listed.getD k true = true) (_hn : n ≤ ops.size) : listed = canon n ops.size := by
  apply Array.ext
  · simp [canon, inv.size]
  · intro k hk hk'
    simp only [canon, Array.getElem_map, Array.getElem_range]
    by_cases hkn : k < n
    · have := h k hkn
      simp [hk] at this
      simp [this, hkn]
    · have := inv.tail k (by omega) (by rw [← inv.size]; exact hk)
      simp [hk] at this
      simp [this, hkn]
/-- The new variables that are left, in whatever order; then the tail. -/
def wpAl (P : Program) (ops : Array Oper) (Q : Exit → Act → World → Prop) (ob : Nat → Obj) (dst : Nat → Option Tmp) (tail : List Oper) : Nat → List Nat → World → Act → Prop
  | 0, _, W, a => ∀ p, wpList P ops Q tail a (gw W p)
  | f + 1, rem, W, a => ∀ j ∈ rem, ∀ p, wpAl P ops Q ob dst tail f (rem.erase j) ((gw W p).alloc (ob j)) (a.put (dst j) (.pointer (some ⟨(gw W p).heap.size, 0, none⟩)))

theorem anyE_al {m n g : Nat} {ob : Nat → Obj} {dst : Nat → Option Tmp} {Q : Exit → Act → World → Prop} {tail : List Oper}
    (hB : tailB md ops n = true) (hns : n ≤ ops.size)
    (hA : ∀ j, m ≤ j → j < n → ∃ oj, ops[j]? = some oj ∧ oj.dst = dst j ∧ oj.after = #[] ∧ plainOp oj.op = false)
    (hL : ∀ a w, wpList P ops Q tail a w → wpAny P md ops Q g (canon n ops.size) a w) :
    ∀ (f : Nat) (rem : List Nat) (W : World) (listed : Array Bool) (a : Act), HeadInv md ops n listed → rem.Nodup → rem.length = f →
      (∀ k, k < m → listed.getD k true = true) → (∀ j, j ∈ rem ↔ m ≤ j ∧ j < n ∧ listed.getD j true = false) →
      wpAl P ops Q ob dst tail f rem W a → anyE P md ops (alOf m n ob) Q n g f W listed a := by
  intro f
  induction f with
  | zero =>
    intro rem W listed a inv hnd hlen hm hrem h
    obtain rfl := List.eq_nil_of_length_eq_zero hlen
    have hall : ∀ k, k < n → listed.getD k true = true := fun k hk => by
      by_cases hkm : k < m
      · exact hm k hkm
      · cases hl : listed.getD k true with
        | true => rfl
        | false => exact absurd ((hrem k).2 ⟨by omega, hk, hl⟩) (List.not_mem_nil)
    refine ⟨hall, fun p => ?_⟩
    rw [canon_eq inv hall hns]
    exact hL _ _ (h p)
  | succ f ih =>
    intro rem W listed a inv hnd hlen hm hrem h
    obtain ⟨x, hx⟩ : ∃ x, x ∈ rem := List.exists_mem_of_length_pos (by omega)
    obtain ⟨hx1, hx2, hx3⟩ := (hrem x).1 hx
    obtain ⟨ox, hox, hdx, hax, hpx⟩ := hA x hx1 hx2
    have hrx : x ∈ Region.ready md ops listed := mem_ready.2 ⟨hx3, ox, hox, fun e he => by rw [hax] at he; exact absurd he (Array.not_mem_empty e)⟩
    refine ⟨fun h0 => List.not_mem_nil (h0 ▸ hrx), fun j hj => ⟨fun hjn p => ?_, fun hjn oj o' hoj ho' p => ?_, fun hjn hja => ?_⟩⟩
    · exfalso
      have := tail_plain hox hB hx2 inv hx3 hj hjn
      rw [hpx] at this
      exact Bool.noConfusion this
    · obtain ⟨⟨hj1, hj2⟩, rfl⟩ := mem_alOf.1 ho'
      have hjl := (mem_ready.1 hj).1
      have hjr := (hrem j).2 ⟨hj1, hj2, hjl⟩
      obtain ⟨oj', hoj', hdj, _, _⟩ := hA j hj1 hj2
      obtain rfl : oj = oj' := Option.some.inj (hoj.symm.trans hoj')
      rw [hdj]
      refine ih (rem.erase j) _ _ _ (inv.set hj hjn) (hnd.erase j) (by rw [List.length_erase_of_mem hjr]; omega) (fun k hk => ?_) (fun k => ?_) (h j hjr p)
      · rw [getD_set_ne true (by omega)]; exact hm k hk
      · rw [hnd.mem_erase_iff, hrem k]
        constructor
        · rintro ⟨hne, h1, h2, h3⟩
          exact ⟨h1, h2, by rw [getD_set_ne true (Ne.symm hne)]; exact h3⟩
        · rintro ⟨h1, h2, h3⟩
          have hne : k ≠ j := by
            rintro rfl
            have hs : k < listed.size := by rw [inv.size]; omega
            simp [hs] at h3
          exact ⟨hne, h1, h2, by rwa [getD_set_ne true (Ne.symm hne)] at h3⟩
    · exfalso
      by_cases hjm : j < m
      · have := hm j hjm
        rw [(mem_ready.1 hj).1] at this
        exact Bool.noConfusion this
      · exact hja (ob j) (mem_alOf.2 ⟨⟨by omega, hjn⟩, rfl⟩)

def headM (md : Region.Mode) (ops : Array Oper) (n g : Nat) : Nat → Nat → Array Bool → Bool
  | 0, _, _ => Region.seqB md ops g n (canon n ops.size)
  | f + 1, k, listed => (Region.ready md ops listed).contains k && Region.free md ops listed k && headM md ops n g f (k + 1) (listed.setIfInBounds k true)

theorem anyE_lex {m n g : Nat} {ob : Nat → Obj} {dst : Nat → Option Tmp} {Q : Exit → Act → World → Prop} {tail : List Oper}
    (hsel : Region.noSelect ops = true) (hB : tailB md ops n = true) (hns : n ≤ ops.size) (hmn : m ≤ n)
    (hQ : ∀ c (a : Act) d u w, Q (.panic c) (a.put d u) w → Q (.panic c) a w)
    (hA : ∀ j, m ≤ j → j < n → ∃ oj, ops[j]? = some oj ∧ oj.dst = dst j ∧ oj.after = #[] ∧ plainOp oj.op = false ∧ IsAl P oj (ob j))
    (hL : Region.seqB md ops g n (canon n ops.size) = true → ∀ a w, wpList P ops Q tail a w → wpAny P md ops Q g (canon n ops.size) a w) :
    ∀ (l : List Oper) (k : Nat) (W : World) (listed : Array Bool) (a : Act), (∀ j, j < l.length → l[j]? = ops[k + j]?) → k + l.length = m → HeadInv md ops n listed →
      (∀ t, t < k → listed.getD t true = true) → (∀ t, k ≤ t → t < n → listed.getD t true = false) →
      headM md ops n g l.length k listed = true →
      wpExt P ops W (fun a' => wpAl P ops Q ob dst tail (n - m) (List.range' m (n - m)) W a') l a →
      anyE P md ops (alOf m n ob) Q n g (l.length + (n - m)) W listed a := by
  intro l
  induction l with
  | nil =>
    intro k W listed a _ hk inv hd hu hb h
    have hkm : k = m := by simpa using hk
    subst hkm
    rw [List.length_nil, Nat.zero_add]
    refine anyE_al hB hns (fun j h1 h2 => ?_) (hL (by simpa [headM] using hb)) (n - k) (List.range' k (n - k)) W listed a inv List.nodup_range' (by simp) hd (fun j => ?_) h
    · obtain ⟨oj, a1, a2, a3, a4, _⟩ := hA j h1 h2
      exact ⟨oj, a1, a2, a3, a4⟩
    · rw [List.mem_range'_1]
      constructor
      · intro hj; exact ⟨hj.1, by omega, hu j hj.1 (by omega)⟩
      · intro hj; omega
  | cons o l ih =>
    intro k W listed a hl hk inv hd hu hb h
    have h0 : ops[k]? = some o := by simpa using (hl 0 (by simp)).symm
    simp only [List.length_cons, headM, Bool.and_eq_true] at hb hk
    obtain ⟨⟨hr, hf⟩, hb'⟩ := hb
    have hkn : k < n := by omega
    have hr' : k ∈ Region.ready md ops listed := by simpa using hr
    have hst : eOp P ops W k (wpExt P ops W (fun a' => wpAl P ops Q ob dst tail (n - m) (List.range' m (n - m)) W a') l) a := by unfold eOp; simp only [h0]; exact h
    obtain ⟨v, hy, hK⟩ := eyields_of_eOp h0 hst
    rw [List.length_cons, show l.length + 1 + (n - m) = (l.length + (n - m)) + 1 by omega]
    refine anyE_first (fun j x hx => ?_) h0 (fun x hx => ?_) (Region.noSelect_spec hsel) hB hkn hQ (l.length + (n - m)) W listed a inv (Region.free_spec h0 hf) hr' hy
      (ih (k + 1) W _ _ (fun j hj => ?_) (by omega) (inv.set hr' hkn) (fun t ht => ?_) (fun t ht ht' => ?_) hb' hK)
    · obtain ⟨⟨h1, h2⟩, rfl⟩ := mem_alOf.1 hx
      obtain ⟨oj, a1, _, _, _, a5⟩ := hA j h1 h2
      exact ⟨oj, a1, a5⟩
    · have := (mem_alOf.1 hx).1
      omega
    · have h5 := hl (j + 1) (by simp; omega)
      simpa [Nat.add_assoc, Nat.add_comm 1 j] using h5
    · by_cases hkt : k = t
      · subst hkt
        rcases Nat.lt_or_ge k listed.size with h' | h'
        · simp [h']
        · simp [h']
      · rw [getD_set_ne true hkt]; exact hd t (by omega)
    · rw [getD_set_ne true (by omega)]; exact hu t (by omega) ht'

/-- A region that draws: m operations that make at most new memory, walked in the text's order; then the new variables, in whatever order; then a forced tail, from operation n on. -/
theorem wp_grow {id : Nat} {Q : Exit → Act → World → Prop} {a : Act} {w : World} {l : List Oper} (m n : Nat) (ob : Nat → Obj)
    (hm : P.follows .mixedOrders = true)
    (hB : (Region.noSelect l.toArray && decide (n ≤ l.length) && decide (m ≤ n) && tailB .any l.toArray n && headM .any l.toArray n (l.length - n) m 0 (Array.replicate l.length false)) = true)
    (hQ : ∀ c (a : Act) d u w, Q (.panic c) (a.put d u) w → Q (.panic c) a w)
    (hA : ∀ j, m ≤ j → j < n → ∃ oj, l[j]? = some oj ∧ oj.after = #[] ∧ plainOp oj.op = false ∧ IsAl P oj (ob j))
    (h : wpExt P l.toArray w (fun a' => wpAl P l.toArray Q ob (fun j => (l[j]?).bind (·.dst)) (l.drop n) (n - m) (List.range' m (n - m)) w a') (l.take m) a) : (Code.region id l.toArray true).wp P Q a w := by
  simp only [Bool.and_eq_true, decide_eq_true_eq] at hB
  obtain ⟨⟨⟨⟨hsel, hn⟩, hmn⟩, hB⟩, hlex⟩ := hB
  have htl : (l.take m).length = m := by simp; omega
  have hdl : (l.drop n).length = l.length - n := by simp
  have H := anyE_lex (md := .any) (m := m) (n := n) (g := l.length - n) (ob := ob) (dst := fun j => (l[j]?).bind (·.dst)) (Q := Q) (tail := l.drop n) hsel hB (by simpa using hn) hmn hQ
    (fun j h1 h2 => by
      obtain ⟨oj, b1, b2, b3, b4⟩ := hA j h1 h2
      exact ⟨oj, by simpa using b1, by simp [b1], b2, b3, b4⟩)
    (fun hs a' w' hL => by
      have h6 := wpAny_of_seq (md := .any) (Q' := Q) (l.drop n) n (canon n l.toArray.size) a' w' (fun j => by simp [List.getElem?_drop]) (by rw [hdl]; exact hs) hL
      rwa [hdl] at h6)
    (l.take m) 0 w (Array.replicate l.length false) a
    (fun j hj => by rw [htl] at hj; simp [hj]) (by simpa using htl)
    ⟨by simp, fun j oj _ hl => (by rw [getD_replicate_false] at hl; exact Bool.noConfusion hl), fun t _ ht => getD_in (by simpa using ht) (getD_replicate_false _ _)⟩
    (fun t ht => absurd ht (Nat.not_lt_zero t)) (fun t _ ht => getD_in (by simp; omega) (getD_replicate_false _ _)) (by rw [htl]; exact hlex) h
  refine wp_region_any hm ?_
  have H2 := anyE_gw (n := n) (g := l.length - n) (fun j x hx => by
    obtain ⟨⟨h1, h2⟩, rfl⟩ := mem_alOf.1 hx
    obtain ⟨oj, b1, _, _, b4⟩ := hA j h1 h2
    exact ⟨oj, by simpa using b1, b4⟩) _ w _ _ ⟨w.drawn + 1, #[]⟩ H
  rw [htl, show m + (n - m) + (l.length - n) = l.toArray.size by simp; omega, show gw w ⟨w.drawn + 1, #[]⟩ = { w with drawn := w.drawn + 1 } by unfold gw; rw [Array.append_empty]] at H2
  simpa using H2
theorem wpAl_one {Q : Exit → Act → World → Prop} {ob : Nat → Obj} {dst : Nat → Option Tmp} {tail : List Oper} {m : Nat} {W : World} {a : Act}
    (h : ∀ p p', wpList P ops Q tail (a.put (dst m) (.pointer (some ⟨(gw W p).heap.size, 0, none⟩))) (gw ((gw W p).alloc (ob m)) p')) :
    wpAl P ops Q ob dst tail 1 (List.range' m 1) W a := by
  intro j hj p
  obtain rfl : j = m := by simpa [List.range'] using hj
  exact fun p' => h p p'
theorem wpAl_two {Q : Exit → Act → World → Prop} {ob : Nat → Obj} {dst : Nat → Option Tmp} {tail : List Oper} {m : Nat} {W : World} {a : Act}
    (h : ∀ p p1 p2, wpList P ops Q tail ((a.put (dst m) (.pointer (some ⟨(gw W p).heap.size, 0, none⟩))).put (dst (m + 1)) (.pointer (some ⟨(gw ((gw W p).alloc (ob m)) p1).heap.size, 0, none⟩)))
      (gw ((gw ((gw W p).alloc (ob m)) p1).alloc (ob (m + 1))) p2))
    (h' : ∀ p p1 p2, wpList P ops Q tail ((a.put (dst (m + 1)) (.pointer (some ⟨(gw W p).heap.size, 0, none⟩))).put (dst m) (.pointer (some ⟨(gw ((gw W p).alloc (ob (m + 1))) p1).heap.size, 0, none⟩)))
      (gw ((gw ((gw W p).alloc (ob (m + 1))) p1).alloc (ob m)) p2)) :
    wpAl P ops Q ob dst tail 2 (List.range' m 2) W a := by
  intro j hj p k hk p1 p2
  have hr : List.range' m 2 = [m, m + 1] := rfl
  rw [hr] at hj hk
  simp only [List.mem_cons, List.not_mem_nil, or_false] at hj
  rcases hj with rfl | rfl
  · simp at hk; subst hk; exact h p p1 p2
  · simp at hk; subst hk; exact h' p p1 p2
end
end Go.Proofs.Ytbdigomddnpllaa
