/-
  A symbolic walk of my own: the walk over a region whose order is drawn.
-/
import Derived.Test.YtkljpgdcmahenaaEF
namespace Go.Proofs.Ytkljpgdcmahenaa
set_option linter.unusedSimpArgs false
set_option linter.unusedVariables false
open Go.RowKit

/-- A new variable among the operations. -/
structure AlD where
  j : Nat
  d : Tmp
  t : TypeId
  c : Con
def putAl (β : Nat → Nat) (L : Nat → Bool) : List AlD → Act → Act
  | [], a => a
  | x :: r, a => putAl β L r (match L x.j with | true => a.put (some x.d) (.pointer (some ⟨β x.j, 0, none⟩)) | false => a)
def blkA (β : Nat → Nat) (L : Nat → Bool) : List AlD → List Blk
  | [] => []
  | x :: r => match L x.j with | true => .blk (β x.j) x.t x.c :: blkA β L r | false => blkA β L r
theorem putAl_put {β : Nat → Nat} {L : Nat → Bool} {d : Option Tmp} {v : Value} : ∀ {AL : List AlD} {a : Act}, (∀ x ∈ AL, d ≠ some x.d) → putAl β L AL (a.put d v) = (putAl β L AL a).put d v
  | [], _, _ => rfl
  | x :: r, a, h => by
    have hx := h x List.mem_cons_self
    have hr : ∀ y ∈ r, d ≠ some y.d := fun y hy => h y (List.mem_cons_of_mem _ hy)
    simp only [putAl]
    cases hL : L x.j with
    | true =>
      dsimp only
      rw [Act.put_comm a v _ (fun e he => by rw [he] at hx; exact fun h => hx h.symm), putAl_put hr]
    | false => exact putAl_put hr
theorem putAl_congr {β β' : Nat → Nat} {L L' : Nat → Bool} : ∀ {AL : List AlD} {a : Act}, (∀ x ∈ AL, β x.j = β' x.j ∧ L x.j = L' x.j) → putAl β L AL a = putAl β' L' AL a
  | [], _, _ => rfl
  | x :: r, a, h => by
    obtain ⟨h1, h2⟩ := h x List.mem_cons_self
    simp only [putAl, h1, h2]
    exact putAl_congr (fun y hy => h y (List.mem_cons_of_mem _ hy))
theorem blkA_congr {β β' : Nat → Nat} {L L' : Nat → Bool} : ∀ {AL : List AlD}, (∀ x ∈ AL, β x.j = β' x.j ∧ L x.j = L' x.j) → blkA β L AL = blkA β' L' AL
  | [], _ => rfl
  | x :: r, h => by
    obtain ⟨h1, h2⟩ := h x List.mem_cons_self
    simp only [blkA, h1, h2, blkA_congr (fun y hy => h y (List.mem_cons_of_mem _ hy))]
def updN (β : Nat → Nat) (j b : Nat) : Nat → Nat := fun i => if i = j then b else β i
def updL (L : Nat → Bool) (j : Nat) : Nat → Bool := fun i => if i = j then true else L i
theorem putAl_exec {β : Nat → Nat} {L : Nat → Bool} {b : Nat} {x : AlD} : ∀ {AL : List AlD} {a : Act}, x ∈ AL → (AL.map (·.j)).Nodup → (AL.map (·.d)).Nodup → L x.j = false →
    putAl (updN β x.j b) (updL L x.j) AL a = (putAl β L AL a).put (some x.d) (.pointer (some ⟨b, 0, none⟩)) ∧ (blkA (updN β x.j b) (updL L x.j) AL).Perm (.blk b x.t x.c :: blkA β L AL)
  | y :: r, a, hx, hj, hd, hL => by
    simp only [List.map_cons, List.nodup_cons, List.mem_map, not_exists, not_and] at hj hd
    by_cases hxy : x.j = y.j
    · have hxe : x = y := by
        rcases List.mem_cons.1 hx with h | h
        · exact h
        · exact absurd hxy (hj.1 x h)
      subst hxe
      have hc : ∀ z ∈ r, updN β x.j b z.j = β z.j ∧ updL L x.j z.j = L z.j := fun z hz => by
        have : z.j ≠ x.j := hj.1 z hz
        exact ⟨by simp [updN, this], by simp [updL, this]⟩
      have e1 : updL L x.j x.j = true := by simp [updL]
      have e2 : updN β x.j b x.j = b := by simp [updN]
      simp only [putAl, blkA, e1, e2, hL]
      refine ⟨?_, ?_⟩
      · rw [putAl_congr hc, putAl_put (fun z hz h => hd.1 z hz (by simpa using h.symm))]
      · rw [blkA_congr hc]
    · have hxr : x ∈ r := by
        rcases List.mem_cons.1 hx with h | h
        · rw [h] at hxy; exact absurd rfl hxy
        · exact h
      have e1 : updL L x.j y.j = L y.j := by simp [updL, Ne.symm hxy]
      have e2 : updN β x.j b y.j = β y.j := by simp [updN, Ne.symm hxy]
      simp only [putAl, blkA, e1, e2]
      obtain ⟨i1, i2⟩ := putAl_exec (β := β) (b := b) (a := match L y.j with | true => a.put (some y.d) (.pointer (some ⟨β y.j, 0, none⟩)) | false => a) hxr hj.2 hd.2 hL
      refine ⟨i1, ?_⟩
      cases L y.j with
      | true => exact (i2.cons _).trans (List.Perm.swap _ _ _)
      | false => exact i2
theorem putAl_eval {ops : Array Oper} {β : Nat → Nat} {L : Nat → Bool} {o : Oper} (hs : ∀ cs b, o.op ≠ .select cs b) : ∀ {AL : List AlD} {a : Act}, (∀ x ∈ AL, x.d ∉ o.looksAt ops) →
    execOp (putAl β L AL a).eval o = execOp a.eval o ∧ Region.wanted o (yielded ops (putAl β L AL a).tmps) = Region.wanted o (yielded ops a.tmps)
  | [], _, _ => ⟨rfl, rfl⟩
  | x :: r, a, h => by
    have hx := h x List.mem_cons_self
    have hr : ∀ y ∈ r, y.d ∉ o.looksAt ops := fun y hy => h y (List.mem_cons_of_mem _ hy)
    simp only [putAl]
    cases L x.j with
    | true =>
      dsimp only
      obtain ⟨h1, h2⟩ := putAl_eval (β := β) (L := L) (a := a.put (some x.d) (.pointer (some ⟨β x.j, 0, none⟩))) hs hr
      refine ⟨h1.trans ?_, h2.trans ?_⟩
      · exact execOp_put (ops := ops) o hs a _ _ (fun d hd => by cases hd; exact hx)
      · exact wanted_put (ops := ops) o a _ _ (fun d hd => by cases hd; exact hx)
    | false => exact putAl_eval hs hr
theorem putAl_defers {β : Nat → Nat} {L : Nat → Bool} : ∀ {AL : List AlD} {a : Act}, (putAl β L AL a).defers = a.defers
  | [], _ => rfl
  | x :: r, a => by simp only [putAl]; rw [putAl_defers]; cases L x.j <;> rfl

/-! ### What may come in whatever order -/
def dOp : Op → Bool
  | .move _ | .assign _ | .pick _ _ _ | .binOp _ _ _ _ _ | .unOp _ _ _ | .convert _ _ _ | .extract _ _ | .load _ _ | .indexAddr _ _ _ | .slice _ _ _ _ _ | .nilCheck _ | .sliceToArrayPointer _ _
  | .makeFunc _ _ _ | .build _ _ => true
  | .call { callee := .builtin .len, .. } => true
  | .call { callee := .builtin .cap, .. } => true
  | .call { callee := .builtin .min, .. } => true
  | .call { callee := .builtin .max, .. } => true
  | _ => false
def callQ (m : List Blk) (r : CR) (N : SV → List Blk → Prop) : Prop :=
  match r with
  | .pure p v => p ∧ N v m
  | .own p t es n con F => p ∧ ∀ v : Value, N (F (.own (blen m) v n)) (bpush m (.own v n t es con))
  | _ => False
def effQ (G : Ctr) (m : List Blk) (d : Bool) (e : Eff) (N : SV → List Blk → Prop) : Prop :=
  match e with
  | .val p v => p ∧ N v m
  | .newb f e => d = false ∧ ∀ b : Nat, N (f b) (bpush m (e b))
  | .newo p f e => d = false ∧ p ∧ ∀ v : Value, N (f v) (bpush m (e v))
  | .call f args => d = false ∧ callQ m (G f args m) N
  | _ => False
section
variable {G : Ctr} {m : List Blk} {N : SV → List Blk → Prop} {d : Bool}
@[congr] theorem callQ_congr {r r' : CR} (h : r = r') : callQ m r N = callQ m r' N := by rw [h]
@[congr] theorem effQ_congr {e e' : Eff} {d d' : Bool} (h : e = e') (hd : d = d') : effQ G m d e N = effQ G m d' e' N := by rw [h, hd]
theorem callQ_pure {p : Prop} {v : SV} : callQ m (.pure p v) N = (p ∧ N v m) := rfl
theorem callQ_own {p : Prop} {t : TypeId} {es n : Nat} {con : Con} {F : SV → SV} : callQ m (.own p t es n con F) N = (p ∧ ∀ v : Value, N (F (.own (blen m) v n)) (bpush m (.own v n t es con))) := rfl
theorem effQ_val {p : Prop} {v : SV} : effQ G m d (.val p v) N = (p ∧ N v m) := rfl
theorem effQ_newb {f : Nat → SV} {e : Nat → Blk} : effQ G m false (.newb f e) N = ∀ b : Nat, N (f b) (bpush m (e b)) := by simp [effQ]
theorem effQ_newo {p : Prop} {f : Value → SV} {e : Value → Blk} : effQ G m false (.newo p f e) N = (p ∧ ∀ v : Value, N (f v) (bpush m (e v))) := by simp [effQ]
theorem effQ_call {f : FuncId} {args : List SV} : effQ G m false (.call f args) N = callQ m (G f args m) N := by simp [effQ]
end
def vcQ (T : Tab) (G : Ctr) (all : List Oper) : List Oper → List SV → List Blk → (List SV → List Blk → Prop) → Prop
  | [], env, m, K => K env m
  | o :: rest, env, m, K =>
    gdK (gd all env o) (effQ G m (dOp o.op) (step T env m o) fun v m' => vcQ T G all rest (upd env o.dst v) m' K) (vcQ T G all rest (upd env o.dst .undef) m K)
theorem vcQ_step {T : Tab} {G : Ctr} {all : List Oper} {o : Oper} {rest : List Oper} {env : List SV} {m : List Blk} {K : List SV → List Blk → Prop} (h : vcQ T G all (o :: rest) env m K)
    {a : Act} (hf : Fr env a) : (Region.wanted o (yielded all.toArray a.tmps) = true ∧ effQ G m (dOp o.op) (step T env m o) fun v m' => vcQ T G all rest (upd env o.dst v) m' K) ∨
      (Region.wanted o (yielded all.toArray a.tmps) = false ∧ vcQ T G all rest (upd env o.dst .undef) m K) := by
  have hg := gd_sound (all := all) hf o
  simp only [vcQ] at h
  cases hgd : gd all env o with
  | go => rw [hgd] at h hg; exact .inl ⟨hg, h⟩
  | skip => rw [hgd] at h hg; exact .inr ⟨hg, h⟩
  | ask b want =>
    rw [hgd] at h hg
    simp only [gdK] at h
    dsimp only at hg
    cases hb : eqB b want with
    | true => rw [hb] at h hg; exact .inl ⟨hg, h⟩
    | false => rw [hb] at h hg; exact .inr ⟨hg, h⟩
  | stuck => rw [hgd] at h; exact h.elim
/-- New parts. -/
def NewOk (w0 : World) (B : List Nat) (w w' : World) (r : List Blk) : Prop := (∀ e ∈ r, e.ok w0 B w' ∧ ∀ b, e.num? = some b → w.heap.size ≤ b) ∧ r.length ≤ 1
theorem MemOk.perm {w0 : World} {B : List Nat} {m m' : List Blk} {w : World} (h : MemOk w0 B m w) (hp : m.Perm m') : MemOk w0 B m' w :=
  ⟨h.os, h.tape, h.output, h.size, h.old, fun e he => h.each e (hp.mem_iff.2 he), (hp.filterMap _).nodup_iff.1 h.nodup⟩
theorem MemOk.pushes {w0 : World} {B : List Nat} {m r : List Blk} {w w' : World} (h : MemOk w0 B m w) (hg : w.grownBy w' none) (hr : NewOk w0 B w w' r) : MemOk w0 B (m ++ r) w' := by
  match r, hr with
  | [], _ => rw [List.append_nil]; exact h.grow hg
  | [e], hr => exact h.push hg (hr.1 e (by simp)).1 (hr.1 e (by simp)).2
  | _ :: _ :: _, hr => exact absurd hr.2 (by simp)
theorem grown_refl (w : World) : w.grownBy w none := ⟨rfl, rfl, rfl, Nat.le_refl _, fun _ _ _ => rfl⟩
theorem new_none (w0 : World) (B : List Nat) (w w' : World) : NewOk w0 B w w' [] := ⟨fun _ h => absurd h List.not_mem_nil, by simp⟩
theorem appS_new {P : Program} {T : Tab} (hT : TabOk P T) {t e ty : TypeId} {s x : SV} {m : List Blk} {p : Prop} {k es : Nat} {con : Con}
    (h : appS T t s x m = some (p, none, k, e, es, con)) (hp : p) {w0 : World} {B : List Nat} {w : World} (hm : MemOk w0 B m w) :
    ∃ v w', (Builtin.append_ #[t, t] ty #[cv s, cv x]).run P w = .ok v w' ∧ w.grownBy w' none ∧ w'.ownsRow w.heap.size e es v k (cc con) := by
  unfold appS at h
  split at h
  · rename_i e' es' eb q kx c hty hsrc
    have hy := hT.ty t
    rw [hty] at hy
    obtain ⟨g1, g2, i, z, g3, g4, g5, g6, g7⟩ := hy
    split at h
    · rename_i he
      have he' : conEs c = es' := by simpa using he
      split at h
      · split at h
        · split at h
          · simp at h
          · cases h
        · cases h
      · simp only [Option.some.injEq, Prod.mk.injEq] at h
        obtain ⟨rfl, _, rfl, rfl, rfl, rfl⟩ := h
        obtain ⟨hq, h1, h2⟩ := hp
        obtain ⟨s1, s2, s3⟩ := srcC_sound hsrc hq hm
        rw [he'] at s1
        have hown := World.ownsRow_nil w w.heap.size e' es'
        rcases s3 with ⟨a, cp, s4, s5⟩ | ⟨s4, rfl⟩
        · obtain ⟨v1, w1, r1, r2, r3, _, r4⟩ := run_append_own_at (P := P) (w := w) w.heap.size t ty e' i z es' eb g1 g3 g4 g5 g6 (by rw [← g5]; rw [g7, g5]) g2 (.slice none 0 0) 0 [] hown a kx cp (cc c) s1 s5 s2
            (by unfold maxLen; omega) (by rw [Nat.zero_add]; exact h1) (Nat.le_refl _)
          refine ⟨v1, w1, by rw [s4]; simpa only [cv] using r1, by simpa [Value.ownBlock] using r3, ?_⟩
          rw [Nat.zero_add] at r2
          exact r2
        · have hce : cc c = [] := List.eq_nil_of_length_eq_zero (by rw [s1, Nat.zero_mul])
          refine ⟨.slice none 0 0, w, by rw [s4]; simpa only [cv] using run_append_owned_none (P := P) w w.heap.size t ty e' i es' g1 g3 _ 0 [] hown, grown_refl w, by rw [hce]; exact hown⟩
      · cases h
    · cases h
  · cases h
theorem newok_own {w0 : World} {B : List Nat} {w w' : World} {m : List Blk} (hm : MemOk w0 B m w) {t : TypeId} {es n : Nat} {v : Value} {con : Con} (ho : w'.ownsRow w.heap.size t es v n (cc con)) :
    NewOk w0 B w w' [.own v n t es con] := ⟨fun e he => by
      obtain rfl := List.mem_singleton.1 he
      exact ⟨own_base ho hm.size, fun b hb => own_fresh ho (by simpa [Blk.num?] using hb)⟩, by simp⟩
theorem newok_blk {w0 : World} {B : List Nat} {w : World} {m : List Blk} (hm : MemOk w0 B m w) {t : TypeId} {c : Con} :
    NewOk w0 B w (w.alloc (.cells (cc c).toArray t)) [.blk w.heap.size t c] := ⟨fun e he => by
      obtain rfl := List.mem_singleton.1 he
      exact ⟨⟨heap_alloc_new w _, .inl hm.size⟩, fun b hb => by simp [Blk.num?] at hb; omega⟩, by simp⟩
theorem effQ_sound {P : Program} {T : Tab} (hT : TabOk P T) {G : Ctr} (hG : GOk P G) {env : List SV} {m : List Blk} {o : Oper} {d : Bool} {N : SV → List Blk → Prop} (h : effQ G m d (step T env m o) N)
    {a0 a : Act} (hf : Fr env a0) (he : execOp a.eval o = execOp a0.eval o) {w0 : World} {B : List Nat} {w : World} (hm : MemOk w0 B m w) {Q : Exit → Act → World → Prop} :
    o.wp P a w (fun a' w' => ∃ v r, a' = a.put o.dst (cv v) ∧ w.grownBy w' none ∧ NewOk w0 B w w' r ∧ N v (m ++ r)) Q := by
  have E := fun x => hf.ev hT.gl x
  unfold step at h
  cases hd : dstep T env m o with
  | some r =>
    obtain ⟨p, v⟩ := r
    rw [hd] at h
    exact wp_of_run (by rw [he]; exact dstep_sound hT hd h.1 hf hm) ⟨v, [], rfl, grown_refl w, new_none _ _ _ _, by rw [List.append_nil]; exact h.2⟩
  | none =>
    rw [hd] at h
    obtain ⟨dst, op, type, pos, after, guard⟩ := o
    cases op <;> try (exact h.elim)
    case alloc t =>
      dsimp only at h
      cases hz : T.zc t with
      | none => rw [hz] at h; exact h.elim
      | some c =>
        rw [hz] at h
        obtain ⟨i, z, h1, h2, h3⟩ := hT.zc _ _ hz
        have hr : (Instr.alloc t true (.tuple #[])).run P w = .ok (.pointer (some ⟨w.heap.size, 0, none⟩)) (w.alloc (.cells (cc c).toArray t)) := by
          simp [Instr.alloc, zeroValue, typeInfo, h1, h2, newVar, newRow, h3]
        refine wp_of_run (u := .pointer (some ⟨w.heap.size, 0, none⟩)) (by rw [he]; simp only [execOp, Sem.run_bind, hr, Result.andThen_ok, Sem.run_pure]) ⟨.ptr (blen m) w.heap.size 0 0 0 0, [.blk w.heap.size t c], by simp [cv], World.grownBy_alloc w _ none, newok_blk hm, by have := h.2 w.heap.size; rwa [bpush_eq] at this⟩
    case box t x =>
      dsimp only at h
      cases hz : boxCon (ev T env x) with
      | none => rw [hz] at h; exact h.elim
      | some c =>
        rw [hz] at h
        have hr : (Instr.box t (cv (ev T env x))).run P w = .ok (.pointer (some ⟨w.heap.size, 0, none⟩)) (w.alloc (.cells (cc c).toArray t)) := by
          simp [Instr.box, newVar, newRow, boxCon_some hz]
        refine wp_of_run (u := .pointer (some ⟨w.heap.size, 0, none⟩)) (by rw [he]; simp only [execOp, E, Sem.run_bind, hr, Result.andThen_ok, Sem.run_pure]) ⟨.ptr (blen m) w.heap.size 0 0 0 0, [.blk w.heap.size t c], by simp [cv], World.grownBy_alloc w _ none, newok_blk hm, by have := h.2 w.heap.size; rwa [bpush_eq] at this⟩
    case store t b x =>
      dsimp only at h
      cases hz : storeS (T.ty t) (ev T env b) (ev T env x) m with
      | none => rw [hz] at h; exact h.elim
      | some r => rw [hz] at h; exact h.elim
    case buildSlice t n parts =>
      dsimp only at h
      cases hz : litS T t n (evp T env parts.toList) with
      | none => rw [hz] at h; exact h.elim
      | some r =>
        obtain ⟨e, es, c⟩ := r
        rw [hz] at h
        have e1 : (parts.map fun (i, x) => (i, a0.eval x)) = ((evp T env parts.toList).map fun p => (p.1, cv p.2)).toArray := by
          rw [← evp_map hT.gl hf]
          apply Array.ext'
          simp
        have hr := litS_sound (P := P) hT hz w
        rw [← e1] at hr
        refine wp_of_run (u := .slice (some ⟨w.heap.size, 0, none⟩) n n) (by rw [he]; simp only [execOp, Sem.run_bind, hr, Result.andThen_ok, Sem.run_pure]) ⟨.sl (blen m) (some ⟨w.heap.size, 0, none⟩) 0 0 es n n, [.blk w.heap.size e c], by simp [cv, Addr.add], World.grownBy_alloc w _ none, newok_blk hm, by have := h.2 w.heap.size; rwa [bpush_eq] at this⟩
    case makeSlice t l c =>
      dsimp only at h
      cases hz : makeS T t (ev T env l) (ev T env c) with
      | none => rw [hz] at h; exact h.elim
      | some r =>
        obtain ⟨p, e, es, n, z⟩ := r
        rw [hz] at h
        obtain ⟨v, w', h1, h2, h3⟩ := makeS_sound hT hz h.2.1 (MemOk.start w)
        refine wp_of_run (u := v) (by rw [he]; simp only [execOp, E, Sem.run_bind, h1, Result.andThen_ok, Sem.run_pure]) ⟨.own (blen m) v n, [.own v n e es z], by simp [cv], h3, newok_own hm ?_, by have := h.2.2 v; rwa [bpush_eq] at this⟩
        exact h2.each (.own v n e es z) (by simp [bpush])
    case call c =>
      obtain ⟨callee, args, ts⟩ := c
      cases callee with
      | invoke r s => exact h.elim
      | builtin b =>
        cases b <;> try (exact h.elim)
        dsimp only at h
        rcases appStep_cases T m ts.toList (evs T env args.toList) with hs | ⟨t, s, x, r, hts, hxs, hz, hs⟩
        · rw [hs] at h; exact h.elim
        · rw [hs] at h
          obtain ⟨p, o, k, e, es, con⟩ := r
          cases o with
          | none =>
            obtain ⟨v, w', h1, h2, h3⟩ := appS_new (ty := type) hT hz h.2.1 hm
            have e1 : args.map a0.eval = (cvs (evs T env args.toList)).toArray := by apply Array.ext'; rw [← hf.evs hT.gl]; simp
            have hr : (execOp a.eval ⟨dst, .call { callee := .builtin .append, args := args, argTypes := ts }, type, pos, after, guard⟩).run P w = .ok (.value v) w' := by
              have e2 : ts = #[t, t] := by apply Array.ext'; exact hts
              rw [he]
              simp only [execOp, resolve, e1, hxs, cvs, Sem.run_bind, Sem.run_pure, Result.andThen_ok, invoke, builtin, e2, h1]
            refine wp_of_run (u := v) hr ⟨.own (blen m) v k, [.own v k e es con], by simp [cv], h2, newok_own hm h3, by have := h.2.2 v; rwa [bpush_eq] at this⟩
          | some nm => exact h.elim
      | value f =>
        dsimp only at h
        rcases callStep_cases (ev T env f) (evs T env args.toList) with hs | ⟨g, first, cap, hv, hs⟩
        · rw [hs] at h; exact h.elim
        · rw [hs] at h
          have h' := h.2
          have hr := op_call (P := P) (w := w) (d := dst) (args := args) (ts := ts) (ty := type) (pos := pos) (af := after) (g := guard) hT hf hv
          rw [← he] at hr
          have hc := hG w0 B g (sapp first (sapp (evs T env args.toList) cap)) m
          generalize G g (sapp first (sapp (evs T env args.toList) cap)) m = r at *
          cases r with
          | none => exact h'.elim
          | pure p v => exact wp_of_enters hr (hc h'.1 w hm) fun u w' ⟨hu, hg⟩ => ⟨v, [], by rw [hu], hg, new_none _ _ _ _, by rw [List.append_nil]; exact h'.2⟩
          | own p t es n con F =>
            exact wp_of_enters hr (hc h'.1 w hm) fun u w' ⟨v, hu, hg, ho⟩ => ⟨F (.own (blen m) v n), [.own v n t es con], by rw [hu], hg, newok_own hm ho, by have := h'.2 v; rwa [bpush_eq] at this⟩
          | turn p nm con v => exact h'.elim
          | rel p R => exact h'.elim
end Go.Proofs.Ytkljpgdcmahenaa
