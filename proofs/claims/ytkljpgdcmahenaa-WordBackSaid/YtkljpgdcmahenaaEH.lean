/-
  A symbolic walk of my own: the walk over a region whose order is drawn, its soundness.
-/
import Derived.Test.YtkljpgdcmahenaaEG
namespace Go.Proofs.Ytkljpgdcmahenaa
set_option linter.unusedSimpArgs false
set_option linter.unusedVariables false
open Go.RowKit

def alsOk (T : Tab) (l : List Oper) : List AlD → Prop
  | [] => True
  | x :: r => ((∃ ty pos, l[x.j]? = some ⟨some x.d, .alloc x.t, ty, pos, #[], none⟩) ∧ T.zc x.t = some x.c) ∧ alsOk T l r
theorem alsOk_mem {T : Tab} {l : List Oper} : ∀ {AL : List AlD}, alsOk T l AL → ∀ x ∈ AL, (∃ ty pos, l[x.j]? = some ⟨some x.d, .alloc x.t, ty, pos, #[], none⟩) ∧ T.zc x.t = some x.c
  | [], _, x, hx => absurd hx List.not_mem_nil
  | y :: r, h, x, hx => by
    rcases List.mem_cons.1 hx with rfl | hx
    · exact h.1
    · exact alsOk_mem h.2 x hx
def alK : List AlD → List SV → List Blk → (List SV → List Blk → Prop) → Prop
  | [], env, m, N => N env m
  | x :: r, env, m, N => ∀ b : Nat, alK r (sset env x.d (.ptr (blen m) b 0 0 0 0)) (bpush m (.blk b x.t x.c)) N
theorem alK_run {β : Nat → Nat} {L : Nat → Bool} {N : List SV → List Blk → Prop} : ∀ {AL : List AlD} {env : List SV} {m : List Blk} {a : Act}, alK AL env m N → (∀ x ∈ AL, L x.j = true) → Fr env a →
    ∃ env', Fr env' (putAl β L AL a) ∧ N env' (m ++ blkA β L AL)
  | [], env, m, a, h, _, hf => ⟨env, hf, by rw [blkA, List.append_nil]; exact h⟩
  | x :: r, env, m, a, h, hL, hf => by
    have hx := hL x List.mem_cons_self
    obtain ⟨env', h1, h2⟩ := alK_run (h (β x.j)) (fun y hy => hL y (List.mem_cons_of_mem _ hy)) (hf.put (some x.d) (.ptr (blen m) (β x.j) 0 0 0 0))
    refine ⟨env', ?_, ?_⟩
    · simp only [putAl, hx]
      simpa [cv] using h1
    · simp only [blkA, hx]
      rw [bpush_eq, List.append_assoc] at h2
      exact h2
def pickL (l : List Oper) : List Nat → List Oper
  | [] => []
  | i :: r => match l[i]? with | some o => o :: pickL l r | none => pickL l r
def nodB : List Nat → Bool
  | [] => true
  | x :: r => !r.contains x && nodB r
theorem nodB_nodup : ∀ {l : List Nat}, nodB l = true → l.Nodup
  | [], _ => List.nodup_nil
  | x :: r, h => by
    simp only [nodB, Bool.and_eq_true, Bool.not_eq_true', List.contains_eq_mem, decide_eq_false_iff_not] at h
    exact List.nodup_cons.2 ⟨h.1, nodB_nodup h.2⟩
def unl (σ al : List Nat) (n j : Nat) : Bool := σ.contains j || al.contains j || decide (n ≤ j)
def readyB (ops : Array Oper) (σ al : List Nat) (n : Nat) (o : Oper) : Bool := o.after.all fun e => !Region.binds .any e || (decide (e.on < ops.size) && !unl σ al n e.on)
def freeB (ops : Array Oper) (σ al : List Nat) (n s : Nat) (oi : Oper) : Bool :=
  (List.range ops.size).all fun j => j == s || !unl σ al n j || match ops[j]? with
    | some oj => oj.after.any (fun e => Region.binds .any e && e.on == s) || oi.apart ops oj
    | none => true
def lockB (ops : Array Oper) (σ r : List Nat) : Bool := r.all fun j => match ops[j]? with | some o => o.after.any fun e => Region.binds .any e && σ.contains e.on | none => true
def stB (ops : Array Oper) (al : List Nat) (n : Nat) : List Nat → Bool
  | [] => true
  | s :: r => (match ops[s]? with | some o => readyB ops (s :: r) al n o && (match dOp o.op with | true => freeB ops (s :: r) al n s o | false => lockB ops (s :: r) r) | none => false) && stB ops al n r
def cntA (L : Nat → Bool) : List AlD → Nat
  | [] => 0
  | x :: r => match L x.j with | true => cntA L r | false => cntA L r + 1
theorem cntA_zero {L : Nat → Bool} : ∀ {AL : List AlD}, cntA L AL = 0 → ∀ x ∈ AL, L x.j = true
  | [], _, x, hx => absurd hx List.not_mem_nil
  | y :: r, h, x, hx => by
    simp only [cntA] at h
    cases hy : L y.j with
    | true =>
      rw [hy] at h
      rcases List.mem_cons.1 hx with rfl | hx
      · exact hy
      · exact cntA_zero h x hx
    | false => rw [hy] at h; simp at h
theorem cntA_some {L : Nat → Bool} : ∀ {AL : List AlD}, 0 < cntA L AL → ∃ x ∈ AL, L x.j = false
  | [], h => absurd h (by simp [cntA])
  | y :: r, h => by
    cases hy : L y.j with
    | false => exact ⟨y, List.mem_cons_self, hy⟩
    | true =>
      simp only [cntA, hy] at h
      obtain ⟨x, hx, h2⟩ := cntA_some h
      exact ⟨x, List.mem_cons_of_mem _ hx, h2⟩
theorem cntA_congr {L L' : Nat → Bool} : ∀ {AL : List AlD}, (∀ x ∈ AL, L x.j = L' x.j) → cntA L AL = cntA L' AL
  | [], _ => rfl
  | x :: r, h => by simp only [cntA, h x List.mem_cons_self, cntA_congr (fun y hy => h y (List.mem_cons_of_mem _ hy))]
theorem cntA_upd {L : Nat → Bool} {x : AlD} : ∀ {AL : List AlD}, x ∈ AL → (AL.map (·.j)).Nodup → L x.j = false → cntA L AL = cntA (updL L x.j) AL + 1
  | y :: r, hx, hj, hL => by
    simp only [List.map_cons, List.nodup_cons, List.mem_map, not_exists, not_and] at hj
    by_cases hxy : x.j = y.j
    · have hc : ∀ z ∈ r, L z.j = updL L x.j z.j := fun z hz => by
        have : z.j ≠ x.j := by rw [hxy]; exact hj.1 z hz
        simp [updL, this]
      have e1 : updL L x.j y.j = true := by simp [updL, hxy]
      have e2 : L y.j = false := by rw [← hxy]; exact hL
      simp only [cntA, e1, e2, cntA_congr hc]
    · have hxr : x ∈ r := by
        rcases List.mem_cons.1 hx with h | h
        · rw [h] at hxy; exact absurd rfl hxy
        · exact h
      have e1 : updL L x.j y.j = L y.j := by simp [updL, Ne.symm hxy]
      have := cntA_upd hxr hj.2 hL
      simp only [cntA, e1]
      cases L y.j <;> simp only [] <;> omega
theorem putAl_none {β : Nat → Nat} : ∀ {AL : List AlD} {a : Act}, putAl β (fun _ => false) AL a = a
  | [], _ => rfl
  | x :: r, a => by simp only [putAl]; exact putAl_none
theorem blkA_none {β : Nat → Nat} : ∀ {AL : List AlD}, blkA β (fun _ => false) AL = []
  | [] => rfl
  | x :: r => by simp only [blkA]; exact blkA_none
theorem cntA_none : ∀ {AL : List AlD}, cntA (fun _ => false) AL = AL.length
  | [] => rfl
  | x :: r => by simp only [cntA, List.length_cons]; rw [cntA_none]
/-- The first n have come up, and no other. -/
def canonE (n s : Nat) : Array Bool := (Array.range s).map fun k => decide (k < n)
structure DrawOk (ops : Array Oper) (σ : List Nat) (n : Nat) (AL : List AlD) : Prop where
  sel : ∀ (j : Nat) (o : Oper) cs b, ops[j]? = some o → o.op ≠ .select cs b
  ns : n ≤ ops.size
  tail : eTail .any ops n = true
  ja : (AL.map (·.j)).Nodup
  da : (AL.map (·.d)).Nodup
  nd : σ.Nodup
  lt : ∀ s ∈ σ, s < n
  off : ∀ s ∈ σ, ∀ x ∈ AL, s ≠ x.j
  apart : ∀ s ∈ σ, ∀ o, ops[s]? = some o → ∀ x ∈ AL, x.d ∉ o.looksAt ops ∧ o.dst ≠ some x.d
  alt : ∀ x ∈ AL, x.j < n
  st : stB ops (AL.map (·.j)) n σ = true
def ListedI (ops : Array Oper) (σ : List Nat) (n : Nat) (AL : List AlD) (L : Nat → Bool) (listed : Array Bool) : Prop :=
  listed.size = ops.size ∧ ∀ j, j < ops.size → (listed.getD j true = false ↔ (j ∈ σ ∨ (∃ x ∈ AL, x.j = j ∧ L x.j = false) ∨ n ≤ j))
theorem getD_set_E {listed : Array Bool} {i : Nat} : (listed.setIfInBounds i true).getD i true = true := by
  rcases Nat.lt_or_ge i listed.size with h' | h'
  · simp [h']
  · simp [h']
theorem ListedI.pop {ops : Array Oper} {s : Nat} {r : List Nat} {n : Nat} {AL : List AlD} {L : Nat → Bool} {listed : Array Bool} (h : ListedI ops (s :: r) n AL L listed) (hnd : (s :: r).Nodup) (hs : s < n) (hoff : ∀ x ∈ AL, s ≠ x.j) :
    ListedI ops r n AL L (listed.setIfInBounds s true) := by
  refine ⟨by simp [h.1], fun j hj => ?_⟩
  by_cases hjs : s = j
  · subst hjs
    rw [getD_set_E]
    simp only [Bool.true_eq_false, false_iff, not_or, not_exists, not_and]
    exact ⟨(List.nodup_cons.1 hnd).1, fun x hx he => absurd he.symm (hoff x hx), by omega⟩
  · rw [getD_set_ne true hjs, h.2 j hj, List.mem_cons]
    constructor
    · rintro ((h1 | h1) | h1)
      · exact absurd h1.symm hjs
      · exact .inl h1
      · exact .inr h1
    · rintro (h1 | h1)
      · exact .inl (.inr h1)
      · exact .inr h1
theorem ListedI.al {ops : Array Oper} {σ : List Nat} {n : Nat} {AL : List AlD} {L : Nat → Bool} {listed : Array Bool} (h : ListedI ops σ n AL L listed) {x : AlD} (_hx : x ∈ AL) (hs : x.j < n) (hoff : ∀ s ∈ σ, s ≠ x.j) :
    ListedI ops σ n AL (updL L x.j) (listed.setIfInBounds x.j true) := by
  refine ⟨by simp [h.1], fun j hj => ?_⟩
  by_cases hjs : x.j = j
  · subst hjs
    rw [getD_set_E]
    simp only [Bool.true_eq_false, false_iff, not_or, not_exists, not_and]
    exact ⟨fun h1 => hoff _ h1 rfl, fun y _ he => by simp [updL, he], by omega⟩
  · rw [getD_set_ne true hjs, h.2 j hj]
    have : (∃ y ∈ AL, y.j = j ∧ L y.j = false) ↔ (∃ y ∈ AL, y.j = j ∧ updL L x.j y.j = false) := by
      constructor
      · rintro ⟨y, hy, he, hl⟩; exact ⟨y, hy, he, by simp [updL, he, Ne.symm hjs]; rw [← he]; exact hl⟩
      · rintro ⟨y, hy, he, hl⟩; refine ⟨y, hy, he, ?_⟩; simp [updL, he, Ne.symm hjs] at hl; rw [he]; exact hl
    rw [this]
theorem effQ_true {T : Tab} {G : Ctr} {env : List SV} {m : List Blk} {o : Oper} {N : SV → List Blk → Prop} (h : effQ G m true (step T env m o) N) : ∃ p v, dstep T env m o = some (p, v) ∧ p ∧ N v m := by
  cases hd : dstep T env m o with
  | some r =>
    obtain ⟨p, v⟩ := r
    unfold step at h
    rw [hd] at h
    exact ⟨p, v, rfl, h.1, h.2⟩
  | none =>
    exfalso
    have hne : ∀ p v, step T env m o ≠ .val p v := by
      intro p v he
      unfold step at he
      rw [hd] at he
      obtain ⟨dst, op, type, pos, after, guard⟩ := o
      cases op <;> try (simp at he; done)
      case alloc t => dsimp only at he; split at he <;> cases he
      case box t x => dsimp only at he; split at he <;> cases he
      case store t a x => dsimp only at he; split at he <;> cases he
      case buildSlice t n parts => dsimp only at he; split at he <;> cases he
      case makeSlice t l c => dsimp only at he; split at he <;> cases he
      case call c =>
        obtain ⟨callee, args, ts⟩ := c
        cases callee with
        | invoke r s => simp at he
        | builtin b =>
          cases b <;> try (simp at he; done)
          dsimp only at he
          rcases appStep_cases T m ts.toList (evs T env args.toList) with hs | ⟨t, s, x, r, hts, hxs, hz, hs⟩
          · rw [hs] at he; cases he
          · rw [hs] at he
            obtain ⟨p, o, k, e, es, con⟩ := r
            cases o <;> cases he
        | value f =>
          dsimp only at he
          rcases callStep_cases (ev T env f) (evs T env args.toList) with hs | ⟨g, first, cap, hv, hs⟩ <;> rw [hs] at he <;> cases he
    cases hs : step T env m o with
    | val p v => exact hne p v hs
    | _ => rw [hs] at h; simp [effQ] at h
theorem eplain_dop {o : Op} (h : ePlain o = true) : dOp o = true := by
  cases o <;> first | rfl | exact Bool.noConfusion h
section
variable {P : Program} {T : Tab} {G : Ctr} {l : List Oper} {n g : Nat} {AL : List AlD} {w0 : World} {B : List Nat} {Q : Exit → Act → World → Prop} {K : List SV → List Blk → Prop}
theorem dyields (hT : TabOk P T) {env : List SV} {m : List Blk} {o : Oper} {p : Prop} {v : SV} (hd : dstep T env m o = some (p, v)) (hp : p) {a0 a : Act} (hf : Fr env a0) (he : execOp a.eval o = execOp a0.eval o)
    (hw : Region.wanted o (yielded l.toArray a.tmps) = true) {m' : List Blk} : YieldsIf P l.toArray (fun w => MemOk w0 B (m ++ m') w ∨ ePlain o.op = true) o (cv v) a :=
  .inl ⟨hw, fun w h => by
    rw [he]
    rcases h with h | h
    · exact dstep_sound hT hd hp hf h.front
    · exact dplain_run hT h hd hp hf w⟩
theorem draw_al (hT : TabOk P T) {x : AlD} {o : Oper} {ty : TypeId} {pos : String} (ho : o = ⟨some x.d, .alloc x.t, ty, pos, #[], none⟩) (hz : T.zc x.t = some x.c) (hjo : l.toArray[x.j]? = some o)
    {a : Act} {w : World} {K : Act → World → Prop} (h : K (a.put (some x.d) (.pointer (some ⟨w.heap.size, 0, none⟩))) (w.alloc (.cells (cc x.c).toArray x.t))) : wpOp P l.toArray Q x.j K a w := by
  subst ho
  obtain ⟨i, z, h1, h2, h3⟩ := hT.zc _ _ hz
  have hr : (Instr.alloc x.t true (.tuple #[])).run P w = .ok (.pointer (some ⟨w.heap.size, 0, none⟩)) (w.alloc (.cells (cc x.c).toArray x.t)) := by
    simp [Instr.alloc, zeroValue, typeInfo, h1, h2, newVar, newRow, h3]
  unfold wpOp
  simp only [hjo, Region.wanted, if_true]
  exact .inl (wp_of_run (u := .pointer (some ⟨w.heap.size, 0, none⟩)) (by simp only [execOp, Sem.run_bind, hr, Result.andThen_ok, Sem.run_pure]) h)
theorem DrawOk.pop {ops : Array Oper} {s : Nat} {r : List Nat} (h : DrawOk ops (s :: r) n AL) : DrawOk ops r n AL :=
  ⟨h.sel, h.ns, h.tail, h.ja, h.da, (List.nodup_cons.1 h.nd).2, fun x hx => h.lt x (List.mem_cons_of_mem _ hx), fun x hx => h.off x (List.mem_cons_of_mem _ hx),
    fun x hx => h.apart x (List.mem_cons_of_mem _ hx), h.alt, by have := h.st; simp only [stB, Bool.and_eq_true] at this; exact this.2⟩
theorem draw_main (hT : TabOk P T) (hG : GOk P G) (hAL : alsOk T l AL)
    (hQ : ∀ c (a : Act) d u w, Q (.panic c) (a.put d u) w → Q (.panic c) a w)
    (hL : ∀ a w, wpList P l.toArray Q (l.drop n) a w → wpAny P .any l.toArray Q g (canonE n l.toArray.size) a w)
    (hK : ∀ env m a w, Fr env a → a.defers = [] → MemOk w0 B m w → K env m → wpList P l.toArray Q (l.drop n) a w) :
    ∀ (f : Nat) (σ : List Nat) (L : Nat → Bool) (β : Nat → Nat) (env : List SV) (m : List Blk) (a0 : Act) (listed : Array Bool),
      f = σ.length + cntA L AL → DrawOk l.toArray σ n AL → ListedI l.toArray σ n AL L listed → HeadInv .any l.toArray n listed →
      vcQ T G l (pickL l σ) env m (fun env m => alK AL env m K) → Fr env a0 → a0.defers = [] →
      anyV P .any l.toArray Q n g f listed (putAl β L AL a0) (MemOk w0 B (m ++ blkA β L AL)) := by
  intro f
  induction f with
  | zero =>
    intro σ L β env m a0 listed hf0 D I H h hf hd
    obtain rfl : σ = [] := List.eq_nil_of_length_eq_zero (by omega)
    have hall := cntA_zero (L := L) (AL := AL) (by omega)
    have hlist : ∀ k, k < n → listed.getD k true = true := fun k hk => by
      cases hl : listed.getD k true with
      | true => rfl
      | false =>
        rcases (I.2 k (by have := D.ns; omega)).1 hl with h1 | ⟨x, hx, _, h2⟩ | h1
        · exact absurd h1 List.not_mem_nil
        · rw [hall x hx] at h2; cases h2
        · omega
    refine ⟨hlist, fun w hw => ?_⟩
    obtain ⟨env', e1, e2⟩ := alK_run (β := β) h hall hf
    have hcan : listed = canonE n l.toArray.size := by
      apply Array.ext
      · simp [canonE, H.size]
      · intro k hk hk'
        simp only [canonE, Array.getElem_map, Array.getElem_range]
        by_cases hkn : k < n
        · have := hlist k hkn
          simp [hk] at this
          simp [this, hkn]
        · have := H.tail k (by omega) (by rw [← H.size]; exact hk)
          simp [hk] at this
          simp [this, hkn]
    rw [hcan]
    exact hL _ _ (hK env' _ _ _ e1 (by rw [putAl_defers]; exact hd) hw e2)
  | succ f ih =>
    intro σ L β env m a0 listed hf0 D I H h hf hd
    -- a new variable
    have step_al : ∀ x ∈ AL, L x.j = false → x.j ∈ Region.ready .any l.toArray listed ∧ ∀ w, MemOk w0 B (m ++ blkA β L AL) w →
        wpOp P l.toArray Q x.j (fun a' w' => ∃ F' : World → Prop, (∀ w, F' w → MemOk w0 B (m ++ blkA β L AL) w) ∧ F' w' ∧ anyV P .any l.toArray Q n g f (listed.setIfInBounds x.j true) a' F') (putAl β L AL a0) w := by
      intro x hx hLx
      obtain ⟨⟨ty, pos, hjo⟩, hz⟩ := alsOk_mem hAL x hx
      have hjo' : l.toArray[x.j]? = some ⟨some x.d, .alloc x.t, ty, pos, #[], none⟩ := by simpa using hjo
      have hjs : x.j < l.toArray.size := (Array.getElem?_eq_some_iff.1 hjo').1
      have hr : x.j ∈ Region.ready .any l.toArray listed := mem_ready.2 ⟨(I.2 x.j hjs).2 (.inr (.inl ⟨x, hx, rfl, hLx⟩)), _, hjo', fun e he => absurd he (Array.not_mem_empty e)⟩
      refine ⟨hr, fun w hw => draw_al hT rfl hz hjo' ?_⟩
      obtain ⟨p1, p2⟩ := putAl_exec (β := β) (b := w.heap.size) (a := a0) hx D.ja D.da hLx
      refine ⟨MemOk w0 B (m ++ blkA (updN β x.j w.heap.size) (updL L x.j) AL), fun w' hw' => ?_, ?_, ?_⟩
      · have : MemOk w0 B ((m ++ blkA β L AL) ++ [.blk w.heap.size x.t x.c]) w' := hw'.perm (((p2.append_left m).trans (by
          rw [List.append_assoc]
          exact List.Perm.append_left m ((List.perm_append_singleton _ _).symm))))
        exact this.front
      · have : MemOk w0 B ((m ++ blkA β L AL) ++ [.blk w.heap.size x.t x.c]) (w.alloc (.cells (cc x.c).toArray x.t)) := hw.pushes (World.grownBy_alloc w _ none) (newok_blk hw)
        refine this.perm (List.Perm.symm ((p2.append_left m).trans ?_))
        rw [List.append_assoc]
        exact List.Perm.append_left m ((List.perm_append_singleton _ _).symm)
      · rw [← p1]
        exact ih σ _ _ env m a0 _ (by have := cntA_upd hx D.ja hLx; omega) D (I.al hx (D.alt x hx) (fun s hs => D.off s hs x hx)) (H.set hr (D.alt x hx)) h hf hd
    cases σ with
    | nil =>
      obtain ⟨x, hx, hLx⟩ := cntA_some (L := L) (AL := AL) (by simp at hf0; omega)
      obtain ⟨⟨ty, pos, hjo⟩, hz⟩ := alsOk_mem hAL x hx
      have hjo' : l.toArray[x.j]? = some ⟨some x.d, .alloc x.t, ty, pos, #[], none⟩ := by simpa using hjo
      obtain ⟨hr, _⟩ := step_al x hx hLx
      refine ⟨fun h0 => List.not_mem_nil (h0 ▸ hr), fun j hj => ⟨fun hjn w hw => ?_, fun hjn w hw => ?_⟩⟩
      · rcases (I.2 j (by have := D.ns; omega)).1 (mem_ready.1 hj).1 with h1 | ⟨y, hy, rfl, h2⟩ | h1
        · exact absurd h1 List.not_mem_nil
        · exact (step_al y hy h2).2 w hw
        · omega
      · have := e_tail_plain hjo' D.tail (D.alt x hx) H (mem_ready.1 hr).1 hj hjn
        exact Bool.noConfusion this
    | cons s r =>
      have hst := D.st
      simp only [stB, Bool.and_eq_true] at hst
      have hsn := D.lt s List.mem_cons_self
      have hss : s < l.toArray.size := by have := D.ns; omega
      obtain ⟨o, ho⟩ : ∃ o, l.toArray[s]? = some o := ⟨_, Array.getElem?_eq_getElem hss⟩
      rw [ho] at hst
      simp only [Bool.and_eq_true] at hst
      obtain ⟨⟨hready, hkind⟩, _⟩ := hst
      have ho' : l[s]? = some o := by simpa using ho
      have hunl : ∀ j, j < l.toArray.size → unl (s :: r) (AL.map (·.j)) n j = false → listed.getD j true = true := fun j hj hu => by
        simp only [unl, Bool.or_eq_false_iff, List.contains_eq_mem, decide_eq_false_iff_not] at hu
        cases hl : listed.getD j true with
        | true => rfl
        | false =>
          rcases (I.2 j hj).1 hl with h1 | ⟨y, hy, h2, _⟩ | h1
          · exact absurd h1 hu.1.1
          · exact absurd (List.mem_map.2 ⟨y, hy, h2⟩) hu.1.2
          · exact absurd h1 hu.2
      have hsl : listed.getD s true = false := (I.2 s hss).2 (.inl List.mem_cons_self)
      have hr : s ∈ Region.ready .any l.toArray listed := mem_ready.2 ⟨hsl, o, ho, fun e he hb => by
        have h1 := Array.all_eq_true_iff_forall_mem.1 hready e he
        simp only [hb, Bool.not_true, Bool.false_or, Bool.and_eq_true, decide_eq_true_eq, Bool.not_eq_true'] at h1
        have h2 := hunl e.on h1.1 h1.2
        have : e.on < listed.size := by rw [H.size]; exact h1.1
        simp [this] at h2 ⊢; exact h2⟩
      have hap := D.apart s List.mem_cons_self o ho
      obtain ⟨hex, hwa⟩ := putAl_eval (ops := l.toArray) (β := β) (L := L) (a := a0) (o := o) (fun cs b => D.sel s o cs b ho) (fun x hx => (hap x hx).1)
      have hput : ∀ v : Value, (putAl β L AL a0).put o.dst v = putAl β L AL (a0.put o.dst v) := fun v => (putAl_put (fun x hx => (hap x hx).2)).symm
      have hdef : ∀ v : Value, (a0.put o.dst v).defers = [] := fun v => by rw [← hd]; cases o.dst <;> rfl
      have hpk : pickL l (s :: r) = o :: pickL l r := by simp only [pickL, ho']
      rw [hpk] at h
      have hlen : f = r.length + cntA L AL := by simp only [List.length_cons] at hf0; omega
      have next : ∀ (v : SV) (r' : List Blk), vcQ T G l (pickL l r) (upd env o.dst v) (m ++ r') (fun env m => alK AL env m K) →
          anyV P .any l.toArray Q n g f (listed.setIfInBounds s true) ((putAl β L AL a0).put o.dst (cv v)) (MemOk w0 B ((m ++ r') ++ blkA β L AL)) := fun v r' hv => by
        rw [hput]
        exact ih r L β _ _ _ _ hlen D.pop (I.pop D.nd hsn (D.off s List.mem_cons_self)) (H.set hr hsn) hv (hf.put o.dst v) (hdef _)
      have next0 : ∀ v : SV, vcQ T G l (pickL l r) (upd env o.dst v) m (fun env m => alK AL env m K) →
          anyV P .any l.toArray Q n g f (listed.setIfInBounds s true) ((putAl β L AL a0).put o.dst (cv v)) (MemOk w0 B (m ++ blkA β L AL)) := fun v hv => by
        have := next v [] (by rw [List.append_nil]; exact hv)
        rwa [List.append_nil] at this
      cases hdo : dOp o.op with
      | true =>
        rw [hdo] at hkind
        have hfree : ∀ j oj, l.toArray[j]? = some oj → j ≠ s → listed.getD j true = false → (∀ e ∈ oj.after, Region.binds .any e = true → e.on ≠ s) → o.apart l.toArray oj = true := by
          intro j oj hoj hjs hjl hno
          have hjz := (Array.getElem?_eq_some_iff.1 hoj).1
          simp only [freeB, List.all_eq_true, List.mem_range] at hkind
          have h1 := hkind j hjz
          have hu : unl (s :: r) (AL.map (·.j)) n j = true := by
            cases hu : unl (s :: r) (AL.map (·.j)) n j with
            | true => rfl
            | false => rw [hunl j hjz hu] at hjl; cases hjl
          simp only [hoj, hu, Bool.or_eq_true, beq_iff_eq, hjs, false_or, Bool.not_true, Bool.false_eq_true] at h1
          rcases h1 with h1 | h1
          · obtain ⟨e, he, hb⟩ := Array.any_eq_true'.1 h1
            simp only [Bool.and_eq_true, beq_iff_eq] at hb
            exact absurd hb.2 (hno e he hb.1)
          · exact h1
        rcases vcQ_step h hf with ⟨hw, h1⟩ | ⟨hw, h1⟩
        · rw [hdo] at h1
          obtain ⟨p, v, hds, hp, hv⟩ := effQ_true h1
          exact anyV_first ho D.sel D.tail hsn hQ f listed _ _ H hfree hr (dyields hT hds hp hf hex (by rw [hwa]; exact hw)) (next0 v hv)
        · exact anyV_first (v := undef) ho D.sel D.tail hsn hQ f listed _ _ H hfree hr (.inr ⟨by rw [hwa]; exact hw, rfl⟩) (next0 .undef h1)
      | false =>
        rw [hdo] at hkind
        refine ⟨fun h0 => List.not_mem_nil (h0 ▸ hr), fun j hj => ⟨fun hjn w hw => ?_, fun hjn w hw => ?_⟩⟩
        · obtain ⟨hjl, oj, hoj, hall⟩ := mem_ready.1 hj
          rcases (I.2 j (by have := D.ns; omega)).1 hjl with h1 | ⟨y, hy, rfl, h2⟩ | h1
          · rcases List.mem_cons.1 h1 with rfl | h1
            · obtain rfl : oj = o := Option.some.inj (hoj.symm.trans ho)
              unfold wpOp
              simp only [ho, hwa]
              rcases vcQ_step h hf with ⟨hwt, h2⟩ | ⟨hwt, h2⟩
              · rw [if_pos hwt]
                rw [hdo] at h2
                refine .inl (Oper.wp_mono (fun a' w' ⟨v, r', ha, hg, hn, hv⟩ => ?_) (effQ_sound hT hG h2 hf hex hw.front))
                subst ha
                have hm2 : MemOk w0 B ((m ++ r') ++ blkA β L AL) w' := by
                  have h3 : MemOk w0 B ((m ++ blkA β L AL) ++ r') w' := hw.pushes hg hn
                  refine h3.perm ?_
                  rw [List.append_assoc, List.append_assoc]
                  exact List.Perm.append_left m List.perm_append_comm
                refine ⟨_, fun w'' hw'' => ?_, hm2, next v r' hv⟩
                have h3 : MemOk w0 B ((m ++ blkA β L AL) ++ r') w'' := hw''.perm (by
                  rw [List.append_assoc, List.append_assoc]
                  exact List.Perm.append_left m List.perm_append_comm)
                exact h3.front
              · rw [if_neg (by rw [hwt]; simp)]
                exact ⟨_, fun _ h => h, hw, next0 .undef h2⟩
            · exfalso
              have h2 := List.all_eq_true.1 hkind j h1
              rw [hoj] at h2
              obtain ⟨e, he, hb⟩ := Array.any_eq_true'.1 h2
              simp only [Bool.and_eq_true, List.contains_eq_mem, decide_eq_true_eq] at hb
              have h3 := hall e he hb.1
              have h4 := (I.2 e.on (by have := D.ns; have := D.lt e.on hb.2; omega)).2 (.inl hb.2)
              rw [getD_both h4] at h3
              cases h3
          · exact (step_al y hy h2).2 w hw
          · omega
        · have := eplain_dop (e_tail_plain ho D.tail hsn H hsl hj hjn)
          rw [this] at hdo; cases hdo
/-- What a region must be, checked by counting. -/
def drawB (ops : Array Oper) (σ : List Nat) (n : Nat) (aj ad : List Nat) : Bool :=
  Region.noSelect ops && (decide (n ≤ ops.size) && (eTail .any ops n && (Region.seqB .any ops (ops.size - n) n (canonE n ops.size) && (nodB aj && (nodB ad && (nodB σ &&
    (((List.range n).all fun j => σ.contains j || aj.contains j) && ((σ.all fun s => decide (s < n) && (!aj.contains s && match ops[s]? with | some o => ad.all fun d => !(o.looksAt ops).contains d && o.dst != some d | none => false)) &&
    ((aj.all fun j => decide (j < n)) && stB ops aj n σ)))))))))
theorem drawB_ok {ops : Array Oper} {σ : List Nat} (h : drawB ops σ n (AL.map (·.j)) (AL.map (·.d)) = true) : DrawOk ops σ n AL ∧ (∀ j, j < n → j ∈ σ ∨ ∃ x ∈ AL, x.j = j) ∧ Region.seqB .any ops (ops.size - n) n (canonE n ops.size) = true := by
  simp only [drawB, Bool.and_eq_true, decide_eq_true_eq, List.all_eq_true, List.mem_range, Bool.or_eq_true, List.contains_eq_mem, Bool.not_eq_true', decide_eq_false_iff_not] at h
  obtain ⟨h1, h2, h3, h4, h5, h6, h7, h8, h9, h10, h11⟩ := h
  refine ⟨⟨Region.noSelect_spec h1, h2, h3, nodB_nodup h5, nodB_nodup h6, nodB_nodup h7, fun s hs => (h9 s hs).1, fun s hs x hx he => (h9 s hs).2.1 (List.mem_map.2 ⟨x, hx, he.symm⟩), fun s hs o ho x hx => ?_, fun x hx => h10 _ (List.mem_map.2 ⟨x, hx, rfl⟩), h11⟩, fun j hj => ?_, h4⟩
  · have := (h9 s hs).2.2
    rw [ho] at this
    have h := List.all_eq_true.1 this x.d (List.mem_map.2 ⟨x, hx, rfl⟩)
    simpa using h
  · rcases h8 j hj with h | h
    · exact .inl h
    · obtain ⟨x, hx, he⟩ := List.mem_map.1 h
      exact .inr ⟨x, hx, he⟩
end
/-- A region whose order is drawn. -/
theorem Vc.draw {P : Program} {T : Tab} (hT : TabOk P T) {G : Ctr} (hG : GOk P G) (hm : P.follows .mixedOrders = true) {id : Nat} {l : List Oper} {env : List SV} {m : List Blk} {K : Kont} (σ : List Nat) (n : Nat) (AL : List AlD)
    (hAL : alsOk T l AL) (hB : drawB l.toArray σ n (AL.map (·.j)) (AL.map (·.d)) = true)
    (h : vcQ T G l (pickL l σ) env m fun env m => alK AL env m fun env m => vcOps T G l (l.drop n) env m (K .normal)) : Vc P (.region id l.toArray true) env m K := by
  intro w0 B a w hf hd hmm
  obtain ⟨D, hall, hseq⟩ := drawB_ok hB
  let Q : Exit → Act → World → Prop := fun x a w => x = .normal ∧ ∃ env m, Fr env a ∧ a.defers = [] ∧ MemOk w0 B m w ∧ K .normal env m
  refine wp_mono (Q := Q) (wp_region_any hm ?_) fun x a' w' ⟨hx, env', m', h1, h2, h3, h4⟩ => by subst hx; exact ⟨env', m', h1, h2, h3, h4⟩
  have hm2 : MemOk w0 B m { w with drawn := w.drawn + 1 } := ⟨hmm.os, hmm.tape, hmm.output, hmm.size, hmm.old, fun e he => by
    have := hmm.each e he
    cases e <;> exact this, hmm.nodup⟩
  have key := draw_main (g := l.length - n) (w0 := w0) (B := B) (Q := Q) hT hG hAL (fun c a d u w h => nomatch h.1)
    (fun a w hL => by
      have hdl : (l.drop n).length = l.length - n := by simp
      have h6 := wpAny_of_seq (P := P) (md := .any) (Q' := Q) (ops := l.toArray) (l.drop n) n (canonE n l.toArray.size) a w (fun j => by simp [List.getElem?_drop]) (by rw [hdl]; simpa using hseq) hL
      rwa [hdl] at h6)
    (fun env m a w h1 h2 h3 h4 => vcOps_sound hT hG (ds := []) (fun e m a w h1 h2 h3 h4 => ⟨rfl, e, m, h1, h2, h3, h4⟩) _ env m a w h4 h1 h2 h3)
    (σ.length + AL.length) σ (fun _ => false) (fun _ => 0) env m a (Array.replicate l.toArray.size false) (by rw [cntA_none]) D
    ⟨by simp, fun j hj => by
      rw [getD_in (by simpa using hj) (getD_replicate_false _ _)]
      simp only [true_iff, and_true]
      rcases Nat.lt_or_ge j n with hn | hn
      · rcases hall j hn with h | h
        · exact .inl h
        · exact .inr (.inl h)
      · exact .inr (.inr hn)⟩
    ⟨by simp, fun j oj _ hl => (by rw [getD_replicate_false] at hl; exact Bool.noConfusion hl), fun t _ ht => getD_in (by simpa using ht) (getD_replicate_false _ _)⟩ h hf hd
  rw [putAl_none, blkA_none, List.append_nil] at key
  have h7 := any_of_V _ _ _ _ _ hm2 key
  have hlen : σ.length + AL.length + (l.length - n) = l.toArray.size := by
    have hp : (σ ++ AL.map (·.j)).Perm (List.range n) := by
      refine (List.perm_ext_iff_of_nodup (List.nodup_append.2 ⟨D.nd, D.ja, fun x hx y hy he => ?_⟩) List.nodup_range).2 fun j => ?_
      · obtain ⟨z, hz, hzj⟩ := List.mem_map.1 hy
        exact D.off x hx z hz (by rw [he, hzj])
      · rw [List.mem_append, List.mem_range]
        constructor
        · rintro (h | h)
          · exact D.lt j h
          · obtain ⟨z, hz, hzj⟩ := List.mem_map.1 h
            rw [← hzj]; exact D.alt z hz
        · intro hj
          rcases hall j hj with h | ⟨x, hx, he⟩
          · exact .inl h
          · exact .inr (List.mem_map.2 ⟨x, hx, he⟩)
    have h8 := hp.length_eq
    have h9 := D.ns
    simp at h8 h9 ⊢
    omega
  rwa [hlen] at h7
end Go.Proofs.Ytkljpgdcmahenaa
