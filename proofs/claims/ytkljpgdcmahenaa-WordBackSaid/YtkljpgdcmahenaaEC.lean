/-
  A symbolic walk of my own: code, loops, a function's beginning and end.
-/
import Derived.Test.YtkljpgdcmahenaaEB
namespace Go.Proofs.Ytkljpgdcmahenaa
set_option linter.unusedSimpArgs false
set_option linter.unusedVariables false
open Go.RowKit

abbrev Kont := Exit → List SV → List Blk → Prop
def KQ (w0 : World) (B : List Nat) (K : Kont) : Exit → Act → World → Prop := fun x a w => ∃ env m, Fr env a ∧ a.defers = [] ∧ MemOk w0 B m w ∧ K x env m
/-- From this frame and this memory the code comes to what K says. -/
def Vc (P : Program) (c : Code) (env : List SV) (m : List Blk) (K : Kont) : Prop :=
  ∀ w0 B a w, Fr env a → a.defers = [] → MemOk w0 B m w → c.wp P (KQ w0 B K) a w
def thenK (N : List SV → List Blk → Prop) (K : Kont) : Kont
  | .normal, e, m => N e m
  | x, e, m => K x e m
def blockK (id : Nat) (K : Kont) : Kont
  | .exit i, e, m => match Nat.beq i id with | true => K .normal e m | false => K (.exit i) e m
  | x, e, m => K x e m
section
variable {P : Program} {env : List SV} {m : List Blk} {K : Kont}
theorem Vc.seq {a b : Code} (h : ∀ N : List SV → List Blk → Prop, (∀ env m, Vc P b env m K → N env m) → Vc P a env m (thenK N K)) : Vc P (.seq a b) env m K := by
  intro w0 B ac w hf hd hm
  refine wp_seq (wp_mono (h _ (fun _ _ h => h) w0 B ac w hf hd hm) fun e a' w' ⟨env', m', hf', hd', hm', hk⟩ => ?_)
  cases e <;> first | exact hk w0 B a' w' hf' hd' hm' | exact ⟨env', m', hf', hd', hm', hk⟩
theorem Vc.cond {T : Tab} (hT : TabOk P T) {c : Operand} {a b : Code} {t : Bool} (hc : ev T env c = .bool t) (h1 : t = true → Vc P a env m K) (h2 : t = false → Vc P b env m K) : Vc P (.cond c a b) env m K := by
  intro w0 B ac w hf hd hm
  refine wp_cond_split (t := t) (by rw [hf.ev hT.gl, hc]; rfl) (fun h => h1 h w0 B ac w hf hd hm) (fun h => h2 h w0 B ac w hf hd hm)
theorem Vc.block {id : Nat} {c : Code} (h : Vc P c env m (blockK id K)) : Vc P (.block id c) env m K := by
  intro w0 B ac w hf hd hm
  refine wp_block (wp_mono (h w0 B ac w hf hd hm) fun e a' w' ⟨env', m', hf', hd', hm', hk⟩ => ?_)
  cases e with
  | exit i =>
    simp only [blockK] at hk
    simp only [Exit.inBlock]
    cases hb : Nat.beq i id with
    | true =>
      rw [hb] at hk
      rw [if_pos (Nat.eq_of_beq_eq_true hb)]
      exact ⟨env', m', hf', hd', hm', hk⟩
    | false =>
      rw [hb] at hk
      rw [if_neg (Nat.ne_of_beq_eq_false hb)]
      exact ⟨env', m', hf', hd', hm', hk⟩
  | _ => exact ⟨env', m', hf', hd', hm', hk⟩
theorem Vc.ret (h : K .ret env m) : Vc P .ret env m K := fun _ _ _ _ hf hd hm => wp_ret ⟨env, m, hf, hd, hm, h⟩
theorem Vc.skip (h : K .normal env m) : Vc P .skip env m K := fun _ _ _ _ hf hd hm => wp_skip ⟨env, m, hf, hd, hm, h⟩
theorem Vc.exit {i : Nat} (h : K (.exit i) env m) : Vc P (.exit i) env m K := fun _ _ _ _ hf hd hm => wp_exit ⟨env, m, hf, hd, hm, h⟩
theorem Vc.region {T : Tab} (hT : TabOk P T) {G : Ctr} (hG : GOk P G) {id : Nat} {ops : List Oper} (h : vcOps T G ops ops env m (K .normal)) : Vc P (.region id ops.toArray false) env m K := by
  intro w0 B ac w hf hd hm
  exact wp_region_lit (vcOps_sound hT hG (ds := []) (fun e m a w h1 h2 h3 h4 => ⟨e, m, h1, h2, h3, h4⟩) ops env m ac w h hf hd hm)
theorem Vc.mono {c : Code} {K' : Kont} (h : Vc P c env m K) (hk : ∀ x e m, K x e m → K' x e m) : Vc P c env m K' :=
  fun w0 B a w hf hd hm => wp_mono (h w0 B a w hf hd hm) fun _ _ _ ⟨env', m', h1, h2, h3, h4⟩ => ⟨env', m', h1, h2, h3, hk _ _ _ h4⟩
end

/-! ### Loops -/
def lk : List (Nat × SV) → Nat → Option SV
  | [], _ => none
  | (n, v) :: l, i => match Nat.beq n i with | true => some v | false => lk l i
def inR (lo hi i : Nat) : Bool := match Nat.ble lo i with | true => Nat.blt i hi | false => false
def hav (junk : Nat → SV) (lo hi : Nat) (u : List (Nat × SV)) : Nat → List SV → List SV
  | _, [] => []
  | i, x :: l => (match lk u i with | some v => v | none => match inR lo hi i with | true => junk i | false => x) :: hav junk lo hi u (i + 1) l
def agr (lo hi : Nat) (u : List (Nat × SV)) : Nat → List SV → List SV → Prop
  | _, [], [] => True
  | i, x :: l, y :: k => (match lk u i with | some v => y = v | none => match inR lo hi i with | true => True | false => y = x) ∧ agr lo hi u (i + 1) l k
  | _, _, _ => False
def bpre : List Blk → List Blk → Prop
  | [], _ => True
  | a :: l, b :: k => b = a ∧ bpre l k
  | _ :: _, [] => False
theorem agr_hav {lo hi : Nat} {u : List (Nat × SV)} : ∀ {i : Nat} {l k : List SV}, agr lo hi u i l k → ∃ junk, (∀ j, j < i → True) ∧ k = hav junk lo hi u i l
  | i, [], [], _ => ⟨fun _ => .undef, fun _ _ => trivial, rfl⟩
  | i, x :: l, y :: k, h => by
    obtain ⟨h1, h2⟩ := h
    obtain ⟨junk, _, rfl⟩ := agr_hav h2
    have keep : ∀ (l : List SV) (j : Nat), i < j → hav (fun n => if n = i then y else junk n) lo hi u j l = hav junk lo hi u j l := by
      intro l
      induction l with
      | nil => intro j _; rfl
      | cons z l ih =>
        intro j hj
        simp only [hav, ih (j + 1) (by omega)]
        rw [if_neg (by omega)]
    refine ⟨fun n => if n = i then y else junk n, fun _ _ => trivial, ?_⟩
    simp only [hav, keep l (i + 1) (by omega), if_true]
    congr 1
    split at h1 <;> simp_all
    split at h1 <;> simp_all
theorem bpre_app : ∀ {l k : List Blk}, bpre l k → ∃ r, k = l ++ r
  | [], k, _ => ⟨k, rfl⟩
  | a :: l, b :: k, h => by
    obtain ⟨rfl, h2⟩ := h
    obtain ⟨r, rfl⟩ := bpre_app h2
    exact ⟨r, rfl⟩
theorem MemOk.front {w0 : World} {B : List Nat} {l r : List Blk} {w : World} (h : MemOk w0 B (l ++ r) w) : MemOk w0 B l w :=
  ⟨h.os, h.tape, h.output, h.size, h.old, fun e he => h.each e (List.mem_append_left _ he), by
    have := h.nodup
    rw [List.filterMap_append, List.nodup_append] at this
    exact this.1⟩
theorem Vc.loopJ {P : Program} {c : Code} {K : Kont} {α : Type} (J : α → List SV → List Blk → Prop) (μ : α → Nat) (x0 : α) {env : List SV} {m : List Blk} (h0 : J x0 env m)
    (hb : ∀ x env m, J x env m → Vc P c env m (thenK (fun env' m' => ∃ x', J x' env' m' ∧ μ x' < μ x) K)) : Vc P (.loop c) env m K := by
  intro w0 B ac w hf hd hm
  let S : Act → World → Nat → Prop := fun a w n => ∃ x env m, J x env m ∧ Fr env a ∧ a.defers = [] ∧ MemOk w0 B m w ∧ μ x = n
  let I : Act → World → Prop := fun a w => ∃ n, S a w n
  have least : ∀ a w, I a w → ∃ n, S a w n ∧ ∀ k, S a w k → n ≤ k := by
    intro a w ⟨n, hn⟩
    induction n using Nat.strongRecOn with
    | ind n ih =>
      by_cases h : ∃ k, k < n ∧ S a w k
      · obtain ⟨k, hk, hs⟩ := h; exact ih k hk hs
      · exact ⟨n, hn, fun k hk => Nat.le_of_not_lt fun hlt => h ⟨k, hlt, hk⟩⟩
  let M : Act → World → Nat := fun a w => open Classical in if h : I a w then Classical.choose (least a w h) else 0
  have hM : ∀ a w (h : I a w), S a w (M a w) ∧ ∀ k, S a w k → M a w ≤ k := by
    intro a w h
    simp only [M, dif_pos h]
    exact Classical.choose_spec (least a w h)
  refine wp_loop I M ⟨μ x0, x0, env, m, h0, hf, hd, hm, rfl⟩ fun a w hI => ?_
  obtain ⟨⟨x, env', m', hJ, hf', hd', hm', hx⟩, _⟩ := hM a w hI
  refine wp_mono (hb x env' m' hJ w0 B a w hf' hd' hm') fun e a2 w2 ⟨env2, m2, hf2, hd2, hm2, hk⟩ => ?_
  cases e with
  | normal =>
    obtain ⟨x2, hJ2, hlt⟩ := hk
    have hI2 : S a2 w2 (μ x2) := ⟨x2, env2, m2, hJ2, hf2, hd2, hm2, rfl⟩
    refine ⟨⟨_, hI2⟩, ?_⟩
    have := (hM a2 w2 ⟨_, hI2⟩).2 _ hI2
    rw [← hx]; omega
  | exit i => exact ⟨env2, m2, hf2, hd2, hm2, hk⟩
  | goto l => exact ⟨env2, m2, hf2, hd2, hm2, hk⟩
  | ret => exact ⟨env2, m2, hf2, hd2, hm2, hk⟩
  | panic c => exact ⟨env2, m2, hf2, hd2, hm2, hk⟩
  | outgrown => exact ⟨env2, m2, hf2, hd2, hm2, hk⟩
/-- A loop: the slots u x and the parts M x at each round's head; slots from lo to hi are the round's own. -/
theorem Vc.loop {P : Program} {c : Code} {K : Kont} {env : List SV} {m : List Blk} {α : Type} (lo hi : Nat) (u : α → List (Nat × SV)) (M : α → List Blk) (Pr : α → Prop) (μ : α → Nat) (x0 : α)
    (h0 : Pr x0 ∧ agr lo hi (u x0) 0 env env ∧ bpre (M x0) m)
    (hb : ∀ x junk, Pr x → Vc P c (hav junk lo hi (u x) 0 env) (M x) (thenK (fun env' m' => ∃ x', Pr x' ∧ agr lo hi (u x') 0 env env' ∧ bpre (M x') m' ∧ μ x' < μ x) K)) : Vc P (.loop c) env m K := by
  have wk : ∀ {c : Code} {env : List SV} {l r : List Blk} {K : Kont}, Vc P c env l K → Vc P c env (l ++ r) K := fun h w0 B a w hf hd hm => h w0 B a w hf hd hm.front
  refine Vc.loopJ (fun x e m' => Pr x ∧ agr lo hi (u x) 0 env e ∧ bpre (M x) m') μ x0 h0 fun x e m' ⟨h1, h2, h3⟩ => ?_
  obtain ⟨junk, _, rfl⟩ := agr_hav h2
  obtain ⟨r, rfl⟩ := bpre_app h3
  refine wk (Vc.mono (hb x junk h1) fun e env' m' hk => ?_)
  cases e <;> first | exact hk | (obtain ⟨x', a, b, c, d⟩ := hk; exact ⟨x', ⟨a, b, c⟩, d⟩)

/-! ### A function's beginning and end -/
def und : Nat → List SV
  | 0 => []
  | n + 1 => .undef :: und n
theorem cvs_und (n : Nat) : cvs (und n) = List.replicate n undef := by
  induction n with
  | zero => rfl
  | succ n ih => simp [und, cvs, cv, ih, List.replicate_succ]
def resOne (T : Tab) (env : List SV) (m : List Blk) : ResultVar → Option (Prop × SV)
  | .tmp t => some (True, sget env t)
  | .cell a t => loadS (T.ty t) (sget env a) m
def resAll (T : Tab) (env : List SV) (m : List Blk) : List ResultVar → Option (Prop × List SV)
  | [] => some (True, [])
  | r :: l => match resOne T env m r, resAll T env m l with
    | some (p, v), some (q, vs) => some (p ∧ q, v :: vs)
    | _, _ => none
def resS (T : Tab) (env : List SV) (m : List Blk) (rs : List ResultVar) : Option (Prop × SV) :=
  match rs with
  | [r] => resOne T env m r
  | rs => match resAll T env m rs with | some (p, vs) => some (p, .tup vs) | none => none
def retK (T : Tab) (rs : List ResultVar) (R : SV → List Blk → Prop) : Kont
  | .ret, env, m => match resS T env m rs with | some (p, v) => p ∧ R v m | none => False
  | .normal, env, m => match resS T env m rs with | some (p, v) => p ∧ R v m | none => False
  | _, _, _ => False
theorem loadS_ptr {y : Ty} {x : SV} {m : List Blk} {p : Prop} {v : SV} (h : loadS y x m = some (p, v)) : ∃ a, cv x = .pointer (some a) := by
  unfold loadS at h
  split at h
  · exact ⟨_, rfl⟩
  · cases h
def rvSem (tmps : Array Value) : ResultVar → Sem Value
  | .tmp t => pure (tmps.getD t undef)
  | .cell a t => do loadVar t (← asAddr (tmps.getD a undef))
theorem results_eq (fn : Func) (tmps : Array Value) : results fn tmps = (fn.results.mapM (rvSem tmps) >>= fun vs => pure (if h : vs.size = 1 then vs[0] else .tuple vs)) := by
  rfl
theorem resOne_run {P : Program} {T : Tab} (hT : TabOk P T) {env : List SV} {m : List Blk} {r : ResultVar} {p : Prop} {v : SV} (h : resOne T env m r = some (p, v)) (hp : p) {w0 : World} {B : List Nat} {w : World} (hm : MemOk w0 B m w) :
    (rvSem (cvs env).toArray r).run P w = .ok (cv v) w := by
  unfold rvSem
  cases r with
  | tmp t =>
    simp only [resOne, Option.some.injEq, Prod.mk.injEq] at h
    obtain ⟨rfl, rfl⟩ := h
    simp only [Sem.run_pure, cvs_sget]
  | cell a t =>
    simp only [resOne] at h
    have h1 := loadS_sound (hT.ty t) h hp hm
    obtain ⟨ad, hx⟩ := loadS_ptr h
    simp only [cvs_sget, hx] at h1 ⊢
    simpa [Instr.loadAt, Instr.sureAddr, asAddr] using h1
theorem resAll_run {P : Program} {T : Tab} (hT : TabOk P T) {env : List SV} {m : List Blk} {w0 : World} {B : List Nat} {w : World} (hm : MemOk w0 B m w) : ∀ {rs : List ResultVar} {p : Prop} {vs : List SV}, resAll T env m rs = some (p, vs) → p →
    (rs.mapM (rvSem (cvs env).toArray)).run P w = .ok (cvs vs) w
  | [], p, vs, h, hp => by
    simp only [resAll, Option.some.injEq, Prod.mk.injEq] at h
    obtain ⟨rfl, rfl⟩ := h
    simp [cvs]
  | r :: l, p, vs, h, hp => by
    simp only [resAll] at h
    split at h
    · rename_i p1 v1 q1 vs1 h1 h2
      simp only [Option.some.injEq, Prod.mk.injEq] at h
      obtain ⟨rfl, rfl⟩ := h
      rw [List.mapM_cons]
      simp only [Sem.run_bind]
      rw [resOne_run hT h1 hp.1 hm]
      simp only [Result.andThen_ok]
      rw [resAll_run hT hm h2 hp.2]
      simp [cvs]
    · cases h
theorem resS_run {P : Program} {T : Tab} (hT : TabOk P T) {env : List SV} {m : List Blk} {fn : Func} {rs : List ResultVar} (hr : fn.results = rs.toArray) {p : Prop} {v : SV} (h : resS T env m rs = some (p, v)) (hp : p)
    {w0 : World} {B : List Nat} {w : World} (hm : MemOk w0 B m w) {a : Act} (hf : Fr env a) : (results fn a.tmps).run P w = .ok (cv v) w := by
  rw [results_eq, hr, hf]
  unfold resS at h
  split at h
  · rename_i r
    simp only [List.mapM_toArray, List.mapM_cons, List.mapM_nil, Sem.run_bind, Sem.run_map]
    rw [resOne_run hT h hp hm]
    simp
  · rename_i hne
    split at h
    · rename_i q vs hq
      simp only [Option.some.injEq, Prod.mk.injEq] at h
      obtain ⟨rfl, rfl⟩ := h
      simp only [List.mapM_toArray, Sem.run_bind, Sem.run_map]
      rw [resAll_run hT hm hq hp]
      have hl : ∀ {rs : List ResultVar} {p : Prop} {vs : List SV}, resAll T env m rs = some (p, vs) → vs.length = rs.length := by
        intro rs
        induction rs with
        | nil => intro p vs h; simp only [resAll, Option.some.injEq, Prod.mk.injEq] at h; rw [← h.2]; rfl
        | cons r l ih =>
          intro p vs h
          simp only [resAll] at h
          split at h
          · rename_i h1 h2
            simp only [Option.some.injEq, Prod.mk.injEq] at h
            rw [← h.2]; simp [ih h2]
          · cases h
      have h1 : (cvs vs).toArray.size ≠ 1 := by
        intro e
        simp [cvs_len, hl hq] at e
        match rs, e with
        | [r], _ => exact hne r rfl
      simp only [Result.andThen_ok, Sem.run_pure, cv]
      rw [dif_neg h1]
    · cases h
theorem Vc.calls {P : Program} {T : Tab} (hT : TabOk P T) {f : FuncId} {fn : Func} {c : Code} (hf : P.funcs[f]? = some fn) (hb : fn.body = some c) {rs : List ResultVar} (hr : fn.results = rs.toArray) {args : List SV} {k : Nat}
    (hk : fn.ntmps - args.length = k) {w : World} {B : List Nat} {m : List Blk} (hm : MemOk w B m w) {R : SV → List Blk → Prop} (h : Vc P c (sapp args (und k)) m (retK T rs R)) :
    Calls P f (cvs args).toArray w fun e w' => ∃ u, e = .returned u ∧ ∃ v m', u = cv v ∧ MemOk w B m' w' ∧ R v m' := by
  refine calls_of_wp hf hb (wp_mono (h w B _ w ?_ rfl hm) fun e a w' ⟨env, m', hf', hd', hm', hk'⟩ => ?_)
  · unfold Fr
    simp only [sapp_eq, cvs_app, cvs_und]
    rw [← hk]
    simp [cvs_len]
  · cases e <;> first | exact hk'.elim | skip
    all_goals
      simp only [retK] at hk'
      split at hk'
      · rename_i p v hv
        exact ⟨hd', cv v, resS_run hT hr hv hk'.1 hm' hf', cv v, rfl, v, m', rfl, hm', hk'.2⟩
      · exact hk'.elim
/-- A world in which nothing is known, but that it is the one ahead of the call. -/
theorem MemOk.start (w : World) : MemOk w [] [] w := ⟨rfl, rfl, rfl, Nat.le_refl _, fun _ _ _ => rfl, fun _ h => absurd h List.not_mem_nil, List.nodup_nil⟩
theorem MemOk.grown {w0 : World} {m : List Blk} {w : World} (h : MemOk w0 [] m w) : w0.grownBy w none :=
  ⟨h.os, h.tape, h.output, h.size, fun k hk _ => h.old k hk (by simp)⟩
theorem enter_run {P : Program} {f : FuncId} {fn : Func} (hf : P.funcs[f]? = some fn) (hn : (fn.name == "runtime.NumGoroutine") = false) (hb : fn.body.isNone = false) (args : Array Value) (w : World) :
    (callFunc f args).run P w = .ok (.enter f args) w := by
  unfold callFunc
  simp only [Sem.run_bind, run_program, Result.andThen_ok, hf]
  simp only [hn, hb, Bool.false_eq_true, if_false, Sem.run_pure]
end Go.Proofs.Ytkljpgdcmahenaa
