/-
  A symbolic walk of my own: one step, for all operations that leave the world alone.
-/
import Derived.Test.YtkljpgdcmahenaaES
namespace Go.Proofs.Ytkljpgdcmahenaa
set_option linter.unusedSimpArgs false
set_option linter.unusedVariables false
open Go.RowKit

theorem una_run {P : Program} {op : UnOp} {x : SV} {p : Prop} {v : SV} (h : una op x = some (p, v)) (hp : p) (w : World) : (Op.unary op (cv x)).run P w = .ok (cv v) w := by
  unfold una at h
  split at h
  · simp only [Option.some.injEq, Prod.mk.injEq] at h; obtain ⟨rfl, rfl⟩ := h
    simp [cv, Op.unary]
  · rename_i k n
    split at h <;> (simp only [Option.some.injEq, Prod.mk.injEq] at h; obtain ⟨rfl, rfl⟩ := h; simp only [cv, Op.unary, Op.intArith, Sem.run_pure])
    rw [wrap_inK hp]
  · simp only [Option.some.injEq, Prod.mk.injEq] at h; obtain ⟨rfl, rfl⟩ := h
    simp only [cv, Op.unary, intBits_xor, Sem.run_pure]
  · exact none_of h
theorem pickS_run {P : Program} {c a b : SV} {p : Prop} {v : SV} (h : pickS c a b = some (p, v)) (_hp : p) (w : World) :
    (do pure (Next.value (if ← asBool (cv c) then cv a else cv b)) : Sem Next).run P w = .ok (.value (cv v)) w := by
  unfold pickS at h
  split at h <;> first | exact none_of h | skip
  all_goals
    simp only [Option.some.injEq, Prod.mk.injEq] at h; obtain ⟨rfl, rfl⟩ := h
    simp [cv, asBool]
theorem extS_run {P : Program} {x : SV} {i : Nat} {p : Prop} {v : SV} (h : extS x i = some (p, v)) (_hp : p) (w : World) : (Instr.extract (cv x) i).run P w = .ok (cv v) w := by
  unfold extS at h
  split at h
  · split at h
    · rename_i u hu
      simp only [Option.some.injEq, Prod.mk.injEq] at h; obtain ⟨rfl, rfl⟩ := h
      simp [cv, Instr.extract, nth?_some hu]
    · exact none_of h
  · exact none_of h
/-- A conversion between kinds of numbers. -/
def convT (a b : Ty) (x : SV) : Option (Prop × SV) :=
  match a with
  | .int _ => convS b x
  | _ => none
theorem convT_run {P : Program} {s d : TypeId} {a b : Ty} (ha : TyOk1 P s a) (hb : TyOk1 P d b) {x : SV} {p : Prop} {v : SV} (h : convT a b x = some (p, v)) (_hp : p) (w : World) :
    (convert s d (cv x)).run P w = .ok (cv v) w := by
  unfold convT at h
  split at h
  · unfold convS at h
    split at h
    · simp only [Option.some.injEq, Prod.mk.injEq] at h; obtain ⟨rfl, rfl⟩ := h
      unfold convert
      simp [run_underlying ha, run_underlying hb, cv, Conv.intToInt]
    · exact none_of h
  · exact none_of h
theorem arrPS_run {P : Program} {t : TypeId} {y : Ty} (hy : TyOk1 P t y) {x : SV} {p : Prop} {v : SV} (h : arrPS y x = some (p, v)) (hp : p) (w : World) : (Instr.arrayAt t (cv x)).run P w = .ok (cv v) w := by
  unfold arrPS at h
  split at h
  · rename_i nm a st st0 es len cap
    have key : ∀ (N : Nat) (e : TypeId), P.underlying t = some (.array N e) → N ≤ len → 0 < N → len ≤ cap → a = some ⟨blkO a, offO a, none⟩ → es = 1 →
        (Instr.arrayAt t (.slice (a.map (·.add ((if cap = 0 then st0 else st) * es))) len cap)).run P w = .ok (.pointer (some ⟨blkO a, offO a + (0 * 0 + st), none⟩)) w := by
      intro N e h1 q1 q2 q3 q4 q5
      subst q5
      unfold Instr.arrayAt
      simp only [Sem.run_bind, run_underlying h1, Result.andThen_ok]
      rw [if_neg (by omega), if_neg (by omega)]
      generalize blkO a = b at *
      generalize offO a = o at *
      subst q4
      simp only [Option.map_some, Sem.run_pure, addr_add]
      simp
    split at h
    · split at h
      · simp only [Option.some.injEq, Prod.mk.injEq] at h; obtain ⟨rfl, rfl⟩ := h
        obtain ⟨u, h1, _⟩ := hy
        exact key 4 u h1 hp.1 (by omega) hp.2.1 hp.2.2 rfl
      · exact none_of h
    · rename_i N e es' ek
      split at h
      · simp only [Option.some.injEq, Prod.mk.injEq] at h; obtain ⟨rfl, rfl⟩ := h
        exact key N e hy.1 hp.1 hp.2.1 hp.2.2.1 hp.2.2.2 rfl
      · exact none_of h
    · exact none_of h
  · exact none_of h
def tys (T : Tab) : List TypeId → List Ty
  | [] => []
  | t :: l => T.ty t :: tys T l
theorem tys_eq (T : Tab) (l : List TypeId) : tys T l = l.map T.ty := by induction l <;> simp_all [tys]
theorem tys_one {T : Tab} {ts : List TypeId} {y : Ty} (h : tys T ts = [y]) : ∃ t, ts = [t] ∧ T.ty t = y := by
  match ts, h with
  | [t], h => simp [tys] at h; exact ⟨t, rfl, h⟩
  | _ :: _ :: _, h => simp [tys] at h
theorem bltS_run {P : Program} {T : Tab} (hT : TabOk P T) {b : Builtin} {ts : List TypeId} {ty : TypeId} {cs : Array Bool} {xs : List SV} {p : Prop} {v : SV} (h : bltS b (tys T ts) xs = some (p, v)) (_hp : p) (w : World) :
    (builtin b ts.toArray ty cs (cvs xs).toArray).run P w = .ok (.value (cv v)) w := by
  unfold bltS at h
  split at h
  · rename_i hts
    obtain ⟨t, rfl, hts'⟩ := tys_one hts
    · have h1 := hT.ty t
      rw [hts'] at h1
      simp only [Option.some.injEq, Prod.mk.injEq] at h; obtain ⟨rfl, rfl⟩ := h
      simp [builtin, Builtin.len_, cvs, cv, run_underlying h1.1, goInt]
  · rename_i hts
    obtain ⟨t, rfl, hts'⟩ := tys_one hts
    · have h1 := hT.ty t
      rw [hts'] at h1
      simp only [Option.some.injEq, Prod.mk.injEq] at h; obtain ⟨rfl, rfl⟩ := h
      simp [builtin, Builtin.len_, cvs, cv, run_underlying h1.1, goInt]
  · rename_i hts
    obtain ⟨t, rfl, hts'⟩ := tys_one hts
    · have h1 := hT.ty t
      rw [hts'] at h1
      simp only [Option.some.injEq, Prod.mk.injEq] at h; obtain ⟨rfl, rfl⟩ := h
      simp [builtin, Builtin.len_, cvs, cv, run_underlying h1, goInt]
  · rename_i hts
    obtain ⟨t, rfl, hts'⟩ := tys_one hts
    · have h1 := hT.ty t
      rw [hts'] at h1
      simp only [Option.some.injEq, Prod.mk.injEq] at h; obtain ⟨rfl, rfl⟩ := h
      simp [builtin, Builtin.cap_, cvs, cv, run_underlying h1.1, goInt]
  · simp only [Option.some.injEq, Prod.mk.injEq] at h; obtain ⟨rfl, rfl⟩ := h
    simp [builtin, Builtin.min_, Builtin.min2, cvs, cv]
  · simp only [Option.some.injEq, Prod.mk.injEq] at h; obtain ⟨rfl, rfl⟩ := h
    simp [builtin, Builtin.max_, Builtin.max2, cvs, cv]
  · exact none_of h
theorem own_len {w : World} {base : Nat} {t : TypeId} {es n : Nat} {v : Value} {xs : List Value} (h : w.ownsRow base t es v n xs) : ∃ a c, v = .slice a n c := by
  obtain ⟨_, h⟩ := h
  rcases h with ⟨rfl, rfl⟩ | ⟨g, cap, cur, rfl, _⟩
  · exact ⟨none, 0, rfl⟩
  · exact ⟨_, _, rfl⟩
theorem lenOwn_run {P : Program} {T : Tab} (hT : TabOk P T) {b : Builtin} {ts : List TypeId} {ty : TypeId} {cs : Array Bool} {xs : List SV} {m : List Blk} {p : Prop} {v : SV}
    (h : lenOwn b (tys T ts) xs m = some (p, v)) (hp : p) {w0 : World} {B : List Nat} {w : World} (hm : MemOk w0 B m w) :
    (builtin b ts.toArray ty cs (cvs xs).toArray).run P w = .ok (.value (cv v)) w := by
  unfold lenOwn at h
  split at h
  · rename_i hts
    obtain ⟨t, rfl, hts'⟩ := tys_one hts
    · have h1 := hT.ty t
      rw [hts'] at h1
      split at h
      · rename_i hbg
        simp only [Option.some.injEq, Prod.mk.injEq] at h; obtain ⟨rfl, rfl⟩ := h
        obtain ⟨rfl, rfl⟩ := hp
        obtain ⟨a, c, rfl⟩ := own_len (hm.each _ (bget_mem hbg (by simp)))
        simp [builtin, Builtin.len_, cvs, cv, run_underlying h1.1, goInt]
      · exact none_of h
  · exact none_of h
def evp (T : Tab) (env : List SV) : List (Nat × Operand) → List (Nat × SV)
  | [] => []
  | (i, x) :: l => (i, ev T env x) :: evp T env l
def evo (T : Tab) (env : List SV) : Option Operand → Option SV
  | none => none
  | some x => some (ev T env x)

/-- An operation that leaves the world alone: what must hold, and the value. -/
def dstep (T : Tab) (env : List SV) (m : List Blk) (o : Oper) : Option (Prop × SV) :=
  match o.op with
  | .move x => some (True, ev T env x)
  | .assign x => some (True, ev T env x)
  | .pick c a b => pickS (ev T env c) (ev T env a) (ev T env b)
  | .binOp op t x y _ => binT op (T.ty t) (ev T env x) (ev T env y)
  | .unOp op _ x => una op (ev T env x)
  | .convert s d x => match convT (T.ty s) (T.ty d) (ev T env x) with
    | some r => some r
    | none => convM T (T.ty s) (T.ty d) (ev T env x) m
  | .extract x i => extS (ev T env x) i
  | .load t x => loadS (T.ty t) (ev T env x) m
  | .indexAddr t x i => idxS (T.ty t) (ev T env x) (ev T env i) m
  | .slice t x lo hi none => sliceS (T.ty t) (ev T env x) (evo T env lo) (evo T env hi) m
  | .nilCheck x => nilS (ev T env x)
  | .sliceToArrayPointer t x => arrPS (T.ty t) (ev T env x)
  | .makeFunc f a c => some (True, .fn f (evs T env a.toList) (evs T env c.toList))
  | .build t parts => buildS (T.ty t) (T.zr t) (evp T env parts.toList)
  | .call { callee := .builtin b, args, argTypes } =>
    match bltS b (tys T argTypes.toList) (evs T env args.toList) with
    | some r => some r
    | none => lenOwn b (tys T argTypes.toList) (evs T env args.toList) m
  | _ => none
theorem evo_none (T : Tab) (env : List SV) : evo T env none = none := rfl
theorem evo_map {T : Tab} (hT : ∀ g, cv (T.gl g) = .pointer (some ⟨g, 0, none⟩)) {env : List SV} {a : Act} (h : Fr env a) (x : Option Operand) : x.map a.eval = (evo T env x).map cv := by
  cases x with
  | none => rfl
  | some x => simp [evo, h.ev hT]
theorem evp_map {T : Tab} (hT : ∀ g, cv (T.gl g) = .pointer (some ⟨g, 0, none⟩)) {env : List SV} {a : Act} (h : Fr env a) : ∀ (l : List (Nat × Operand)), l.map (fun p => (p.1, a.eval p.2)) = (evp T env l).map fun p => (p.1, cv p.2)
  | [] => rfl
  | (i, x) :: l => by simp only [evp, List.map_cons, h.ev hT x, evp_map hT h l]
theorem dstep_sound {P : Program} {T : Tab} (hT : TabOk P T) {env : List SV} {m : List Blk} {o : Oper} {p : Prop} {v : SV} (h : dstep T env m o = some (p, v)) (hp : p)
    {a : Act} (hf : Fr env a) {w0 : World} {B : List Nat} {w : World} (hm : MemOk w0 B m w) : (execOp a.eval o).run P w = .ok (.value (cv v)) w := by
  obtain ⟨dst, op, type, pos, after, guard⟩ := o
  unfold dstep at h
  simp only at h
  have E := fun x => hf.ev hT.gl x
  split at h <;> try (exact none_of h)
  · simp only [Option.some.injEq, Prod.mk.injEq] at h; obtain ⟨rfl, rfl⟩ := h
    simp [execOp, E]
  · simp only [Option.some.injEq, Prod.mk.injEq] at h; obtain ⟨rfl, rfl⟩ := h
    simp [execOp, E]
  · simp only [execOp, E]
    exact pickS_run h hp w
  · simp only [execOp, E]
    rename_i op t x y _
    have h1 := bin_run (ox := x) (oy := y) (hT.ty t) h hp w
    simp only [Sem.run_bind, Sem.run_pure] at h1 ⊢
    rw [h1]; rfl
  · simp only [execOp, E, Sem.run_bind, una_run h hp, Result.andThen_ok, Sem.run_pure]
  · split at h
    · rename_i r hr
      simp only [Option.some.injEq] at h; subst h
      simp only [execOp, E, Sem.run_bind, convT_run (hT.ty _) (hT.ty _) hr hp, Result.andThen_ok, Sem.run_pure]
    · simp only [execOp, E, Sem.run_bind, convM_sound hT h hp hm, Result.andThen_ok, Sem.run_pure]
  · simp only [execOp, E, Sem.run_bind, extS_run h hp, Result.andThen_ok, Sem.run_pure]
  · simp only [execOp, E, Sem.run_bind, loadS_sound (hT.ty _) h hp hm, Result.andThen_ok, Sem.run_pure]
  · simp only [execOp, E, Sem.run_bind, idxS_sound (hT.ty _) h hp hm, Result.andThen_ok, Sem.run_pure]
  · simp only [execOp, E, evo_map hT.gl hf, evo_none, Option.map_none, Sem.run_bind, sliceS_sound (hT.ty _) h hp hm, Result.andThen_ok, Sem.run_pure]
  · simp only [execOp, E]
    unfold nilS at h
    split at h <;> first | exact none_of h | skip
    all_goals
      rename_i hx
      simp only [Option.some.injEq, Prod.mk.injEq] at h; obtain ⟨rfl, rfl⟩ := h
      rw [hx]; simp [cv]
  · simp only [execOp, E, Sem.run_bind, arrPS_run (hT.ty _) h hp, Result.andThen_ok, Sem.run_pure]
  · rename_i f xs cs
    simp only [Option.some.injEq, Prod.mk.injEq] at h; obtain ⟨rfl, rfl⟩ := h
    have e1 : xs.map a.eval = (cvs (evs T env xs.toList)).toArray := by apply Array.ext'; rw [← hf.evs hT.gl]; simp
    have e2 : cs.map a.eval = (cvs (evs T env cs.toList)).toArray := by apply Array.ext'; rw [← hf.evs hT.gl]; simp
    simp only [execOp, e1, e2, Instr.makeFunc, Sem.run_bind, Sem.run_pure, Result.andThen_ok, cv]
  · rename_i t parts
    have e1 : (parts.map fun (i, x) => (i, a.eval x)) = ((evp T env parts.toList).map fun p => (p.1, cv p.2)).toArray := by
      rw [← evp_map hT.gl hf]
      apply Array.ext'
      simp
    simp only [execOp, e1, Sem.run_bind, buildS_sound hT h hp, Result.andThen_ok, Sem.run_pure]
  · rename_i b args argTypes
    have e1 : args.map a.eval = (cvs (evs T env args.toList)).toArray := by apply Array.ext'; rw [← hf.evs hT.gl]; simp
    simp only [execOp, resolve, Sem.run_bind, Sem.run_pure, Result.andThen_ok, invoke, e1]
    have e2 : argTypes = argTypes.toList.toArray := by simp
    rw [e2]
    split at h
    · rename_i r hr
      simp only [Option.some.injEq] at h; subst h
      exact bltS_run hT hr hp w
    · exact lenOwn_run hT h hp hm
end Go.Proofs.Ytkljpgdcmahenaa
