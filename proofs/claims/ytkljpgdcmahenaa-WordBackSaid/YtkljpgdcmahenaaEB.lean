/-
  A symbolic walk of my own: contracts of callees, all operations, a region's operations one behind the other.
-/
import Derived.Test.YtkljpgdcmahenaaEL
namespace Go.Proofs.Ytkljpgdcmahenaa
set_option linter.unusedSimpArgs false
set_option linter.unusedVariables false
open Go.RowKit

/-- What a call comes to. -/
inductive CR where
  | none
  | pure (p : Prop) (v : SV)
  | own (p : Prop) (t : TypeId) (es n : Nat) (con : Con) (f : SV → SV)
  | turn (p : Prop) (nm : Nat) (con : Con) (v : SV)
  | rel (p : Prop) (R : SV → List Blk → Prop)
def Enters (P : Program) (f : FuncId) (args : Array Value) (w : World) (R : Value → World → Prop) : Prop :=
  (∃ u, (callFunc f args).run P w = .ok (.value u) w ∧ R u w) ∨
  ((callFunc f args).run P w = .ok (.enter f args) w ∧ Calls P f args w fun e w' => ∃ u, e = .returned u ∧ R u w')
def withCon : Blk → Con → Blk
  | .blk b t _, c => .blk b t c
  | .own v n t es _, c => .own v n t es c
  | e, _ => e
def CROk (P : Program) (w0 : World) (B : List Nat) (f : FuncId) (args : List SV) (m : List Blk) : CR → Prop
  | .none => True
  | .pure p v => p → ∀ w, MemOk w0 B m w → Enters P f (cvs args).toArray w fun u w' => u = cv v ∧ w.grownBy w' .none
  | .own p t es n con F => p → ∀ w, MemOk w0 B m w → Enters P f (cvs args).toArray w fun u w' => ∃ v, u = cv (F (.own (blen m) v n)) ∧ w.grownBy w' .none ∧ w'.ownsRow w.heap.size t es v n (cc con)
  | .turn p nm con v => p → ∀ w, MemOk w0 B m w → Enters P f (cvs args).toArray w fun u w' => u = cv v ∧ MemOk w0 B (bset m nm (withCon (bget m nm) con)) w'
  | .rel p R => p → ∀ w, MemOk w0 B m w → Enters P f (cvs args).toArray w fun u w' => ∃ v m', u = cv v ∧ MemOk w0 B m' w' ∧ R v m'
abbrev Ctr := FuncId → List SV → List Blk → CR
def GOk (P : Program) (G : Ctr) : Prop := ∀ w0 B f args m, CROk P w0 B f args m (G f args m)

inductive Eff where
  | val (p : Prop) (v : SV)
  | mem (p : Prop) (m : List Blk)
  | newb (f : Nat → SV) (e : Nat → Blk)
  | newo (p : Prop) (f : Value → SV) (e : Value → Blk)
  | turn (p : Prop) (nm : Nat) (f : Value → SV) (e : Value → Blk)
  | call (f : FuncId) (args : List SV)
  | stuck
def sapp : List SV → List SV → List SV
  | [], l => l
  | x :: k, l => x :: sapp k l
theorem sapp_eq : ∀ (k l : List SV), sapp k l = k ++ l
  | [], _ => rfl
  | x :: k, l => by simp [sapp, sapp_eq k l]
def appE (r : Option (Prop × Option Nat × Nat × TypeId × Nat × Con)) (m : List Blk) : Eff :=
  match r with
  | some (p, some nm, k, e, es, con) => .turn p nm (fun v => .own nm v k) (fun v => .own v k e es con)
  | some (p, none, k, e, es, con) => .newo p (fun v => .own (blen m) v k) (fun v => .own v k e es con)
  | none => .stuck
def appStep (T : Tab) (m : List Blk) (ts : List TypeId) (xs : List SV) : Eff :=
  match ts, xs with
  | [t, t'], [s, x] => match Nat.beq t t' with | true => appE (appS T t s x m) m | false => .stuck
  | _, _ => .stuck
theorem appStep_cases (T : Tab) (m : List Blk) (ts : List TypeId) (xs : List SV) :
    appStep T m ts xs = .stuck ∨ ∃ t s x r, ts = [t, t] ∧ xs = [s, x] ∧ appS T t s x m = some r ∧ appStep T m ts xs = appE (some r) m := by
  unfold appStep
  split
  · rename_i t t' s x
    split
    · rename_i htt
      have htt' : t = t' := Nat.eq_of_beq_eq_true htt
      subst htt'
      cases hz : appS T t s x m with
      | none => exact .inl rfl
      | some r => exact .inr ⟨t, s, x, r, rfl, rfl, hz, rfl⟩
    · exact .inl rfl
  · exact .inl rfl
def callStep (f : SV) (xs : List SV) : Eff :=
  match f with
  | .fn (.func g) first cap => .call g (sapp first (sapp xs cap))
  | _ => .stuck
theorem callStep_cases (f : SV) (xs : List SV) : callStep f xs = .stuck ∨ ∃ g first cap, f = .fn (.func g) first cap ∧ callStep f xs = .call g (sapp first (sapp xs cap)) := by
  unfold callStep
  split
  · exact .inr ⟨_, _, _, rfl, rfl⟩
  · exact .inl rfl
def step (T : Tab) (env : List SV) (m : List Blk) (o : Oper) : Eff :=
  match dstep T env m o with
  | some (p, v) => .val p v
  | none =>
    match o.op with
    | .alloc t => match T.zc t with | some c => .newb (fun b => .ptr (blen m) b 0 0 0 0) (fun b => .blk b t c) | none => .stuck
    | .box t x => match boxCon (ev T env x) with | some c => .newb (fun b => .ptr (blen m) b 0 0 0 0) (fun b => .blk b t c) | none => .stuck
    | .store t a x => match storeS (T.ty t) (ev T env a) (ev T env x) m with | some (p, m') => .mem p m' | none => .stuck
    | .buildSlice t n parts => match litS T t n (evp T env parts.toList) with | some (e, es, c) => .newb (fun b => .sl (blen m) (some ⟨b, 0, none⟩) 0 0 es n n) (fun b => .blk b e c) | none => .stuck
    | .makeSlice t l c => match makeS T t (ev T env l) (ev T env c) with | some (p, e, es, n, z) => .newo p (fun v => .own (blen m) v n) (fun v => .own v n e es z) | none => .stuck
    | .call { callee := .builtin .append, args, argTypes } => appStep T m argTypes.toList (evs T env args.toList)
    | .call { callee := .value f, args, .. } => callStep (ev T env f) (evs T env args.toList)
    | _ => .stuck

inductive Gd where
  | go
  | skip
  | ask (b want : Bool)
  | stuck
def dstOf : List Oper → Nat → Option Tmp
  | [], _ => none
  | o :: _, 0 => o.dst
  | _ :: l, n + 1 => dstOf l n
def gdV (x : SV) (want : Bool) : Gd :=
  match x with
  | .bool b => .ask b want
  | .undef => .skip
  | _ => .stuck
def gd (all : List Oper) (env : List SV) (o : Oper) : Gd :=
  match o.guard with
  | none => .go
  | some (j, want) => match dstOf all j with | some d => gdV (sget env d) want | none => .skip
def eqB : Bool → Bool → Bool
  | true, b => b
  | false, true => false
  | false, false => true
theorem eqB_eq (a b : Bool) : eqB a b = (a == b) := by cases a <;> cases b <;> rfl
theorem dstOf_eq : ∀ (l : List Oper) (j : Nat), (l.toArray[j]?).bind (·.dst) = dstOf l j
  | [], j => by simp [dstOf]
  | o :: l, 0 => by simp [dstOf]
  | o :: l, n + 1 => by have := dstOf_eq l n; simp [dstOf] at this ⊢; exact this
theorem cvs_get (env : List SV) (d : Nat) : (cvs env)[d]? = none ∨ (cvs env)[d]? = some (cv (sget env d)) := by
  cases h : (cvs env)[d]? with
  | none => exact .inl rfl
  | some v => rw [cvs_get? env d v h]; exact .inr rfl
theorem cvs_none : ∀ (env : List SV) (d : Nat), (cvs env)[d]? = none → sget env d = .undef
  | [], d, _ => rfl
  | x :: l, 0, h => by simp [cvs] at h
  | x :: l, n + 1, h => by simp [cvs] at h; simp only [sget]; exact cvs_none l n (by simpa using h)
theorem gd_sound {all : List Oper} {env : List SV} {a : Act} (hf : Fr env a) (o : Oper) :
    match gd all env o with
    | .go => Region.wanted o (yielded all.toArray a.tmps) = true
    | .skip => Region.wanted o (yielded all.toArray a.tmps) = false
    | .ask b want => Region.wanted o (yielded all.toArray a.tmps) = eqB b want
    | .stuck => True := by
  unfold gd Region.wanted
  cases hg : o.guard with
  | none => rfl
  | some g =>
    obtain ⟨j, want⟩ := g
    simp only [yielded, dstOf_eq]
    cases hd : dstOf all j with
    | none => simp
    | some d =>
      simp only [Option.bind_some]
      rw [hf]
      have hg : (cvs env).toArray[d]? = (cvs env)[d]? := by simp
      rw [hg]
      unfold gdV
      rcases cvs_get env d with h | h
      · have := cvs_none env d h
        rw [this, h]; simp
      · rw [h]
        cases hs : sget env d <;> simp [cv, eqB_eq, undef]

/-- What a call comes to, and what then. -/
def callK (m : List Blk) (r : CR) (N : SV → List Blk → Prop) : Prop :=
  match r with
  | .none => False
  | .pure p v => p ∧ N v m
  | .own p t es n con F => p ∧ ∀ v : Value, N (F (.own (blen m) v n)) (bpush m (.own v n t es con))
  | .turn p nm con v => p ∧ N v (bset m nm (withCon (bget m nm) con))
  | .rel p R => p ∧ ∀ v m', R v m' → N v m'
/-- What an operation comes to, and what then. -/
def effK (G : Ctr) (m : List Blk) (e : Eff) (N : SV → List Blk → Prop) : Prop :=
  match e with
  | .val p v => p ∧ N v m
  | .mem p m' => p ∧ N .undef m'
  | .newb f e => ∀ b : Nat, N (f b) (bpush m (e b))
  | .newo p f e => p ∧ ∀ v : Value, N (f v) (bpush m (e v))
  | .turn p nm f e => p ∧ ∀ v : Value, N (f v) (bset m nm (e v))
  | .call f args => callK m (G f args m) N
  | .stuck => False
def askK (b : Bool) (X S : Prop) : Prop := match b with | true => X | false => S
def gdK (g : Gd) (X S : Prop) : Prop :=
  match g with
  | .go => X
  | .skip => S
  | .ask b want => askK (eqB b want) X S
  | .stuck => False
section
variable {G : Ctr} {m : List Blk} {N : SV → List Blk → Prop} {X S : Prop}
@[congr] theorem callK_congr {r r' : CR} (h : r = r') : callK m r N = callK m r' N := by rw [h]
@[congr] theorem effK_congr {e e' : Eff} (h : e = e') : effK G m e N = effK G m e' N := by rw [h]
@[congr] theorem askK_congr {b b' : Bool} (h : b = b') : askK b X S = askK b' X S := by rw [h]
@[congr] theorem gdK_congr {g g' : Gd} (h : g = g') : gdK g X S = gdK g' X S := by rw [h]
theorem callK_pure {p : Prop} {v : SV} : callK m (.pure p v) N = (p ∧ N v m) := rfl
theorem callK_own {p : Prop} {t : TypeId} {es n : Nat} {con : Con} {F : SV → SV} : callK m (.own p t es n con F) N = (p ∧ ∀ v : Value, N (F (.own (blen m) v n)) (bpush m (.own v n t es con))) := rfl
theorem callK_turn {p : Prop} {nm : Nat} {con : Con} {v : SV} : callK m (.turn p nm con v) N = (p ∧ N v (bset m nm (withCon (bget m nm) con))) := rfl
theorem callK_rel {p : Prop} {R : SV → List Blk → Prop} : callK m (.rel p R) N = (p ∧ ∀ v m', R v m' → N v m') := rfl
theorem effK_val {p : Prop} {v : SV} : effK G m (.val p v) N = (p ∧ N v m) := rfl
theorem effK_mem {p : Prop} {m' : List Blk} : effK G m (.mem p m') N = (p ∧ N .undef m') := rfl
theorem effK_newb {f : Nat → SV} {e : Nat → Blk} : effK G m (.newb f e) N = ∀ b : Nat, N (f b) (bpush m (e b)) := rfl
theorem effK_newo {p : Prop} {f : Value → SV} {e : Value → Blk} : effK G m (.newo p f e) N = (p ∧ ∀ v : Value, N (f v) (bpush m (e v))) := rfl
theorem effK_turn {p : Prop} {nm : Nat} {f : Value → SV} {e : Value → Blk} : effK G m (.turn p nm f e) N = (p ∧ ∀ v : Value, N (f v) (bset m nm (e v))) := rfl
theorem effK_call {f : FuncId} {args : List SV} : effK G m (.call f args) N = callK m (G f args m) N := rfl
theorem askK_true : askK true X S = X := rfl
theorem askK_false : askK false X S = S := rfl
theorem gdK_go : gdK .go X S = X := rfl
theorem gdK_skip : gdK .skip X S = S := rfl
theorem gdK_ask {b w : Bool} : gdK (.ask b w) X S = askK (eqB b w) X S := rfl
end
/-- A region's operations, one behind the other. -/
def vcOps (T : Tab) (G : Ctr) (all : List Oper) : List Oper → List SV → List Blk → (List SV → List Blk → Prop) → Prop
  | [], env, m, K => K env m
  | o :: rest, env, m, K =>
    gdK (gd all env o) (effK G m (step T env m o) fun v m' => vcOps T G all rest (upd env o.dst v) m' K) (vcOps T G all rest (upd env o.dst .undef) m K)

/-- What one operation does. -/
theorem own_base {w : World} {b b' : Nat} {t : TypeId} {es n : Nat} {v : Value} {xs : List Value} (h : w.ownsRow b t es v n xs) (hb : b' ≤ b) : w.ownsRow b' t es v n xs := by
  obtain ⟨h1, h2⟩ := h
  exact ⟨h1, h2.imp id (fun ⟨g, cap, cur, a, c, d⟩ => ⟨g, cap, cur, a, Nat.le_trans hb c, d⟩)⟩
theorem own_fresh {w : World} {b : Nat} {t : TypeId} {es n : Nat} {v : Value} {xs : List Value} (h : w.ownsRow b t es v n xs) {k : Nat} (hk : v.ownBlock = some k) : b ≤ k := by
  obtain ⟨h1, h2 | ⟨g, cap, cur, rfl, c, d⟩⟩ := h
  · rw [h2.1] at hk; simp [Value.ownBlock] at hk
  · simp [Value.ownBlock] at hk; omega
def stepK (T : Tab) (G : Ctr) (env : List SV) (m : List Blk) (o : Oper) (K : SV → List Blk → Prop) : Prop := effK G m (step T env m o) K
theorem wp_of_run {P : Program} {o : Oper} {a : Act} {w w' : World} {u : Value} {K : Act → World → Prop} {Q : Exit → Act → World → Prop} (h : (execOp a.eval o).run P w = .ok (.value u) w') (hk : K (a.put o.dst u) w') : o.wp P a w K Q := by
  unfold Oper.wp; rw [h]; exact hk
theorem wp_of_skip {P : Program} {o : Oper} {a : Act} {w w' : World} {K : Act → World → Prop} {Q : Exit → Act → World → Prop} (h : (execOp a.eval o).run P w = .ok .skip w') (hk : K (a.put o.dst undef) w') : o.wp P a w K Q := by
  unfold Oper.wp; rw [h]; exact hk
theorem wp_of_enters {P : Program} {o : Oper} {a : Act} {w : World} {f : FuncId} {args : Array Value} {R : Value → World → Prop} {K : Act → World → Prop} {Q : Exit → Act → World → Prop}
    (hr : (execOp a.eval o).run P w = (callFunc f args).run P w) (h : Enters P f args w R) (hk : ∀ u w', R u w' → K (a.put o.dst u) w') : o.wp P a w K Q := by
  rcases h with ⟨u, h1, h2⟩ | ⟨h1, h2⟩
  · exact wp_of_run (hr.trans h1) (hk _ _ h2)
  · unfold Oper.wp
    rw [hr, h1]
    exact h2.mono fun e w' ⟨u, he, hu⟩ => by subst he; exact hk _ _ hu
theorem op_call {P : Program} {T : Tab} (hT : TabOk P T) {env : List SV} {a : Act} (hf : Fr env a) {w : World} {d : Option Tmp} {f : Operand} {args : Array Operand} {ts : Array TypeId} {ty : TypeId} {pos : String} {af : Array Edge} {g : Option (Nat × Bool)}
    {fn : FuncId} {fi ca : List SV} (h : ev T env f = .fn (.func fn) fi ca) :
    (execOp a.eval ⟨d, .call { callee := .value f, args := args, argTypes := ts }, ty, pos, af, g⟩).run P w = (callFunc fn (cvs (sapp fi (sapp (evs T env args.toList) ca))).toArray).run P w := by
  have e1 : args.map a.eval = (cvs (evs T env args.toList)).toArray := by apply Array.ext'; rw [← hf.evs hT.gl]; simp
  simp only [execOp, resolve, hf.ev hT.gl f, h, cv, e1, Deferred.ofValue, Sem.run_bind, Sem.run_pure, Result.andThen_ok, invoke]
  congr 2
  simp [sapp_eq, cvs_app]
theorem stepK_sound {P : Program} {T : Tab} (hT : TabOk P T) {G : Ctr} (hG : GOk P G) {env : List SV} {m : List Blk} {o : Oper} {K : SV → List Blk → Prop} (h : stepK T G env m o K)
    {a : Act} (hf : Fr env a) {w0 : World} {B : List Nat} {w : World} (hm : MemOk w0 B m w) {Q : Exit → Act → World → Prop} :
    o.wp P a w (fun a' w' => ∃ v m', a' = a.put o.dst (cv v) ∧ MemOk w0 B m' w' ∧ K v m') Q := by
  unfold stepK step effK at h
  have E := fun x => hf.ev hT.gl x
  cases hd : dstep T env m o with
  | some r =>
    obtain ⟨p, v⟩ := r
    rw [hd] at h
    exact wp_of_run (dstep_sound hT hd h.1 hf hm) ⟨v, m, rfl, hm, h.2⟩
  | none =>
    rw [hd] at h
    obtain ⟨dst, op, type, pos, after, guard⟩ := o
    cases op <;> try (exact h.elim)
    case alloc t =>
      dsimp only at h
      cases hz : T.zc t with
      | none => rw [hz] at h; exact h.elim
      | some c =>
        rw [hz] at h
        obtain ⟨i, z, h1, h2, h3⟩ := hT.zc _ _ hz
        have hr : (Instr.alloc t true (.tuple #[])).run P w = .ok (.pointer (some ⟨w.heap.size, 0, none⟩)) (w.alloc (.cells (cc c).toArray t)) := by
          simp [Instr.alloc, zeroValue, typeInfo, h1, h2, newVar, newRow, h3]
        exact wp_of_run (u := .pointer (some ⟨w.heap.size, 0, none⟩)) (by simp only [execOp, Sem.run_bind, hr, Result.andThen_ok, Sem.run_pure]) ⟨_, _, by simp [cv], alloc_new hm t c, h w.heap.size⟩
    case box t x =>
      dsimp only at h
      cases hz : boxCon (ev T env x) with
      | none => rw [hz] at h; exact h.elim
      | some c =>
        rw [hz] at h
        have hr : (Instr.box t (cv (ev T env x))).run P w = .ok (.pointer (some ⟨w.heap.size, 0, none⟩)) (w.alloc (.cells (cc c).toArray t)) := by
          simp [Instr.box, newVar, newRow, boxCon_some hz]
        exact wp_of_run (u := .pointer (some ⟨w.heap.size, 0, none⟩)) (by simp only [execOp, E, Sem.run_bind, hr, Result.andThen_ok, Sem.run_pure]) ⟨_, _, by simp [cv], alloc_new hm t c, h w.heap.size⟩
    case store t b x =>
      dsimp only at h
      cases hz : storeS (T.ty t) (ev T env b) (ev T env x) m with
      | none => rw [hz] at h; exact h.elim
      | some r =>
        obtain ⟨p, m'⟩ := r
        rw [hz] at h
        obtain ⟨w', h1, h2⟩ := storeS_sound hT hz h.1 hm
        exact wp_of_skip (by simp only [execOp, E, Sem.run_bind, h1, Result.andThen_ok, Sem.run_pure]) ⟨.undef, m', rfl, h2, h.2⟩
    case buildSlice t n parts =>
      dsimp only at h
      cases hz : litS T t n (evp T env parts.toList) with
      | none => rw [hz] at h; exact h.elim
      | some r =>
        obtain ⟨e, es, c⟩ := r
        rw [hz] at h
        have e1 : (parts.map fun (i, x) => (i, a.eval x)) = ((evp T env parts.toList).map fun p => (p.1, cv p.2)).toArray := by
          rw [← evp_map hT.gl hf]
          apply Array.ext'
          simp
        have hr := litS_sound (P := P) hT hz w
        rw [← e1] at hr
        exact wp_of_run (u := .slice (some ⟨w.heap.size, 0, none⟩) n n) (by simp only [execOp, Sem.run_bind, hr, Result.andThen_ok, Sem.run_pure]) ⟨_, _, by simp [cv, Addr.add], alloc_new hm e c, h w.heap.size⟩
    case makeSlice t l c =>
      dsimp only at h
      cases hz : makeS T t (ev T env l) (ev T env c) with
      | none => rw [hz] at h; exact h.elim
      | some r =>
        obtain ⟨p, e, es, n, z⟩ := r
        rw [hz] at h
        obtain ⟨v, w', h1, h2, _⟩ := makeS_sound hT hz h.1 hm
        exact wp_of_run (u := v) (by simp only [execOp, E, Sem.run_bind, h1, Result.andThen_ok, Sem.run_pure]) ⟨.own (blen m) v n, _, rfl, h2, h.2 v⟩
    case call c =>
      obtain ⟨callee, args, ts⟩ := c
      cases callee with
      | invoke r s => exact h.elim
      | builtin b =>
        cases b <;> try (exact h.elim)
        dsimp only at h
        have e1 : args.map a.eval = (cvs (evs T env args.toList)).toArray := by apply Array.ext'; rw [← hf.evs hT.gl]; simp
        rcases appStep_cases T m ts.toList (evs T env args.toList) with hs | ⟨t, s, x, r, hts, hxs, hz, hs⟩
        · rw [hs] at h; exact h.elim
        · rw [hs] at h
          obtain ⟨p, o, k, e, es, con⟩ := r
          have hp : p := by cases o <;> exact h.1
          obtain ⟨v, w', h1, h2⟩ := appS_sound (P := P) (ty := type) hT hz hp hm
          have hr : (execOp a.eval ⟨dst, .call { callee := .builtin .append, args := args, argTypes := ts }, type, pos, after, guard⟩).run P w = .ok (.value v) w' := by
            have e2 : ts = #[t, t] := by apply Array.ext'; exact hts
            simp only [execOp, resolve, e1, hxs, cvs, Sem.run_bind, Sem.run_pure, Result.andThen_ok, invoke, builtin, e2, h1]
          cases o with
          | none => exact wp_of_run hr ⟨.own (blen m) v k, _, rfl, h2, h.2 v⟩
          | some nm => exact wp_of_run hr ⟨.own nm v k, _, rfl, h2, h.2 v⟩
      | value f =>
        dsimp only at h
        rcases callStep_cases (ev T env f) (evs T env args.toList) with hs | ⟨g, first, cap, hv, hs⟩
        · rw [hs] at h; exact h.elim
        · rw [hs] at h
          dsimp only at h
          have hr := op_call (P := P) (w := w) (d := dst) (args := args) (ts := ts) (ty := type) (pos := pos) (af := after) (g := guard) hT hf hv
          have hc := hG w0 B g (sapp first (sapp (evs T env args.toList) cap)) m
          generalize G g (sapp first (sapp (evs T env args.toList) cap)) m = r at *
          cases r with
          | none => exact h.elim
          | pure p v => exact wp_of_enters hr (hc h.1 w hm) fun u w' ⟨hu, hg⟩ => ⟨v, m, by rw [hu], hm.grow hg, h.2⟩
          | own p t es n con F =>
            exact wp_of_enters hr (hc h.1 w hm) fun u w' ⟨v, hu, hg, ho⟩ => ⟨F (.own (blen m) v n), _, by rw [hu], by
              rw [bpush_eq]
              exact hm.push hg (own_base ho hm.size) (fun b hb => own_fresh ho (by simpa [Blk.num?] using hb)), h.2 v⟩
          | turn p nm con v => exact wp_of_enters hr (hc h.1 w hm) fun u w' ⟨hu, hg⟩ => ⟨v, _, by rw [hu], hg, h.2⟩
          | rel p R => exact wp_of_enters hr (hc h.1 w hm) fun u w' ⟨v, m', hu, hg, hR⟩ => ⟨v, m', by rw [hu], hg, h.2 v m' hR⟩
/-- The operations of a region, one behind the other, come to what is told. -/
theorem vcOps_step {T : Tab} {G : Ctr} {all : List Oper} {o : Oper} {rest : List Oper} {env : List SV} {m : List Blk} {K : List SV → List Blk → Prop} (h : vcOps T G all (o :: rest) env m K)
    {a : Act} (hf : Fr env a) : (Region.wanted o (yielded all.toArray a.tmps) = true ∧ stepK T G env m o fun v m' => vcOps T G all rest (upd env o.dst v) m' K) ∨
      (Region.wanted o (yielded all.toArray a.tmps) = false ∧ vcOps T G all rest (upd env o.dst .undef) m K) := by
  have hg := gd_sound (all := all) hf o
  simp only [vcOps] at h
  cases hgd : gd all env o with
  | go => rw [hgd] at h hg; exact .inl ⟨hg, h⟩
  | skip => rw [hgd] at h hg; exact .inr ⟨hg, h⟩
  | ask b want =>
    rw [hgd] at h hg
    simp only [gdK] at h
    dsimp only at hg
    cases hb : eqB b want with
    | true => rw [hb] at h hg; exact .inl ⟨hg, h⟩
    | false => rw [hb] at h hg; exact .inr ⟨hg, h⟩
  | stuck => rw [hgd] at h; exact h.elim
theorem vcOps_sound {P : Program} {T : Tab} (hT : TabOk P T) {G : Ctr} (hG : GOk P G) {all : List Oper} {w0 : World} {B : List Nat} {Q : Exit → Act → World → Prop} {ds : List Deferred} {K : List SV → List Blk → Prop}
    (hQ : ∀ env m a w, Fr env a → a.defers = ds → MemOk w0 B m w → K env m → Q .normal a w) : ∀ (l : List Oper) (env : List SV) (m : List Blk) (a : Act) (w : World), vcOps T G all l env m K → Fr env a → a.defers = ds → MemOk w0 B m w →
    wpList P all.toArray Q l a w
  | [], env, m, a, w, h, hf, hd, hm => hQ env m a w hf hd hm h
  | o :: rest, env, m, a, w, h, hf, hd, hm => by
    unfold wpList
    rcases vcOps_step h hf with ⟨h1, h2⟩ | ⟨h1, h2⟩
    · rw [if_pos h1]
      refine .inl (Oper.wp_mono (fun a' w' ⟨v, m', he, hm', hk⟩ => ?_) (stepK_sound hT hG h2 hf hm))
      subst he
      exact vcOps_sound hT hG hQ rest _ _ _ _ hk (hf.put o.dst v) (by rw [← hd]; cases o.dst <;> rfl) hm'
    · rw [if_neg (by rw [h1]; simp)]
      exact vcOps_sound hT hG hQ rest _ _ _ _ h2 (hf.put o.dst .undef) (by rw [← hd]; cases o.dst <;> rfl) hm
end Go.Proofs.Ytkljpgdcmahenaa
