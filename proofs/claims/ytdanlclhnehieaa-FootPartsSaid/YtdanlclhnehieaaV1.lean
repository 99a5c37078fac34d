/-
  A symbolic walk of my own: regions within a fence (the round of a range over a function, an iterator); what such a round keeps. No condition.
-/
import Derived.Test.YtdanlclhnehieaaWD
import Derived.RangeFuncNested
import Derived.RangeFuncBound
import Derived.RangeFuncCalls
import Derived.RangeFuncLeaves
import Derived.RangeFuncBox
import Derived.Shelf.Abstract
import Derived.Shelf.RegionOpen
import Derived.WalkKit
import Derived.OwnWalkIn
import Derived.TacticsInMore
import Derived.LoopNIn
import Derived.LoopIn
namespace Go.Proofs.Ytdanlclhnehieaa
set_option linter.unusedSimpArgs false
set_option linter.unusedVariables false
open Go.RowKit Go.Shelf
structure Wd (F : Fence) : Prop where
  fn : ∀ f, F.fn f
  depth : F.depth.isSome = true → False
  calls : ∀ {n : Nat} {P : Program} {f : FuncId} {args : Array Value} {w : World} {R : Ending → World → Prop}, Calls P f args w R → CallsIn F n P f args w R
  rows : ∀ {n : Nat} {P : Program} {row : String} {args : Array Value} {w : World} {R : Value → World → Prop}, Rows P row args w R → RowsIn F n P row args w R
theorem wd_wide : Wd Fence.wide := ⟨fun _ => trivial, fun h => (by cases h), fun h => callsIn_wide.2 h, fun h c cs _ => let ⟨v, w', r, s⟩ := h c cs; ⟨v, w', r, stepsIn_wide.2 s⟩⟩
theorem wd_round (l : Nat) : Wd (Fence.wide.inRound l) := ⟨fun _ => trivial, fun h => (by cases h), fun h => CallsIn.inRound l (callsIn_wide.2 h), fun h c cs _ => let ⟨v, w', r, s⟩ := h c cs; ⟨v, w', r, by rw [fenced_inRound]; exact stepsIn_wide.2 s⟩⟩
theorem op_in {F : Fence} (hW : Wd F) {n : Nat} {P : Program} {o : Oper} {a : Act} {w : World} {K K' : Act → World → Prop} {Q : Exit → Act → World → Prop} (hd : ∀ c, o.op ≠ .defer c) (hk : ∀ a w, K a w → K' a w) (h : o.wp P a w K Q) : o.wpIn F n P a w K' Q := by
  refine ⟨fun f _ => hW.fn f, ?_⟩
  rw [Oper.semAt_eq _ _ _ hd]
  unfold Oper.wp at h
  revert h
  generalize (execOp a.eval o).run P w = r
  intro h
  match r, h with
  | .ok (.value v) w', h => exact hk _ _ h
  | .ok .skip w', h => exact hk _ _ h
  | .ok (.defer d) w', h => exact hk _ _ h
  | .ok (.enter f args) w', h =>
    refine ⟨fun hh => (hW.depth hh).elim, hW.calls ?_⟩
    refine Calls.mono h fun e w2 h2 => ?_
    cases e with
    | returned v => exact hk _ _ h2
    | panicked ch => exact h2
    | outgrown => exact h2
  | .ok (.row row args) w', h => exact ⟨fun hh => (hW.depth hh).elim, (hW.rows h).mono fun v w2 h2 => hk _ _ h2⟩
  | .halt (.panic v) w', h => exact h
def noDef : Oper → Bool
  | o => match o.op with | .defer _ => false | _ => true
theorem noDef_of {o : Oper} (h : noDef o = true) : ∀ c, o.op ≠ .defer c := fun c e => by simp [noDef, e] at h
theorem ops_in {F : Fence} (hW : Wd F) {n : Nat} {P : Program} {T : Tab} (hT : TabOk P T) {G : Ctr} (hG : GOk P G) {all : List Oper} {w0 : World} {B : List Nat} {Q : Exit → Act → World → Prop} {K : List SV → List Blk → Prop} {l2 : List Oper} {ds : List Deferred}
    (hQ : ∀ env m a w, Fr env a → a.defers = ds → MemOk w0 B m w → K env m → wpListIn F n P all.toArray Q l2 a w) : ∀ (l : List Oper) (env : List SV) (m : List Blk) (a : Act) (w : World), l.all noDef = true → vcOps T G all l env m K → Fr env a → a.defers = ds → MemOk w0 B m w →
    wpListIn F n P all.toArray Q (l ++ l2) a w
  | [], env, m, a, w, _, h, hf, hd, hm => hQ env m a w hf hd hm h
  | o :: rest, env, m, a, w, hn, h, hf, hd, hm => by
    rw [List.cons_append]
    simp only [List.all_cons, Bool.and_eq_true] at hn
    unfold wpListIn
    rcases vcOps_step h hf with ⟨h1, h2⟩ | ⟨h1, h2⟩
    · rw [if_pos h1]
      refine op_in hW (noDef_of hn.1) (fun a' w' ⟨v, m', he, hm', hk⟩ => ?_) (stepK_sound hT hG h2 hf hm (Q := Q))
      subst he
      exact ops_in hW hT hG hQ rest _ _ _ _ hn.2 hk (hf.put o.dst v) (by rw [← hd]; cases o.dst <;> rfl) hm'
    · rw [if_neg (by rw [h1]; simp)]
      exact ⟨fun f _ => hW.fn f, ops_in hW hT hG hQ rest _ _ _ _ hn.2 h2 (hf.put o.dst .undef) (by rw [← hd]; cases o.dst <;> rfl) hm⟩
theorem ops_inN {F : Fence} (hW : Wd F) {n : Nat} {P : Program} {T : Tab} (hT : TabOk P T) {G : Ctr} (hG : GOk P G) {all : List Oper} {w0 : World} {B : List Nat} {Q : Exit → Act → World → Prop} {l l2 : List Oper} {env : List SV} {m : List Blk} {a : Act} {w : World} {ds : List Deferred}
    (hf : Fr env a) (hd : a.defers = ds) (hm : MemOk w0 B m w) (hn : l.all noDef = true)
    (h : ∀ N : List SV → List Blk → Prop, (∀ env m, (∀ a w, Fr env a → a.defers = ds → MemOk w0 B m w → wpListIn F n P all.toArray Q l2 a w) → N env m) → vcOpst .go T G all l env m (fun _ => N)) :
    wpListIn F n P all.toArray Q (l ++ l2) a w :=
  ops_in hW hT hG (K := fun env m => ∀ a w, Fr env a → a.defers = ds → MemOk w0 B m w → wpListIn F n P all.toArray Q l2 a w) (fun _ _ _ _ h1 h2 h3 h4 => h4 _ _ h1 h2 h3) l env m a w hn (h _ fun _ _ h => h) hf hd hm
theorem region_in {F : Fence} (hW : Wd F) {P : Program} {T : Tab} (hT : TabOk P T) {G : Ctr} (hG : GOk P G) {id n : Nat} {ops : List Oper} {env : List SV} {m : List Blk} {N : List SV → List Blk → Prop} {ds : List Deferred} (hnd : ops.all noDef = true)
    (h : vcOpst .go T G ops ops env m (fun _ => N)) {w0 : World} {B : List Nat} {a : Act} {w : World} (hf : Fr env a) (hd : a.defers = ds) (hm : MemOk w0 B m w) {Q : Exit → Act → World → Prop}
    (hQ : ∀ a' w' env' m', Fr env' a' → a'.defers = ds → MemOk w0 B m' w' → N env' m' → Q .normal a' w') : (Code.region id ops.toArray false).wpIn F n P Q a w := by
  refine wpIn_region_lit ?_
  have := ops_in hW hT hG (n := n) (l2 := []) (Q := Q) (fun e m a w h1 h2 h3 h4 => hQ a w e m h1 h2 h3 h4) ops env m a w hnd h hf hd hm
  rwa [List.append_nil] at this
theorem region_inN {F : Fence} (hW : Wd F) {P : Program} {T : Tab} (hT : TabOk P T) {G : Ctr} (hG : GOk P G) {id n : Nat} {ops : List Oper} {env : List SV} {m : List Blk} {w0 : World} {B : List Nat} {a : Act} {w : World} {Q : Exit → Act → World → Prop} {ds : List Deferred}
    (hf : Fr env a) (hd : a.defers = ds) (hm : MemOk w0 B m w) (hnd : ops.all noDef = true)
    (h : ∀ N : List SV → List Blk → Prop, (∀ env m, (∀ a w, Fr env a → a.defers = ds → MemOk w0 B m w → Q .normal a w) → N env m) → vcOpst .go T G ops ops env m (fun _ => N)) :
    (Code.region id ops.toArray false).wpIn F n P Q a w :=
  region_in hW hT hG hnd (N := fun env m => ∀ a w, Fr env a → a.defers = ds → MemOk w0 B m w → Q .normal a w) (h _ fun _ _ h => h) hf hd hm (fun a' w' env' m' h1 h2 h3 h4 => h4 a' w' h1 h2 h3)
theorem val_in {F : Fence} (hW : Wd F) {n : Nat} {P : Program} {ops rest : List Oper} {o : Oper} {a : Act} {w w' : World} {Q : Exit → Act → World → Prop} {u : Value} (hg : o.guard = none) (hd : noDef o = true) (hr : (execOp a.eval o).run P w = .ok (.value u) w')
    (h : wpListIn F n P ops.toArray Q rest (a.put o.dst u) w') : wpListIn F n P ops.toArray Q (o :: rest) a w := by
  refine wpListIn_plain hg fun K hK => ⟨fun f _ => hW.fn f, ?_⟩
  rw [Oper.semAt_eq _ _ _ (noDef_of hd), hr]
  exact hK _ _ h
theorem yield_in {F : Fence} (hW : Wd F) {n : Nat} {P : Program} {ops rest : List Oper} {d : Option Tmp} {f : Operand} {args : Array Operand} {ts : Array TypeId} {ty : TypeId} {pos : String} {af : Array Edge} {l : Nat} {vs : Array Value} {a : Act} {w : World} {Q : Exit → Act → World → Prop} {R : Ending → World → Prop}
    (hf : a.eval f = .func (.yield l) #[] #[]) (hv : args.map a.eval = vs) (hY : YieldAt F (n - 1) P l vs w R)
    (hk : ∀ e w', R e w' → ∃ v, e = .returned v ∧ wpListIn F n P ops.toArray Q rest (a.put d v) w') :
    wpListIn F n P ops.toArray Q (⟨d, .call { callee := .value f, args := args, argTypes := ts }, ty, pos, af, none⟩ :: rest) a w := by
  obtain ⟨fn, tmps, assign, body, hy, hR⟩ := hY
  refine wpListIn_plain rfl fun K hK => ⟨fun f _ => hW.fn f, ?_⟩
  rw [Oper.semAt_eq _ _ _ (fun c h => by cases h)]
  have he : (execOp a.eval ⟨d, .call { callee := .value f, args := args, argTypes := ts }, ty, pos, af, none⟩).run P w = .ok (.round l fn tmps assign body) w := by
    simp only [execOp, resolve, hf, hv, Deferred.ofValue, Sem.run_bind, Sem.run_pure, Result.andThen_ok, invoke]
    simpa using hy
  rw [he]
  refine ⟨fun hh => (hW.depth hh).elim, hR.mono fun e w' hr => ?_⟩
  obtain ⟨v, rfl, h⟩ := hk e w' hr
  exact hK _ _ h
theorem memok_grow {w W W' : World} {m : List Blk} (hm : MemOk w [] m W) {row : Option Nat} (hg : W.grownBy W' row) (hr : ∀ r, row = some r → w.heap.size ≤ r ∧ r ∉ m.flatMap Blk.nums) : MemOk w [] m W' := by
  refine ⟨hg.os.trans hm.os, hg.tape.trans hm.tape, hg.output.trans hm.output, Nat.le_trans hm.size hg.size, fun k hk hkB => ?_, fun e he => ?_, hm.nodup⟩
  · rw [hg.block k (Nat.lt_of_lt_of_le hk hm.size) (fun e => by have := (hr k e.symm).1; omega)]
    exact hm.old k hk hkB
  · exact ok_grown hg (fun b hb => .inl (hr b hb).1) hm.size (hm.each e he) (fun b hb hn => (hr b hb).2 (List.mem_flatMap.2 ⟨e, he, hn⟩))
end Go.Proofs.Ytdanlclhnehieaa
