/-
  The tape's place never falls back: a step of a goroutine. No condition.
-/
import Derived.Test.YtdanlclhnehieaaDR
namespace Go.Proofs.Ytdanlclhnehieaa
set_option linter.unusedSimpArgs false
set_option linter.unusedVariables false
open Go
def rw_ {α : Type} : Result α → World
  | .ok _ w => w
  | .halt _ w => w
theorem run_dr {α : Type} (P : Program) (x : Sem α) : ∀ {w : World}, w.drawn ≤ (rw_ (x.run P w)).drawn := by
  induction x with
  | pure a => intro w; unfold Sem.run; exact Nat.le_refl _
  | load m a k ih =>
    intro w
    unfold Sem.run
    split
    · exact ih _
    · split
      · exact ih _
      · exact Nat.le_refl _
  | store m a v k ih =>
    intro w
    cases v <;> simp only [Sem.run] <;> (repeat' split) <;> first
      | exact Nat.le_refl _
      | exact Nat.le_trans (Nat.le_refl w.drawn) (ih (w := w.setCell a _))
      | (rename_i w1 l hr; have h1 := far_drawn hr; have h2 := ih (w := w1); simp only at h1; omega)
  | new o k ih => intro w; unfold Sem.run; have h2 := ih w.heap.size (w := { w with heap := w.heap.push o }); exact h2
  | shape r k ih => intro w; unfold Sem.run; exact ih _
  | freeze a n k ih =>
    intro w; unfold Sem.run
    have := ih (w := w.freeze a n)
    have e : (w.freeze a n).drawn = w.drawn := by unfold World.freeze; split <;> rfl
    omega
  | frozen a k ih => intro w; unfold Sem.run; exact ih _
  | getObj r k ih =>
    intro w
    unfold Sem.run
    split
    · exact Nat.le_refl _
    · exact ih _
    · exact Nat.le_refl _
  | setObj r o k ih =>
    intro w
    unfold Sem.run
    split
    · exact Nat.le_refl _
    · have h2 := ih (w := { w with heap := w.heap.setIfInBounds r o }); exact h2
    · exact Nat.le_refl _
  | choose q k ih =>
    intro w
    unfold Sem.run
    split
    · exact ih _
    · exact Nat.le_trans (Nat.le_succ w.drawn) (ih _ (w := { w with drawn := w.drawn + 1 }))
  | sys c k ih =>
    intro w
    unfold Sem.run
    exact Nat.le_trans (sys_drawn w c) (ih _)
  | program k ih => intro w; unfold Sem.run; exact ih _
  | mark m k ih => intro w; unfold Sem.run; exact ih
  | halt x => intro w; unfold Sem.run; exact Nat.le_refl _
theorem runT_dr {α : Type} (P : Program) (x : Sem α) : ∀ {w : World} {es : Array Event}, w.drawn ≤ (rw_ (x.runT P w es).1).drawn := by
  induction x with
  | pure a => intro w es; unfold Sem.runT; exact Nat.le_refl _
  | load m a k ih =>
    intro w es
    unfold Sem.runT
    split
    · exact ih _
    · split
      · exact ih _
      · exact Nat.le_refl _
  | store m a v k ih =>
    intro w es
    cases v <;> simp only [Sem.runT] <;> (repeat' split) <;> first
      | exact Nat.le_refl _
      | (rename_i w1 l hr; have h1 := far_drawn hr; refine Nat.le_trans (Nat.le_of_eq ?_) (ih (w := w1)); simp only at h1; omega)
      | exact Nat.le_trans (Nat.le_refl w.drawn) (ih (w := w.setCell a _))
  | new o k ih => intro w es; unfold Sem.runT; have h2 := ih w.heap.size (w := { w with heap := w.heap.push o }) (es := es); exact h2
  | shape r k ih => intro w es; unfold Sem.runT; exact ih _
  | freeze a n k ih =>
    intro w es; unfold Sem.runT
    have := ih (w := w.freeze a n) (es := es)
    have e : (w.freeze a n).drawn = w.drawn := by unfold World.freeze; split <;> rfl
    omega
  | frozen a k ih => intro w es; unfold Sem.runT; exact ih _
  | getObj r k ih =>
    intro w es
    unfold Sem.runT
    split
    · exact Nat.le_refl _
    · exact ih _
    · exact Nat.le_refl _
  | setObj r o k ih =>
    intro w es
    unfold Sem.runT
    split
    · exact Nat.le_refl _
    · exact Nat.le_trans (Nat.le_refl w.drawn) (ih (w := { w with heap := w.heap.setIfInBounds r o }))
    · exact Nat.le_refl _
  | choose q k ih =>
    intro w es
    unfold Sem.runT
    split
    · exact ih _
    · exact Nat.le_trans (Nat.le_succ w.drawn) (ih _ (w := { w with drawn := w.drawn + 1 }))
  | sys c k ih =>
    intro w es
    unfold Sem.runT
    exact Nat.le_trans (sys_drawn w c) (ih _)
  | program k ih => intro w es; unfold Sem.runT; exact ih _
  | mark m k ih => intro w es; unfold Sem.runT; exact ih
  | halt x => intro w es; unfold Sem.runT; exact Nat.le_refl _
def gok (w : World) : GStep → Prop
  | .ended .. => True
  | .go _ w' _ | .comm _ _ _ _ w' _ | .spawn _ _ w' _ | .count _ w' _ | .timer _ _ w' _ | .alone _ _ w' _ | .newcoro _ _ _ w' _ | .coroswitch _ _ _ w' _ | .collect _ w' _ | .watch _ w' _ => w.drawn ≤ w'.drawn
theorem gok_after {w : World} {es : Array Event} {s : GStep} (h : gok w s) : gok w (GStep.after es s) := by
  cases s <;> exact h
theorem run_le {α : Type} {P : Program} {x : Sem α} {w : World} {r : Result α} (h : x.run P w = r) : w.drawn ≤ (rw_ r).drawn := h ▸ run_dr P x
theorem runT_le {α : Type} {P : Program} {x : Sem α} {w : World} {es es' : Array Event} {r : Result α} (h : x.runT P w es = (r, es')) : w.drawn ≤ (rw_ r).drawn := by
  have := runT_dr P x (w := w) (es := es); rw [h] at this; exact this
theorem runT_le1 {α : Type} {P : Program} {x : Sem α} {w : World} {es : Array Event} {r : Result α} (h : (x.runT P w es).1 = r) : w.drawn ≤ (rw_ r).drawn := h ▸ runT_dr P x
theorem endThrow_ok {fr : Frame} {m : String} {w w0 : World} (h : w0.drawn ≤ w.drawn) : gok w0 (endThrow fr m w) := h
theorem endWith_ok {w w0 : World} {fd : Nat} {t : ByteArray} {o : Outcome} : gok w0 (endWith w fd t o) := by
  unfold endWith
  repeat' split
  all_goals exact trivial
theorem doReturn_ok {p : Program} {main : Bool} {fr : Frame} {callers : List Frame} {dying : Option Dying} {v : Value} {w w0 : World} (h : w0.drawn ≤ w.drawn) : gok w0 (doReturn p main fr callers dying v w) := by
  unfold doReturn
  repeat' split
  all_goals first | exact h | exact trivial
theorem endPrinting_ok {p : Program} {fr : Frame} {v : Value} {w w0 : World} (h : w0.drawn ≤ w.drawn) : gok w0 (endPrinting p fr v w) := by
  unfold endPrinting
  dsimp only
  repeat' split
  all_goals first
    | exact endThrow_ok h
    | exact trivial
theorem endFatal_ok {p : Program} {fr : Frame} {callers : List Frame} {dying : Option Dying} {m : String} {w w0 : World} (h : w0.drawn ≤ w.drawn) : gok w0 (endFatal p fr callers dying m w) := by
  unfold endFatal
  dsimp only
  split
  all_goals first
    | exact trivial
    | (have hr := run_le (by assumption); simp only [rw_] at hr; exact Nat.le_trans h hr)
    | (rename_i hq; have hr := run_le hq; simp only [rw_] at hr; exact Nat.le_trans h hr)
    | skip
  all_goals trace_state
  all_goals sorry
theorem writeOn_ok {p : Program} {fr : Frame} {d : Dying} {f : Fatal} {w w0 : World} (h : w0.drawn ≤ w.drawn) : gok w0 (writeOn p fr d f w) := by
  unfold writeOn
  cases hf : f.pieces with
  | nil => exact trivial
  | cons piece rest =>
    dsimp only
    generalize hx : Sem.runT p _ w #[] = q
    obtain ⟨r, es⟩ := q
    have hr := Nat.le_trans h (runT_le hx)
    cases r with
    | ok a w1 => exact hr
    | halt x w1 =>
      simp only [rw_] at hr
      split
      all_goals first
        | exact trivial
        | exact hr
        | grind [gok]
theorem callDeferred_ok {p : Program} {w w0 : World} (h : w0.drawn ≤ w.drawn) (fr : Frame) (callers : List Frame) (dying : Option Dying) (d : Deferred) : gok w0 (callDeferred p fr callers dying d w) := by
  unfold callDeferred
  repeat' split
  all_goals first
    | exact h
    | exact trivial
    | (refine gok_after ?_; have hr := runT_le (by assumption); first | (refine endThrow_ok ?_; grind [rw_]) | (refine endFatal_ok ?_; grind [rw_]) | grind [gok, rw_])
theorem unwind_ok {p : Program} {main : Bool} {fr : Frame} {callers : List Frame} {dying : Option Dying} {w : World} : gok w (unwind p main fr callers dying w) := by
  unfold unwind
  repeat' split
  all_goals first
    | exact Nat.le_refl _
    | exact trivial
    | exact callDeferred_ok (Nat.le_refl _) _ _ _ _
    | exact endPrinting_ok (Nat.le_refl _)
    | exact doReturn_ok (Nat.le_refl _)
    | (refine gok_after ?_; have hr := runT_le (by assumption); first | (refine doReturn_ok ?_; grind [rw_]) | (refine endThrow_ok ?_; grind [rw_]) | (refine endFatal_ok ?_; grind [rw_]) | grind [gok, rw_])
    | (have hr := run_le (by assumption); grind [gok, rw_])
theorem die_ok {p : Program} {fr : Frame} {d : Dying} {w : World} : gok w (die p fr d w) := by
  unfold die
  repeat' split
  all_goals first
    | exact Nat.le_refl _
    | exact trivial
    | exact endWith_ok
    | exact writeOn_ok (Nat.le_refl _)
    | (refine gok_after ?_; have hr := runT_le (by assumption); first | (refine endThrow_ok ?_; grind [rw_]) | (refine endPrinting_ok ?_; grind [rw_]) | grind [gok, rw_])
    | (have hr := run_le (by assumption); grind [gok, rw_])
theorem early_ok {p : Program} {fr : Frame} {callers : List Frame} {dying : Option Dying} {g : Nat} {w w0 : World} (h : w0.drawn ≤ w.drawn) : gok w0 (early p fr callers dying g w) := by
  unfold early
  repeat' split
  all_goals (try dsimp only)
  all_goals (repeat' split)
  all_goals first
    | exact h
    | exact trivial
    | (refine gok_after ?_; have hr := runT_le (by assumption); first | (refine endThrow_ok ?_; grind [rw_]) | grind [gok, rw_])
    | (have hr := run_le (by assumption); grind [gok, rw_])
theorem apply_ok {p : Program} {listen : Bool} {fr : Frame} {callers : List Frame} {dying : Option Dying} {x : Sem Next} {w w0 : World} (h : w0.drawn ≤ w.drawn) : gok w0 (stepG.apply p listen fr callers dying x w) := by
  have key : ∀ (r : Result Next) (es : Array Event), (if listen then x.runT p w #[] else (x.run p w, #[])) = (r, es) → w.drawn ≤ (rw_ r).drawn := by
    intro r es hq
    split at hq
    · exact runT_le hq
    · cases hq; exact run_dr p x
  unfold stepG.apply
  dsimp only
  generalize hq : (if listen then x.runT p w #[] else (x.run p w, #[])) = q at *
  obtain ⟨r, es⟩ := q
  have hr := Nat.le_trans h (key r es rfl)
  clear key
  refine gok_after ?_
  cases r with
  | ok n w1 =>
    simp only [rw_] at hr
    cases n
    all_goals (try dsimp only)
    all_goals (repeat' split)
    all_goals first
      | exact hr
      | exact endThrow_ok hr
      | trivial
      | (rename_i hq2; cases hq2 <;> first | exact hr | exact early_ok hr | exact trivial)
  | halt x w1 =>
    simp only [rw_] at hr
    cases x
    all_goals (try dsimp only)
    all_goals (repeat' split)
    all_goals first
      | exact hr
      | exact endThrow_ok hr
      | exact endFatal_ok hr
      | exact early_ok hr
      | trivial
      | (rename_i hq2; cases hq2 <;> first | exact hr | exact early_ok hr | exact trivial)
theorem oper_ok {p : Program} {listen : Bool} {fr : Frame} {callers : List Frame} {dying : Option Dying} {w w0 : World} (h : w0.drawn ≤ w.drawn) : gok w0 (stepG.oper p listen fr callers dying w) := by
  unfold stepG.oper
  repeat' split
  all_goals first
    | exact trivial
    | exact apply_ok h
theorem elim_ok {α : Type} {w0 : World} {o : Option α} {a : GStep} {f : α → GStep} (h1 : gok w0 a) (h2 : ∀ x, gok w0 (f x)) : gok w0 (o.elim a f) := by
  cases o with
  | none => exact h1
  | some x => exact h2 x
theorem exec_ok {p : Program} {main : Bool} {listen : Bool} {fr : Frame} {callers : List Frame} {dying : Option Dying} {w : World} : gok w (stepG.exec p main listen fr callers dying w) := by
  unfold stepG.exec
  repeat' split
  all_goals (try dsimp only)
  all_goals (repeat' split)
  all_goals first
    | exact Nat.le_refl _
    | exact trivial
    | exact apply_ok (Nat.le_refl _)
    | exact oper_ok (Nat.le_refl _)
    | (refine gok_after ?_; have hr := runT_le (by assumption); first | (refine doReturn_ok ?_; grind [rw_]) | (refine apply_ok ?_; grind [rw_]) | grind [gok, rw_])
    | exact gok_after (doReturn_ok (runT_le1 (by assumption)))
    | exact gok_after (apply_ok (runT_le1 (by assumption)))
    | exact gok_after (runT_le1 (r := .ok _ _) (by assumption))
    | exact gok_after (runT_le1 (r := .halt _ _) (by assumption))
    | exact elim_ok (gok_after (doReturn_ok (runT_le1 (by assumption)))) (fun _ => Nat.le_refl _)
    | exact elim_ok (Nat.le_refl _) (fun _ => Nat.le_refl _)
    | exact elim_ok trivial (fun _ => Nat.le_refl _)
    | exact elim_ok trivial (fun _ => apply_ok (Nat.le_refl _))
    | (refine elim_ok ?_ (fun _ => Nat.le_refl _); refine gok_after ?_; have hr := runT_le (by assumption); first | (refine doReturn_ok ?_; grind [rw_]) | grind [gok, rw_])
    | (have hr := run_le (by assumption); grind [gok, rw_])
    | skip
  all_goals trace_state
  all_goals sorry
theorem stepG_ok {p : Program} {main : Bool} {g : Goroutine} {w : World} {listen : Bool} : gok w (stepG p main g w listen) := by
  unfold stepG
  repeat' split
  all_goals first
    | exact die_ok
    | exact exec_ok
    | exact unwind_ok
    | skip
  all_goals trace_state
  all_goals sorry
end Go.Proofs.Ytdanlclhnehieaa
