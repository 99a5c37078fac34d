/-
  The tape's place never falls back: the machine; a call. No condition.
-/
import Derived.Test.YtdanlclhnehieaaDS
import Derived.Shelf.SlSortCmp.NoneTotal
namespace Go.Proofs.Ytdanlclhnehieaa
set_option linter.unusedSimpArgs false
set_option linter.unusedVariables false
open Go
def sok (w : World) : Stepped → Prop
  | .next m => w.drawn ≤ m.world.drawn
  | .ended .. => True
theorem sok_mono {w0 w : World} {s : Stepped} (h : w0.drawn ≤ w.drawn) (hs : sok w s) : sok w0 s := by
  cases s with
  | next m => exact Nat.le_trans h hs
  | ended o w => trivial
theorem look_ok {p : Program} {gs : Array Goroutine} {rest : Rest} {w : World} : sok w (look p gs rest w) := by
  unfold look
  split
  · dsimp only
    split
    · exact trivial
    · split
      · exact trivial
      · split
        · rename_i hq
          have hr := run_le hq
          exact hr
        · exact trivial
        · exact trivial
  · exact trivial
theorem waitingAt_ok {rest : Rest} {cases : Array CommCase} {w w' : World} (h : waitingAt rest cases w = some w') : w'.drawn = w.drawn := by
  unfold waitingAt at h
  split at h
  · split at h
    · cases h; rfl
    · cases h
  · cases h; rfl
theorem communicate_ok {p : Program} {rest : Rest} {gs : Array Goroutine} {i : Nat} {g : Goroutine} {cases : Array CommCase} {blocking : Bool} {shape : CommShape} {w w0 : World} (h : w0.drawn ≤ w.drawn) : sok w0 (communicate p rest gs i g cases blocking shape w).1 := by
  unfold communicate
  dsimp only
  split
  · exact trivial
  · split
    · split
      · split
        · rename_i hq
          exact Nat.le_trans h (Nat.le_of_eq (waitingAt_ok hq).symm)
        · exact trivial
      · exact h
    · split
      · exact trivial
      · rename_i hq
        have hr := Nat.le_trans h (run_le hq)
        simp only [rw_] at hr
        repeat' split
        all_goals first
          | exact hr
          | exact trivial
          | (have hr2 := Nat.le_trans hr (run_le (by assumption)); exact hr2)
          | (rename_i hq2; have hr2 := Nat.le_trans hr (run_le hq2); exact hr2)
          | skip
        all_goals trace_state
        all_goals sorry
theorem serve_ok {p : Program} {m : Machine} {k : Nat} : sok m.world (serve p m k) := by
  unfold serve
  repeat' split
  all_goals (try dsimp only)
  all_goals (repeat' split)
  all_goals first
    | exact Nat.le_refl _
    | exact trivial
theorem drain_ok (w : World) (c : Nat) : (drain w c).2.drawn = w.drawn := by
  unfold drain
  split <;> rfl
theorem retime_ok (m : Machine) (k : Nat) (t : Timer) (when_ period : Nat) : (retime m k t when_ period).2.world.drawn = m.world.drawn := by
  unfold retime
  split
  rename_i had world hq
  split at hq
  · have := drain_ok m.world (by assumption)
    rw [hq] at this
    exact this
  · cases hq; rfl
theorem named_ok {m m' : Machine} {var : Addr} {f : Nat → Timer → Value × Machine} {v : Value} (h : timerOp.named m var f = .ok (v, m')) (hf : ∀ k t, (f k t).2.world.drawn = m.world.drawn) : m'.world.drawn = m.world.drawn := by
  unfold timerOp.named at h
  split at h
  · rename_i k hk
    have h2 := hf k (m.rest.timers.getD k default)
    simp only [Except.ok.injEq] at h
    rw [h] at h2
    exact h2
  · cases h
theorem opened_ok {m m' : Machine} {var : Addr} (h : timerOp.opened m var = some m') : m'.world.drawn = m.world.drawn := by
  unfold timerOp.opened at h
  split at h
  · split at h
    · cases h; rfl
    · cases h
  · cases h; rfl
theorem timerOp_ok {m m' : Machine} {op : TimerOp} {v : Value} (h : timerOp m op = .ok (v, m')) : m'.world.drawn = m.world.drawn := by
  cases op
  all_goals unfold timerOp at h
  all_goals (try dsimp only at h)
  all_goals (repeat' (split at h))
  all_goals first
    | (cases h; rfl)
    | (cases h; done)
    | exact named_ok h (fun k t => retime_ok _ _ _ _ _)
    | (rename_i hq; exact named_ok h (fun k t => by rw [retime_ok]; exact opened_ok hq))
    | skip
  all_goals trace_state
  all_goals sorry
theorem runTm_ok {p : Program} {m : Machine} {i : Nat} {listen : Bool} : sok m.world (runT p m i listen).1 := by
  unfold Go.runT
  dsimp only
  have hg := stepG_ok (p := p) (main := i == 0) (g := (m.gs.swapAt! i { (default : Goroutine) with status := .finished }).1) (w := m.world) (listen := listen)
  generalize stepG p (i == 0) (m.gs.swapAt! i { (default : Goroutine) with status := .finished }).1 m.world listen = s at *
  cases s
  all_goals (try simp only [gok] at hg)
  all_goals (try dsimp only [endThrow, dieOf])
  all_goals (repeat' split)
  all_goals first
    | exact hg
    | exact trivial
    | exact communicate_ok hg
    | exact sok_mono hg look_ok
    | (rename_i hq; exact Nat.le_trans hg (Nat.le_of_eq (timerOp_ok hq).symm))
def mok (w : World) : Move → Prop
  | .goroutine m _ => w.drawn ≤ m.world.drawn
  | .machine s _ => sok w s
theorem askOn_ok {p : Program} {m : Machine} : mok m.world (askOn p m) := by
  unfold askOn
  dsimp only
  split
  · exact trivial
  · rename_i k world hq
    have hr : m.world.drawn ≤ world.drawn := run_le hq
    split
    · exact sok_mono (w := world) hr serve_ok
    · split
      · split
        · exact hr
        · split
          · exact hr
          · split
            · exact trivial
            · exact trivial
      · split
        · skip
          split
          · exact trivial
          · rename_i k3 w3 hq3
            have h9 := run_le hq3; have h3 : m.world.drawn ≤ w3.drawn := Nat.le_trans hr h9
            split
            · exact h3
            · split
              · exact trivial
              · rename_i hq4
                exact Nat.le_trans h3 (run_le hq4)
        · split
          · exact trivial
          · rename_i w2 hq2
            have hr2 : m.world.drawn ≤ w2.drawn := Nat.le_trans hr (run_le hq2)
            split
            · exact trivial
            · rename_i k3 w3 hq3
              have h9 := run_le hq3; have h3 : m.world.drawn ≤ w3.drawn := Nat.le_trans hr2 h9
              split
              · exact h3
              · split
                · exact trivial
                · rename_i hq4
                  exact Nat.le_trans h3 (run_le hq4)
          · rename_i hq2
            exact Nat.le_trans hr (run_le hq2)
          · rename_i k2 w2 hq2
            have hr2 : m.world.drawn ≤ w2.drawn := Nat.le_trans hr (run_le hq2)
            split
            · exact trivial
            · rename_i k3 w3 hq3
              have h9 := run_le hq3; have h3 : m.world.drawn ≤ w3.drawn := Nat.le_trans hr2 h9
              split
              · exact h3
              · split
                · exact trivial
                · rename_i hq4
                  exact Nat.le_trans h3 (run_le hq4)
theorem mok_mono {w0 w : World} {s : Move} (h : w0.drawn ≤ w.drawn) (hs : mok w s) : mok w0 s := by
  cases s with
  | goroutine m i => exact Nat.le_trans h hs
  | machine s ops => exact sok_mono h hs
theorem ask_ok {p : Program} {m : Machine} : mok m.world (ask p m) := by
  unfold ask
  split
  · split
    · exact trivial
    · rename_i world hq
      have hr : m.world.drawn ≤ world.drawn := run_le hq
      have hl := look_ok (p := p) (gs := m.gs) (rest := m.rest) (w := world)
      split
      · rename_i m1 hm
        rw [hm] at hl
        exact mok_mono (w := m1.world) (Nat.le_trans hr hl) askOn_ok
      · exact sok_mono hr hl
    · rename_i hq
      exact mok_mono (run_le hq) askOn_ok
  · exact askOn_ok
theorem move_ok {p : Program} {m : Machine} : mok m.world (move p m) := by
  unfold move
  repeat' split
  all_goals first
    | exact Nat.le_refl _
    | exact trivial
    | exact ask_ok
theorem step_ok {p : Program} {m : Machine} : sok m.world (Go.step p m) := by
  unfold Go.step Go.stepT
  have h := move_ok (p := p) (m := m)
  split
  · rename_i m1 i hm
    rw [hm] at h
    exact sok_mono h runTm_ok
  · rename_i s ops hm
    rw [hm] at h
    exact h
theorem steps_ok {P : Program} {m m' : Machine} (h : Steps P m m') : m.world.drawn ≤ m'.world.drawn := by
  obtain ⟨n, hn⟩ := h
  induction n generalizing m with
  | zero => cases hn; exact Nat.le_refl _
  | succ n ih =>
    unfold runN at hn
    have hs := step_ok (p := P) (m := m)
    split at hn
    · rename_i m1 hm
      rw [hm] at hs
      exact Nat.le_trans hs (ih hn)
    · rename_i hne
      cases hst : Go.step P m with
      | next m1 => exact absurd hst (hne m1)
      | ended o w => rw [hst] at hn; cases hn
theorem calls_drawn {P : Program} {f : FuncId} {args : Array Value} {w : World} {R : Ending → World → Prop} (h : Calls P f args w R) (hR : ∀ e w', R e w' → ∃ u, e = .returned u) : Calls P f args w fun e w' => R e w' ∧ w.drawn ≤ w'.drawn := by
  intro cs
  obtain ⟨e, w', fr, h1, h2, h3, h4⟩ := h cs
  obtain ⟨u, rfl⟩ := hR e w' h1
  exact ⟨_, w', fr, ⟨h1, steps_ok (m := lone (Frame.enter P f args .normal) cs w) h2⟩, h2, h3, h4⟩
theorem calls_grows {P : Program} {f : FuncId} {args : Array Value} {w : World} {v : SV} {u0 : Value} (hv : cv v = u0) (h : Calls P f args w fun en w' => ∃ u, en = .returned u ∧ ∃ v' m', u = cv v' ∧ MemOk w [] m' w' ∧ v' = v) : Calls P f args w fun e w' => e = .returned u0 ∧ ∃ q os', w' = Go.Sort.grow (w.drewN q) os' := by
  refine (calls_drawn h (fun e w' ⟨u, hu, _⟩ => ⟨u, hu⟩)).mono fun e w' ⟨⟨u, hu, v', m', hv', hm, he⟩, hd⟩ => ?_
  obtain ⟨p, hp⟩ := gw_of_grown hm.grown
  refine ⟨by rw [hu, hv', he, hv], w'.drawn - w.drawn, p.os, ?_⟩
  subst hp
  unfold gw Go.Sort.grow World.drewN
  simp only [World.mk.injEq, true_and, and_true]
  simp only [gw] at hd
  omega
end Go.Proofs.Ytdanlclhnehieaa
