/-
 Package rules: slots, whose they are; walked. No condition.
-/
import Derived.Test.YtoadeekdgikghaaDoorJ4
set_option maxRecDepth 20000
set_option maxHeartbeats 4000000
set_option linter.defProp false
set_option linter.unusedVariables false
set_option linter.unusedSimpArgs false
namespace Go.Proofs.YtoadeekdgikghaaDoor
open Go.RowKit
noncomputable def GJ7 : Ctr := fun f args m => match f with
 | 33 => g_tBelongs args m
 | _ => .none
theorem GJ7_ok : GOk Tryd.prog GJ7 := by
 intro w0 B f args m; unfold GJ7; split
 ·exact g_tBelongs_ok _ _ _ _
 ·exact trivial
theorem GJ7_tBelongs : GJ7 33 = g_tBelongs := by funext args m; rfl
def GJ7_set := And.intro (@GJ7_tBelongs) (@g_tBelongs.eq_def)

theorem own1_vc (a : List Int) (slot b : Nat) (ha : Option Addr) (hn hc : Nat) (hr : List (List SV)) (l : List Evt) (h1 : a.length = 20) (h2 : allB a) (h3 : slot < W) (w : World) (hL : LiesH (H0 w) (some ⟨b, 0, none⟩) (cc (.cells [.gh ha hn hc (.rows 32 hr)]))) (hE : EvL (H0 w) ha hn hc hr l) (hM : hn ≤ 1000000) :
  Calls Tryd.prog 32 (cvs [.ints .u8 a, .word slot, .gp (some ⟨b, 0, none⟩) (.cells [.gh ha hn hc (.rows 32 hr)]) 0 0 0]).toArray w (fun en w' => ∃ u, en = .returned u ∧ ∃ v' m', u = cv v' ∧ MemOk w [] m' w' ∧ v' = .bool (belongs l a slot)) := by
 have hLx : ∀ m, allOld w ∈ m → LiesH (HM m) (some ⟨b, 0, none⟩) (cc (.cells [.gh ha hn hc (.rows 32 hr)])) := fun m hin => hL.mono (H0.hm hin)
 have hEx : ∀ m, allOld w ∈ m → EvL (HM m) ha hn hc hr l := fun m hin => hE.mono (H0.hm hin)
 have hev := evOf_eq hE.rows
 refine Vc.calls T0_ok Tryd.func32 rfl rfl (args := [.ints .u8 a, .word slot, .gp (some ⟨b, 0, none⟩) (.cells [.gh ha hn hc (.rows 32 hr)]) 0 0 0]) (k := 7) rfl (old_start w) ?_; change Vc _ _ (c8 (.ints .u8 a) (.word slot) (.gp (some ⟨b, 0, none⟩) (.cells [.gh ha hn hc (.rows 32 hr)]) 0 0 0) .undef .undef .undef .undef .undef ([.undef, .undef])) _ _
 ((repeat (first | (with_reducible refine Vc.seq fun N hN => ?_) | (with_reducible intro _) | ((with_reducible refine And.intro ?_ ?_); (focus (first | ((repeat' with_reducible apply And.intro) <;> first | exact sideQ | (exact hLx _ (by simp)) | (exact ⟨_, hEx _ (by simp)⟩)) | exact sd0))) | ((first | ((with_reducible refine Vc.fin ?_); dsimp only [thenK, blockK, retK, resS, resOne, resAll]) | ((with_reducible refine Vc.hold ?_); first | refine Vc.regiont T0_ok GJ7_ok ?_)); (try simp only [v8Y, Nat.beq, Nat.ble, seval, tabs, GJ7_set, hev])) | ((with_reducible refine hN _ _ ?_); clear hN N))); (try ((with_reducible refine Fin.of ?_); (try with_reducible exact True.intro))))
 exact ⟨by first | trivial | simp, by first | rfl | trivial⟩
noncomputable def g_own1 (args : List SV) (m : List Blk) : CR := match args with
 | [.ints .u8 a, .word slot, .gp (some ⟨b, 0, none⟩) (.cells [.gh ha hn hc (.rows 32 hr)]) 0 0 0] => .pure (LiesH (HM m) (some ⟨b, 0, none⟩) (cc (.cells [.gh ha hn hc (.rows 32 hr)])) ∧ (∃ l, EvL (HM m) ha hn hc hr l) ∧ hn ≤ 1000000 ∧ a.length = 20 ∧ allB a ∧ slot < W) (.bool (belongs (evOf hr) a slot))
 | _ => .none
theorem g_own1_ok (w0 : World) (B : List Nat) (args : List SV) (m : List Blk) : CROk Tryd.prog w0 B 32 args m (g_own1 args m) := by
 unfold g_own1; split
 ·rename_i a slot b ha hn hc hr
  rintro ⟨h1, ⟨l, h2⟩, h3, h4, h5, h6⟩ w hm
  rw [evOf_eq h2.rows]
  exact calls_pure Tryd.func32 rfl rfl (own1_vc a slot b ha hn hc hr l h4 h5 h6 w (h1.mono fun b o h => hm.hm h) (h2.mono fun b o h => hm.hm h) h3)
 ·exact trivial
theorem entA_ok {H : Nat → Obj → Prop} {l : List SV} {x : OpD} (h : OpR H l x) (r : Int) : (entA x r).1.length = 20 ∧ allB (entA x r).1 := by
 unfold entA
 split
 ·exact ⟨h.ls, h.bs⟩
 ·split
  ·exact ⟨h.lf, h.bf⟩
  ·split
   ·exact ⟨h.lp, h.bp⟩
   ·exact ⟨rfl, by simp [allB, z20']⟩
set_option maxRecDepth 20000 in
theorem ent_vc (l : List SV) (x : OpD) (r : Int) (w : World) (hO : OpR (H0 w) l x) : Calls Tryd.prog 70 (cvs [.agg l, .int .u8 r]).toArray w (fun en w' => ∃ u, en = .returned u ∧ ∃ v' m', u = cv v' ∧ MemOk w [] m' w' ∧ v' = .tup [.ints .u8 (entA x r).1, .bool (entA x r).2]) := by
 obtain ⟨f1, f2, f3, c0, c20, c24, c25, d25, c45, c46, c47, c48, c49, c50, c54, c58, c59, d59, c79, c80, c81, c82, ls, lf, lp, bs, bf, bp, wn, wf, wt, u1, u2, u3, u4, u5⟩ := hO
 by_cases h1 : r = 1
 ·have d1 : decide (r = 1) = true := decide_eq_true h1
  have e : entA x r = (x.snd, true) := by unfold entA; rw [if_pos h1]
  rw [e]
  refine Vc.calls T0_ok Tryd.func70 rfl rfl (args := [.agg l, .int .u8 r]) (k := 28) rfl (old_start w) ?_; change Vc _ _ (c8 (.agg l) (.int .u8 r) .undef .undef .undef .undef .undef .undef (c8 .undef .undef .undef .undef .undef .undef .undef .undef (c8 .undef .undef .undef .undef .undef .undef .undef .undef ([.undef, .undef, .undef, .undef, .undef, .undef])))) _ _
  ((repeat (first | (with_reducible first | refine Vc.seq fun N hN => ?_ | refine Vc.block ?_) | (with_reducible intro _) | ((with_reducible refine And.intro ?_ ?_); exact sX0) | ((first | ((with_reducible refine Vc.fin ?_); dsimp only [thenK, blockK, retK, resS, resOne, resAll]) | ((with_reducible refine Vc.hold ?_); first | refine Vc.regiont T0_ok GJ0_ok ?_)); (try simp only [v8Y, Nat.beq, Nat.ble, seval, tabs, GJ0_set, d1, f2, f3, c0, c24, c25, c58, c59, toU8_bL, List.drop_zero])) | ((with_reducible refine hN _ _ ?_); clear hN N; (try simp (disch := omega) only [v8W])))); (try ((with_reducible refine Fin.of ?_); (try with_reducible exact True.intro))))
  (refine Vc.cond T0_ok (t := true) (by rfl) (fun _ => ?_) (fun h => Bool.noConfusion h))
  ((repeat (first | (with_reducible first | refine Vc.seq fun N hN => ?_ | refine Vc.block ?_) | (with_reducible intro _) | ((with_reducible refine And.intro ?_ ?_); exact sX0) | ((first | ((with_reducible refine Vc.fin ?_); dsimp only [thenK, blockK, retK, resS, resOne, resAll]) | ((with_reducible refine Vc.hold ?_); first | refine Vc.regiont T0_ok GJ0_ok ?_)); (try simp only [v8Y, Nat.beq, Nat.ble, seval, tabs, GJ0_set, d1, f2, f3, c0, c24, c25, c58, c59, toU8_bL, List.drop_zero])) | ((with_reducible refine hN _ _ ?_); clear hN N; (try simp (disch := omega) only [v8W])))); (try ((with_reducible refine Fin.of ?_); (try with_reducible exact True.intro))))
  exact ⟨by first | trivial | simp, by first | rfl | trivial⟩
 have d1 : decide (r = 1) = false := decide_eq_false h1
 by_cases h2 : r = 2 ∧ x.hf = true
 ·have d2 : decide (r = 2) = true := decide_eq_true h2.1
  have hz := h2.2
  have e : entA x r = (x.fac, true) := by unfold entA; rw [if_neg h1, if_pos h2]
  rw [e]
  refine Vc.calls T0_ok Tryd.func70 rfl rfl (args := [.agg l, .int .u8 r]) (k := 28) rfl (old_start w) ?_; change Vc _ _ (c8 (.agg l) (.int .u8 r) .undef .undef .undef .undef .undef .undef (c8 .undef .undef .undef .undef .undef .undef .undef .undef (c8 .undef .undef .undef .undef .undef .undef .undef .undef ([.undef, .undef, .undef, .undef, .undef, .undef])))) _ _
  ((repeat (first | (with_reducible first | refine Vc.seq fun N hN => ?_ | refine Vc.block ?_) | (with_reducible intro _) | ((with_reducible refine And.intro ?_ ?_); exact sX0) | ((first | ((with_reducible refine Vc.fin ?_); dsimp only [thenK, blockK, retK, resS, resOne, resAll]) | ((with_reducible refine Vc.hold ?_); first | refine Vc.regiont T0_ok GJ0_ok ?_)); (try simp only [v8Y, Nat.beq, Nat.ble, seval, tabs, GJ0_set, d1, d2, hz, f2, f3, c0, c24, c25, c58, c59, toU8_bL, List.drop_zero])) | ((with_reducible refine hN _ _ ?_); clear hN N; (try simp (disch := omega) only [v8W])))); (try ((with_reducible refine Fin.of ?_); (try with_reducible exact True.intro))))
  (refine Vc.cond T0_ok (t := false) (by rfl) (fun h => Bool.noConfusion h) (fun _ => ?_))
  ((repeat (first | (with_reducible first | refine Vc.seq fun N hN => ?_ | refine Vc.block ?_) | (with_reducible intro _) | ((with_reducible refine And.intro ?_ ?_); exact sX0) | ((first | ((with_reducible refine Vc.fin ?_); dsimp only [thenK, blockK, retK, resS, resOne, resAll]) | ((with_reducible refine Vc.hold ?_); first | refine Vc.regiont T0_ok GJ0_ok ?_)); (try simp only [v8Y, Nat.beq, Nat.ble, seval, tabs, GJ0_set, d1, d2, hz, f2, f3, c0, c24, c25, c58, c59, toU8_bL, List.drop_zero])) | ((with_reducible refine hN _ _ ?_); clear hN N; (try simp (disch := omega) only [v8W])))); (try ((with_reducible refine Fin.of ?_); (try with_reducible exact True.intro))))
  (refine Vc.cond T0_ok (t := true) (by rfl) (fun _ => ?_) (fun h => Bool.noConfusion h))
  ((repeat (first | (with_reducible first | refine Vc.seq fun N hN => ?_ | refine Vc.block ?_) | (with_reducible intro _) | ((with_reducible refine And.intro ?_ ?_); exact sX0) | ((first | ((with_reducible refine Vc.fin ?_); dsimp only [thenK, blockK, retK, resS, resOne, resAll]) | ((with_reducible refine Vc.hold ?_); first | refine Vc.regiont T0_ok GJ0_ok ?_)); (try simp only [v8Y, Nat.beq, Nat.ble, seval, tabs, GJ0_set, d1, d2, hz, f2, f3, c0, c24, c25, c58, c59, toU8_bL, List.drop_zero])) | ((with_reducible refine hN _ _ ?_); clear hN N; (try simp (disch := omega) only [v8W])))); (try ((with_reducible refine Fin.of ?_); (try with_reducible exact True.intro))))
  exact ⟨by first | trivial | simp, by first | rfl | trivial⟩
 by_cases h3 : r = 3 ∧ x.hp = true
 ·have d2 : decide (r = 2) = false := decide_eq_false (by omega)
  have d3 : decide (r = 3) = true := decide_eq_true h3.1
  have hz := h3.2
  have e : entA x r = (x.pay, true) := by unfold entA; rw [if_neg h1, if_neg h2, if_pos h3]
  rw [e]
  refine Vc.calls T0_ok Tryd.func70 rfl rfl (args := [.agg l, .int .u8 r]) (k := 28) rfl (old_start w) ?_; change Vc _ _ (c8 (.agg l) (.int .u8 r) .undef .undef .undef .undef .undef .undef (c8 .undef .undef .undef .undef .undef .undef .undef .undef (c8 .undef .undef .undef .undef .undef .undef .undef .undef ([.undef, .undef, .undef, .undef, .undef, .undef])))) _ _
  ((repeat (first | (with_reducible first | refine Vc.seq fun N hN => ?_ | refine Vc.block ?_) | (with_reducible intro _) | ((with_reducible refine And.intro ?_ ?_); exact sX0) | ((first | ((with_reducible refine Vc.fin ?_); dsimp only [thenK, blockK, retK, resS, resOne, resAll]) | ((with_reducible refine Vc.hold ?_); first | refine Vc.regiont T0_ok GJ0_ok ?_)); (try simp only [v8Y, Nat.beq, Nat.ble, seval, tabs, GJ0_set, d1, d2, d3, hz, f2, f3, c0, c24, c25, c58, c59, toU8_bL, List.drop_zero])) | ((with_reducible refine hN _ _ ?_); clear hN N; (try simp (disch := omega) only [v8W])))); (try ((with_reducible refine Fin.of ?_); (try with_reducible exact True.intro))))
  (refine Vc.cond T0_ok (t := false) (by rfl) (fun h => Bool.noConfusion h) (fun _ => ?_))
  ((repeat (first | (with_reducible first | refine Vc.seq fun N hN => ?_ | refine Vc.block ?_) | (with_reducible intro _) | ((with_reducible refine And.intro ?_ ?_); exact sX0) | ((first | ((with_reducible refine Vc.fin ?_); dsimp only [thenK, blockK, retK, resS, resOne, resAll]) | ((with_reducible refine Vc.hold ?_); first | refine Vc.regiont T0_ok GJ0_ok ?_)); (try simp only [v8Y, Nat.beq, Nat.ble, seval, tabs, GJ0_set, d1, d2, d3, hz, f2, f3, c0, c24, c25, c58, c59, toU8_bL, List.drop_zero])) | ((with_reducible refine hN _ _ ?_); clear hN N; (try simp (disch := omega) only [v8W])))); (try ((with_reducible refine Fin.of ?_); (try with_reducible exact True.intro))))
  (refine Vc.cond T0_ok (t := false) (by rfl) (fun h => Bool.noConfusion h) (fun _ => ?_))
  ((repeat (first | (with_reducible first | refine Vc.seq fun N hN => ?_ | refine Vc.block ?_) | (with_reducible intro _) | ((with_reducible refine And.intro ?_ ?_); exact sX0) | ((first | ((with_reducible refine Vc.fin ?_); dsimp only [thenK, blockK, retK, resS, resOne, resAll]) | ((with_reducible refine Vc.hold ?_); first | refine Vc.regiont T0_ok GJ0_ok ?_)); (try simp only [v8Y, Nat.beq, Nat.ble, seval, tabs, GJ0_set, d1, d2, d3, hz, f2, f3, c0, c24, c25, c58, c59, toU8_bL, List.drop_zero])) | ((with_reducible refine hN _ _ ?_); clear hN N; (try simp (disch := omega) only [v8W])))); (try ((with_reducible refine Fin.of ?_); (try with_reducible exact True.intro))))
  (refine Vc.cond T0_ok (t := true) (by rfl) (fun _ => ?_) (fun h => Bool.noConfusion h))
  ((repeat (first | (with_reducible first | refine Vc.seq fun N hN => ?_ | refine Vc.block ?_) | (with_reducible intro _) | ((with_reducible refine And.intro ?_ ?_); exact sX0) | ((first | ((with_reducible refine Vc.fin ?_); dsimp only [thenK, blockK, retK, resS, resOne, resAll]) | ((with_reducible refine Vc.hold ?_); first | refine Vc.regiont T0_ok GJ0_ok ?_)); (try simp only [v8Y, Nat.beq, Nat.ble, seval, tabs, GJ0_set, d1, d2, d3, hz, f2, f3, c0, c24, c25, c58, c59, toU8_bL, List.drop_zero])) | ((with_reducible refine hN _ _ ?_); clear hN N; (try simp (disch := omega) only [v8W])))); (try ((with_reducible refine Fin.of ?_); (try with_reducible exact True.intro))))
  exact ⟨by first | trivial | simp, by first | rfl | trivial⟩
 have e : entA x r = (z20', false) := by unfold entA; rw [if_neg h1, if_neg h2, if_neg h3]
 rw [e]
 generalize g2 : decide (r = 2) = b2
 generalize g3 : decide (r = 3) = b3
 have hf0 : b2 = true → x.hf = false := fun hb => Bool.eq_false_iff.2 fun hh => h2 ⟨of_decide_eq_true (g2.trans hb), hh⟩
 have hp0 : b3 = true → x.hp = false := fun hb => Bool.eq_false_iff.2 fun hh => h3 ⟨of_decide_eq_true (g3.trans hb), hh⟩
 cases b2 <;> cases b3
 all_goals (first | have hz2 := hf0 rfl | have hz2 : True := trivial)
 all_goals (first | have hz3 := hp0 rfl | have hz3 : True := trivial)
 all_goals
  refine Vc.calls T0_ok Tryd.func70 rfl rfl (args := [.agg l, .int .u8 r]) (k := 28) rfl (old_start w) ?_; change Vc _ _ (c8 (.agg l) (.int .u8 r) .undef .undef .undef .undef .undef .undef (c8 .undef .undef .undef .undef .undef .undef .undef .undef (c8 .undef .undef .undef .undef .undef .undef .undef .undef ([.undef, .undef, .undef, .undef, .undef, .undef])))) _ _
  ((repeat (first | (with_reducible first | refine Vc.seq fun N hN => ?_ | refine Vc.block ?_) | ((first | with_reducible refine Vc.skip ?_); dsimp only [thenK, blockK, Nat.beq]; (first | (refine hN _ _ ?_; clear hN N))) | (with_reducible intro _) | ((with_reducible refine And.intro ?_ ?_); exact sX0) | ((first | ((with_reducible refine Vc.fin ?_); dsimp only [thenK, blockK, retK, resS, resOne, resAll]) | ((with_reducible refine Vc.hold ?_); first | refine Vc.regiont T0_ok GJ0_ok ?_)); (try simp only [v8Y, Nat.beq, Nat.ble, seval, tabs, GJ0_set, d1, g2, g3, hz2, hz3, f2, f3, c0, c24, c25, c58, c59, toU8_bL, List.drop_zero])) | ((with_reducible refine hN _ _ ?_); clear hN N; (try simp (disch := omega) only [v8W])))); (try ((with_reducible refine Fin.of ?_); (try with_reducible exact True.intro))))
  (refine Vc.cond T0_ok (t := false) (by rfl) (fun h => Bool.noConfusion h) (fun _ => ?_))
  ((repeat (first | (with_reducible first | refine Vc.seq fun N hN => ?_ | refine Vc.block ?_) | ((first | with_reducible refine Vc.skip ?_); dsimp only [thenK, blockK, Nat.beq]; (first | (refine hN _ _ ?_; clear hN N))) | (with_reducible intro _) | ((with_reducible refine And.intro ?_ ?_); exact sX0) | ((first | ((with_reducible refine Vc.fin ?_); dsimp only [thenK, blockK, retK, resS, resOne, resAll]) | ((with_reducible refine Vc.hold ?_); first | refine Vc.regiont T0_ok GJ0_ok ?_)); (try simp only [v8Y, Nat.beq, Nat.ble, seval, tabs, GJ0_set, d1, g2, g3, hz2, hz3, f2, f3, c0, c24, c25, c58, c59, toU8_bL, List.drop_zero])) | ((with_reducible refine hN _ _ ?_); clear hN N; (try simp (disch := omega) only [v8W])))); (try ((with_reducible refine Fin.of ?_); (try with_reducible exact True.intro))))
  (refine Vc.cond T0_ok (t := false) (by rfl) (fun h => Bool.noConfusion h) (fun _ => ?_))
  ((repeat (first | (with_reducible first | refine Vc.seq fun N hN => ?_ | refine Vc.block ?_) | ((first | with_reducible refine Vc.skip ?_); dsimp only [thenK, blockK, Nat.beq]; (first | (refine hN _ _ ?_; clear hN N))) | (with_reducible intro _) | ((with_reducible refine And.intro ?_ ?_); exact sX0) | ((first | ((with_reducible refine Vc.fin ?_); dsimp only [thenK, blockK, retK, resS, resOne, resAll]) | ((with_reducible refine Vc.hold ?_); first | refine Vc.regiont T0_ok GJ0_ok ?_)); (try simp only [v8Y, Nat.beq, Nat.ble, seval, tabs, GJ0_set, d1, g2, g3, hz2, hz3, f2, f3, c0, c24, c25, c58, c59, toU8_bL, List.drop_zero])) | ((with_reducible refine hN _ _ ?_); clear hN N; (try simp (disch := omega) only [v8W])))); (try ((with_reducible refine Fin.of ?_); (try with_reducible exact True.intro))))
  (refine Vc.cond T0_ok (t := false) (by rfl) (fun h => Bool.noConfusion h) (fun _ => ?_))
  ((repeat (first | (with_reducible first | refine Vc.seq fun N hN => ?_ | refine Vc.block ?_) | ((first | with_reducible refine Vc.skip ?_); dsimp only [thenK, blockK, Nat.beq]; (first | (refine hN _ _ ?_; clear hN N))) | (with_reducible intro _) | ((with_reducible refine And.intro ?_ ?_); exact sX0) | ((first | ((with_reducible refine Vc.fin ?_); dsimp only [thenK, blockK, retK, resS, resOne, resAll]) | ((with_reducible refine Vc.hold ?_); first | refine Vc.regiont T0_ok GJ0_ok ?_)); (try simp only [v8Y, Nat.beq, Nat.ble, seval, tabs, GJ0_set, d1, g2, g3, hz2, hz3, f2, f3, c0, c24, c25, c58, c59, toU8_bL, List.drop_zero])) | ((with_reducible refine hN _ _ ?_); clear hN N; (try simp (disch := omega) only [v8W])))); (try ((with_reducible refine Fin.of ?_); (try with_reducible exact True.intro))))
  skip
  exact ⟨by first | trivial | simp, by first | rfl | trivial⟩
noncomputable def g_ent (args : List SV) (m : List Blk) : CR := match args with
 | [.agg l, .int .u8 r] => .pure (∃ x, OpR (HM m) l x) (.tup [.ints .u8 (entA (opOf l) r).1, .bool (entA (opOf l) r).2])
 | _ => .none
theorem g_ent_ok (w0 : World) (B : List Nat) (args : List SV) (m : List Blk) : CROk Tryd.prog w0 B 70 args m (g_ent args m) := by
 unfold g_ent; split
 ·rename_i l r
  rintro ⟨x, hO⟩ w hm
  rw [opOf_eq hO]
  exact calls_pure Tryd.func70 rfl rfl (ent_vc l x r w (hO.mono fun b o h => hm.hm h))
 ·exact trivial
noncomputable def GJ8 (E : JE) : Ctr := fun f args m => match f with
 | 32 => g_own1 args m
 | 70 => g_ent args m
 | 57 => g_isStk E args m
 | _ => .none
theorem GJ8_mk {E : JE} : GOk Tryd.prog (GJ8 E) := by
 intro w0 B f args m; unfold GJ8; split
 ·exact g_own1_ok _ _ _ _
 ·exact g_ent_ok _ _ _ _
 ·exact g_isStk_ok E _ _ _ _
 ·exact trivial
theorem GJ8_own1 {E : JE} : GJ8 E 32 = g_own1 := by funext args m; rfl
theorem GJ8_ent {E : JE} : GJ8 E 70 = g_ent := by funext args m; rfl
theorem GJ8_isStk {E : JE} : GJ8 E 57 = g_isStk E := by funext args m; rfl
def GJ8_set := And.intro (And.intro (@GJ8_own1) (And.intro (@g_own1.eq_def) (@GJ8_ent))) (And.intro (@g_ent.eq_def) (And.intro (@GJ8_isStk) (@g_isStk.eq_def)))

set_option maxRecDepth 20000 in
theorem isSnd_vc (E : JE) (st : List SV) (w : World) (hS : StOk E (H0 w) st) : Calls Tryd.prog 64 (cvs [.agg st]).toArray w (fun en w' => ∃ u, en = .returned u ∧ ∃ v' m', u = cv v' ∧ MemOk w [] m' w' ∧ v' = .bool (isSndE E)) := by
 have hSt : ∀ m, allOld w ∈ m → StOk E (HM m) st := fun m hin => hS.mono (H0.hm hin)
 obtain ⟨s1, s2, s3, c0, c2, ⟨x0, x1, x2, x3, c22, a22, n22⟩, ⟨y0, y1, y2, y3, c26, a26, n26⟩, ⟨ba, bn, bc, c30, b1, b2, b3, b4, b5, b6⟩, c31, ⟨pb, P, c32, hPP⟩, c33, q1, q2, q3, q4, q5, q6, k0, k1⟩ := hS
 obtain ⟨p1, p2, p3, ⟨wp, wc, r0, hW⟩, ⟨ol, r1, hO⟩, rS, r25, r84, rl, r85, r86, r87, r88, ⟨la, ln, lc, r89, hL⟩, ⟨sa, sn, sc, r90, hV⟩, r91, ⟨hb, ha, hn, hc, hr, r92, h1, h2, h3⟩⟩ := id hPP
 have hPl : ∀ m, allOld w ∈ m → LiesH (HM m) (some ⟨pb, 0, none⟩) (cc (.cells P)) := fun m hin => p1.mono (H0.hm hin)
 have hLo : ∀ m, allOld w ∈ m → SlI (HM m) la ln lc E.lo := fun m hin => hL.mono (H0.hm hin)
 have hSv : ∀ m, allOld w ∈ m → SlI (HM m) sa sn sc E.sv := fun m hin => hV.mono (H0.hm hin)
 have hBs : ∀ m, allOld w ∈ m → LiesH (HM m) ba (cc (.ints .u8 E.e.bs)) := fun m hin => b4.mono (H0.hm hin)
 have hHb : ∀ m, allOld w ∈ m → LiesH (HM m) (some ⟨hb, 0, none⟩) (cc (.cells [.gh ha hn hc (.rows 32 hr)])) := fun m hin => h1.mono (H0.hm hin)
 have hHs : ∀ m, allOld w ∈ m → EvL (HM m) ha hn hc hr E.hs := fun m hin => h2.mono (H0.hm hin)
 have hK0 : ∀ m, allOld w ∈ m → LiesH (HM m) (some ⟨0, 0, none⟩) (cc (.ints .u64 kKeys)) := fun m hin => k0.mono (H0.hm hin)
 have hK1 : ∀ m, allOld w ∈ m → LiesH (HM m) (some ⟨1, 0, none⟩) (cc (.ints .u8 kPathI)) := fun m hin => k1.mono (H0.hm hin)
 have hWd : ∀ m, allOld w ∈ m → WdH (HM m) E.acc wp wc := fun m hin => hW.mono (H0.hm hin)
 have hOp : ∀ m, allOld w ∈ m → OpR (HM m) ol E.x := fun m hin => hO.mono (H0.hm hin)
 have hev := evOf_eq h2.rows
 have hop := opOf_eq hO
 have hov := hO.bs
 have hol := hO.ls
 have bt : E.e.bs.take bn = E.e.bs := List.take_of_length_le (by omega)
 have aW : E.e.arg < W := by rw [← n22]; exact numI_ltE a22
 have vW : E.e.val < W := by rw [← n26]; exact numI_ltE a26
 have hPa : ∀ m, allOld w ∈ m → PaR (HM m) E pb P := fun m hin => hPP.mono (H0.hm hin)
 have GJ8_ok := GJ8_mk (E := E)
 cases hz1 : decide (E.e.self = E.x.snd)
 all_goals cases hz2 : E.x.hf
 all_goals cases hz3 : E.stk 2
 all_goals
  refine Vc.calls T0_ok Tryd.func64 rfl rfl (args := [.agg st]) (k := 46) rfl (old_start w) ?_; change Vc _ _ (c8 (.agg st) .undef .undef .undef .undef .undef .undef .undef (c8 .undef .undef .undef .undef .undef .undef .undef .undef (c8 .undef .undef .undef .undef .undef .undef .undef .undef (c8 .undef .undef .undef .undef .undef .undef .undef .undef (c8 .undef .undef .undef .undef .undef .undef .undef .undef ([.undef, .undef, .undef, .undef, .undef, .undef, .undef])))))) _ _
  ((with_reducible refine Vc.seq fun N hN => ?_); (refine Vc.regiont T0_ok GJ8_ok ?_); simp only [v8Y, Nat.beq, Nat.ble, seval, tabs, GJ8_set, s2, s3, c0, c2, c22, c26, c30, c31, c32, c33, r0, r1, rS, r25, r84, r85, r86, r87, r88, r89, r90, r91, r92, n22, n26, toU8_bL, List.drop_zero, Bool.or_false, Bool.or_true, Bool.true_or, Bool.false_or, Bool.not_true, Bool.not_false, Bool.and_false, Bool.false_and, Bool.and_true, Bool.true_and, hz1, hz2, hz3, hev]; (try simp (disch := omega) only [v8W]); (repeat (first | with_reducible intro _ | ((with_reducible refine And.intro ?_ ?_); exact sX6))); (first | (refine hN _ _ ?_; clear hN N; (try simp (disch := omega) only [v8W])) | skip))
  ((repeat (first | (with_reducible refine Vc.seq fun N hN => ?_) | ((with_reducible refine And.intro ?_ ?_); exact sX6) | ((first | ((with_reducible refine Vc.hold ?_); first | refine Vc.drawt (id := 1) T0_ok GJ8_ok (by kernel_rfl) [0, 1, 2, 3, 4, 5, 6, 7, 8] 9 [] trivial (by kernel_rfl) ?_)); (try simp only [v8Y, Nat.beq, Nat.ble, seval, tabs, GJ8_set, s2, s3, c0, c2, c22, c26, c30, c31, c32, c33, r0, r1, rS, r25, r84, r85, r86, r87, r88, r89, r90, r91, r92, n22, n26, toU8_bL, List.drop_zero, Bool.or_false, Bool.or_true, Bool.true_or, Bool.false_or, Bool.not_true, Bool.not_false, Bool.and_false, Bool.false_and, Bool.and_true, Bool.true_and, hz1, hz2, hz3, hev])) | ((with_reducible refine hN _ _ ?_); clear hN N))))
  (repeat (first | ((refine Vc.cond T0_ok (t := true) (by rfl) (fun _ => ?_) (fun h => Bool.noConfusion h)); ((repeat (first | (with_reducible refine Vc.seq fun N hN => ?_) | ((with_reducible refine And.intro ?_ ?_); exact sX6) | ((first | ((with_reducible refine Vc.fin ?_); dsimp only [thenK, blockK, retK, resS, resOne, resAll]) | ((with_reducible refine Vc.hold ?_); first | refine Vc.regiont T0_ok GJ8_ok ?_)); (try simp only [v8Y, Nat.beq, Nat.ble, seval, tabs, GJ8_set, s2, s3, c0, c2, c22, c26, c30, c31, c32, c33, r0, r1, rS, r25, r84, r85, r86, r87, r88, r89, r90, r91, r92, n22, n26, toU8_bL, List.drop_zero, Bool.or_false, Bool.or_true, Bool.true_or, Bool.false_or, Bool.not_true, Bool.not_false, Bool.and_false, Bool.false_and, Bool.and_true, Bool.true_and, hz1, hz2, hz3, hev])) | ((with_reducible refine hN _ _ ?_); clear hN N))); (try ((with_reducible refine Fin.of ?_))))) | ((refine Vc.cond T0_ok (t := false) (by rfl) (fun h => Bool.noConfusion h) (fun _ => ?_)); ((repeat (first | (with_reducible refine Vc.seq fun N hN => ?_) | ((first | with_reducible refine Vc.skip ?_); dsimp only [thenK, blockK, Nat.beq]; (first | (refine hN _ _ ?_; clear hN N))) | ((with_reducible refine And.intro ?_ ?_); exact sX6) | ((first | ((with_reducible refine Vc.fin ?_); dsimp only [thenK, blockK, retK, resS, resOne, resAll]) | ((with_reducible refine Vc.hold ?_); first | refine Vc.regiont T0_ok GJ8_ok ?_ | refine Vc.drawt (id := 4) T0_ok GJ8_ok (by kernel_rfl) [0, 1, 2, 3, 4, 5, 6, 7, 8, 9, 10, 11, 12, 13, 14, 15] 16 [] trivial (by kernel_rfl) ?_)); (try simp only [v8Y, Nat.beq, Nat.ble, seval, tabs, GJ8_set, s2, s3, c0, c2, c22, c26, c30, c31, c32, c33, r0, r1, rS, r25, r84, r85, r86, r87, r88, r89, r90, r91, r92, n22, n26, toU8_bL, List.drop_zero, Bool.or_false, Bool.or_true, Bool.true_or, Bool.false_or, Bool.not_true, Bool.not_false, Bool.and_false, Bool.false_and, Bool.and_true, Bool.true_and, hz1, hz2, hz3, hev])) | ((with_reducible refine hN _ _ ?_); clear hN N))); (try ((with_reducible refine Fin.of ?_))))) | (clear hN N)))
  refine ⟨by first | trivial | simp, ?_⟩
  (congr 1; simp only [isSndE, hz1, hz2, hz3, Bool.or_false, Bool.or_true, Bool.true_or, Bool.false_or, Bool.not_true, Bool.not_false, Bool.and_false, Bool.false_and, Bool.and_true, Bool.true_and]; try first | done | rfl)
noncomputable def g_isSnd (E : JE) (args : List SV) (m : List Blk) : CR := match args with
 | [.agg st] => .pure (StOk E (HM m) st) (.bool (isSndE E))
 | _ => .none
theorem g_isSnd_ok (E : JE) (w0 : World) (B : List Nat) (args : List SV) (m : List Blk) : CROk Tryd.prog w0 B 64 args m (g_isSnd E args m) := by
 unfold g_isSnd; split
 ·rename_i st
  intro h w hm
  exact calls_pure Tryd.func64 rfl rfl (isSnd_vc E st w (h.mono fun b o h => hm.hm h))
 ·exact trivial
set_option maxRecDepth 20000 in
theorem forSt_vc (E : JE) (st : List SV) (w : World) (hS : StOk E (H0 w) st) : Calls Tryd.prog 65 (cvs [.agg st]).toArray w (fun en w' => ∃ u, en = .returned u ∧ ∃ v' m', u = cv v' ∧ MemOk w [] m' w' ∧ v' = .bool (forStE E)) := by
 have hSt : ∀ m, allOld w ∈ m → StOk E (HM m) st := fun m hin => hS.mono (H0.hm hin)
 obtain ⟨s1, s2, s3, c0, c2, ⟨x0, x1, x2, x3, c22, a22, n22⟩, ⟨y0, y1, y2, y3, c26, a26, n26⟩, ⟨ba, bn, bc, c30, b1, b2, b3, b4, b5, b6⟩, c31, ⟨pb, P, c32, hPP⟩, c33, q1, q2, q3, q4, q5, q6, k0, k1⟩ := hS
 obtain ⟨p1, p2, p3, ⟨wp, wc, r0, hW⟩, ⟨ol, r1, hO⟩, rS, r25, r84, rl, r85, r86, r87, r88, ⟨la, ln, lc, r89, hL⟩, ⟨sa, sn, sc, r90, hV⟩, r91, ⟨hb, ha, hn, hc, hr, r92, h1, h2, h3⟩⟩ := id hPP
 have hPl : ∀ m, allOld w ∈ m → LiesH (HM m) (some ⟨pb, 0, none⟩) (cc (.cells P)) := fun m hin => p1.mono (H0.hm hin)
 have hLo : ∀ m, allOld w ∈ m → SlI (HM m) la ln lc E.lo := fun m hin => hL.mono (H0.hm hin)
 have hSv : ∀ m, allOld w ∈ m → SlI (HM m) sa sn sc E.sv := fun m hin => hV.mono (H0.hm hin)
 have hBs : ∀ m, allOld w ∈ m → LiesH (HM m) ba (cc (.ints .u8 E.e.bs)) := fun m hin => b4.mono (H0.hm hin)
 have hHb : ∀ m, allOld w ∈ m → LiesH (HM m) (some ⟨hb, 0, none⟩) (cc (.cells [.gh ha hn hc (.rows 32 hr)])) := fun m hin => h1.mono (H0.hm hin)
 have hHs : ∀ m, allOld w ∈ m → EvL (HM m) ha hn hc hr E.hs := fun m hin => h2.mono (H0.hm hin)
 have hK0 : ∀ m, allOld w ∈ m → LiesH (HM m) (some ⟨0, 0, none⟩) (cc (.ints .u64 kKeys)) := fun m hin => k0.mono (H0.hm hin)
 have hK1 : ∀ m, allOld w ∈ m → LiesH (HM m) (some ⟨1, 0, none⟩) (cc (.ints .u8 kPathI)) := fun m hin => k1.mono (H0.hm hin)
 have hWd : ∀ m, allOld w ∈ m → WdH (HM m) E.acc wp wc := fun m hin => hW.mono (H0.hm hin)
 have hOp : ∀ m, allOld w ∈ m → OpR (HM m) ol E.x := fun m hin => hO.mono (H0.hm hin)
 have hev := evOf_eq h2.rows
 have hop := opOf_eq hO
 have hov := hO.bs
 have hol := hO.ls
 have bt : E.e.bs.take bn = E.e.bs := List.take_of_length_le (by omega)
 have aW : E.e.arg < W := by rw [← n22]; exact numI_ltE a22
 have vW : E.e.val < W := by rw [← n26]; exact numI_ltE a26
 have hPa : ∀ m, allOld w ∈ m → PaR (HM m) E pb P := fun m hin => hPP.mono (H0.hm hin)
 have GJ8_ok := GJ8_mk (E := E)
 obtain ⟨hel, heb⟩ := entA_ok hO ((E.role : Nat) : Int)
 obtain ⟨ea, hea⟩ : ∃ ea, entA E.x ((E.role : Nat) : Int) = ea := ⟨_, rfl⟩
 rw [hea] at hel heb
 cases hz0 : stakedE E
 all_goals cases hz1 : decide (E.e.op = 84)
 all_goals cases hz2 : ea.2
 all_goals cases hz3 : decide (E.e.self = ea.1)
 all_goals
  refine Vc.calls T0_ok Tryd.func65 rfl rfl (args := [.agg st]) (k := 48) rfl (old_start w) ?_; change Vc _ _ (c8 (.agg st) .undef .undef .undef .undef .undef .undef .undef (c8 .undef .undef .undef .undef .undef .undef .undef .undef (c8 .undef .undef .undef .undef .undef .undef .undef .undef (c8 .undef .undef .undef .undef .undef .undef .undef .undef (c8 .undef .undef .undef .undef .undef .undef .undef .undef (c8 .undef .undef .undef .undef .undef .undef .undef .undef ([.undef]))))))) _ _
  ((with_reducible refine Vc.seq fun N hN => ?_); (refine Vc.regiont T0_ok GJ8_ok ?_); simp only [v8Y, Nat.beq, Nat.ble, seval, tabs, GJ8_set, s2, s3, c0, c2, c22, c26, c30, c31, c32, c33, r0, r1, rS, r25, r84, r85, r86, r87, r88, r89, r90, r91, r92, n22, n26, toU8_bL, List.drop_zero, Bool.or_false, Bool.or_true, Bool.true_or, Bool.false_or, Bool.not_true, Bool.not_false, Bool.and_false, Bool.false_and, Bool.and_true, Bool.true_and, hz0, hz1, hz2, hz3, hea, hop, hev]; (try simp (disch := omega) only [v8W]); (repeat (first | with_reducible intro _ | ((with_reducible refine And.intro ?_ ?_); exact sX6))); (first | (refine hN _ _ ?_; clear hN N; (try simp (disch := omega) only [v8W])) | skip))
  ((repeat (first | (with_reducible refine Vc.seq fun N hN => ?_) | ((with_reducible refine And.intro ?_ ?_); exact sX6) | ((first | ((with_reducible refine Vc.hold ?_); first | refine Vc.regiont T0_ok GJ8_ok ?_)); (try simp only [v8Y, Nat.beq, Nat.ble, seval, tabs, GJ8_set, s2, s3, c0, c2, c22, c26, c30, c31, c32, c33, r0, r1, rS, r25, r84, r85, r86, r87, r88, r89, r90, r91, r92, n22, n26, toU8_bL, List.drop_zero, Bool.or_false, Bool.or_true, Bool.true_or, Bool.false_or, Bool.not_true, Bool.not_false, Bool.and_false, Bool.false_and, Bool.and_true, Bool.true_and, hz0, hz1, hz2, hz3, hea, hop, hev])) | ((with_reducible refine hN _ _ ?_); clear hN N))))
  (repeat (first | ((refine Vc.cond T0_ok (t := true) (by rfl) (fun _ => ?_) (fun h => Bool.noConfusion h)); ((repeat (first | (with_reducible refine Vc.seq fun N hN => ?_) | ((with_reducible refine And.intro ?_ ?_); exact sX6) | ((first | ((with_reducible refine Vc.fin ?_); dsimp only [thenK, blockK, retK, resS, resOne, resAll]) | ((with_reducible refine Vc.hold ?_); first | refine Vc.regiont T0_ok GJ8_ok ?_)); (try simp only [v8Y, Nat.beq, Nat.ble, seval, tabs, GJ8_set, s2, s3, c0, c2, c22, c26, c30, c31, c32, c33, r0, r1, rS, r25, r84, r85, r86, r87, r88, r89, r90, r91, r92, n22, n26, toU8_bL, List.drop_zero, Bool.or_false, Bool.or_true, Bool.true_or, Bool.false_or, Bool.not_true, Bool.not_false, Bool.and_false, Bool.false_and, Bool.and_true, Bool.true_and, hz0, hz1, hz2, hz3, hea, hop, hev])) | ((with_reducible refine hN _ _ ?_); clear hN N))); (try ((with_reducible refine Fin.of ?_))))) | ((refine Vc.cond T0_ok (t := false) (by rfl) (fun h => Bool.noConfusion h) (fun _ => ?_)); ((repeat (first | (with_reducible refine Vc.seq fun N hN => ?_) | ((first | with_reducible refine Vc.skip ?_); dsimp only [thenK, blockK, Nat.beq]; (first | (refine hN _ _ ?_; clear hN N))) | (with_reducible intro _) | ((with_reducible refine And.intro ?_ ?_); exact sX6) | ((first | ((with_reducible refine Vc.fin ?_); dsimp only [thenK, blockK, retK, resS, resOne, resAll]) | ((with_reducible refine Vc.hold ?_); first | refine Vc.drawt (id := 3) T0_ok GJ8_ok (by kernel_rfl) [0, 1, 2, 3, 4, 5, 6, 7, 8, 9, 10, 11, 12, 13] 15 [⟨14, 3, 24, _⟩] ⟨⟨⟨_, _, rfl⟩, zc_24⟩, trivial⟩ (by kernel_rfl) ?_ | refine Vc.drawt (id := 4) T0_ok GJ8_ok (by kernel_rfl) [0, 1, 2, 3, 4, 5, 6, 7, 8, 9, 10, 11, 12, 13, 14, 15, 16, 17, 18, 19, 20, 21] 22 [] trivial (by kernel_rfl) ?_)); (try simp only [v8Y, Nat.beq, Nat.ble, seval, tabs, GJ8_set, s2, s3, c0, c2, c22, c26, c30, c31, c32, c33, r0, r1, rS, r25, r84, r85, r86, r87, r88, r89, r90, r91, r92, n22, n26, toU8_bL, List.drop_zero, Bool.or_false, Bool.or_true, Bool.true_or, Bool.false_or, Bool.not_true, Bool.not_false, Bool.and_false, Bool.false_and, Bool.and_true, Bool.true_and, hz0, hz1, hz2, hz3, hea, hop, hev])) | ((with_reducible refine hN _ _ ?_); clear hN N))); (try ((with_reducible refine Fin.of ?_))))) | (clear hN N)))
  refine ⟨by first | trivial | simp, ?_⟩
  (congr 1; simp only [forStE, hz0, hz1, hea, hz2, hz3, Bool.or_false, Bool.or_true, Bool.true_or, Bool.false_or, Bool.not_true, Bool.not_false, Bool.and_false, Bool.false_and, Bool.and_true, Bool.true_and]; try first | done | rfl)
noncomputable def g_forSt (E : JE) (args : List SV) (m : List Blk) : CR := match args with
 | [.agg st] => .pure (StOk E (HM m) st) (.bool (forStE E))
 | _ => .none
theorem g_forSt_ok (E : JE) (w0 : World) (B : List Nat) (args : List SV) (m : List Blk) : CROk Tryd.prog w0 B 65 args m (g_forSt E args m) := by
 unfold g_forSt; split
 ·rename_i st
  intro h w hm
  exact calls_pure Tryd.func65 rfl rfl (forSt_vc E st w (h.mono fun b o h => hm.hm h))
 ·exact trivial
noncomputable def GJ9 (E : JE) : Ctr := fun f args m => match f with
 | 64 => g_isSnd E args m
 | 65 => g_forSt E args m
 | _ => .none
theorem GJ9_mk {E : JE} : GOk Tryd.prog (GJ9 E) := by
 intro w0 B f args m; unfold GJ9; split
 ·exact g_isSnd_ok E _ _ _ _
 ·exact g_forSt_ok E _ _ _ _
 ·exact trivial
theorem GJ9_isSnd {E : JE} : GJ9 E 64 = g_isSnd E := by funext args m; rfl
theorem GJ9_forSt {E : JE} : GJ9 E 65 = g_forSt E := by funext args m; rfl
def GJ9_set := And.intro (And.intro (@GJ9_isSnd) (@g_isSnd.eq_def)) (And.intro (@GJ9_forSt) (@g_forSt.eq_def))

theorem opcR7 (x : Int) : x = 84 ∨ x = 85 ∨ (x ≠ 84 ∧ x ≠ 85) := by omega
set_option maxRecDepth 20000 in
theorem r7_vc (E : JE) (st : List SV) (w : World) (hS : StOk E (H0 w) st) : Calls Tryd.prog 51 (cvs [.agg st]).toArray w (fun en w' => ∃ u, en = .returned u ∧ ∃ v' m', u = cv v' ∧ MemOk w [] m' w' ∧ v' = .bool (ruleE E 7)) := by
 have hSt : ∀ m, allOld w ∈ m → StOk E (HM m) st := fun m hin => hS.mono (H0.hm hin)
 obtain ⟨s1, s2, s3, c0, c2, ⟨x0, x1, x2, x3, c22, a22, n22⟩, ⟨y0, y1, y2, y3, c26, a26, n26⟩, ⟨ba, bn, bc, c30, b1, b2, b3, b4, b5, b6⟩, c31, ⟨pb, P, c32, hPP⟩, c33, q1, q2, q3, q4, q5, q6, k0, k1⟩ := hS
 obtain ⟨p1, p2, p3, ⟨wp, wc, r0, hW⟩, ⟨ol, r1, hO⟩, rS, r25, r84, rl, r85, r86, r87, r88, ⟨la, ln, lc, r89, hL⟩, ⟨sa, sn, sc, r90, hV⟩, r91, ⟨hb, ha, hn, hc, hr, r92, h1, h2, h3⟩⟩ := id hPP
 have hPl : ∀ m, allOld w ∈ m → LiesH (HM m) (some ⟨pb, 0, none⟩) (cc (.cells P)) := fun m hin => p1.mono (H0.hm hin)
 have hLo : ∀ m, allOld w ∈ m → SlI (HM m) la ln lc E.lo := fun m hin => hL.mono (H0.hm hin)
 have hSv : ∀ m, allOld w ∈ m → SlI (HM m) sa sn sc E.sv := fun m hin => hV.mono (H0.hm hin)
 have hBs : ∀ m, allOld w ∈ m → LiesH (HM m) ba (cc (.ints .u8 E.e.bs)) := fun m hin => b4.mono (H0.hm hin)
 have hHb : ∀ m, allOld w ∈ m → LiesH (HM m) (some ⟨hb, 0, none⟩) (cc (.cells [.gh ha hn hc (.rows 32 hr)])) := fun m hin => h1.mono (H0.hm hin)
 have hHs : ∀ m, allOld w ∈ m → EvL (HM m) ha hn hc hr E.hs := fun m hin => h2.mono (H0.hm hin)
 have hK0 : ∀ m, allOld w ∈ m → LiesH (HM m) (some ⟨0, 0, none⟩) (cc (.ints .u64 kKeys)) := fun m hin => k0.mono (H0.hm hin)
 have hK1 : ∀ m, allOld w ∈ m → LiesH (HM m) (some ⟨1, 0, none⟩) (cc (.ints .u8 kPathI)) := fun m hin => k1.mono (H0.hm hin)
 have hWd : ∀ m, allOld w ∈ m → WdH (HM m) E.acc wp wc := fun m hin => hW.mono (H0.hm hin)
 have hOp : ∀ m, allOld w ∈ m → OpR (HM m) ol E.x := fun m hin => hO.mono (H0.hm hin)
 have hev := evOf_eq h2.rows
 have hop := opOf_eq hO
 have hov := hO.bs
 have hol := hO.ls
 have bt : E.e.bs.take bn = E.e.bs := List.take_of_length_le (by omega)
 have aW : E.e.arg < W := by rw [← n22]; exact numI_ltE a22
 have vW : E.e.val < W := by rw [← n26]; exact numI_ltE a26
 have hPa : ∀ m, allOld w ∈ m → PaR (HM m) E pb P := fun m hin => hPP.mono (H0.hm hin)
 have GJ9_ok := GJ9_mk (E := E)
 rcases opcR7 E.e.op with h | h | h
 all_goals
  (first | have d84 : decide (E.e.op = 84) = true := decide_eq_true (by omega) | have d84 : decide (E.e.op = 84) = false := decide_eq_false (by omega))
  (first | have d85 : decide (E.e.op = 85) = true := decide_eq_true (by omega) | have d85 : decide (E.e.op = 85) = false := decide_eq_false (by omega))
 all_goals cases hz1 : isSndE E
 all_goals cases hz2 : forStE E
 all_goals
  refine Vc.calls T0_ok Tryd.func51 rfl rfl (args := [.agg st]) (k := 16) rfl (old_start w) ?_; change Vc _ _ (c8 (.agg st) .undef .undef .undef .undef .undef .undef .undef (c8 .undef .undef .undef .undef .undef .undef .undef .undef ([.undef]))) _ _
  ((with_reducible refine Vc.seq fun N hN => ?_); (refine Vc.regiont T0_ok GJ9_ok ?_); simp only [v8Y, Nat.beq, Nat.ble, seval, tabs, GJ9_set, s2, s3, c0, c2, c22, c26, c30, c31, c32, c33, r0, r1, rS, r25, r84, r85, r86, r87, r88, r89, r90, r91, r92, n22, n26, toU8_bL, List.drop_zero, Bool.or_false, Bool.or_true, Bool.true_or, Bool.false_or, Bool.not_true, Bool.not_false, Bool.and_false, Bool.false_and, Bool.and_true, Bool.true_and, d84, d85, hz1, hz2]; (try simp (disch := omega) only [v8W]); (repeat (first | with_reducible intro _ | ((with_reducible refine And.intro ?_ ?_); exact sX6))); (first | (refine hN _ _ ?_; clear hN N; (try simp (disch := omega) only [v8W])) | skip))
  ((repeat (first | (with_reducible first | refine Vc.seq fun N hN => ?_ | refine Vc.block ?_) | ((with_reducible refine And.intro ?_ ?_); exact sX6) | ((first | ((with_reducible refine Vc.hold ?_); first | refine Vc.regiont T0_ok GJ9_ok ?_)); (try simp only [v8Y, Nat.beq, Nat.ble, seval, tabs, GJ9_set, s2, s3, c0, c2, c22, c26, c30, c31, c32, c33, r0, r1, rS, r25, r84, r85, r86, r87, r88, r89, r90, r91, r92, n22, n26, toU8_bL, List.drop_zero, Bool.or_false, Bool.or_true, Bool.true_or, Bool.false_or, Bool.not_true, Bool.not_false, Bool.and_false, Bool.false_and, Bool.and_true, Bool.true_and, d84, d85, hz1, hz2])) | ((with_reducible refine hN _ _ ?_); clear hN N))))
  (repeat (first | ((refine Vc.cond T0_ok (t := true) (by rfl) (fun _ => ?_) (fun h => Bool.noConfusion h)); ((repeat (first | (with_reducible refine Vc.seq fun N hN => ?_) | ((first | with_reducible refine Vc.skip ?_); dsimp only [thenK, blockK, Nat.beq]; (first | (refine hN _ _ ?_; clear hN N))) | ((with_reducible refine And.intro ?_ ?_); exact sX6) | ((first | ((with_reducible refine Vc.fin ?_); dsimp only [thenK, blockK, retK, resS, resOne, resAll]) | ((with_reducible refine Vc.hold ?_); first | refine Vc.regiont T0_ok GJ9_ok ?_)); (try simp only [v8Y, Nat.beq, Nat.ble, seval, tabs, GJ9_set, s2, s3, c0, c2, c22, c26, c30, c31, c32, c33, r0, r1, rS, r25, r84, r85, r86, r87, r88, r89, r90, r91, r92, n22, n26, toU8_bL, List.drop_zero, Bool.or_false, Bool.or_true, Bool.true_or, Bool.false_or, Bool.not_true, Bool.not_false, Bool.and_false, Bool.false_and, Bool.and_true, Bool.true_and, d84, d85, hz1, hz2])) | ((with_reducible refine hN _ _ ?_); clear hN N))); (try ((with_reducible refine Fin.of ?_))))) | ((refine Vc.cond T0_ok (t := false) (by rfl) (fun h => Bool.noConfusion h) (fun _ => ?_)); ((repeat (first | (with_reducible refine Vc.seq fun N hN => ?_) | ((first | with_reducible refine Vc.skip ?_); dsimp only [thenK, blockK, Nat.beq]; (first | (refine hN _ _ ?_; clear hN N))) | ((with_reducible refine And.intro ?_ ?_); exact sX6) | ((first | ((with_reducible refine Vc.fin ?_); dsimp only [thenK, blockK, retK, resS, resOne, resAll]) | ((with_reducible refine Vc.hold ?_); first | refine Vc.regiont T0_ok GJ9_ok ?_)); (try simp only [v8Y, Nat.beq, Nat.ble, seval, tabs, GJ9_set, s2, s3, c0, c2, c22, c26, c30, c31, c32, c33, r0, r1, rS, r25, r84, r85, r86, r87, r88, r89, r90, r91, r92, n22, n26, toU8_bL, List.drop_zero, Bool.or_false, Bool.or_true, Bool.true_or, Bool.false_or, Bool.not_true, Bool.not_false, Bool.and_false, Bool.false_and, Bool.and_true, Bool.true_and, d84, d85, hz1, hz2])) | ((with_reducible refine hN _ _ ?_); clear hN N))); (try ((with_reducible refine Fin.of ?_))))) | (clear hN N)))
  refine ⟨by first | trivial | simp, ?_⟩
  (congr 1; simp only [ruleE, isOp, List.any_cons, List.any_nil, stakedE, d84, d85, hz1, hz2, Bool.or_false, Bool.or_true, Bool.true_or, Bool.false_or, Bool.not_true, Bool.not_false, Bool.and_false, Bool.false_and, Bool.and_true, Bool.true_and]; try first | done | rfl)
noncomputable def g_r7 (E : JE) (args : List SV) (m : List Blk) : CR := match args with
 | [.agg st] => .pure (StOk E (HM m) st) (.bool (ruleE E 7))
 | _ => .none
theorem g_r7_ok (E : JE) (w0 : World) (B : List Nat) (args : List SV) (m : List Blk) : CROk Tryd.prog w0 B 51 args m (g_r7 E args m) := by
 unfold g_r7; split
 ·rename_i st
  intro h w hm
  exact calls_pure Tryd.func51 rfl rfl (r7_vc E st w (h.mono fun b o h => hm.hm h))
 ·exact trivial
end Go.Proofs.YtoadeekdgikghaaDoor
