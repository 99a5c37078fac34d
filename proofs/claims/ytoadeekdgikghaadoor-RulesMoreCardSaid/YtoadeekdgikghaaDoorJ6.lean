/-
 Package rules: the rules that a step violates. No condition.
-/
import Derived.Test.YtoadeekdgikghaaDoorJ5
set_option maxRecDepth 20000
set_option maxHeartbeats 4000000
set_option linter.defProp false
set_option linter.unusedVariables false
set_option linter.unusedSimpArgs false
namespace Go.Proofs.YtoadeekdgikghaaDoor
open Go.RowKit
theorem rules_vc (w : World) : Calls Tryd.prog 34 (cvs []).toArray w (fun en w' => ∃ u, en = .returned u ∧ ∃ v' m', u = cv v' ∧ MemOk w [] m' w' ∧ ∃ b t, v' = .sl 0 (some ⟨b, 0, none⟩) 0 0 1 8 8 ∧ bget m' 0 = .blk b t (.cells [.fn (.func 44) [] [], .fn (.func 45) [] [], .fn (.func 46) [] [], .fn (.func 47) [] [], .fn (.func 48) [] [], .fn (.func 49) [] [], .fn (.func 50) [] [], .fn (.func 51) [] []])) := by
 refine Vc.calls T0_ok Tryd.func34 rfl rfl (args := []) (k := 2) rfl (MemOk.start _) ?_; change Vc _ _ ([.undef, .undef]) _ _
 ((repeat (first | (with_reducible refine Vc.seq fun N hN => ?_) | (with_reducible intro _) | ((with_reducible refine And.intro ?_ ?_); exact sX0) | ((first | ((with_reducible refine Vc.fin ?_); dsimp only [thenK, blockK, retK, resS, resOne, resAll]) | ((with_reducible refine Vc.hold ?_); first | refine Vc.regiont T0_ok GJ0_ok ?_)); (try simp only [v8Y, Nat.beq, Nat.ble, Int.reduceToNat, Int.reduceLE, Int.reduceLT, Nat.reduceLT, Nat.reduceLeDiff, Nat.reduceAdd, Nat.reduceMul, Nat.reduceSub, Int.reduceAdd, Int.reduceSub, Int.reduceMul, tabs, GJ0_set, ])) | ((with_reducible refine hN _ _ ?_); clear hN N))); (try ((with_reducible refine Fin.of ?_); (try with_reducible exact True.intro))))
 exact ⟨by first | trivial | simp, _, _, rfl, rfl⟩
structure BlX where
 b : Nat
 h : List (Nat × Obj)
def BlQ (con : Con) (x : BlX) : Prop := LiesH (Hl x.h) (some ⟨x.b, 0, none⟩) (cc con)
noncomputable def g_rules (args : List SV) (m : List Blk) : CR := match args with
 | [] => .grw True BlX (BlQ (.cells [.fn (.func 44) [] [], .fn (.func 45) [] [], .fn (.func 46) [] [], .fn (.func 47) [] [], .fn (.func 48) [] [], .fn (.func 49) [] [], .fn (.func 50) [] [], .fn (.func 51) [] []])) (fun x => .gh (some ⟨x.b, 0, none⟩) 8 8 (.cells [.fn (.func 44) [] [], .fn (.func 45) [] [], .fn (.func 46) [] [], .fn (.func 47) [] [], .fn (.func 48) [] [], .fn (.func 49) [] [], .fn (.func 50) [] [], .fn (.func 51) [] []])) (fun x => .heap x.h)
 | _ => .none
theorem bl_of {P : Program} {f : FuncId} {args : Array Value} {w0 w : World} {B : List Nat} {con : Con} {F : Nat → SV} (h1 : Enters P f args w fun u w' => ∃ a : Nat × List (Nat × Obj), BlQ con ⟨a.1, a.2⟩ ∧ u = cv (F a.1) ∧ w.grownBy w' .none ∧ (Blk.heap a.2).ok w0 B w' ∧ (∀ b ∈ (Blk.heap a.2).nums, w.heap.size ≤ b) ∧ (Blk.heap a.2).nums.Nodup) :
  Enters P f args w fun u w' => ∃ a : BlX, BlQ con a ∧ u = cv (F a.b) ∧ w.grownBy w' .none ∧ (Blk.heap a.h).ok w0 B w' ∧ (∀ b ∈ (Blk.heap a.h).nums, w.heap.size ≤ b) ∧ (Blk.heap a.h).nums.Nodup :=
 h1.mono fun u w' ⟨a, h⟩ => ⟨⟨a.1, a.2⟩, h⟩
theorem g_rules_ok (w0 : World) (B : List Nat) (args : List SV) (m : List Blk) : CROk Tryd.prog w0 B 34 args m (g_rules args m) := by
 unfold g_rules; split
 ·intro _ w hm
  exact bl_of (F := fun b => .gh (some ⟨b, 0, none⟩) 8 8 (.cells [.fn (.func 44) [] [], .fn (.func 45) [] [], .fn (.func 46) [] [], .fn (.func 47) [] [], .fn (.func 48) [] [], .fn (.func 49) [] [], .fn (.func 50) [] [], .fn (.func 51) [] []])) (calls_new (A := Nat) (Q := fun b l => BlQ (.cells [.fn (.func 44) [] [], .fn (.func 45) [] [], .fn (.func 46) [] [], .fn (.func 47) [] [], .fn (.func 48) [] [], .fn (.func 49) [] [], .fn (.func 50) [] [], .fn (.func 51) [] []]) ⟨b, l⟩) (F := fun b => .gh (some ⟨b, 0, none⟩) 8 8 (.cells [.fn (.func 44) [] [], .fn (.func 45) [] [], .fn (.func 46) [] [], .fn (.func 47) [] [], .fn (.func 48) [] [], .fn (.func 49) [] [], .fn (.func 50) [] [], .fn (.func 51) [] []])) Tryd.func34 rfl rfl hm ((rules_vc w).mono fun en w' ⟨u, hu, v', m', hv, hm', b, t, hvv, hk⟩ => ⟨u, hu, v', m', hv, hm', fun w2 hm2 => ⟨b, by rw [hvv]; simp [cv, addr_add], blk_lies hm2 hk⟩⟩))
 ·exact trivial
theorem roles_vc (w : World) : Calls Tryd.prog 14 (cvs []).toArray w (fun en w' => ∃ u, en = .returned u ∧ ∃ v' m', u = cv v' ∧ MemOk w [] m' w' ∧ ∃ b t, v' = .sl 0 (some ⟨b, 0, none⟩) 0 0 1 3 3 ∧ bget m' 0 = .blk b t (.ints .u8 [1, 2, 3])) := by
 refine Vc.calls T0_ok Tryd.func14 rfl rfl (args := []) (k := 2) rfl (MemOk.start _) ?_; change Vc _ _ ([.undef, .undef]) _ _
 ((repeat (first | (with_reducible refine Vc.seq fun N hN => ?_) | (with_reducible intro _) | ((with_reducible refine And.intro ?_ ?_); exact sX0) | ((first | ((with_reducible refine Vc.fin ?_); dsimp only [thenK, blockK, retK, resS, resOne, resAll]) | ((with_reducible refine Vc.hold ?_); first | refine Vc.regiont T0_ok GJ0_ok ?_)); (try simp only [v8Y, Nat.beq, Nat.ble, Int.reduceToNat, Int.reduceLE, Int.reduceLT, Nat.reduceLT, Nat.reduceLeDiff, Nat.reduceAdd, Nat.reduceMul, Nat.reduceSub, Int.reduceAdd, Int.reduceSub, Int.reduceMul, tabs, GJ0_set, ])) | ((with_reducible refine hN _ _ ?_); clear hN N))); (try ((with_reducible refine Fin.of ?_); (try with_reducible exact True.intro))))
 exact ⟨by first | trivial | simp, _, _, rfl, rfl⟩
noncomputable def g_roles (args : List SV) (m : List Blk) : CR := match args with
 | [] => .grw True BlX (BlQ (.ints .u8 [1, 2, 3])) (fun x => .gh (some ⟨x.b, 0, none⟩) 3 3 (.ints .u8 [1, 2, 3])) (fun x => .heap x.h)
 | _ => .none
theorem g_roles_ok (w0 : World) (B : List Nat) (args : List SV) (m : List Blk) : CROk Tryd.prog w0 B 14 args m (g_roles args m) := by
 unfold g_roles; split
 ·intro _ w hm
  exact bl_of (F := fun b => .gh (some ⟨b, 0, none⟩) 3 3 (.ints .u8 [1, 2, 3])) (calls_new (A := Nat) (Q := fun b l => BlQ (.ints .u8 [1, 2, 3]) ⟨b, l⟩) (F := fun b => .gh (some ⟨b, 0, none⟩) 3 3 (.ints .u8 [1, 2, 3])) Tryd.func14 rfl rfl hm ((roles_vc w).mono fun en w' ⟨u, hu, v', m', hv, hm', b, t, hvv, hk⟩ => ⟨u, hu, v', m', hv, hm', fun w2 hm2 => ⟨b, by rw [hvv]; simp [cv, addr_add], blk_lies hm2 hk⟩⟩))
 ·exact trivial
noncomputable def GJA (E : JE) : Ctr := fun f args m => match f with
 | 34 => g_rules args m
 | 44 => g_r0 E args m
 | 45 => g_r1 E args m
 | 46 => g_r2 E args m
 | 47 => g_r3 E args m
 | 48 => g_r4 E args m
 | 49 => g_r5 E args m
 | 50 => g_r6 E args m
 | 51 => g_r7 E args m
 | _ => .none
theorem GJA_mk {E : JE} : GOk Tryd.prog (GJA E) := by
 intro w0 B f args m; unfold GJA; split
 ·exact g_rules_ok _ _ _ _
 ·exact g_r0_ok E _ _ _ _
 ·exact g_r1_ok E _ _ _ _
 ·exact g_r2_ok E _ _ _ _
 ·exact g_r3_ok E _ _ _ _
 ·exact g_r4_ok E _ _ _ _
 ·exact g_r5_ok E _ _ _ _
 ·exact g_r6_ok E _ _ _ _
 ·exact g_r7_ok E _ _ _ _
 ·exact trivial
theorem GJA_rules {E : JE} : GJA E 34 = g_rules := by funext args m; rfl
theorem GJA_r0 {E : JE} : GJA E 44 = g_r0 E := by funext args m; rfl
theorem GJA_r1 {E : JE} : GJA E 45 = g_r1 E := by funext args m; rfl
theorem GJA_r2 {E : JE} : GJA E 46 = g_r2 E := by funext args m; rfl
theorem GJA_r3 {E : JE} : GJA E 47 = g_r3 E := by funext args m; rfl
theorem GJA_r4 {E : JE} : GJA E 48 = g_r4 E := by funext args m; rfl
theorem GJA_r5 {E : JE} : GJA E 49 = g_r5 E := by funext args m; rfl
theorem GJA_r6 {E : JE} : GJA E 50 = g_r6 E := by funext args m; rfl
theorem GJA_r7 {E : JE} : GJA E 51 = g_r7 E := by funext args m; rfl
def GJA_set := And.intro (And.intro (And.intro (And.intro (@GJA_rules) (@g_rules.eq_def)) (And.intro (@GJA_r0) (@g_r0.eq_def))) (And.intro (And.intro (@GJA_r1) (@g_r1.eq_def)) (And.intro (@GJA_r2) (And.intro (@g_r2.eq_def) (@GJA_r3))))) (And.intro (And.intro (And.intro (@g_r3.eq_def) (@GJA_r4)) (And.intro (@g_r4.eq_def) (@GJA_r5))) (And.intro (And.intro (@g_r5.eq_def) (@GJA_r6)) (And.intro (@g_r6.eq_def) (And.intro (@GJA_r7) (@g_r7.eq_def)))))

theorem vioE_s (E : JE) (k : Nat) : vioE E (k + 1) = vioE E k ++ if hitE E k = true then [(k : Int) + 1] else [] := by
 unfold vioE
 rw [List.range_succ, List.filter_append, List.map_append]
 congr 1
 by_cases h : hitE E k = true
 ·rw [if_pos h, List.filter_cons_of_pos h]; rfl
 ·rw [if_neg h, List.filter_cons_of_neg h]; rfl
theorem vioE_len (E : JE) : ∀ k, (vioE E k).length ≤ k
 | 0 => Nat.le_refl _
 | k + 1 => by
  rw [vioE_s, List.length_append]
  have := vioE_len E k
  split <;> simp <;> omega
set_option maxRecDepth 20000 in
theorem vio_vc (E : JE) (st : List SV) (w : World) (hS : StOk E (H0 w) st) : Calls Tryd.prog 24 (cvs [.agg st]).toArray w (fun en w' => ∃ u, en = .returned u ∧ ∃ v' m', u = cv v' ∧ MemOk w [] m' w' ∧ ∃ k s, v' = .own k s (vioE E 8).length ∧ bget m' k = .own s (vioE E 8).length 5 1 (.ints .u8 (vioE E 8))) := by
 have GJA_ok := GJA_mk (E := E)
 have hSt : ∀ m, allOld w ∈ m → StOk E (HM m) st := fun m hin => hS.mono (H0.hm hin)
 obtain ⟨s1, s2, s3, c0, c2, c22, c26, c30, c31, c32, c33, q1, q2, q3, q4, q5, q6, k0, k1⟩ := hS
 clear c22 c26 c30 c32
 refine Vc.calls T0_ok Tryd.func24 rfl rfl (args := [.agg st]) (k := 35) rfl (old_start w) ?_; change Vc _ _ (c8 (.agg st) .undef .undef .undef .undef .undef .undef .undef (c8 .undef .undef .undef .undef .undef .undef .undef .undef (c8 .undef .undef .undef .undef .undef .undef .undef .undef (c8 .undef .undef .undef .undef .undef .undef .undef .undef ([.undef, .undef, .undef, .undef]))))) _ _
 ((repeat (first | (with_reducible first | refine Vc.seq fun N hN => ?_ | refine Vc.block ?_) | (with_reducible intro _) | ((with_reducible refine And.intro ?_ ?_); exact sX14) | ((first | ((with_reducible refine Vc.hold ?_); first | refine Vc.regiont T0_ok GJA_ok ?_)); (try simp only [v8Y, Nat.beq, Nat.ble, Int.reduceToNat, Int.reduceLE, Int.reduceLT, Nat.reduceLT, Nat.reduceLeDiff, Nat.reduceAdd, Nat.reduceMul, Nat.reduceSub, Int.reduceAdd, Int.reduceSub, Int.reduceMul, tabs, GJA_set, s2, s3])) | ((with_reducible refine hN _ _ ?_); clear hN N))))
 rename_i bb y hy
 (revert N; intro N1 hN1)
 refine Vc.nilown 3 5 1 .u8 rfl ?_
 (simp only [v8Y, Nat.beq, Nat.ble, Int.reduceToNat, Int.reduceLE, Int.reduceLT, Nat.reduceLT, Nat.reduceLeDiff, Nat.reduceAdd, Nat.reduceMul, Nat.reduceSub, Int.reduceAdd, Int.reduceSub, Int.reduceMul, tabs])
 refine Vc.loop 3 36 (fun (x : Nat × Value × List Int) => [(3, .own 3 x.2.1 x.2.2.length), (7, .gh (some ⟨y.b, 0, none⟩) 8 8 (.cells [.fn (.func 44) [] [], .fn (.func 45) [] [], .fn (.func 46) [] [], .fn (.func 47) [] [], .fn (.func 48) [] [], .fn (.func 49) [] [], .fn (.func 50) [] [], .fn (.func 51) [] []])), (8, .int .i64 8), (9, .int .i64 (x.1 : Nat))]) (fun x => [allOld w, .blk bb 93 (.cells st), .heap y.h, .own x.2.1 x.2.2.length 5 1 (.ints .u8 x.2.2)]) (fun x => x.1 ≤ 8 ∧ x.2.2 = vioE E x.1) (fun x => 8 - x.1) (0, .slice none 0 0, []) ⟨⟨Nat.zero_le _, rfl⟩, ?_, ?_⟩ (fun x junk hx => ?_)
 ·((try simp only [v8Y, Nat.beq, Nat.ble, Int.reduceToNat, Int.reduceLE, Int.reduceLT, Nat.reduceLT, Nat.reduceLeDiff, Nat.reduceAdd, Nat.reduceMul, Nat.reduceSub, Int.reduceAdd, Int.reduceSub, Int.reduceMul, tabs]); (repeat' with_reducible apply And.intro) <;> first | with_reducible exact True.intro | rfl | with_reducible rfl | (congr 1 <;> omega) | trivial)
 ·((try simp only [v8Y, Nat.beq, Nat.ble, Int.reduceToNat, Int.reduceLE, Int.reduceLT, Nat.reduceLT, Nat.reduceLeDiff, Nat.reduceAdd, Nat.reduceMul, Nat.reduceSub, Int.reduceAdd, Int.reduceSub, Int.reduceMul, tabs]); (repeat' with_reducible apply And.intro) <;> first | with_reducible exact True.intro | rfl | with_reducible rfl | (congr 1 <;> omega) | trivial)
 ·obtain ⟨k, v, xs⟩ := x
  dsimp only at hx ⊢
  obtain ⟨k1, rfl⟩ := hx
  (simp only [v8Y, Nat.beq, Nat.ble, Int.reduceToNat, Int.reduceLE, Int.reduceLT, Nat.reduceLT, Nat.reduceLeDiff, Nat.reduceAdd, Nat.reduceMul, Nat.reduceSub, Int.reduceAdd, Int.reduceSub, Int.reduceMul, tabs])
  have hvl := vioE_len E k
  by_cases hc1 : k < 8
  ·have d1 : decide ((k : Int) < 8) = true := decide_eq_true (by omega)
   have tk : ((k : Nat) : Int).toNat = k := by omega
   have hs := vioE_s E k
   obtain ⟨K, hK⟩ : ∃ K, K = k + 1 := ⟨_, rfl⟩
   rw [← hK] at hs
   have e3 : decide ((k : Int) + 1 = 3) = decide (k = 2) := by apply decide_eq_decide.2; omega
   have hh : hitE E k = ((decide (E.e.flt = 0) || decide (k = 2)) && ruleE E k) := rfl
   cases hzf : decide (E.e.flt = 0)
   all_goals cases hz2 : decide (k = 2)
   all_goals cases hzr : ruleE E k
   all_goals
    rw [hz2] at e3
    rw [hzf, hz2, hzr] at hh
    simp only [Bool.or_false, Bool.or_true, Bool.true_or, Bool.false_or, Bool.and_false, Bool.and_true, Bool.false_and, Bool.true_and] at hh
    rw [hh] at hs
    simp only [if_true, if_false, Bool.false_eq_true, List.append_nil] at hs
    obtain rfl | rfl | rfl | rfl | rfl | rfl | rfl | rfl : k = 0 ∨ k = 1 ∨ k = 2 ∨ k = 3 ∨ k = 4 ∨ k = 5 ∨ k = 6 ∨ k = 7 := by omega
   all_goals first | (exact absurd hz2 (by decide)) | skip
   all_goals
    ((repeat (first | (with_reducible refine Vc.seq fun N hN => ?_) | ((with_reducible refine And.intro ?_ ?_); exact sX14) | ((first | ((with_reducible refine Vc.hold ?_); first | refine Vc.regiont T0_ok GJA_ok ?_)); (try simp only [v8Y, Nat.beq, Nat.ble, Int.reduceToNat, Int.reduceLE, Int.reduceLT, Nat.reduceLT, Nat.reduceLeDiff, Nat.reduceAdd, Nat.reduceMul, Nat.reduceSub, Int.reduceAdd, Int.reduceSub, Int.reduceMul, tabs, GJA_set, s2, s3, c31, List.drop_zero, Bool.or_false, Bool.or_true, Bool.true_or, Bool.false_or, Bool.not_true, Bool.not_false, Bool.and_false, Bool.false_and, Bool.and_true, Bool.true_and, hzr, hzf, d1, tk, e3])) | ((with_reducible refine hN _ _ ?_); clear hN N))))
    (repeat (first | ((refine Vc.cond T0_ok (t := true) (by rfl) (fun _ => ?_) (fun h => Bool.noConfusion h)); ((repeat (first | (with_reducible first | refine Vc.seq fun N hN => ?_ | refine Vc.block ?_) | ((first | with_reducible refine Vc.skip ?_); dsimp only [thenK, blockK, Nat.beq]; (first | (refine hN _ _ ?_; clear hN N))) | (with_reducible intro _) | ((with_reducible refine And.intro ?_ ?_); exact sX14) | ((first | ((with_reducible refine Vc.hold ?_); first | refine Vc.regiont T0_ok GJA_ok ?_)); (try simp only [v8Y, Nat.beq, Nat.ble, Int.reduceToNat, Int.reduceLE, Int.reduceLT, Nat.reduceLT, Nat.reduceLeDiff, Nat.reduceAdd, Nat.reduceMul, Nat.reduceSub, Int.reduceAdd, Int.reduceSub, Int.reduceMul, tabs, GJA_set, s2, s3, c31, List.drop_zero, Bool.or_false, Bool.or_true, Bool.true_or, Bool.false_or, Bool.not_true, Bool.not_false, Bool.and_false, Bool.false_and, Bool.and_true, Bool.true_and, hzr, hzf, d1, tk, e3]); (try simp (disch := omega) only [v8W])) | ((with_reducible refine hN _ _ ?_); clear hN N))))) | ((refine Vc.cond T0_ok (t := false) (by rfl) (fun h => Bool.noConfusion h) (fun _ => ?_)); ((repeat (first | ((first | with_reducible refine Vc.skip ?_); dsimp only [thenK, blockK, Nat.beq]; (first | (refine hN _ _ ?_; clear hN N))) | ((with_reducible refine And.intro ?_ ?_); exact sX14) | ((first | ((with_reducible refine Vc.hold ?_); first | refine Vc.regiont T0_ok GJA_ok ?_)); (try simp only [v8Y, Nat.beq, Nat.ble, Int.reduceToNat, Int.reduceLE, Int.reduceLT, Nat.reduceLT, Nat.reduceLeDiff, Nat.reduceAdd, Nat.reduceMul, Nat.reduceSub, Int.reduceAdd, Int.reduceSub, Int.reduceMul, tabs, GJA_set, s2, s3, c31, List.drop_zero, Bool.or_false, Bool.or_true, Bool.true_or, Bool.false_or, Bool.not_true, Bool.not_false, Bool.and_false, Bool.false_and, Bool.and_true, Bool.true_and, hzr, hzf, d1, tk, e3]))))))))
   all_goals first
    | (refine ⟨(K, v, vioE E K), ⟨by dsimp only; omega, rfl⟩, ?_, ?_, by dsimp only; omega⟩ <;> (dsimp only; (repeat' with_reducible apply And.intro) <;> first | exact trivial | with_reducible rfl | (rw [hs]; done) | (congr 1; omega)))
    | (rename_i v2; refine ⟨(K, v2, vioE E K), ⟨by dsimp only; omega, rfl⟩, ?_, ?_, by dsimp only; omega⟩ <;> (dsimp only; (repeat' with_reducible apply And.intro) <;> first | exact trivial | with_reducible rfl | (rw [hs, List.length_append]; rfl) | (congr 1; omega)))
  ·have d1 : decide ((k : Int) < 8) = false := decide_eq_false (by omega)
   obtain rfl : k = 8 := by omega
   ((repeat (first | (with_reducible refine Vc.seq fun N hN => ?_) | ((with_reducible refine And.intro ?_ ?_); exact sX14) | ((first | ((with_reducible refine Vc.hold ?_); first | refine Vc.regiont T0_ok GJA_ok ?_)); (try simp only [v8Y, Nat.beq, Nat.ble, Int.reduceToNat, Int.reduceLE, Int.reduceLT, Nat.reduceLT, Nat.reduceLeDiff, Nat.reduceAdd, Nat.reduceMul, Nat.reduceSub, Int.reduceAdd, Int.reduceSub, Int.reduceMul, tabs, GJA_set, d1])) | ((with_reducible refine hN _ _ ?_); clear hN N))))
   (refine Vc.cond T0_ok (t := false) (by rfl) (fun h => Bool.noConfusion h) (fun _ => ?_))
   ((repeat (first | (with_reducible refine Vc.seq fun N hN => ?_) | ((first | with_reducible refine Vc.exit ?_); dsimp only [thenK, blockK, Nat.beq]; (first | skip)) | ((with_reducible refine And.intro ?_ ?_); exact sX0) | ((first | ((with_reducible refine Vc.fin ?_); dsimp only [thenK, blockK, retK, resS, resOne, resAll]) | ((with_reducible refine Vc.hold ?_); first | refine Vc.regiont T0_ok GJA_ok ?_)); (try simp only [v8Y, Nat.beq, Nat.ble, Int.reduceToNat, Int.reduceLE, Int.reduceLT, Nat.reduceLT, Nat.reduceLeDiff, Nat.reduceAdd, Nat.reduceMul, Nat.reduceSub, Int.reduceAdd, Int.reduceSub, Int.reduceMul, tabs, GJA_set])) | ((with_reducible refine hN _ _ ?_); clear hN N))); (try ((with_reducible refine Fin.of ?_); (try with_reducible exact True.intro))))
   (refine hN1 _ _ ?_; (try clear hN N); clear hN1 N1)
   ((repeat (first | (with_reducible refine Vc.seq fun N hN => ?_) | ((first | with_reducible refine Vc.exit ?_); dsimp only [thenK, blockK, Nat.beq]; (first | skip)) | ((with_reducible refine And.intro ?_ ?_); exact sX0) | ((first | ((with_reducible refine Vc.fin ?_); dsimp only [thenK, blockK, retK, resS, resOne, resAll]) | ((with_reducible refine Vc.hold ?_); first | refine Vc.regiont T0_ok GJA_ok ?_)); (try simp only [v8Y, Nat.beq, Nat.ble, Int.reduceToNat, Int.reduceLE, Int.reduceLT, Nat.reduceLT, Nat.reduceLeDiff, Nat.reduceAdd, Nat.reduceMul, Nat.reduceSub, Int.reduceAdd, Int.reduceSub, Int.reduceMul, tabs, GJA_set])) | ((with_reducible refine hN _ _ ?_); clear hN N))); (try ((with_reducible refine Fin.of ?_); (try with_reducible exact True.intro))))
   exact ⟨by first | trivial | simp, 3, v, rfl, rfl⟩
noncomputable def g_vio (E : JE) (args : List SV) (m : List Blk) : CR := match args with
 | [.agg st] => .own (StOk E (HM m) st) 5 1 (vioE E 8).length (.ints .u8 (vioE E 8)) (fun v => v)
 | _ => .none
theorem g_vio_ok (E : JE) (w0 : World) (B : List Nat) (args : List SV) (m : List Blk) : CROk Tryd.prog w0 B 24 args m (g_vio E args m) := by
 unfold g_vio; split
 ·rename_i st
  intro h w hm
  exact own_new Tryd.func24 rfl rfl hm (vio_vc E st w (h.mono fun b o h => hm.hm h))
 ·exact trivial
end Go.Proofs.YtoadeekdgikghaaDoor
