/-
  Law FootTouches, walked. No condition.
-/
import Derived.Test.YtdanlclhnehieaaI3
import Derived.Test.YtdanlclhnehieaaFR
namespace Go.Proofs.Ytdanlclhnehieaa
set_option linter.unusedSimpArgs false
set_option linter.unusedVariables false
set_option maxHeartbeats 4000000
set_option linter.defProp false
open Go.RowKit
theorem anyIn_nil (l : List (List Int)) : anyIn l [] = false := by
  unfold anyIn
  rw [Bool.eq_false_iff]
  intro h
  obtain ⟨c, _, h2⟩ := List.any_eq_true.1 h
  simp at h2
theorem nil_anyIn (l : List (List Int)) : anyIn [] l = false := rfl
theorem touch_eq (l2 l3 l4 : List (List Int)) : touchD l3 l4 l2 = meetsD [] l2 l3 l4 := by
  unfold touchD meetsD; rw [nil_anyIn, Bool.or_false]
theorem meets_rr (l1 l3 : List (List Int)) : meetsD l1 [] l3 [] = false := by
  unfold meetsD; rw [anyIn_nil, anyIn_nil, anyIn_nil]; rfl
theorem meets_split (l1 l2 l3 l4 : List (List Int)) : meetsD l1 l2 l3 l4 = (meetsD [] l2 l3 l4 || meetsD l1 [] l3 l4) := by
  unfold meetsD; rw [nil_anyIn, anyIn_nil, anyIn_nil, Bool.or_false, Bool.false_or, Bool.false_or, Bool.or_assoc]
noncomputable def GI7 : Ctr := fun f args m => match f with
  | 8 => g_meets args m
  | 10 => g_touches args m
  | 5 => g_fheavy args m
  | 6 => g_fknown args m
  | _ => .none
theorem GI7_ok : GOk Try.prog GI7 := by
  intro w0 B f args m; unfold GI7; split
  · exact g_meets_ok _ _ _ _
  · exact g_touches_ok _ _ _ _
  · exact g_fheavy_ok _ _ _ _
  · exact g_fknown_ok _ _ _ _
  · exact trivial
theorem GI7_meets : GI7 8 = g_meets := by funext args m; rfl
theorem GI7_touches : GI7 10 = g_touches := by funext args m; rfl
theorem GI7_fheavy : GI7 5 = g_fheavy := by funext args m; rfl
theorem GI7_fknown : GI7 6 = g_fknown := by funext args m; rfl
def GI7_set := And.intro (And.intro (And.intro (@GI7_meets) (@g_meets.eq_def)) (And.intro (@GI7_touches) (@g_touches.eq_def))) (And.intro (And.intro (@GI7_fheavy) (@g_fheavy.eq_def)) (And.intro (@GI7_fknown) (@g_fknown.eq_def)))

set_option maxRecDepth 20000 in
theorem footTouches_law (a1 a2 a3 a4 : Option Addr) (n1 n2 n3 n4 c1 c2 c3 c4 : Nat) (l1 l2 l3 l4 : List (List Int)) (w : World) (h1 : PlL (H0 w) a1 n1 c1 l1) (h2 : PlL (H0 w) a2 n2 c2 l2) (h3 : PlL (H0 w) a3 n3 c3 l3) (h4 : PlL (H0 w) a4 n4 c4 l4) (b1 : n1 ≤ maxLen) (b2 : n2 ≤ maxLen) (b3 : n3 ≤ maxLen) (b4 : n4 ≤ maxLen) :
    Calls Try.prog 4 (cvs [.agg [.gh a1 n1 c1 (.rows 25 (l1.map plL)), .gh a2 n2 c2 (.rows 25 (l2.map plL))], .agg [.gh a3 n3 c3 (.rows 25 (l3.map plL)), .gh a4 n4 c4 (.rows 25 (l4.map plL))]]).toArray w (Yes w) := by
  have hR1 : ∀ m, allOld w ∈ m → LiesH (HM m) a1 (cc (.rows 25 (l1.map plL))) := fun m hin => h1.lies.mono (H0.hm hin)
  have p1 := plsOf_eq h1.ok
  have r1 := rowsOk_pl h1.ok
  have o1 := h1.ok
  have le1 := h1.le
  have ad1 := h1.adr
  have t1 : (l1.map plL).length = n1 := by rw [List.length_map, h1.len]
  have y1 := List.take_of_length_le (show (l1.map plL).length ≤ n1 by omega)
  have hW1 : ∀ m, allOld w ∈ m → LiesH (HM m) a2 (cc (.rows 25 (l2.map plL))) := fun m hin => h2.lies.mono (H0.hm hin)
  have p2 := plsOf_eq h2.ok
  have r2 := rowsOk_pl h2.ok
  have o2 := h2.ok
  have le2 := h2.le
  have ad2 := h2.adr
  have t2 : (l2.map plL).length = n2 := by rw [List.length_map, h2.len]
  have y2 := List.take_of_length_le (show (l2.map plL).length ≤ n2 by omega)
  have hR2 : ∀ m, allOld w ∈ m → LiesH (HM m) a3 (cc (.rows 25 (l3.map plL))) := fun m hin => h3.lies.mono (H0.hm hin)
  have p3 := plsOf_eq h3.ok
  have r3 := rowsOk_pl h3.ok
  have o3 := h3.ok
  have le3 := h3.le
  have ad3 := h3.adr
  have t3 : (l3.map plL).length = n3 := by rw [List.length_map, h3.len]
  have y3 := List.take_of_length_le (show (l3.map plL).length ≤ n3 by omega)
  have hW2 : ∀ m, allOld w ∈ m → LiesH (HM m) a4 (cc (.rows 25 (l4.map plL))) := fun m hin => h4.lies.mono (H0.hm hin)
  have p4 := plsOf_eq h4.ok
  have r4 := rowsOk_pl h4.ok
  have o4 := h4.ok
  have le4 := h4.le
  have ad4 := h4.adr
  have t4 : (l4.map plL).length = n4 := by rw [List.length_map, h4.len]
  have y4 := List.take_of_length_le (show (l4.map plL).length ≤ n4 by omega)
  have hrow : ∀ r ∈ [[.gh a1 n1 c1 (.rows 25 (l1.map plL)), .gh a2 n2 c2 (.rows 25 (l2.map plL))], [.gh a3 n3 c3 (.rows 25 (l3.map plL)), .gh a4 n4 c4 (.rows 25 (l4.map plL))]], ∃ p, FtRow r p := by
    intro r hr
    simp only [List.mem_cons, List.not_mem_nil, or_false] at hr
    rcases hr with rfl | rfl
    · exact ⟨(n1, n2), _, _, _, _, _, _, rfl, b1, b2⟩
    · exact ⟨(n3, n4), _, _, _, _, _, _, rfl, b3, b4⟩
  have hk2 : (2 : Nat) ≤ maxLen := by unfold maxLen; omega
  have ln1 : lnOf [.gh a1 n1 c1 (.rows 25 (l1.map plL)), .gh a2 n2 c2 (.rows 25 (l2.map plL))] = (n1, n2) := rfl
  have ln2 : lnOf [.gh a3 n3 c3 (.rows 25 (l3.map plL)), .gh a4 n4 c4 (.rows 25 (l4.map plL))] = (n3, n4) := rfl
  have hno := heavyD_no (l := [(n1, n2), (n3, n4)])
  unfold maxLen at b1 b2 b3 b4
  clear h1 h2 h3 h4
  cases hv : heavyD [(n1, n2), (n3, n4)]
  case true =>
    refine Vc.calls T0_ok Try.func4 rfl rfl (args := [.agg [.gh a1 n1 c1 (.rows 25 (l1.map plL)), .gh a2 n2 c2 (.rows 25 (l2.map plL))], .agg [.gh a3 n3 c3 (.rows 25 (l3.map plL)), .gh a4 n4 c4 (.rows 25 (l4.map plL))]]) (k := 52) rfl (old_start w) ?_; change Vc _ _ (c8 (.agg [.gh a1 n1 c1 (.rows 25 (l1.map plL)), .gh a2 n2 c2 (.rows 25 (l2.map plL))]) (.agg [.gh a3 n3 c3 (.rows 25 (l3.map plL)), .gh a4 n4 c4 (.rows 25 (l4.map plL))]) .undef .undef .undef .undef .undef .undef (c8 .undef .undef .undef .undef .undef .undef .undef .undef (c8 .undef .undef .undef .undef .undef .undef .undef .undef (c8 .undef .undef .undef .undef .undef .undef .undef .undef (c8 .undef .undef .undef .undef .undef .undef .undef .undef (c8 .undef .undef .undef .undef .undef .undef .undef .undef ([.undef, .undef, .undef, .undef, .undef, .undef]))))))) _ _
    ((repeat (first | (with_reducible refine Vc.seq fun N hN => ?_) | (with_reducible refine Vc.block ?_) | ((first | with_reducible refine Vc.skip ?_ | with_reducible refine Vc.exit ?_); dsimp only [thenK, blockK, Nat.beq]; (first | (refine hN _ _ ?_; clear hN N) | skip)) | (with_reducible intro _) | ((with_reducible refine And.intro ?_ ?_); (focus (first | ((repeat' with_reducible apply And.intro) <;> first | exact sideQ | (exact hR1 _ (by simp)) | (exact hW1 _ (by simp)) | (exact hR2 _ (by simp)) | (exact hW2 _ (by simp)) | (exact ⟨_, rfl, o1⟩) | (exact ⟨_, rfl, o2⟩) | (exact ⟨_, rfl, o3⟩) | (exact ⟨_, rfl, o4⟩) | (exact ⟨[], rfl, fun _ h => absurd h List.not_mem_nil⟩) | (exact hrow)) | exact sd0))) | ((first | ((with_reducible refine askT_of ?_ (fun hb => ?_)); (focus (first | ((repeat' with_reducible apply And.intro) <;> first | exact sideQ | (exact hR1 _ (by simp)) | (exact hW1 _ (by simp)) | (exact hR2 _ (by simp)) | (exact hW2 _ (by simp)) | (exact ⟨_, rfl, o1⟩) | (exact ⟨_, rfl, o2⟩) | (exact ⟨_, rfl, o3⟩) | (exact ⟨_, rfl, o4⟩) | (exact ⟨[], rfl, fun _ h => absurd h List.not_mem_nil⟩) | (exact hrow)) | exact sd0)); (try simp only [hb])) | ((with_reducible refine Vc.fin ?_); dsimp only [thenK, blockK, retK, resS, resOne, resAll]) | ((with_reducible refine Vc.hold ?_); first | refine Vc.regiont T0_ok GI7_ok ?_ | refine Vc.drawt (id := 6) T0_ok GI7_ok (by kernel_rfl) [0, 1, 2, 4, 5, 3, 6, 7, 8, 9, 10, 11, 12, 13, 14, 15, 16, 18, 19, 17, 20, 21, 22, 23] 24 [] trivial (by kernel_rfl) ?_)); (try simp only [v8X, v8A, v8B, v8C, Nat.beq, Nat.ble, Int.reduceToNat, Int.reduceLE, Int.reduceLT, Nat.reduceLT, Nat.reduceLeDiff, Nat.reduceAdd, Nat.reduceMul, Nat.reduceSub, Int.reduceAdd, Int.reduceSub, Int.reduceMul, eq_self, decide_true, beq_self_eq_true, List.length_cons, List.length_nil, Nat.min_eq_left, IntKind.bits, tabs, GI7_set, srcNs, ln1, ln2, hv, List.map_cons, List.map_nil, List.drop_zero, List.take_succ_cons, List.take_zero]); (try simp (disch := omega) only [v8W])) | ((with_reducible refine hN _ _ ?_); clear hN N; (try simp (disch := omega) only [v8W])))); (try ((with_reducible refine Fin.of ?_); (try with_reducible exact True.intro))))
    (refine Vc.cond T0_ok (t := true) (by rfl) (fun _ => ?_) (fun h => Bool.noConfusion h))
    ((repeat (first | (with_reducible refine Vc.seq fun N hN => ?_) | (with_reducible refine Vc.block ?_) | ((first | with_reducible refine Vc.skip ?_ | with_reducible refine Vc.exit ?_); dsimp only [thenK, blockK, Nat.beq]; (first | (refine hN _ _ ?_; clear hN N) | skip)) | (with_reducible intro _) | ((with_reducible refine And.intro ?_ ?_); (focus (first | ((repeat' with_reducible apply And.intro) <;> first | exact sideQ | (exact hR1 _ (by simp)) | (exact hW1 _ (by simp)) | (exact hR2 _ (by simp)) | (exact hW2 _ (by simp)) | (exact ⟨_, rfl, o1⟩) | (exact ⟨_, rfl, o2⟩) | (exact ⟨_, rfl, o3⟩) | (exact ⟨_, rfl, o4⟩) | (exact ⟨[], rfl, fun _ h => absurd h List.not_mem_nil⟩) | (exact hrow)) | exact sd0))) | ((first | ((with_reducible refine askT_of ?_ (fun hb => ?_)); (focus (first | ((repeat' with_reducible apply And.intro) <;> first | exact sideQ | (exact hR1 _ (by simp)) | (exact hW1 _ (by simp)) | (exact hR2 _ (by simp)) | (exact hW2 _ (by simp)) | (exact ⟨_, rfl, o1⟩) | (exact ⟨_, rfl, o2⟩) | (exact ⟨_, rfl, o3⟩) | (exact ⟨_, rfl, o4⟩) | (exact ⟨[], rfl, fun _ h => absurd h List.not_mem_nil⟩) | (exact hrow)) | exact sd0)); (try simp only [hb])) | ((with_reducible refine Vc.fin ?_); dsimp only [thenK, blockK, retK, resS, resOne, resAll]) | ((with_reducible refine Vc.hold ?_); first | refine Vc.regiont T0_ok GI7_ok ?_ | refine Vc.drawt (id := 6) T0_ok GI7_ok (by kernel_rfl) [0, 1, 2, 4, 5, 3, 6, 7, 8, 9, 10, 11, 12, 13, 14, 15, 16, 18, 19, 17, 20, 21, 22, 23] 24 [] trivial (by kernel_rfl) ?_)); (try simp only [v8X, v8A, v8B, v8C, Nat.beq, Nat.ble, Int.reduceToNat, Int.reduceLE, Int.reduceLT, Nat.reduceLT, Nat.reduceLeDiff, Nat.reduceAdd, Nat.reduceMul, Nat.reduceSub, Int.reduceAdd, Int.reduceSub, Int.reduceMul, eq_self, decide_true, beq_self_eq_true, List.length_cons, List.length_nil, Nat.min_eq_left, IntKind.bits, tabs, GI7_set, srcNs, ln1, ln2, hv, List.map_cons, List.map_nil, List.drop_zero, List.take_succ_cons, List.take_zero]); (try simp (disch := omega) only [v8W])) | ((with_reducible refine hN _ _ ?_); clear hN N; (try simp (disch := omega) only [v8W])))); (try ((with_reducible refine Fin.of ?_); (try with_reducible exact True.intro))))
    exact ⟨by simp, trivial⟩
  obtain ⟨_, hno2⟩ := hno hv
  obtain ⟨s1, s2⟩ := hno2 _ List.mem_cons_self
  obtain ⟨s3, s4⟩ := hno2 (n3, n4) (by simp)
  simp only at s1 s2 s3 s4
  clear hno2 hno
  have hz0 := touch_eq l2 l3 l4
  have hz1 := meets_rr l1 l3
  have hz2 := meets_split l1 l2 l3 l4
  generalize hz3 : meetsD [] l2 l3 l4 = z at *
  generalize hz4 : meetsD l1 [] l3 l4 = y at *
  cases z
  · have hz5 : (false || y) = y := by cases y <;> rfl
    have hz6 : decide (y = y) = true := decide_eq_true rfl
    rw [hz5] at hz2
    refine Vc.calls T0_ok Try.func4 rfl rfl (args := [.agg [.gh a1 n1 c1 (.rows 25 (l1.map plL)), .gh a2 n2 c2 (.rows 25 (l2.map plL))], .agg [.gh a3 n3 c3 (.rows 25 (l3.map plL)), .gh a4 n4 c4 (.rows 25 (l4.map plL))]]) (k := 52) rfl (old_start w) ?_; change Vc _ _ (c8 (.agg [.gh a1 n1 c1 (.rows 25 (l1.map plL)), .gh a2 n2 c2 (.rows 25 (l2.map plL))]) (.agg [.gh a3 n3 c3 (.rows 25 (l3.map plL)), .gh a4 n4 c4 (.rows 25 (l4.map plL))]) .undef .undef .undef .undef .undef .undef (c8 .undef .undef .undef .undef .undef .undef .undef .undef (c8 .undef .undef .undef .undef .undef .undef .undef .undef (c8 .undef .undef .undef .undef .undef .undef .undef .undef (c8 .undef .undef .undef .undef .undef .undef .undef .undef (c8 .undef .undef .undef .undef .undef .undef .undef .undef ([.undef, .undef, .undef, .undef, .undef, .undef]))))))) _ _
    ((repeat (first | (with_reducible refine Vc.seq fun N hN => ?_) | (with_reducible refine Vc.block ?_) | ((first | with_reducible refine Vc.skip ?_ | with_reducible refine Vc.exit ?_); dsimp only [thenK, blockK, Nat.beq]; (first | (refine hN _ _ ?_; clear hN N) | skip)) | (with_reducible intro _) | ((with_reducible refine And.intro ?_ ?_); (focus (first | ((repeat' with_reducible apply And.intro) <;> first | exact sideQ | (exact hR1 _ (by simp)) | (exact hW1 _ (by simp)) | (exact hR2 _ (by simp)) | (exact hW2 _ (by simp)) | (exact ⟨_, rfl, o1⟩) | (exact ⟨_, rfl, o2⟩) | (exact ⟨_, rfl, o3⟩) | (exact ⟨_, rfl, o4⟩) | (exact ⟨[], rfl, fun _ h => absurd h List.not_mem_nil⟩) | (exact hrow)) | exact sd0))) | ((first | ((with_reducible refine askT_of ?_ (fun hb => ?_)); (focus (first | ((repeat' with_reducible apply And.intro) <;> first | exact sideQ | (exact hR1 _ (by simp)) | (exact hW1 _ (by simp)) | (exact hR2 _ (by simp)) | (exact hW2 _ (by simp)) | (exact ⟨_, rfl, o1⟩) | (exact ⟨_, rfl, o2⟩) | (exact ⟨_, rfl, o3⟩) | (exact ⟨_, rfl, o4⟩) | (exact ⟨[], rfl, fun _ h => absurd h List.not_mem_nil⟩) | (exact hrow)) | exact sd0)); (try simp only [hb])) | ((with_reducible refine Vc.fin ?_); dsimp only [thenK, blockK, retK, resS, resOne, resAll]) | ((with_reducible refine Vc.hold ?_); first | refine Vc.regiont T0_ok GI7_ok ?_ | refine Vc.drawt (id := 6) T0_ok GI7_ok (by kernel_rfl) [0, 1, 2, 4, 5, 3, 6, 7, 8, 9, 10, 11, 12, 13, 14, 15, 16, 18, 19, 17, 20, 21, 22, 23] 24 [] trivial (by kernel_rfl) ?_)); (try simp only [v8X, v8A, v8B, v8C, Nat.beq, Nat.ble, Int.reduceToNat, Int.reduceLE, Int.reduceLT, Nat.reduceLT, Nat.reduceLeDiff, Nat.reduceAdd, Nat.reduceMul, Nat.reduceSub, Int.reduceAdd, Int.reduceSub, Int.reduceMul, eq_self, decide_true, beq_self_eq_true, List.length_cons, List.length_nil, Nat.min_eq_left, IntKind.bits, tabs, GI7_set, srcNs, ln1, ln2, hv, List.map_cons, List.map_nil, List.drop_zero, List.take_succ_cons, List.take_zero]); (try simp (disch := omega) only [v8W])) | ((with_reducible refine hN _ _ ?_); clear hN N; (try simp (disch := omega) only [v8W])))); (try ((with_reducible refine Fin.of ?_); (try with_reducible exact True.intro))))
    (refine Vc.cond T0_ok (t := false) (by rfl) (fun h => Bool.noConfusion h) (fun _ => ?_))
    ((repeat (first | (with_reducible refine Vc.seq fun N hN => ?_) | (with_reducible refine Vc.block ?_) | ((first | with_reducible refine Vc.skip ?_ | with_reducible refine Vc.exit ?_); dsimp only [thenK, blockK, Nat.beq]; (first | (refine hN _ _ ?_; clear hN N) | skip)) | (with_reducible intro _) | ((with_reducible refine And.intro ?_ ?_); (focus (first | ((repeat' with_reducible apply And.intro) <;> first | exact sideQ | (exact hR1 _ (by simp)) | (exact hW1 _ (by simp)) | (exact hR2 _ (by simp)) | (exact hW2 _ (by simp)) | (exact ⟨_, rfl, o1⟩) | (exact ⟨_, rfl, o2⟩) | (exact ⟨_, rfl, o3⟩) | (exact ⟨_, rfl, o4⟩) | (exact ⟨[], rfl, fun _ h => absurd h List.not_mem_nil⟩) | (exact hrow)) | exact sd0))) | ((first | ((with_reducible refine askT_of ?_ (fun hb => ?_)); (focus (first | ((repeat' with_reducible apply And.intro) <;> first | exact sideQ | (exact hR1 _ (by simp)) | (exact hW1 _ (by simp)) | (exact hR2 _ (by simp)) | (exact hW2 _ (by simp)) | (exact ⟨_, rfl, o1⟩) | (exact ⟨_, rfl, o2⟩) | (exact ⟨_, rfl, o3⟩) | (exact ⟨_, rfl, o4⟩) | (exact ⟨[], rfl, fun _ h => absurd h List.not_mem_nil⟩) | (exact hrow)) | exact sd0)); (try simp only [hb])) | ((with_reducible refine Vc.fin ?_); dsimp only [thenK, blockK, retK, resS, resOne, resAll]) | ((with_reducible refine Vc.hold ?_); first | refine Vc.regiont T0_ok GI7_ok ?_ | refine Vc.drawt (id := 6) T0_ok GI7_ok (by kernel_rfl) [0, 1, 2, 4, 5, 3, 6, 7, 8, 9, 10, 11, 12, 13, 14, 15, 16, 18, 19, 17, 20, 21, 22, 23] 24 [] trivial (by kernel_rfl) ?_)); (try simp only [v8X, v8A, v8B, v8C, Nat.beq, Nat.ble, Int.reduceToNat, Int.reduceLE, Int.reduceLT, Nat.reduceLT, Nat.reduceLeDiff, Nat.reduceAdd, Nat.reduceMul, Nat.reduceSub, Int.reduceAdd, Int.reduceSub, Int.reduceMul, eq_self, decide_true, beq_self_eq_true, List.length_cons, List.length_nil, Nat.min_eq_left, IntKind.bits, tabs, GI7_set, srcNs, p1, p2, p3, p4, r1, r2, r3, r4, y1, y2, y3, y4, List.drop_zero, pls_nil, hz0, hz1, hz2, hz3, hz4, hz6]); (try simp (disch := omega) only [v8W])) | ((with_reducible refine hN _ _ ?_); clear hN N; (try simp (disch := omega) only [v8W])))); (try ((with_reducible refine Fin.of ?_); (try with_reducible exact True.intro))))
    exact ⟨by simp, trivial⟩
  · rw [Bool.true_or] at hz2
    refine Vc.calls T0_ok Try.func4 rfl rfl (args := [.agg [.gh a1 n1 c1 (.rows 25 (l1.map plL)), .gh a2 n2 c2 (.rows 25 (l2.map plL))], .agg [.gh a3 n3 c3 (.rows 25 (l3.map plL)), .gh a4 n4 c4 (.rows 25 (l4.map plL))]]) (k := 52) rfl (old_start w) ?_; change Vc _ _ (c8 (.agg [.gh a1 n1 c1 (.rows 25 (l1.map plL)), .gh a2 n2 c2 (.rows 25 (l2.map plL))]) (.agg [.gh a3 n3 c3 (.rows 25 (l3.map plL)), .gh a4 n4 c4 (.rows 25 (l4.map plL))]) .undef .undef .undef .undef .undef .undef (c8 .undef .undef .undef .undef .undef .undef .undef .undef (c8 .undef .undef .undef .undef .undef .undef .undef .undef (c8 .undef .undef .undef .undef .undef .undef .undef .undef (c8 .undef .undef .undef .undef .undef .undef .undef .undef (c8 .undef .undef .undef .undef .undef .undef .undef .undef ([.undef, .undef, .undef, .undef, .undef, .undef]))))))) _ _
    ((repeat (first | (with_reducible refine Vc.seq fun N hN => ?_) | (with_reducible refine Vc.block ?_) | ((first | with_reducible refine Vc.skip ?_ | with_reducible refine Vc.exit ?_); dsimp only [thenK, blockK, Nat.beq]; (first | (refine hN _ _ ?_; clear hN N) | skip)) | (with_reducible intro _) | ((with_reducible refine And.intro ?_ ?_); (focus (first | ((repeat' with_reducible apply And.intro) <;> first | exact sideQ | (exact hR1 _ (by simp)) | (exact hW1 _ (by simp)) | (exact hR2 _ (by simp)) | (exact hW2 _ (by simp)) | (exact ⟨_, rfl, o1⟩) | (exact ⟨_, rfl, o2⟩) | (exact ⟨_, rfl, o3⟩) | (exact ⟨_, rfl, o4⟩) | (exact ⟨[], rfl, fun _ h => absurd h List.not_mem_nil⟩) | (exact hrow)) | exact sd0))) | ((first | ((with_reducible refine askT_of ?_ (fun hb => ?_)); (focus (first | ((repeat' with_reducible apply And.intro) <;> first | exact sideQ | (exact hR1 _ (by simp)) | (exact hW1 _ (by simp)) | (exact hR2 _ (by simp)) | (exact hW2 _ (by simp)) | (exact ⟨_, rfl, o1⟩) | (exact ⟨_, rfl, o2⟩) | (exact ⟨_, rfl, o3⟩) | (exact ⟨_, rfl, o4⟩) | (exact ⟨[], rfl, fun _ h => absurd h List.not_mem_nil⟩) | (exact hrow)) | exact sd0)); (try simp only [hb])) | ((with_reducible refine Vc.fin ?_); dsimp only [thenK, blockK, retK, resS, resOne, resAll]) | ((with_reducible refine Vc.hold ?_); first | refine Vc.regiont T0_ok GI7_ok ?_ | refine Vc.drawt (id := 6) T0_ok GI7_ok (by kernel_rfl) [0, 1, 2, 4, 5, 3, 6, 7, 8, 9, 10, 11, 12, 13, 14, 15, 16, 18, 19, 17, 20, 21, 22, 23] 24 [] trivial (by kernel_rfl) ?_)); (try simp only [v8X, v8A, v8B, v8C, Nat.beq, Nat.ble, Int.reduceToNat, Int.reduceLE, Int.reduceLT, Nat.reduceLT, Nat.reduceLeDiff, Nat.reduceAdd, Nat.reduceMul, Nat.reduceSub, Int.reduceAdd, Int.reduceSub, Int.reduceMul, eq_self, decide_true, beq_self_eq_true, List.length_cons, List.length_nil, Nat.min_eq_left, IntKind.bits, tabs, GI7_set, srcNs, ln1, ln2, hv, List.map_cons, List.map_nil, List.drop_zero, List.take_succ_cons, List.take_zero]); (try simp (disch := omega) only [v8W])) | ((with_reducible refine hN _ _ ?_); clear hN N; (try simp (disch := omega) only [v8W])))); (try ((with_reducible refine Fin.of ?_); (try with_reducible exact True.intro))))
    (refine Vc.cond T0_ok (t := false) (by rfl) (fun h => Bool.noConfusion h) (fun _ => ?_))
    ((repeat (first | (with_reducible refine Vc.seq fun N hN => ?_) | (with_reducible refine Vc.block ?_) | ((first | with_reducible refine Vc.skip ?_ | with_reducible refine Vc.exit ?_); dsimp only [thenK, blockK, Nat.beq]; (first | (refine hN _ _ ?_; clear hN N) | skip)) | (with_reducible intro _) | ((with_reducible refine And.intro ?_ ?_); (focus (first | ((repeat' with_reducible apply And.intro) <;> first | exact sideQ | (exact hR1 _ (by simp)) | (exact hW1 _ (by simp)) | (exact hR2 _ (by simp)) | (exact hW2 _ (by simp)) | (exact ⟨_, rfl, o1⟩) | (exact ⟨_, rfl, o2⟩) | (exact ⟨_, rfl, o3⟩) | (exact ⟨_, rfl, o4⟩) | (exact ⟨[], rfl, fun _ h => absurd h List.not_mem_nil⟩) | (exact hrow)) | exact sd0))) | ((first | ((with_reducible refine askT_of ?_ (fun hb => ?_)); (focus (first | ((repeat' with_reducible apply And.intro) <;> first | exact sideQ | (exact hR1 _ (by simp)) | (exact hW1 _ (by simp)) | (exact hR2 _ (by simp)) | (exact hW2 _ (by simp)) | (exact ⟨_, rfl, o1⟩) | (exact ⟨_, rfl, o2⟩) | (exact ⟨_, rfl, o3⟩) | (exact ⟨_, rfl, o4⟩) | (exact ⟨[], rfl, fun _ h => absurd h List.not_mem_nil⟩) | (exact hrow)) | exact sd0)); (try simp only [hb])) | ((with_reducible refine Vc.fin ?_); dsimp only [thenK, blockK, retK, resS, resOne, resAll]) | ((with_reducible refine Vc.hold ?_); first | refine Vc.regiont T0_ok GI7_ok ?_ | refine Vc.drawt (id := 6) T0_ok GI7_ok (by kernel_rfl) [0, 1, 2, 4, 5, 3, 6, 7, 8, 9, 10, 11, 12, 13, 14, 15, 16, 18, 19, 17, 20, 21, 22, 23] 24 [] trivial (by kernel_rfl) ?_)); (try simp only [v8X, v8A, v8B, v8C, Nat.beq, Nat.ble, Int.reduceToNat, Int.reduceLE, Int.reduceLT, Nat.reduceLT, Nat.reduceLeDiff, Nat.reduceAdd, Nat.reduceMul, Nat.reduceSub, Int.reduceAdd, Int.reduceSub, Int.reduceMul, eq_self, decide_true, beq_self_eq_true, List.length_cons, List.length_nil, Nat.min_eq_left, IntKind.bits, tabs, GI7_set, srcNs, p1, p2, p3, p4, r1, r2, r3, r4, y1, y2, y3, y4, List.drop_zero, pls_nil, hz0, hz1, hz2, hz3, hz4]); (try simp (disch := omega) only [v8W])) | ((with_reducible refine hN _ _ ?_); clear hN N; (try simp (disch := omega) only [v8W])))); (try ((with_reducible refine Fin.of ?_); (try with_reducible exact True.intro))))
    exact ⟨by simp, trivial⟩
end Go.Proofs.Ytdanlclhnehieaa
