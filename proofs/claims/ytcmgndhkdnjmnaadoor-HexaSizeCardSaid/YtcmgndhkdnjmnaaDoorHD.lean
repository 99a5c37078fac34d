/-
  HexaReads (package quaestorlaw06), walked. No condition.
-/
import Derived.Test.YtcmgndhkdnjmnaaDoorHC
namespace Go.Proofs.YtcmgndhkdnjmnaaDoor
set_option linter.unusedSimpArgs false
set_option linter.unusedVariables false
set_option maxHeartbeats 4000000
set_option maxRecDepth 10000
open Go.RowKit
theorem cntV_all (xs : List Int) : 0 ≤ (cntV xs).2 ∧ (cntV xs).2 ≤ 60 := by
  unfold cntV
  split
  · split <;> first | (show (0 : Int) ≤ 0 ∧ (0 : Int) ≤ 60; decide) | (show (0 : Int) ≤ 60 ∧ (60 : Int) ≤ 60; decide)
  · decide
theorem adV_all (xs : List Int) : 0 ≤ (adV xs).2 ∧ (adV xs).2 ≤ 60 := by
  unfold adV
  split
  · split <;> first | (show (0 : Int) ≤ 0 ∧ (0 : Int) ≤ 60; decide) | (show (0 : Int) ≤ 60 ∧ (60 : Int) ≤ 60; decide)
  · decide
theorem adV_len (xs : List Int) : (adV xs).1.length = 20 := by
  unfold adV
  split
  · split
    · assumption
    · rfl
  · rfl
def g_same2 (args : List SV) (m : List Blk) : CR := match args with | [.nilsl, .nilsl] => .pure True (.bool true) | args => g_same args m
theorem g_same2_ok (w0 : World) (B : List Nat) (args : List SV) (m : List Blk) : CROk Tryd.prog w0 B 18 args m (g_same2 args m) := by
  unfold g_same2
  split
  · intro _ w _
    have e : cvs [.nilsl, .nilsl] = cvs [.sl 0 none 0 0 1 0 0, .sl 1 none 0 0 1 0 0] := rfl
    have hr : MemOk w [] [.ro none (.ints .u8 [])] w := ro_cons (MemOk.start w) (by intro j u hj; simp [cc] at hj)
    have hb : allB [] := by intro y hy; cases hy
    rw [e]
    exact calls_pure Tryd.func18 rfl rfl ((same_vc [] [] none none 0 0 0 0 rfl rfl hb hb (Nat.le_refl _) (Nat.le_refl _) (.inr ⟨rfl, rfl, rfl⟩) (.inr ⟨rfl, rfl, rfl⟩) w (ro_two hr hr)).mono fun e w' ⟨u, he, v', m', hu, hm, hv⟩ => ⟨u, he, v', m', hu, hm, by rw [hv]; rfl⟩)
  · exact g_same_ok w0 B args m
def GB3 : Ctr := fun f args m => match f with
  | 7 => g_hKno args m
  | 12 => g_hRead args m
  | 13 => g_qRead args m
  | 14 => g_hCount args m
  | 15 => g_qCount args m
  | 16 => g_hAddr args m
  | 17 => g_qAddr args m
  | 18 => g_same2 args m
  | _ => .none
theorem GB3_ok : GOk Tryd.prog GB3 := by
  intro w0 B f args m; unfold GB3; split
  · exact g_hKno_ok _ _ _ _
  · exact g_hRead_ok _ _ _ _
  · exact g_qRead_ok _ _ _ _
  · exact g_hCount_ok _ _ _ _
  · exact g_qCount_ok _ _ _ _
  · exact g_hAddr_ok _ _ _ _
  · exact g_qAddr_ok _ _ _ _
  · exact g_same2_ok _ _ _ _
  · exact trivial
theorem GB3_hKno : GB3 7 = g_hKno := by funext args m; rfl
theorem GB3_hRead : GB3 12 = g_hRead := by funext args m; rfl
theorem GB3_qRead : GB3 13 = g_qRead := by funext args m; rfl
theorem GB3_hCount : GB3 14 = g_hCount := by funext args m; rfl
theorem GB3_qCount : GB3 15 = g_qCount := by funext args m; rfl
theorem GB3_hAddr : GB3 16 = g_hAddr := by funext args m; rfl
theorem GB3_qAddr : GB3 17 = g_qAddr := by funext args m; rfl
theorem GB3_same2 : GB3 18 = g_same2 := by funext args m; rfl

theorem reads_law (xs : List Int) (hx : allB xs) (w : World) : Calls Tryd.prog 4 (cvs [.str xs]).toArray w (Yes w) := by
  have e1 : eqW (cntV xs).1 (cntV xs).1 = true := eqW_of rfl
  have d2 : decide ((cntV xs).2 = (cntV xs).2) = true := decide_eq_true rfl
  have d3 : decide ((adV xs).2 = (adV xs).2) = true := decide_eq_true rfl
  have d4 : decide ((adV xs).1 = (adV xs).1) = true := decide_eq_true rfl
  have hl20 := adV_len xs
  have hr20 : (List.replicate 20 (0 : Int)).length = 20 := rfl
  obtain ⟨a0, a1⟩ := cntV_all xs
  obtain ⟨b0, b1⟩ := adV_all xs
  by_cases hk : xs.length ≤ 1000
  · have d1 : decide ((1000 : Int) < ((xs.length : Nat) : Int)) = false := decide_eq_false (by omega)
    cases hA : rdH xs with
    | none =>
      refine Vc.calls T0_ok Tryd.func4 rfl rfl (args := [.str xs]) (k := 83) rfl (MemOk.start _) ?_; change Vc _ _ (c8 (.str xs) .undef .undef .undef .undef .undef .undef .undef (c8 .undef .undef .undef .undef .undef .undef .undef .undef (c8 .undef .undef .undef .undef .undef .undef .undef .undef (c8 .undef .undef .undef .undef .undef .undef .undef .undef (c8 .undef .undef .undef .undef .undef .undef .undef .undef (c8 .undef .undef .undef .undef .undef .undef .undef .undef (c8 .undef .undef .undef .undef .undef .undef .undef .undef (c8 .undef .undef .undef .undef .undef .undef .undef .undef (c8 .undef .undef .undef .undef .undef .undef .undef .undef (c8 .undef .undef .undef .undef .undef .undef .undef .undef ([.undef, .undef, .undef, .undef]))))))))))) _ _
      ((repeat (first | (with_reducible refine Vc.seq fun N hN => ?_) | (with_reducible refine Vc.block ?_) | ((with_reducible refine Vc.skip ?_); dsimp only [thenK, blockK, Nat.beq]; (first | (refine hN _ _ ?_; clear hN N) | skip)) | ((with_reducible refine Vc.exit ?_); dsimp only [thenK, blockK, Nat.beq]; (first | (refine hN _ _ ?_; clear hN N) | skip)) | (with_reducible intro _) | ((with_reducible refine And.intro ?_ ?_); (focus (exact sd0))) | ((first | ((with_reducible refine askT_of ?_ (fun hb => ?_)); (focus (exact sd0)); (try simp only [hb])) | ((with_reducible refine Vc.fin ?_); dsimp only [thenK, blockK, retK, resS, resOne, resAll]) | ((with_reducible refine Vc.hold ?_); first | refine Vc.regiont T0_ok GB3_ok ?_)); (try simp only [pickO, nthO, dropO, dOp.eq_def, v8A, strIx.eq_def, appT.eq_def, v8B, adr_some, adr_nil, true_or, dstOf, Bool.not_true, Bool.not_false, evs, evp, v8C, sget, sset, blen, bpush, bget, bset, Nat.beq, Nat.ble, Nat.blt.eq_def, nth?, tys, takeN, Nat.zero_add, fillS, splice, allOne, ordL, intL, wordL, rowL, sapp, resAll, und, lk, hav, agr, bpre, Int.reduceToNat, Int.reduceLE, Int.reduceLT, Nat.reduceLT, Nat.reduceLeDiff, Nat.reduceAdd, Nat.reduceMul, Nat.reduceSub, Int.reduceAdd, Int.reduceSub, Int.reduceMul, eq_self, decide_true, beq_self_eq_true, List.length_cons, List.length_nil, Nat.min_eq_left, IntKind.bits, tabs, GB3_hKno, g_hKno.eq_def, GB3_hRead, g_hRead.eq_def, GB3_qRead, g_qRead.eq_def, GB3_hCount, g_hCount.eq_def, GB3_qCount, g_qCount.eq_def, GB3_hAddr, g_hAddr.eq_def, GB3_qAddr, g_qAddr.eq_def, GB3_same2, g_same2.eq_def, d1]); (try simp (disch := omega) only [v8W])) | ((with_reducible refine hN _ _ ?_); clear hN N; (try simp (disch := omega) only [v8W])))); (try ((with_reducible refine Fin.of ?_); (try with_reducible exact True.intro))))
      (refine Vc.cond T0_ok (t := false) (by rfl) (fun h => Bool.noConfusion h) (fun _ => ?_))
      ((repeat (first | (with_reducible refine Vc.seq fun N hN => ?_) | (with_reducible refine Vc.block ?_) | ((with_reducible refine Vc.skip ?_); dsimp only [thenK, blockK, Nat.beq]; (first | (refine hN _ _ ?_; clear hN N) | skip)) | ((with_reducible refine Vc.exit ?_); dsimp only [thenK, blockK, Nat.beq]; (first | (refine hN _ _ ?_; clear hN N) | skip)) | (with_reducible intro _) | ((with_reducible refine And.intro ?_ ?_); (focus (first | ((repeat' with_reducible apply And.intro) <;> first | with_reducible exact True.intro | with_reducible assumption | rfl | omega) | exact sd0))) | ((first | ((with_reducible refine askT_of ?_ (fun hb => ?_)); (focus (first | ((repeat' with_reducible apply And.intro) <;> first | with_reducible exact True.intro | with_reducible assumption | rfl | omega) | exact sd0)); (try simp only [hb])) | ((with_reducible refine Vc.fin ?_); dsimp only [thenK, blockK, retK, resS, resOne, resAll]) | ((with_reducible refine Vc.hold ?_); first | refine Vc.regiont T0_ok GB3_ok ?_)); (try simp only [pickO, nthO, dropO, dOp.eq_def, v8A, strIx.eq_def, appT.eq_def, v8B, adr_some, adr_nil, true_or, dstOf, Bool.not_true, Bool.not_false, evs, evp, v8C, sget, sset, blen, bpush, bget, bset, Nat.beq, Nat.ble, Nat.blt.eq_def, nth?, tys, takeN, Nat.zero_add, fillS, splice, allOne, ordL, intL, wordL, rowL, sapp, resAll, und, lk, hav, agr, bpre, Int.reduceToNat, Int.reduceLE, Int.reduceLT, Nat.reduceLT, Nat.reduceLeDiff, Nat.reduceAdd, Nat.reduceMul, Nat.reduceSub, Int.reduceAdd, Int.reduceSub, Int.reduceMul, eq_self, decide_true, beq_self_eq_true, List.length_cons, List.length_nil, Nat.min_eq_left, IntKind.bits, tabs, GB3_hKno, g_hKno.eq_def, GB3_hRead, g_hRead.eq_def, GB3_qRead, g_qRead.eq_def, GB3_hCount, g_hCount.eq_def, GB3_qCount, g_qCount.eq_def, GB3_hAddr, g_hAddr.eq_def, GB3_qAddr, g_qAddr.eq_def, GB3_same2, g_same2.eq_def, hA, e1, d2, d3, d4]); (try simp (disch := omega) only [v8W])) | ((with_reducible refine hN _ _ ?_); clear hN N; (try simp (disch := omega) only [v8W])))); (try ((with_reducible refine Fin.of ?_); (try with_reducible exact True.intro))))
      exact ⟨trivial, trivial⟩
    | some ys =>
      obtain ⟨hya, hyl⟩ := rdH_all hA
      have t1 : (ys.drop 0).take ys.length = ys := by rw [List.drop_zero, List.take_of_length_le (Nat.le_refl _)]
      have d5 : decide (ys = ys) = true := decide_eq_true rfl
      refine Vc.calls T0_ok Tryd.func4 rfl rfl (args := [.str xs]) (k := 83) rfl (MemOk.start _) ?_; change Vc _ _ (c8 (.str xs) .undef .undef .undef .undef .undef .undef .undef (c8 .undef .undef .undef .undef .undef .undef .undef .undef (c8 .undef .undef .undef .undef .undef .undef .undef .undef (c8 .undef .undef .undef .undef .undef .undef .undef .undef (c8 .undef .undef .undef .undef .undef .undef .undef .undef (c8 .undef .undef .undef .undef .undef .undef .undef .undef (c8 .undef .undef .undef .undef .undef .undef .undef .undef (c8 .undef .undef .undef .undef .undef .undef .undef .undef (c8 .undef .undef .undef .undef .undef .undef .undef .undef (c8 .undef .undef .undef .undef .undef .undef .undef .undef ([.undef, .undef, .undef, .undef]))))))))))) _ _
      ((repeat (first | (with_reducible refine Vc.seq fun N hN => ?_) | (with_reducible refine Vc.block ?_) | ((with_reducible refine Vc.skip ?_); dsimp only [thenK, blockK, Nat.beq]; (first | (refine hN _ _ ?_; clear hN N) | skip)) | ((with_reducible refine Vc.exit ?_); dsimp only [thenK, blockK, Nat.beq]; (first | (refine hN _ _ ?_; clear hN N) | skip)) | (with_reducible intro _) | ((with_reducible refine And.intro ?_ ?_); (focus (exact sd0))) | ((first | ((with_reducible refine askT_of ?_ (fun hb => ?_)); (focus (exact sd0)); (try simp only [hb])) | ((with_reducible refine Vc.fin ?_); dsimp only [thenK, blockK, retK, resS, resOne, resAll]) | ((with_reducible refine Vc.hold ?_); first | refine Vc.regiont T0_ok GB3_ok ?_)); (try simp only [pickO, nthO, dropO, dOp.eq_def, v8A, strIx.eq_def, appT.eq_def, v8B, adr_some, adr_nil, true_or, dstOf, Bool.not_true, Bool.not_false, evs, evp, v8C, sget, sset, blen, bpush, bget, bset, Nat.beq, Nat.ble, Nat.blt.eq_def, nth?, tys, takeN, Nat.zero_add, fillS, splice, allOne, ordL, intL, wordL, rowL, sapp, resAll, und, lk, hav, agr, bpre, Int.reduceToNat, Int.reduceLE, Int.reduceLT, Nat.reduceLT, Nat.reduceLeDiff, Nat.reduceAdd, Nat.reduceMul, Nat.reduceSub, Int.reduceAdd, Int.reduceSub, Int.reduceMul, eq_self, decide_true, beq_self_eq_true, List.length_cons, List.length_nil, Nat.min_eq_left, IntKind.bits, tabs, GB3_hKno, g_hKno.eq_def, GB3_hRead, g_hRead.eq_def, GB3_qRead, g_qRead.eq_def, GB3_hCount, g_hCount.eq_def, GB3_qCount, g_qCount.eq_def, GB3_hAddr, g_hAddr.eq_def, GB3_qAddr, g_qAddr.eq_def, GB3_same2, g_same2.eq_def, d1]); (try simp (disch := omega) only [v8W])) | ((with_reducible refine hN _ _ ?_); clear hN N; (try simp (disch := omega) only [v8W])))); (try ((with_reducible refine Fin.of ?_); (try with_reducible exact True.intro))))
      (refine Vc.cond T0_ok (t := false) (by rfl) (fun h => Bool.noConfusion h) (fun _ => ?_))
      ((repeat (first | (with_reducible refine Vc.seq fun N hN => ?_) | (with_reducible refine Vc.block ?_) | ((with_reducible refine Vc.skip ?_); dsimp only [thenK, blockK, Nat.beq]; (first | (refine hN _ _ ?_; clear hN N) | skip)) | ((with_reducible refine Vc.exit ?_); dsimp only [thenK, blockK, Nat.beq]; (first | (refine hN _ _ ?_; clear hN N) | skip)) | (with_reducible intro _) | ((with_reducible refine And.intro ?_ ?_); (focus (first | ((repeat' with_reducible apply And.intro) <;> first | with_reducible exact True.intro | with_reducible assumption | rfl | omega) | exact sd0))) | ((first | ((with_reducible refine askT_of ?_ (fun hb => ?_)); (focus (first | ((repeat' with_reducible apply And.intro) <;> first | with_reducible exact True.intro | with_reducible assumption | rfl | omega) | exact sd0)); (try simp only [hb])) | ((with_reducible refine Vc.fin ?_); dsimp only [thenK, blockK, retK, resS, resOne, resAll]) | ((with_reducible refine Vc.hold ?_); first | refine Vc.regiont T0_ok GB3_ok ?_)); (try simp only [pickO, nthO, dropO, dOp.eq_def, v8A, strIx.eq_def, appT.eq_def, v8B, adr_some, adr_nil, true_or, dstOf, Bool.not_true, Bool.not_false, evs, evp, v8C, sget, sset, blen, bpush, bget, bset, Nat.beq, Nat.ble, Nat.blt.eq_def, nth?, tys, takeN, Nat.zero_add, fillS, splice, allOne, ordL, intL, wordL, rowL, sapp, resAll, und, lk, hav, agr, bpre, Int.reduceToNat, Int.reduceLE, Int.reduceLT, Nat.reduceLT, Nat.reduceLeDiff, Nat.reduceAdd, Nat.reduceMul, Nat.reduceSub, Int.reduceAdd, Int.reduceSub, Int.reduceMul, eq_self, decide_true, beq_self_eq_true, List.length_cons, List.length_nil, Nat.min_eq_left, IntKind.bits, tabs, GB3_hKno, g_hKno.eq_def, GB3_hRead, g_hRead.eq_def, GB3_qRead, g_qRead.eq_def, GB3_hCount, g_hCount.eq_def, GB3_qCount, g_qCount.eq_def, GB3_hAddr, g_hAddr.eq_def, GB3_qAddr, g_qAddr.eq_def, GB3_same2, g_same2.eq_def, hA, e1, d2, d3, d4, d5, t1, g_same.eq_def]); (try simp (disch := omega) only [v8W])) | ((with_reducible refine hN _ _ ?_); clear hN N; (try simp (disch := omega) only [v8W])))); (try ((with_reducible refine Fin.of ?_); (try with_reducible exact True.intro))))
      exact ⟨trivial, trivial⟩
  · have d1 : decide ((1000 : Int) < ((xs.length : Nat) : Int)) = true := decide_eq_true (by omega)
    refine Vc.calls T0_ok Tryd.func4 rfl rfl (args := [.str xs]) (k := 83) rfl (MemOk.start _) ?_; change Vc _ _ (c8 (.str xs) .undef .undef .undef .undef .undef .undef .undef (c8 .undef .undef .undef .undef .undef .undef .undef .undef (c8 .undef .undef .undef .undef .undef .undef .undef .undef (c8 .undef .undef .undef .undef .undef .undef .undef .undef (c8 .undef .undef .undef .undef .undef .undef .undef .undef (c8 .undef .undef .undef .undef .undef .undef .undef .undef (c8 .undef .undef .undef .undef .undef .undef .undef .undef (c8 .undef .undef .undef .undef .undef .undef .undef .undef (c8 .undef .undef .undef .undef .undef .undef .undef .undef (c8 .undef .undef .undef .undef .undef .undef .undef .undef ([.undef, .undef, .undef, .undef]))))))))))) _ _
    ((repeat (first | (with_reducible refine Vc.seq fun N hN => ?_) | (with_reducible refine Vc.block ?_) | ((with_reducible refine Vc.skip ?_); dsimp only [thenK, blockK, Nat.beq]; (first | (refine hN _ _ ?_; clear hN N) | skip)) | ((with_reducible refine Vc.exit ?_); dsimp only [thenK, blockK, Nat.beq]; (first | (refine hN _ _ ?_; clear hN N) | skip)) | (with_reducible intro _) | ((with_reducible refine And.intro ?_ ?_); (focus (exact sd0))) | ((first | ((with_reducible refine askT_of ?_ (fun hb => ?_)); (focus (exact sd0)); (try simp only [hb])) | ((with_reducible refine Vc.fin ?_); dsimp only [thenK, blockK, retK, resS, resOne, resAll]) | ((with_reducible refine Vc.hold ?_); first | refine Vc.regiont T0_ok GB3_ok ?_)); (try simp only [pickO, nthO, dropO, dOp.eq_def, v8A, strIx.eq_def, appT.eq_def, v8B, adr_some, adr_nil, true_or, dstOf, Bool.not_true, Bool.not_false, evs, evp, v8C, sget, sset, blen, bpush, bget, bset, Nat.beq, Nat.ble, Nat.blt.eq_def, nth?, tys, takeN, Nat.zero_add, fillS, splice, allOne, ordL, intL, wordL, rowL, sapp, resAll, und, lk, hav, agr, bpre, Int.reduceToNat, Int.reduceLE, Int.reduceLT, Nat.reduceLT, Nat.reduceLeDiff, Nat.reduceAdd, Nat.reduceMul, Nat.reduceSub, Int.reduceAdd, Int.reduceSub, Int.reduceMul, eq_self, decide_true, beq_self_eq_true, List.length_cons, List.length_nil, Nat.min_eq_left, IntKind.bits, tabs, GB3_hKno, g_hKno.eq_def, GB3_hRead, g_hRead.eq_def, GB3_qRead, g_qRead.eq_def, GB3_hCount, g_hCount.eq_def, GB3_qCount, g_qCount.eq_def, GB3_hAddr, g_hAddr.eq_def, GB3_qAddr, g_qAddr.eq_def, GB3_same2, g_same2.eq_def, d1]); (try simp (disch := omega) only [v8W])) | ((with_reducible refine hN _ _ ?_); clear hN N; (try simp (disch := omega) only [v8W])))); (try ((with_reducible refine Fin.of ?_); (try with_reducible exact True.intro))))
    (refine Vc.cond T0_ok (t := true) (by rfl) (fun _ => ?_) (fun h => Bool.noConfusion h))
    ((repeat (first | (with_reducible refine Vc.seq fun N hN => ?_) | (with_reducible refine Vc.block ?_) | ((with_reducible refine Vc.skip ?_); dsimp only [thenK, blockK, Nat.beq]; (first | (refine hN _ _ ?_; clear hN N) | skip)) | ((with_reducible refine Vc.exit ?_); dsimp only [thenK, blockK, Nat.beq]; (first | (refine hN _ _ ?_; clear hN N) | skip)) | (with_reducible intro _) | ((with_reducible refine And.intro ?_ ?_); (focus (exact sd0))) | ((first | ((with_reducible refine askT_of ?_ (fun hb => ?_)); (focus (exact sd0)); (try simp only [hb])) | ((with_reducible refine Vc.fin ?_); dsimp only [thenK, blockK, retK, resS, resOne, resAll]) | ((with_reducible refine Vc.hold ?_); first | refine Vc.regiont T0_ok GB3_ok ?_)); (try simp only [pickO, nthO, dropO, dOp.eq_def, v8A, strIx.eq_def, appT.eq_def, v8B, adr_some, adr_nil, true_or, dstOf, Bool.not_true, Bool.not_false, evs, evp, v8C, sget, sset, blen, bpush, bget, bset, Nat.beq, Nat.ble, Nat.blt.eq_def, nth?, tys, takeN, Nat.zero_add, fillS, splice, allOne, ordL, intL, wordL, rowL, sapp, resAll, und, lk, hav, agr, bpre, Int.reduceToNat, Int.reduceLE, Int.reduceLT, Nat.reduceLT, Nat.reduceLeDiff, Nat.reduceAdd, Nat.reduceMul, Nat.reduceSub, Int.reduceAdd, Int.reduceSub, Int.reduceMul, eq_self, decide_true, beq_self_eq_true, List.length_cons, List.length_nil, Nat.min_eq_left, IntKind.bits, tabs, GB3_hKno, g_hKno.eq_def, GB3_hRead, g_hRead.eq_def, GB3_qRead, g_qRead.eq_def, GB3_hCount, g_hCount.eq_def, GB3_qCount, g_qCount.eq_def, GB3_hAddr, g_hAddr.eq_def, GB3_qAddr, g_qAddr.eq_def, GB3_same2, g_same2.eq_def]); (try simp (disch := omega) only [v8W])) | ((with_reducible refine hN _ _ ?_); clear hN N; (try simp (disch := omega) only [v8W])))); (try ((with_reducible refine Fin.of ?_); (try with_reducible exact True.intro))))
    exact ⟨trivial, trivial⟩
theorem allB_strI (s : ByteArray) : allB (strI s) := by
  intro y hy
  unfold strI at hy
  obtain ⟨b, _, rfl⟩ := List.mem_map.1 hy
  have := b.toNat_lt
  omega
theorem reads_str (s : ByteArray) (w : World) : Calls Tryd.prog 4 #[.string s] w (Yes w) := by
  have h := reads_law (strI s) (allB_strI s) w
  simp only [cvs, cv, bytesOf_strI] at h
  exact h
end Go.Proofs.YtcmgndhkdnjmnaaDoor
