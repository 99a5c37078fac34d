/-
  Gas costs: the chapter's examples (package quaestorlaw09), walked. No condition.
-/
import Derived.Test.YtgllfgpnbdpcdaaDoorQH
import Derived.Test.YtgllfgpnbdpcdaaDoorFR
namespace Go.Proofs.YtgllfgpnbdpcdaaDoor
set_option linter.unusedSimpArgs false
set_option linter.unusedVariables false
set_option maxHeartbeats 4000000
set_option maxRecDepth 10000
open Go.RowKit
theorem numI_1 : numI [1, 0, 0, 0] = 1 := Eq.trans (by decide) rfl
theorem numI_5 : numI [5, 0, 0, 0] = 5 := Eq.trans (by decide) rfl
theorem numI_256 : numI [256, 0, 0, 0] = 256 := Eq.trans (by decide) rfl
theorem numI_most : numI [18446744073709551615, 18446744073709551615, 18446744073709551615, 18446744073709551615] = W - 1 := Eq.trans (by decide) rfl
theorem W_more : 1 < W ∧ 5 < W ∧ 256 < W ∧ W - 1 < W := by decide
theorem kp_ex : kpI 6400 (W - 1) = 6300 := by unfold kpI; rw [if_neg (by decide)]; decide
theorem exp_ex : expI 256 = 100 := by decide
theorem pknown_vc (w : World) : Calls Tryd.prog 9 (cvs []).toArray w (fun en w' => ∃ u, en = .returned u ∧ ∃ v m', u = cv v ∧ MemOk w [] m' w' ∧ v = .bool true) := by
  have k1 : memI 32 = 3 := by decide
  have k2 : memI 1024 = 98 := by decide
  have k3 : memI 33 = 6 := by decide
  have k4 : stoC 0 0 1 true = 22100 := by decide
  have k5 : stoB 0 0 1 = 0 := by decide
  have k6 : stoC 5 0 5 false = 100 := by decide
  have k7 : stoB 5 0 5 = -2000 := by decide
  have k8 := kp_ex
  have k9 := exp_ex
  have ka : intI [0, 1] false = 21020 := by decide
  have kb : bsI 84 = 0 := by decide
  have kc : bsI 161 = 750 := by decide
  have n1 := numI_1
  have n2 := numI_5
  have n3 := numI_256
  have n4 := numI_most
  have w0 := W_pos
  obtain ⟨w1, w2, w3, w4⟩ := W_more
  refine Vc.calls T0_ok Tryd.func9 rfl rfl (args := []) (k := 75) rfl (MemOk.start _) ?_; change Vc _ _ (c8 .undef .undef .undef .undef .undef .undef .undef .undef (c8 .undef .undef .undef .undef .undef .undef .undef .undef (c8 .undef .undef .undef .undef .undef .undef .undef .undef (c8 .undef .undef .undef .undef .undef .undef .undef .undef (c8 .undef .undef .undef .undef .undef .undef .undef .undef (c8 .undef .undef .undef .undef .undef .undef .undef .undef (c8 .undef .undef .undef .undef .undef .undef .undef .undef (c8 .undef .undef .undef .undef .undef .undef .undef .undef (c8 .undef .undef .undef .undef .undef .undef .undef .undef ([.undef, .undef, .undef])))))))))) _ _
  ((repeat (first | (with_reducible refine Vc.seq fun N hN => ?_) | (with_reducible refine Vc.block ?_) | ((with_reducible refine Vc.skip ?_); dsimp only [thenK, blockK, Nat.beq]; (first | (refine hN _ _ ?_; clear hN N) | skip)) | ((with_reducible refine Vc.exit ?_); dsimp only [thenK, blockK, Nat.beq]; (first | (refine hN _ _ ?_; clear hN N) | skip)) | (with_reducible intro _) | ((with_reducible refine And.intro ?_ ?_); (focus (first | ((repeat' with_reducible apply And.intro) <;> first | with_reducible exact True.intro | with_reducible assumption | with_reducible rfl | with_reducible exact allU_0 | (simp [allU]; done) | (unfold allB; decide) | omega) | exact sd0))) | ((first | ((with_reducible refine askT_of ?_ (fun hb => ?_)); (focus (first | ((repeat' with_reducible apply And.intro) <;> first | with_reducible exact True.intro | with_reducible assumption | with_reducible rfl | with_reducible exact allU_0 | (simp [allU]; done) | (unfold allB; decide) | omega) | exact sd0)); (try simp only [hb])) | ((with_reducible refine Vc.fin ?_); dsimp only [thenK, blockK, retK, resS, resOne, resAll]) | ((with_reducible refine Vc.hold ?_); first | refine Vc.regiont T0_ok GQ8_ok ?_)); (try simp only [pickO, nthO, dropO, dOp.eq_def, v8A, strIx.eq_def, appT.eq_def, v8B, adr_some, adr_nil, true_or, dstOf, Bool.not_true, Bool.not_false, evs, evp, v8C, sget, sset, blen, bpush, bget, bset, Nat.beq, Nat.ble, Nat.blt.eq_def, nth?, tys, takeN, Nat.zero_add, fillS, splice, allOne, ordL, intL, wordL, rowL, sapp, resAll, und, lk, hav, agr, bpre, Int.reduceToNat, Int.reduceLE, Int.reduceLT, Nat.reduceLT, Nat.reduceLeDiff, Nat.reduceAdd, Nat.reduceMul, Nat.reduceSub, Int.reduceAdd, Int.reduceSub, Int.reduceMul, eq_self, decide_true, beq_self_eq_true, List.length_cons, List.length_nil, Nat.min_eq_left, IntKind.bits, tabs, GQ8_fBase, g_fBase.eq_def, GQ8_gBase, g_gBase.eq_def, GQ8_fWords, g_fWords.eq_def, GQ8_qWords, g_qWords.eq_def, GQ8_fMem, g_fMem.eq_def, GQ8_gMem, g_gMem.eq_def, GQ8_fBack, g_fBack.eq_def, GQ8_gBack, g_gBack.eq_def, GQ8_fKeep, g_fKeep.eq_def, GQ8_gKeep, g_gKeep.eq_def, GQ8_fStore, g_fStore.eq_def, GQ8_gStore, g_gStore.eq_def, GQ8_fExp, g_fExp.eq_def, GQ8_gExp, g_gExp.eq_def, GQ8_fInt, g_fInt.eq_def, GQ8_gInt, g_gInt.eq_def, n1, n2, n3, n4, k1, k2, k3, k4, k5, k6, k7, k8, k9, ka, kb, kc, List.drop_zero, List.take_succ_cons, List.take_zero]); (try simp (disch := omega) only [v8W])) | ((with_reducible refine hN _ _ ?_); clear hN N; (try simp (disch := omega) only [v8W])))); (try ((with_reducible refine Fin.of ?_); (try with_reducible exact True.intro))))
  exact ⟨trivial, trivial⟩
end Go.Proofs.YtgllfgpnbdpcdaaDoor
