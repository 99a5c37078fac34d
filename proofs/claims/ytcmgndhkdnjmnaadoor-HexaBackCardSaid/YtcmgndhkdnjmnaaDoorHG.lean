/-
  HexaBack (package quaestorlaw06), walked. No condition.
-/
import Derived.Test.YtcmgndhkdnjmnaaDoorHF
namespace Go.Proofs.YtcmgndhkdnjmnaaDoor
set_option linter.unusedSimpArgs false
set_option linter.unusedVariables false
set_option maxHeartbeats 4000000
set_option maxRecDepth 10000
open Go.RowKit
def GB4 : Ctr := fun f args m => match f with
  | 7 => g_hKno args m
  | 12 => g_hRead args m
  | 8 => g_hWrite args m
  | 14 => g_hCount args m
  | 10 => g_hNum args m
  | 16 => g_hAddr args m
  | 18 => g_same args m
  | _ => .none
theorem GB4_ok : GOk Tryd.prog GB4 := by
  intro w0 B f args m; unfold GB4; split
  · exact g_hKno_ok _ _ _ _
  · exact g_hRead_ok _ _ _ _
  · exact g_hWrite_ok _ _ _ _
  · exact g_hCount_ok _ _ _ _
  · exact g_hNum_ok _ _ _ _
  · exact g_hAddr_ok _ _ _ _
  · exact g_same_ok _ _ _ _
  · exact trivial
theorem GB4_hKno : GB4 7 = g_hKno := by funext args m; rfl
theorem GB4_hRead : GB4 12 = g_hRead := by funext args m; rfl
theorem GB4_hWrite : GB4 8 = g_hWrite := by funext args m; rfl
theorem GB4_hCount : GB4 14 = g_hCount := by funext args m; rfl
theorem GB4_hNum : GB4 10 = g_hNum := by funext args m; rfl
theorem GB4_hAddr : GB4 16 = g_hAddr := by funext args m; rfl
theorem GB4_same : GB4 18 = g_same := by funext args m; rfl

theorem hexN_len (a : Nat) : (hexN a).length ≤ 66 := by
  have hD : ((bytI a 32).flatMap dgs).length = 64 := by rw [flat_dgs, bytI_len]
  have := numD_len (D := (bytI a 32).flatMap dgs) (by omega)
  unfold hexN; simp only [List.length_cons]; omega
theorem back_law (b : Option Addr) (n c : Nat) (xs : List Int) (a : Nat) (zs : List Int) (ha : a < W) (hz : zs.length = 20) (hzb : allB zs) (hl : xs.length = n) (hn : n ≤ c) (hc : c ≤ maxLen) (hb : adr b n c) (hx : allB xs) (w : World) (hm : MemOk w [] [.ro b (.ints .u8 xs)] w) :
    Calls Tryd.prog 5 (cvs [.sl 0 b 0 0 1 n c, .word a, .ints .u8 zs]).toArray w (Yes w) := by
  have t1 : (xs.drop 0).take n = xs := by rw [List.drop_zero, List.take_of_length_le (by omega)]
  have t8 : (xs.drop 0).take xs.length = xs := by rw [List.drop_zero, List.take_of_length_le (Nat.le_refl _)]
  have t0 : (zs.drop 0).take 20 = zs := by rw [List.drop_zero, List.take_of_length_le (by omega)]
  have t2 := rdH_wrH hx
  have t3 := cntV_hexN ha
  have t4 := adV_wrH hzb hz
  have t5 := eqW_of (a := a) rfl
  have t6 : decide (xs = xs) = true := decide_eq_true rfl
  have t7 : decide (zs = zs) = true := decide_eq_true rfl
  have b1 := wrH_all xs
  have b2 := wrH_all zs
  have b3 := hexN_all a
  have l1 := wrH_len xs
  have l2 := wrH_len zs
  have l3 := hexN_len a
  by_cases hk : n ≤ 1000
  · have d1 : decide ((1000 : Int) < (n : Int)) = false := decide_eq_false (by omega)
    refine Vc.calls T0_ok Tryd.func5 rfl rfl (args := [.sl 0 b 0 0 1 n c, .word a, .ints .u8 zs]) (k := 61) rfl hm ?_; change Vc _ _ (c8 (.sl 0 b 0 0 1 n c) (.word a) (.ints .u8 zs) .undef .undef .undef .undef .undef (c8 .undef .undef .undef .undef .undef .undef .undef .undef (c8 .undef .undef .undef .undef .undef .undef .undef .undef (c8 .undef .undef .undef .undef .undef .undef .undef .undef (c8 .undef .undef .undef .undef .undef .undef .undef .undef (c8 .undef .undef .undef .undef .undef .undef .undef .undef (c8 .undef .undef .undef .undef .undef .undef .undef .undef (c8 .undef .undef .undef .undef .undef .undef .undef .undef ([]))))))))) _ _
    ((repeat (first | (with_reducible refine Vc.seq fun N hN => ?_) | (with_reducible refine Vc.block ?_) | ((with_reducible refine Vc.skip ?_); dsimp only [thenK, blockK, Nat.beq]; (first | (refine hN _ _ ?_; clear hN N) | skip)) | ((with_reducible refine Vc.exit ?_); dsimp only [thenK, blockK, Nat.beq]; (first | (refine hN _ _ ?_; clear hN N) | skip)) | (with_reducible intro _) | ((with_reducible refine And.intro ?_ ?_); (focus (first | ((repeat' with_reducible apply And.intro) <;> first | with_reducible exact True.intro | with_reducible assumption | with_reducible rfl | (rw [t1]; assumption) | omega) | exact sd0))) | ((first | ((with_reducible refine askT_of ?_ (fun hb => ?_)); (focus (first | ((repeat' with_reducible apply And.intro) <;> first | with_reducible exact True.intro | with_reducible assumption | with_reducible rfl | (rw [t1]; assumption) | omega) | exact sd0)); (try simp only [hb])) | ((with_reducible refine Vc.fin ?_); dsimp only [thenK, blockK, retK, resS, resOne, resAll]) | ((with_reducible refine Vc.hold ?_); first | refine Vc.regiont T0_ok GB4_ok ?_)); (try simp only [pickO, nthO, dropO, dOp.eq_def, v8A, strIx.eq_def, appT.eq_def, v8B, adr_some, adr_nil, true_or, dstOf, Bool.not_true, Bool.not_false, evs, evp, v8C, sget, sset, blen, bpush, bget, bset, Nat.beq, Nat.ble, Nat.blt.eq_def, nth?, tys, takeN, Nat.zero_add, fillS, splice, allOne, ordL, intL, wordL, rowL, sapp, resAll, und, lk, hav, agr, bpre, Int.reduceToNat, Int.reduceLE, Int.reduceLT, Nat.reduceLT, Nat.reduceLeDiff, Nat.reduceAdd, Nat.reduceMul, Nat.reduceSub, Int.reduceAdd, Int.reduceSub, Int.reduceMul, eq_self, decide_true, beq_self_eq_true, List.length_cons, List.length_nil, Nat.min_eq_left, IntKind.bits, tabs, GB4_hKno, g_hKno.eq_def, GB4_hRead, g_hRead.eq_def, GB4_hWrite, g_hWrite.eq_def, GB4_hCount, g_hCount.eq_def, GB4_hNum, g_hNum.eq_def, GB4_hAddr, g_hAddr.eq_def, GB4_same, g_same.eq_def, d1, t1, t2]); (try simp (disch := omega) only [v8W])) | ((with_reducible refine hN _ _ ?_); clear hN N; (try simp (disch := omega) only [v8W])))); (try ((with_reducible refine Fin.of ?_); (try with_reducible exact True.intro))))
    (refine Vc.cond T0_ok (t := false) (by rfl) (fun h => Bool.noConfusion h) (fun _ => ?_))
    ((repeat (first | (with_reducible refine Vc.seq fun N hN => ?_) | (with_reducible refine Vc.block ?_) | ((with_reducible refine Vc.skip ?_); dsimp only [thenK, blockK, Nat.beq]; (first | (refine hN _ _ ?_; clear hN N) | skip)) | ((with_reducible refine Vc.exit ?_); dsimp only [thenK, blockK, Nat.beq]; (first | (refine hN _ _ ?_; clear hN N) | skip)) | (with_reducible intro _) | ((with_reducible refine And.intro ?_ ?_); (focus (first | ((repeat' with_reducible apply And.intro) <;> first | with_reducible exact True.intro | with_reducible assumption | with_reducible rfl | (rw [t1]; assumption) | (rw [t0]; assumption) | (rw [t8]; assumption) | omega) | exact sd0))) | ((first | ((with_reducible refine askT_of ?_ (fun hb => ?_)); (focus (first | ((repeat' with_reducible apply And.intro) <;> first | with_reducible exact True.intro | with_reducible assumption | with_reducible rfl | (rw [t1]; assumption) | (rw [t0]; assumption) | (rw [t8]; assumption) | omega) | exact sd0)); (try simp only [hb])) | ((with_reducible refine Vc.fin ?_); dsimp only [thenK, blockK, retK, resS, resOne, resAll]) | ((with_reducible refine Vc.hold ?_); first | refine Vc.regiont T0_ok GB4_ok ?_)); (try simp only [pickO, nthO, dropO, dOp.eq_def, v8A, strIx.eq_def, appT.eq_def, v8B, adr_some, adr_nil, true_or, dstOf, Bool.not_true, Bool.not_false, evs, evp, v8C, sget, sset, blen, bpush, bget, bset, Nat.beq, Nat.ble, Nat.blt.eq_def, nth?, tys, takeN, Nat.zero_add, fillS, splice, allOne, ordL, intL, wordL, rowL, sapp, resAll, und, lk, hav, agr, bpre, Int.reduceToNat, Int.reduceLE, Int.reduceLT, Nat.reduceLT, Nat.reduceLeDiff, Nat.reduceAdd, Nat.reduceMul, Nat.reduceSub, Int.reduceAdd, Int.reduceSub, Int.reduceMul, eq_self, decide_true, beq_self_eq_true, List.length_cons, List.length_nil, Nat.min_eq_left, IntKind.bits, tabs, GB4_hKno, g_hKno.eq_def, GB4_hRead, g_hRead.eq_def, GB4_hWrite, g_hWrite.eq_def, GB4_hCount, g_hCount.eq_def, GB4_hNum, g_hNum.eq_def, GB4_hAddr, g_hAddr.eq_def, GB4_same, g_same.eq_def, d1, t0, t1, t8, t2, t3, t4, t5, t6, t7]); (try simp (disch := omega) only [v8W])) | ((with_reducible refine hN _ _ ?_); clear hN N; (try simp (disch := omega) only [v8W])))); (try ((with_reducible refine Fin.of ?_); (try with_reducible exact True.intro))))
    exact ⟨trivial, trivial⟩
  · have d1 : decide ((1000 : Int) < (n : Int)) = true := decide_eq_true (by omega)
    refine Vc.calls T0_ok Tryd.func5 rfl rfl (args := [.sl 0 b 0 0 1 n c, .word a, .ints .u8 zs]) (k := 61) rfl hm ?_; change Vc _ _ (c8 (.sl 0 b 0 0 1 n c) (.word a) (.ints .u8 zs) .undef .undef .undef .undef .undef (c8 .undef .undef .undef .undef .undef .undef .undef .undef (c8 .undef .undef .undef .undef .undef .undef .undef .undef (c8 .undef .undef .undef .undef .undef .undef .undef .undef (c8 .undef .undef .undef .undef .undef .undef .undef .undef (c8 .undef .undef .undef .undef .undef .undef .undef .undef (c8 .undef .undef .undef .undef .undef .undef .undef .undef (c8 .undef .undef .undef .undef .undef .undef .undef .undef ([]))))))))) _ _
    ((repeat (first | (with_reducible refine Vc.seq fun N hN => ?_) | (with_reducible refine Vc.block ?_) | ((with_reducible refine Vc.skip ?_); dsimp only [thenK, blockK, Nat.beq]; (first | (refine hN _ _ ?_; clear hN N) | skip)) | ((with_reducible refine Vc.exit ?_); dsimp only [thenK, blockK, Nat.beq]; (first | (refine hN _ _ ?_; clear hN N) | skip)) | (with_reducible intro _) | ((with_reducible refine And.intro ?_ ?_); (focus (first | ((repeat' with_reducible apply And.intro) <;> first | with_reducible exact True.intro | with_reducible assumption | omega) | exact sd0))) | ((first | ((with_reducible refine askT_of ?_ (fun hb => ?_)); (focus (first | ((repeat' with_reducible apply And.intro) <;> first | with_reducible exact True.intro | with_reducible assumption | omega) | exact sd0)); (try simp only [hb])) | ((with_reducible refine Vc.fin ?_); dsimp only [thenK, blockK, retK, resS, resOne, resAll]) | ((with_reducible refine Vc.hold ?_); first | refine Vc.regiont T0_ok GB4_ok ?_)); (try simp only [pickO, nthO, dropO, dOp.eq_def, v8A, strIx.eq_def, appT.eq_def, v8B, adr_some, adr_nil, true_or, dstOf, Bool.not_true, Bool.not_false, evs, evp, v8C, sget, sset, blen, bpush, bget, bset, Nat.beq, Nat.ble, Nat.blt.eq_def, nth?, tys, takeN, Nat.zero_add, fillS, splice, allOne, ordL, intL, wordL, rowL, sapp, resAll, und, lk, hav, agr, bpre, Int.reduceToNat, Int.reduceLE, Int.reduceLT, Nat.reduceLT, Nat.reduceLeDiff, Nat.reduceAdd, Nat.reduceMul, Nat.reduceSub, Int.reduceAdd, Int.reduceSub, Int.reduceMul, eq_self, decide_true, beq_self_eq_true, List.length_cons, List.length_nil, Nat.min_eq_left, IntKind.bits, tabs, GB4_hKno, g_hKno.eq_def, GB4_hRead, g_hRead.eq_def, GB4_hWrite, g_hWrite.eq_def, GB4_hCount, g_hCount.eq_def, GB4_hNum, g_hNum.eq_def, GB4_hAddr, g_hAddr.eq_def, GB4_same, g_same.eq_def, d1]); (try simp (disch := omega) only [v8W])) | ((with_reducible refine hN _ _ ?_); clear hN N; (try simp (disch := omega) only [v8W])))); (try ((with_reducible refine Fin.of ?_); (try with_reducible exact True.intro))))
    (refine Vc.cond T0_ok (t := true) (by rfl) (fun _ => ?_) (fun h => Bool.noConfusion h))
    ((repeat (first | (with_reducible refine Vc.seq fun N hN => ?_) | (with_reducible refine Vc.block ?_) | ((with_reducible refine Vc.skip ?_); dsimp only [thenK, blockK, Nat.beq]; (first | (refine hN _ _ ?_; clear hN N) | skip)) | ((with_reducible refine Vc.exit ?_); dsimp only [thenK, blockK, Nat.beq]; (first | (refine hN _ _ ?_; clear hN N) | skip)) | (with_reducible intro _) | ((with_reducible refine And.intro ?_ ?_); (focus (exact sd0))) | ((first | ((with_reducible refine askT_of ?_ (fun hb => ?_)); (focus (exact sd0)); (try simp only [hb])) | ((with_reducible refine Vc.fin ?_); dsimp only [thenK, blockK, retK, resS, resOne, resAll]) | ((with_reducible refine Vc.hold ?_); first | refine Vc.regiont T0_ok GB4_ok ?_)); (try simp only [pickO, nthO, dropO, dOp.eq_def, v8A, strIx.eq_def, appT.eq_def, v8B, adr_some, adr_nil, true_or, dstOf, Bool.not_true, Bool.not_false, evs, evp, v8C, sget, sset, blen, bpush, bget, bset, Nat.beq, Nat.ble, Nat.blt.eq_def, nth?, tys, takeN, Nat.zero_add, fillS, splice, allOne, ordL, intL, wordL, rowL, sapp, resAll, und, lk, hav, agr, bpre, Int.reduceToNat, Int.reduceLE, Int.reduceLT, Nat.reduceLT, Nat.reduceLeDiff, Nat.reduceAdd, Nat.reduceMul, Nat.reduceSub, Int.reduceAdd, Int.reduceSub, Int.reduceMul, eq_self, decide_true, beq_self_eq_true, List.length_cons, List.length_nil, Nat.min_eq_left, IntKind.bits, tabs, GB4_hKno, g_hKno.eq_def, GB4_hRead, g_hRead.eq_def, GB4_hWrite, g_hWrite.eq_def, GB4_hCount, g_hCount.eq_def, GB4_hNum, g_hNum.eq_def, GB4_hAddr, g_hAddr.eq_def, GB4_same, g_same.eq_def]); (try simp (disch := omega) only [v8W])) | ((with_reducible refine hN _ _ ?_); clear hN N; (try simp (disch := omega) only [v8W])))); (try ((with_reducible refine Fin.of ?_); (try with_reducible exact True.intro))))
    exact ⟨trivial, trivial⟩
end Go.Proofs.YtcmgndhkdnjmnaaDoor
