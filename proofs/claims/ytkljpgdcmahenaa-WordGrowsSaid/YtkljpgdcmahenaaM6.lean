/-
  The law WordGrows, walked: for a word a and bytes n, m it answers true; the world is the same but for new memory.
-/
import Derived.Test.YtkljpgdcmahenaaX1
import Derived.Test.YtkljpgdcmahenaaFR
namespace Go.Proofs.Ytkljpgdcmahenaa
set_option linter.unusedSimpArgs false
set_option linter.unusedVariables false
open Go.RowKit
def g_Exp (args : List SV) (_m : List Blk) : CR := match args with | [.word a, .word e] => .pure (a < W ∧ e < W) (.word (expN a e)) | _ => .none
theorem g_Exp_ok (w0 : World) (B : List Nat) (args : List SV) (m : List Blk) : CROk Try.prog w0 B 34 args m (g_Exp args m) := by
  unfold g_Exp; split
  · rename_i a e; exact pure_old Try.func34 rfl rfl (fun h w => by obtain ⟨h1, h2⟩ := h; exact (exp_vc a e h1 h2 w).mono fun en w' ⟨u, he, v, m', hu, hm, hv⟩ => by subst hu; subst hv; exact ⟨he, gw_of_grown hm.grown⟩)
  · exact trivial
def G3 : Ctr := fun f args m => match f with
  | 54 => g_lw args m
  | 53 => g_From args m
  | 75 => g_rFrom args m
  | 65 => g_minus args m
  | 21 => g_known args m
  | 46 => g_Small args m
  | 66 => g_neg args m
  | 67 => g_rneg args m
  | 86 => g_lowByte args m
  | 38 => g_Shl args m
  | 40 => g_Shr args m
  | 42 => g_Sar args m
  | 44 => g_Byte args m
  | 36 => g_Extend args m
  | 22 => g_Cmp args m
  | 24 => g_Scmp args m
  | 15 => g_Add args m
  | 17 => g_Sub args m
  | 19 => g_Mul args m
  | 26 => g_Div args m
  | 28 => g_Sdiv args m
  | 30 => g_AddMod args m
  | 32 => g_MulMod args m
  | 63 => g_length args m
  | 34 => g_Exp args m
  | _ => .none
theorem G3_ok : GOk Try.prog G3 := by
  intro w0 B f args m; unfold G3; split
  · exact g_lw_ok _ _ _ _
  · exact g_From_ok _ _ _ _
  · exact g_rFrom_ok _ _ _ _
  · exact g_minus_ok _ _ _ _
  · exact g_known_ok _ _ _ _
  · exact g_Small_ok _ _ _ _
  · exact g_neg_ok _ _ _ _
  · exact g_rneg_ok _ _ _ _
  · exact g_lowByte_ok _ _ _ _
  · exact g_Shl_ok _ _ _ _
  · exact g_Shr_ok _ _ _ _
  · exact g_Sar_ok _ _ _ _
  · exact g_Byte_ok _ _ _ _
  · exact g_Extend_ok _ _ _ _
  · exact g_Cmp_ok _ _ _ _
  · exact g_Scmp_ok _ _ _ _
  · exact g_Add_ok _ _ _ _
  · exact g_Sub_ok _ _ _ _
  · exact g_Mul_ok _ _ _ _
  · exact g_Div_ok _ _ _ _
  · exact g_Sdiv_ok _ _ _ _
  · exact g_AddMod_ok _ _ _ _
  · exact g_MulMod_ok _ _ _ _
  · exact g_length_ok _ _ _ _
  · exact g_Exp_ok _ _ _ _
  · exact trivial
theorem G3_lw : G3 54 = g_lw := by funext args m; rfl
theorem G3_From : G3 53 = g_From := by funext args m; rfl
theorem G3_rFrom : G3 75 = g_rFrom := by funext args m; rfl
theorem G3_minus : G3 65 = g_minus := by funext args m; rfl
theorem G3_known : G3 21 = g_known := by funext args m; rfl
theorem G3_Small : G3 46 = g_Small := by funext args m; rfl
theorem G3_neg : G3 66 = g_neg := by funext args m; rfl
theorem G3_rneg : G3 67 = g_rneg := by funext args m; rfl
theorem G3_lowByte : G3 86 = g_lowByte := by funext args m; rfl
theorem G3_Shl : G3 38 = g_Shl := by funext args m; rfl
theorem G3_Shr : G3 40 = g_Shr := by funext args m; rfl
theorem G3_Sar : G3 42 = g_Sar := by funext args m; rfl
theorem G3_Byte : G3 44 = g_Byte := by funext args m; rfl
theorem G3_Extend : G3 36 = g_Extend := by funext args m; rfl
theorem G3_Cmp : G3 22 = g_Cmp := by funext args m; rfl
theorem G3_Scmp : G3 24 = g_Scmp := by funext args m; rfl
theorem G3_Add : G3 15 = g_Add := by funext args m; rfl
theorem G3_Sub : G3 17 = g_Sub := by funext args m; rfl
theorem G3_Mul : G3 19 = g_Mul := by funext args m; rfl
theorem G3_Div : G3 26 = g_Div := by funext args m; rfl
theorem G3_Sdiv : G3 28 = g_Sdiv := by funext args m; rfl
theorem G3_AddMod : G3 30 = g_AddMod := by funext args m; rfl
theorem G3_MulMod : G3 32 = g_MulMod := by funext args m; rfl
theorem G3_length : G3 63 = g_length := by funext args m; rfl
theorem G3_Exp : G3 34 = g_Exp := by funext args m; rfl

theorem lt_W6 {n : Nat} (h : n < 512) : n < W := Nat.lt_trans h (by decide)
theorem grow_sum (a n m : Nat) : mulN (expN a n) (expN a m) = expN a (n + m) := expN_mul a n m
theorem grow_one {a : Nat} (n : Nat) (ha : a < W) : mulN (expN a n) a = expN a (n + 1) := by
  have := expN_mul a n 1
  rw [expN_one ha] at this; exact this
theorem grows_vc (a n m : Nat) (ha : a < W) (hn : n < 256) (hm : m < 256) (w : World) : Calls Try.prog 13 (cvs [.word a, .int .u8 n, .int .u8 m]).toArray w (Yes w) := by
  have en : ((n : Int) + (m : Int)).toNat = n + m := by omega
  have e1 : ((n : Int) + 1).toNat = n + 1 := by omega
  refine Vc.calls T0_ok Try.func13 rfl rfl (args := [.word a, .int .u8 n, .int .u8 m]) (k := 55) rfl (MemOk.start _) ?_; change Vc _ _ (c8 (.word a) (.int .u8 n) (.int .u8 m) .undef .undef .undef .undef .undef (c8 .undef .undef .undef .undef .undef .undef .undef .undef (c8 .undef .undef .undef .undef .undef .undef .undef .undef (c8 .undef .undef .undef .undef .undef .undef .undef .undef (c8 .undef .undef .undef .undef .undef .undef .undef .undef (c8 .undef .undef .undef .undef .undef .undef .undef .undef (c8 .undef .undef .undef .undef .undef .undef .undef .undef ([.undef, .undef])))))))) _ _
  (repeat (first | (refine Vc.seq fun N hN => ?_) | ((first | refine Vc.regiont T0_ok G3_ok ?_ | refine Vc.drawt (id := 1) T0_ok G3_ok (by kernel_rfl) [0, 1, 2, 5, 6, 7, 3, 4, 8, 9, 10, 11, 12, 13] 15 [⟨14, 7, 24, _⟩] ⟨⟨⟨_, _, rfl⟩, zc_24⟩, trivial⟩ (by kernel_rfl) ?_ | refine Vc.drawt (id := 2) T0_ok G3_ok (by kernel_rfl) [0, 1, 2, 5, 3, 4, 6, 7, 8, 9] 11 [⟨10, 9, 24, _⟩] ⟨⟨⟨_, _, rfl⟩, zc_24⟩, trivial⟩ (by kernel_rfl) ?_ | refine Vc.drawt (id := 3) T0_ok G3_ok (by kernel_rfl) [0, 1, 2, 3, 4, 5, 6, 7, 8, 9, 10, 11, 12, 13, 14, 15, 16, 17, 18, 19, 20] 21 [] trivial (by kernel_rfl) ?_); simp only [pickO, nthO, dropO, t_qval, t_qnewb, t_qnewo, t_qcall, t_qpure, t_qown, t_qnil, t_qcons, t_alnil, t_alcons, dOp.eq_def, t_askT, t_askF, t_go, t_skip, t_ask, t_kval, t_kmem, t_knewb, t_knewo, t_kturn, t_kcall, t_kpure, t_kown, t_kturnc, t_krel, t_knil, t_kcons, gd.eq_def, gdV.eq_def, dstOf, eqB_t, eqB_f, Bool.not_true, Bool.not_false, step.eq_def, dstep.eq_def, ev.eq_def, evs, evo.eq_def, evp, c8g0, c8g1, c8g2, c8g3, c8g4, c8g5, c8g6, c8g7, c8gs, c8s0, c8s1, c8s2, c8s3, c8s4, c8s5, c8s6, c8s7, c8ss, c8hav, c8agr, havV.eq_def, agrV.eq_def, sget, sset, upd.eq_def, ofV.eq_def, ofV1.eq_def, boxCon.eq_def, cellsOf.eq_def, blen, bpush, bget, bset, thenK.eq_def, blockK.eq_def, Nat.beq, Nat.ble, Nat.blt.eq_def, binT.eq_def, bin.eq_def, arith.eq_def, shiftS.eq_def, una.eq_def, pickS.eq_def, cT, cF, numI_0, extS.eq_def, nth?, convT.eq_def, convS.eq_def, nilS.eq_def, arrPS.eq_def, tys, bltS.eq_def, lenOwn.eq_def, loadS.eq_def, blkAt.eq_def, addp.eq_def, aggN.eq_def, conOne.eq_def, conMany.eq_def, takeN, idxS.eq_def, addIx_eq, Nat.zero_add, sliceS.eq_def, bnd.eq_def, sliceP.eq_def, curSt.eq_def, buildS.eq_def, fillS, placeOf.eq_def, toW.eq_def, splice, storeS.eq_def, tsz.eq_def, conStore.eq_def, svLen.eq_def, oneS.eq_def, allOne, sameK.eq_def, makeS.eq_def, zerosC.eq_def, appStep.eq_def, appE.eq_def, appS.eq_def, srcC.eq_def, conCut.eq_def, conEs.eq_def, conApp.eq_def, conN.eq_def, callStep.eq_def, sapp, withCon.eq_def, resS.eq_def, resOne.eq_def, resAll, retK.eq_def, und, lk, inR.eq_def, hav, agr, bpre, blkO.eq_def, offO.eq_def, Int.reduceToNat, Int.reduceLE, Int.reduceLT, Nat.reduceLT, Nat.reduceLeDiff, Nat.reduceAdd, Nat.reduceMul, Nat.reduceSub, Int.reduceAdd, Int.reduceSub, Int.reduceMul, eq_self, decide_true, beq_self_eq_true, tnc, sC0, sCs, gDs, gD0, List.length_cons, List.length_nil, Nat.min_eq_left, IntKind.bits, ty_3, zc_3, ty_4, zc_4, ty_5, zc_5, ty_9, zc_9, ty_22, zc_22, ty_24, zc_24, zr_24, ty_35, zc_35, ty_37, zc_37, zr_37, ty_48, zc_48, ty_54, zc_54, zr_54, ty_55, zc_55, zr_55, ty_57, zc_57, ty_60, zc_60, zr_60, ty_74, ty_79, zc_79, zr_79, ty_85, G3_lw, g_lw.eq_def, G3_From, g_From.eq_def, G3_rFrom, g_rFrom.eq_def, G3_minus, g_minus.eq_def, G3_known, g_known.eq_def, G3_Small, g_Small.eq_def, G3_neg, g_neg.eq_def, G3_rneg, g_rneg.eq_def, G3_lowByte, g_lowByte.eq_def, G3_Shl, g_Shl.eq_def, G3_Shr, g_Shr.eq_def, G3_Sar, g_Sar.eq_def, G3_Byte, g_Byte.eq_def, G3_Extend, g_Extend.eq_def, G3_Cmp, g_Cmp.eq_def, G3_Scmp, g_Scmp.eq_def, G3_Add, g_Add.eq_def, G3_Sub, g_Sub.eq_def, G3_Mul, g_Mul.eq_def, G3_Div, g_Div.eq_def, G3_Sdiv, g_Sdiv.eq_def, G3_AddMod, g_AddMod.eq_def, G3_MulMod, g_MulMod.eq_def, G3_length, g_length.eq_def, G3_Exp, g_Exp.eq_def]; (try simp (disch := omega) only [wrap_u8, wrap_u16, wrap_u32, wrap_u64, wrap_i8, wrap_i16, wrap_i32, wrap_i64, tnc]); (repeat (first | intro _ | (refine And.intro ?_ ?_; (focus (first | ((repeat' apply And.intro) <;> first | with_reducible assumption | with_reducible exact expN_lt _ _ | with_reducible exact mulN_lt _ _ | (with_reducible refine lt_W6 ?_; omega) | (with_reducible refine eqW_of ?_; rw [en]; with_reducible exact grow_sum _ _ _) | (with_reducible refine eqW_of ?_; rw [e1]; with_reducible exact grow_one _ ha) | with_reducible exact True.intro) | (first | exact True.intro | ((repeat' apply And.intro) <;> first | exact True.intro | with_reducible rfl | with_reducible assumption | omega | (simp only [mod_u8, mod_u16, mod_u32, mod_u64]; omega) | (simp only [List.length_cons, List.length_nil, List.length_replicate, List.length_set]; omega) | (simp; done)))))) | (refine askT_of ?_ (fun hb => ?_); (focus (first | ((repeat' apply And.intro) <;> first | with_reducible assumption | with_reducible exact expN_lt _ _ | with_reducible exact mulN_lt _ _ | (with_reducible refine lt_W6 ?_; omega) | (with_reducible refine eqW_of ?_; rw [en]; with_reducible exact grow_sum _ _ _) | (with_reducible refine eqW_of ?_; rw [e1]; with_reducible exact grow_one _ ha) | with_reducible exact True.intro) | (first | exact True.intro | ((repeat' apply And.intro) <;> first | exact True.intro | with_reducible rfl | with_reducible assumption | omega | (simp only [mod_u8, mod_u16, mod_u32, mod_u64]; omega) | (simp only [List.length_cons, List.length_nil, List.length_replicate, List.length_set]; omega) | (simp; done))))); simp only [hb, pickO, nthO, dropO, t_qval, t_qnewb, t_qnewo, t_qcall, t_qpure, t_qown, t_qnil, t_qcons, t_alnil, t_alcons, dOp.eq_def, t_askT, t_askF, t_go, t_skip, t_ask, t_kval, t_kmem, t_knewb, t_knewo, t_kturn, t_kcall, t_kpure, t_kown, t_kturnc, t_krel, t_knil, t_kcons, gd.eq_def, gdV.eq_def, dstOf, eqB_t, eqB_f, Bool.not_true, Bool.not_false, step.eq_def, dstep.eq_def, ev.eq_def, evs, evo.eq_def, evp, c8g0, c8g1, c8g2, c8g3, c8g4, c8g5, c8g6, c8g7, c8gs, c8s0, c8s1, c8s2, c8s3, c8s4, c8s5, c8s6, c8s7, c8ss, c8hav, c8agr, havV.eq_def, agrV.eq_def, sget, sset, upd.eq_def, ofV.eq_def, ofV1.eq_def, boxCon.eq_def, cellsOf.eq_def, blen, bpush, bget, bset, thenK.eq_def, blockK.eq_def, Nat.beq, Nat.ble, Nat.blt.eq_def, binT.eq_def, bin.eq_def, arith.eq_def, shiftS.eq_def, una.eq_def, pickS.eq_def, cT, cF, numI_0, extS.eq_def, nth?, convT.eq_def, convS.eq_def, nilS.eq_def, arrPS.eq_def, tys, bltS.eq_def, lenOwn.eq_def, loadS.eq_def, blkAt.eq_def, addp.eq_def, aggN.eq_def, conOne.eq_def, conMany.eq_def, takeN, idxS.eq_def, addIx_eq, Nat.zero_add, sliceS.eq_def, bnd.eq_def, sliceP.eq_def, curSt.eq_def, buildS.eq_def, fillS, placeOf.eq_def, toW.eq_def, splice, storeS.eq_def, tsz.eq_def, conStore.eq_def, svLen.eq_def, oneS.eq_def, allOne, sameK.eq_def, makeS.eq_def, zerosC.eq_def, appStep.eq_def, appE.eq_def, appS.eq_def, srcC.eq_def, conCut.eq_def, conEs.eq_def, conApp.eq_def, conN.eq_def, callStep.eq_def, sapp, withCon.eq_def, resS.eq_def, resOne.eq_def, resAll, retK.eq_def, und, lk, inR.eq_def, hav, agr, bpre, blkO.eq_def, offO.eq_def, Int.reduceToNat, Int.reduceLE, Int.reduceLT, Nat.reduceLT, Nat.reduceLeDiff, Nat.reduceAdd, Nat.reduceMul, Nat.reduceSub, Int.reduceAdd, Int.reduceSub, Int.reduceMul, eq_self, decide_true, beq_self_eq_true, tnc, sC0, sCs, gDs, gD0, List.length_cons, List.length_nil, Nat.min_eq_left, IntKind.bits, ty_3, zc_3, ty_4, zc_4, ty_5, zc_5, ty_9, zc_9, ty_22, zc_22, ty_24, zc_24, zr_24, ty_35, zc_35, ty_37, zc_37, zr_37, ty_48, zc_48, ty_54, zc_54, zr_54, ty_55, zc_55, zr_55, ty_57, zc_57, ty_60, zc_60, zr_60, ty_74, ty_79, zc_79, zr_79, ty_85, G3_lw, g_lw.eq_def, G3_From, g_From.eq_def, G3_rFrom, g_rFrom.eq_def, G3_minus, g_minus.eq_def, G3_known, g_known.eq_def, G3_Small, g_Small.eq_def, G3_neg, g_neg.eq_def, G3_rneg, g_rneg.eq_def, G3_lowByte, g_lowByte.eq_def, G3_Shl, g_Shl.eq_def, G3_Shr, g_Shr.eq_def, G3_Sar, g_Sar.eq_def, G3_Byte, g_Byte.eq_def, G3_Extend, g_Extend.eq_def, G3_Cmp, g_Cmp.eq_def, G3_Scmp, g_Scmp.eq_def, G3_Add, g_Add.eq_def, G3_Sub, g_Sub.eq_def, G3_Mul, g_Mul.eq_def, G3_Div, g_Div.eq_def, G3_Sdiv, g_Sdiv.eq_def, G3_AddMod, g_AddMod.eq_def, G3_MulMod, g_MulMod.eq_def, G3_length, g_length.eq_def, G3_Exp, g_Exp.eq_def]; (try simp (disch := omega) only [wrap_u8, wrap_u16, wrap_u32, wrap_u64, wrap_i8, wrap_i16, wrap_i32, wrap_i64, tnc])))); (first | (refine hN _ _ ?_; clear hN N; (try simp (disch := omega) only [wrap_u8, wrap_u16, wrap_u32, wrap_u64, wrap_i8, wrap_i16, wrap_i32, wrap_i64, tnc])) | skip)) | (refine Vc.block ?_) | (refine Vc.skip ?_; dsimp only [thenK, blockK, Nat.beq]; (first | (refine hN _ _ ?_; clear hN N) | skip)) | (refine Vc.exit ?_; dsimp only [thenK, blockK, Nat.beq]; (first | (refine hN _ _ ?_; clear hN N) | skip)) | (refine Vc.ret ?_; dsimp only [thenK, blockK, retK, resS, resOne, resAll, t_askT, t_askF, t_go, t_skip, t_ask, t_kval, t_kmem, t_knewb, t_knewo, t_kturn, t_kcall, t_kpure, t_kown, t_kturnc, t_krel, t_knil, t_kcons, gd.eq_def, gdV.eq_def, dstOf, eqB_t, eqB_f, Bool.not_true, Bool.not_false, step.eq_def, dstep.eq_def, ev.eq_def, evs, evo.eq_def, evp, c8g0, c8g1, c8g2, c8g3, c8g4, c8g5, c8g6, c8g7, c8gs, c8s0, c8s1, c8s2, c8s3, c8s4, c8s5, c8s6, c8s7, c8ss, c8hav, c8agr, havV.eq_def, agrV.eq_def, sget, sset, upd.eq_def, ofV.eq_def, ofV1.eq_def, boxCon.eq_def, cellsOf.eq_def, blen, bpush, bget, bset, thenK.eq_def, blockK.eq_def, Nat.beq, Nat.ble, Nat.blt.eq_def, binT.eq_def, bin.eq_def, arith.eq_def, shiftS.eq_def, una.eq_def, pickS.eq_def, cT, cF, numI_0, extS.eq_def, nth?, convT.eq_def, convS.eq_def, nilS.eq_def, arrPS.eq_def, tys, bltS.eq_def, lenOwn.eq_def, loadS.eq_def, blkAt.eq_def, addp.eq_def, aggN.eq_def, conOne.eq_def, conMany.eq_def, takeN, idxS.eq_def, addIx_eq, Nat.zero_add, sliceS.eq_def, bnd.eq_def, sliceP.eq_def, curSt.eq_def, buildS.eq_def, fillS, placeOf.eq_def, toW.eq_def, splice, storeS.eq_def, tsz.eq_def, conStore.eq_def, svLen.eq_def, oneS.eq_def, allOne, sameK.eq_def, makeS.eq_def, zerosC.eq_def, appStep.eq_def, appE.eq_def, appS.eq_def, srcC.eq_def, conCut.eq_def, conEs.eq_def, conApp.eq_def, conN.eq_def, callStep.eq_def, sapp, withCon.eq_def, resS.eq_def, resOne.eq_def, resAll, retK.eq_def, und, lk, inR.eq_def, hav, agr, bpre, blkO.eq_def, offO.eq_def, Int.reduceToNat, Int.reduceLE, Int.reduceLT, Nat.reduceLT, Nat.reduceLeDiff, Nat.reduceAdd, Nat.reduceMul, Nat.reduceSub, Int.reduceAdd, Int.reduceSub, Int.reduceMul, eq_self, decide_true, beq_self_eq_true, tnc, sC0, sCs, gDs, gD0, List.length_cons, List.length_nil, Nat.min_eq_left, IntKind.bits, ty_3, zc_3, ty_4, zc_4, ty_5, zc_5, ty_9, zc_9, ty_22, zc_22, ty_24, zc_24, zr_24, ty_35, zc_35, ty_37, zc_37, zr_37, ty_48, zc_48, ty_54, zc_54, zr_54, ty_55, zc_55, zr_55, ty_57, zc_57, ty_60, zc_60, zr_60, ty_74, ty_79, zc_79, zr_79, ty_85, G3_lw, g_lw.eq_def, G3_From, g_From.eq_def, G3_rFrom, g_rFrom.eq_def, G3_minus, g_minus.eq_def, G3_known, g_known.eq_def, G3_Small, g_Small.eq_def, G3_neg, g_neg.eq_def, G3_rneg, g_rneg.eq_def, G3_lowByte, g_lowByte.eq_def, G3_Shl, g_Shl.eq_def, G3_Shr, g_Shr.eq_def, G3_Sar, g_Sar.eq_def, G3_Byte, g_Byte.eq_def, G3_Extend, g_Extend.eq_def, G3_Cmp, g_Cmp.eq_def, G3_Scmp, g_Scmp.eq_def, G3_Add, g_Add.eq_def, G3_Sub, g_Sub.eq_def, G3_Mul, g_Mul.eq_def, G3_Div, g_Div.eq_def, G3_Sdiv, g_Sdiv.eq_def, G3_AddMod, g_AddMod.eq_def, G3_MulMod, g_MulMod.eq_def, G3_length, g_length.eq_def, G3_Exp, g_Exp.eq_def]; (try simp only [t_askT, t_askF, t_go, t_skip, t_ask, t_kval, t_kmem, t_knewb, t_knewo, t_kturn, t_kcall, t_kpure, t_kown, t_kturnc, t_krel, t_knil, t_kcons, gd.eq_def, gdV.eq_def, dstOf, eqB_t, eqB_f, Bool.not_true, Bool.not_false, step.eq_def, dstep.eq_def, ev.eq_def, evs, evo.eq_def, evp, c8g0, c8g1, c8g2, c8g3, c8g4, c8g5, c8g6, c8g7, c8gs, c8s0, c8s1, c8s2, c8s3, c8s4, c8s5, c8s6, c8s7, c8ss, c8hav, c8agr, havV.eq_def, agrV.eq_def, sget, sset, upd.eq_def, ofV.eq_def, ofV1.eq_def, boxCon.eq_def, cellsOf.eq_def, blen, bpush, bget, bset, thenK.eq_def, blockK.eq_def, Nat.beq, Nat.ble, Nat.blt.eq_def, binT.eq_def, bin.eq_def, arith.eq_def, shiftS.eq_def, una.eq_def, pickS.eq_def, cT, cF, numI_0, extS.eq_def, nth?, convT.eq_def, convS.eq_def, nilS.eq_def, arrPS.eq_def, tys, bltS.eq_def, lenOwn.eq_def, loadS.eq_def, blkAt.eq_def, addp.eq_def, aggN.eq_def, conOne.eq_def, conMany.eq_def, takeN, idxS.eq_def, addIx_eq, Nat.zero_add, sliceS.eq_def, bnd.eq_def, sliceP.eq_def, curSt.eq_def, buildS.eq_def, fillS, placeOf.eq_def, toW.eq_def, splice, storeS.eq_def, tsz.eq_def, conStore.eq_def, svLen.eq_def, oneS.eq_def, allOne, sameK.eq_def, makeS.eq_def, zerosC.eq_def, appStep.eq_def, appE.eq_def, appS.eq_def, srcC.eq_def, conCut.eq_def, conEs.eq_def, conApp.eq_def, conN.eq_def, callStep.eq_def, sapp, withCon.eq_def, resS.eq_def, resOne.eq_def, resAll, retK.eq_def, und, lk, inR.eq_def, hav, agr, bpre, blkO.eq_def, offO.eq_def, Int.reduceToNat, Int.reduceLE, Int.reduceLT, Nat.reduceLT, Nat.reduceLeDiff, Nat.reduceAdd, Nat.reduceMul, Nat.reduceSub, Int.reduceAdd, Int.reduceSub, Int.reduceMul, eq_self, decide_true, beq_self_eq_true, tnc, sC0, sCs, gDs, gD0, List.length_cons, List.length_nil, Nat.min_eq_left, IntKind.bits, ty_3, zc_3, ty_4, zc_4, ty_5, zc_5, ty_9, zc_9, ty_22, zc_22, ty_24, zc_24, zr_24, ty_35, zc_35, ty_37, zc_37, zr_37, ty_48, zc_48, ty_54, zc_54, zr_54, ty_55, zc_55, zr_55, ty_57, zc_57, ty_60, zc_60, zr_60, ty_74, ty_79, zc_79, zr_79, ty_85, G3_lw, g_lw.eq_def, G3_From, g_From.eq_def, G3_rFrom, g_rFrom.eq_def, G3_minus, g_minus.eq_def, G3_known, g_known.eq_def, G3_Small, g_Small.eq_def, G3_neg, g_neg.eq_def, G3_rneg, g_rneg.eq_def, G3_lowByte, g_lowByte.eq_def, G3_Shl, g_Shl.eq_def, G3_Shr, g_Shr.eq_def, G3_Sar, g_Sar.eq_def, G3_Byte, g_Byte.eq_def, G3_Extend, g_Extend.eq_def, G3_Cmp, g_Cmp.eq_def, G3_Scmp, g_Scmp.eq_def, G3_Add, g_Add.eq_def, G3_Sub, g_Sub.eq_def, G3_Mul, g_Mul.eq_def, G3_Div, g_Div.eq_def, G3_Sdiv, g_Sdiv.eq_def, G3_AddMod, g_AddMod.eq_def, G3_MulMod, g_MulMod.eq_def, G3_length, g_length.eq_def, G3_Exp, g_Exp.eq_def]))))
  exact ⟨trivial, congrArg SV.bool (eqW_of (by rw [e1]; exact grow_one _ ha))⟩
end Go.Proofs.Ytkljpgdcmahenaa
