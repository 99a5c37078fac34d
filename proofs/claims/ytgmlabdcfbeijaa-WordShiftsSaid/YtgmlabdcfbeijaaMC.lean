/-
  The law WordShifts, walked: for words n, a it answers true; the world is the same but for new memory.
-/
import Derived.Test.YtgmlabdcfbeijaaRA
import Derived.Test.YtgmlabdcfbeijaaFR
namespace Go.Proofs.Ytgmlabdcfbeijaa
set_option linter.unusedSimpArgs false
set_option linter.unusedVariables false
set_option maxHeartbeats 4000000
open Go.RowKit
def GQ : Ctr := fun f args m => match f with
  | 37 => g_lw args m
  | 36 => g_From args m
  | 60 => g_rFrom args m
  | 54 => g_minus args m
  | 12 => g_known args m
  | 29 => g_Small args m
  | 50 => g_neg args m
  | 52 => g_rneg args m
  | 72 => g_lowByte args m
  | 21 => g_Shl args m
  | 23 => g_Shr args m
  | 25 => g_Sar args m
  | 27 => g_Byte args m
  | 19 => g_Extend args m
  | 55 => g_Add args m
  | 49 => g_Sub args m
  | 59 => g_Mul args m
  | 8 => g_Div args m
  | 10 => g_Sdiv args m
  | 13 => g_AddMod args m
  | 15 => g_MulMod args m
  | 58 => g_length args m
  | 34 => g_Read args m
  | 38 => g_Addr args m
  | 40 => g_Wide args m
  | 32 => g_Bytes args m
  | 75 => g_rAdd args m
  | 77 => g_rnot args m
  | 46 => g_rCmp args m
  | 53 => g_rNeg args m
  | 47 => g_rSub args m
  | 45 => g_rbit args m
  | 30 => g_rSmall args m
  | 22 => g_rShl args m
  | 24 => g_rShr args m
  | 26 => g_rSar args m
  | 20 => g_rExtend args m
  | 28 => g_rByte args m
  | _ => .none
theorem GQ_ok : GOk Try.prog GQ := by
  intro w0 B f args m; unfold GQ; split
  · exact g_lw_ok _ _ _ _
  · exact g_From_ok _ _ _ _
  · exact g_rFrom_ok _ _ _ _
  · exact g_minus_ok _ _ _ _
  · exact g_known_ok _ _ _ _
  · exact g_Small_ok _ _ _ _
  · exact g_neg_ok _ _ _ _
  · exact g_rneg_ok _ _ _ _
  · exact g_lowByte_ok _ _ _ _
  · exact g_Shl_ok _ _ _ _
  · exact g_Shr_ok _ _ _ _
  · exact g_Sar_ok _ _ _ _
  · exact g_Byte_ok _ _ _ _
  · exact g_Extend_ok _ _ _ _
  · exact g_Add_ok _ _ _ _
  · exact g_Sub_ok _ _ _ _
  · exact g_Mul_ok _ _ _ _
  · exact g_Div_ok _ _ _ _
  · exact g_Sdiv_ok _ _ _ _
  · exact g_AddMod_ok _ _ _ _
  · exact g_MulMod_ok _ _ _ _
  · exact g_length_ok _ _ _ _
  · exact g_Read_ok _ _ _ _
  · exact g_Addr_ok _ _ _ _
  · exact g_Wide_ok _ _ _ _
  · exact g_Bytes_ok _ _ _ _
  · exact g_rAdd_ok _ _ _ _
  · exact g_rnot_ok _ _ _ _
  · exact g_rCmp_ok _ _ _ _
  · exact g_rNeg_ok _ _ _ _
  · exact g_rSub_ok _ _ _ _
  · exact g_rbit_ok _ _ _ _
  · exact g_rSmall_ok _ _ _ _
  · exact g_rShl_ok _ _ _ _
  · exact g_rShr_ok _ _ _ _
  · exact g_rSar_ok _ _ _ _
  · exact g_rExtend_ok _ _ _ _
  · exact g_rByte_ok _ _ _ _
  · exact trivial
theorem GQ_lw : GQ 37 = g_lw := by funext args m; rfl
theorem GQ_From : GQ 36 = g_From := by funext args m; rfl
theorem GQ_rFrom : GQ 60 = g_rFrom := by funext args m; rfl
theorem GQ_minus : GQ 54 = g_minus := by funext args m; rfl
theorem GQ_known : GQ 12 = g_known := by funext args m; rfl
theorem GQ_Small : GQ 29 = g_Small := by funext args m; rfl
theorem GQ_neg : GQ 50 = g_neg := by funext args m; rfl
theorem GQ_rneg : GQ 52 = g_rneg := by funext args m; rfl
theorem GQ_lowByte : GQ 72 = g_lowByte := by funext args m; rfl
theorem GQ_Shl : GQ 21 = g_Shl := by funext args m; rfl
theorem GQ_Shr : GQ 23 = g_Shr := by funext args m; rfl
theorem GQ_Sar : GQ 25 = g_Sar := by funext args m; rfl
theorem GQ_Byte : GQ 27 = g_Byte := by funext args m; rfl
theorem GQ_Extend : GQ 19 = g_Extend := by funext args m; rfl
theorem GQ_Add : GQ 55 = g_Add := by funext args m; rfl
theorem GQ_Sub : GQ 49 = g_Sub := by funext args m; rfl
theorem GQ_Mul : GQ 59 = g_Mul := by funext args m; rfl
theorem GQ_Div : GQ 8 = g_Div := by funext args m; rfl
theorem GQ_Sdiv : GQ 10 = g_Sdiv := by funext args m; rfl
theorem GQ_AddMod : GQ 13 = g_AddMod := by funext args m; rfl
theorem GQ_MulMod : GQ 15 = g_MulMod := by funext args m; rfl
theorem GQ_length : GQ 58 = g_length := by funext args m; rfl
theorem GQ_Read : GQ 34 = g_Read := by funext args m; rfl
theorem GQ_Addr : GQ 38 = g_Addr := by funext args m; rfl
theorem GQ_Wide : GQ 40 = g_Wide := by funext args m; rfl
theorem GQ_Bytes : GQ 32 = g_Bytes := by funext args m; rfl
theorem GQ_rAdd : GQ 75 = g_rAdd := by funext args m; rfl
theorem GQ_rnot : GQ 77 = g_rnot := by funext args m; rfl
theorem GQ_rCmp : GQ 46 = g_rCmp := by funext args m; rfl
theorem GQ_rNeg : GQ 53 = g_rNeg := by funext args m; rfl
theorem GQ_rSub : GQ 47 = g_rSub := by funext args m; rfl
theorem GQ_rbit : GQ 45 = g_rbit := by funext args m; rfl
theorem GQ_rSmall : GQ 30 = g_rSmall := by funext args m; rfl
theorem GQ_rShl : GQ 22 = g_rShl := by funext args m; rfl
theorem GQ_rShr : GQ 24 = g_rShr := by funext args m; rfl
theorem GQ_rSar : GQ 26 = g_rSar := by funext args m; rfl
theorem GQ_rExtend : GQ 20 = g_rExtend := by funext args m; rfl
theorem GQ_rByte : GQ 28 = g_rByte := by funext args m; rfl

theorem shifts_vc (n a : Nat) (hn : n < W) (ha : a < W) (w : World) : Calls Try.prog 6 (cvs [.word n, .word a]).toArray w (Yes w) := by
  refine Vc.calls T0_ok Try.func6 rfl rfl (args := [.word n, .word a]) (k := 51) rfl (MemOk.start _) ?_; change Vc _ _ (c8 (.word n) (.word a) .undef .undef .undef .undef .undef .undef (c8 .undef .undef .undef .undef .undef .undef .undef .undef (c8 .undef .undef .undef .undef .undef .undef .undef .undef (c8 .undef .undef .undef .undef .undef .undef .undef .undef (c8 .undef .undef .undef .undef .undef .undef .undef .undef (c8 .undef .undef .undef .undef .undef .undef .undef .undef ([.undef, .undef, .undef, .undef, .undef]))))))) _ _
  ((repeat (first | (with_reducible refine Vc.seq fun N hN => ?_) | (with_reducible refine Vc.block ?_) | ((with_reducible refine Vc.skip ?_); dsimp only [thenK, blockK, Nat.beq]; (first | (refine hN _ _ ?_; clear hN N) | skip)) | ((with_reducible refine Vc.exit ?_); dsimp only [thenK, blockK, Nat.beq]; (first | (refine hN _ _ ?_; clear hN N) | skip)) | (with_reducible intro _) | ((with_reducible refine And.intro ?_ ?_); (focus (first | ((repeat' with_reducible apply And.intro) <;> first | with_reducible exact True.intro | with_reducible assumption | with_reducible exact eqW_of rfl) | (first | with_reducible exact True.intro | ((repeat' apply And.intro) <;> first | with_reducible exact True.intro | with_reducible rfl | with_reducible assumption | omega | (simp only [mod_u8, mod_u16, mod_u32, mod_u64]; omega) | (simp only [List.length_cons, List.length_nil, List.length_replicate, List.length_set]; omega) | (simp; done)))))) | ((first | ((with_reducible refine askT_of ?_ (fun hb => ?_)); (focus (first | ((repeat' with_reducible apply And.intro) <;> first | with_reducible exact True.intro | with_reducible assumption | with_reducible exact eqW_of rfl) | (first | with_reducible exact True.intro | ((repeat' apply And.intro) <;> first | with_reducible exact True.intro | with_reducible rfl | with_reducible assumption | omega | (simp only [mod_u8, mod_u16, mod_u32, mod_u64]; omega) | (simp only [List.length_cons, List.length_nil, List.length_replicate, List.length_set]; omega) | (simp; done))))); (try simp only [hb])) | ((with_reducible refine Vc.fin ?_); dsimp only [thenK, blockK, retK, resS, resOne, resAll]) | ((with_reducible refine Vc.hold ?_); first | refine Vc.regiont T0_ok GQ_ok ?_ | refine Vc.drawt (id := 1) T0_ok GQ_ok (by kernel_rfl) [0, 1, 3, 4, 2, 5, 6, 7, 8, 9, 11, 12, 10, 13, 14, 15, 16, 17, 18, 20, 21, 19] 22 [] trivial (by kernel_rfl) ?_ | refine Vc.drawt (id := 2) T0_ok GQ_ok (by kernel_rfl) [0, 1, 2, 3, 4, 5, 6, 8, 9, 7, 10, 11, 12, 13, 14, 15, 17, 18, 16] 19 [] trivial (by kernel_rfl) ?_)); (try simp only [pickO, nthO, dropO, dOp.eq_def, v8A, v8B, adr_some, adr_nil, true_or, dstOf, Bool.not_true, Bool.not_false, evs, evp, c8g0, c8g1, c8g2, c8g3, c8g4, c8g5, c8g6, c8g7, c8gs, c8s0, c8s1, c8s2, c8s3, c8s4, c8s5, c8s6, c8s7, c8ss, c8hav, c8agr, sget, sset, blen, bpush, bget, bset, Nat.beq, Nat.ble, Nat.blt.eq_def, nth?, tys, takeN, Nat.zero_add, fillS, splice, allOne, ordL, intL, wordL, rowL, sapp, resAll, und, lk, hav, agr, bpre, Int.reduceToNat, Int.reduceLE, Int.reduceLT, Nat.reduceLT, Nat.reduceLeDiff, Nat.reduceAdd, Nat.reduceMul, Nat.reduceSub, Int.reduceAdd, Int.reduceSub, Int.reduceMul, eq_self, decide_true, beq_self_eq_true, List.length_cons, List.length_nil, Nat.min_eq_left, IntKind.bits, ty_3, zc_3, ty_4, zc_4, ty_5, zc_5, ty_9, zc_9, ty_22, zc_22, ty_24, zc_24, zr_24, ty_32, zc_32, ty_34, zc_34, zr_34, ty_45, zc_45, zr_45, ty_46, zc_46, zr_46, ty_53, zc_53, ty_59, zc_59, ty_67, ty_71, zc_71, zr_71, ty_77, zc_77, zr_77, ty_82, GQ_lw, g_lw.eq_def, GQ_From, g_From.eq_def, GQ_rFrom, g_rFrom.eq_def, GQ_minus, g_minus.eq_def, GQ_known, g_known.eq_def, GQ_Small, g_Small.eq_def, GQ_neg, g_neg.eq_def, GQ_rneg, g_rneg.eq_def, GQ_lowByte, g_lowByte.eq_def, GQ_Shl, g_Shl.eq_def, GQ_Shr, g_Shr.eq_def, GQ_Sar, g_Sar.eq_def, GQ_Byte, g_Byte.eq_def, GQ_Extend, g_Extend.eq_def, GQ_Add, g_Add.eq_def, GQ_Sub, g_Sub.eq_def, GQ_Mul, g_Mul.eq_def, GQ_Div, g_Div.eq_def, GQ_Sdiv, g_Sdiv.eq_def, GQ_AddMod, g_AddMod.eq_def, GQ_MulMod, g_MulMod.eq_def, GQ_length, g_length.eq_def, GQ_Read, g_Read.eq_def, GQ_Addr, g_Addr.eq_def, GQ_Wide, g_Wide.eq_def, GQ_Bytes, g_Bytes.eq_def, GQ_rAdd, g_rAdd.eq_def, GQ_rnot, g_rnot.eq_def, GQ_rCmp, g_rCmp.eq_def, GQ_rNeg, g_rNeg.eq_def, GQ_rSub, g_rSub.eq_def, GQ_rbit, g_rbit.eq_def, GQ_rSmall, g_rSmall.eq_def, GQ_rShl, g_rShl.eq_def, GQ_rShr, g_rShr.eq_def, GQ_rSar, g_rSar.eq_def, GQ_rExtend, g_rExtend.eq_def, GQ_rByte, g_rByte.eq_def]); (try simp (disch := omega) only [wrap_u8, wrap_u16, wrap_u32, wrap_u64, wrap_i8, wrap_i16, wrap_i32, wrap_i64, tnc])) | ((with_reducible refine hN _ _ ?_); clear hN N; (try simp (disch := omega) only [wrap_u8, wrap_u16, wrap_u32, wrap_u64, wrap_i8, wrap_i16, wrap_i32, wrap_i64, tnc])))); (try ((with_reducible refine Fin.of ?_); (try with_reducible exact True.intro))))
  exact ⟨trivial, congrArg SV.bool (eqW_of rfl)⟩
end Go.Proofs.Ytgmlabdcfbeijaa
