/-
  The law WordRests, walked: for words a, b, m it answers true; the world is the same but for new memory.
-/
import Derived.Test.YtgmlabdcfbeijaaR7
import Derived.Test.YtgmlabdcfbeijaaFR
namespace Go.Proofs.Ytgmlabdcfbeijaa
set_option linter.unusedSimpArgs false
set_option linter.unusedVariables false
set_option maxHeartbeats 4000000
open Go.RowKit
def GJ : Ctr := fun f args m => match f with
  | 37 => g_lw args m
  | 36 => g_From args m
  | 60 => g_rFrom args m
  | 54 => g_minus args m
  | 12 => g_known args m
  | 29 => g_Small args m
  | 50 => g_neg args m
  | 52 => g_rneg args m
  | 72 => g_lowByte args m
  | 21 => g_Shl args m
  | 23 => g_Shr args m
  | 25 => g_Sar args m
  | 27 => g_Byte args m
  | 19 => g_Extend args m
  | 55 => g_Add args m
  | 49 => g_Sub args m
  | 59 => g_Mul args m
  | 8 => g_Div args m
  | 10 => g_Sdiv args m
  | 13 => g_AddMod args m
  | 15 => g_MulMod args m
  | 58 => g_length args m
  | 34 => g_Read args m
  | 38 => g_Addr args m
  | 40 => g_Wide args m
  | 32 => g_Bytes args m
  | 75 => g_rAdd args m
  | 77 => g_rnot args m
  | 46 => g_rCmp args m
  | 53 => g_rNeg args m
  | 47 => g_rSub args m
  | 45 => g_rbit args m
  | 9 => g_rDiv args m
  | 14 => g_rAddMod args m
  | 16 => g_rMulMod args m
  | _ => .none
theorem GJ_ok : GOk Try.prog GJ := by
  intro w0 B f args m; unfold GJ; split
  · exact g_lw_ok _ _ _ _
  · exact g_From_ok _ _ _ _
  · exact g_rFrom_ok _ _ _ _
  · exact g_minus_ok _ _ _ _
  · exact g_known_ok _ _ _ _
  · exact g_Small_ok _ _ _ _
  · exact g_neg_ok _ _ _ _
  · exact g_rneg_ok _ _ _ _
  · exact g_lowByte_ok _ _ _ _
  · exact g_Shl_ok _ _ _ _
  · exact g_Shr_ok _ _ _ _
  · exact g_Sar_ok _ _ _ _
  · exact g_Byte_ok _ _ _ _
  · exact g_Extend_ok _ _ _ _
  · exact g_Add_ok _ _ _ _
  · exact g_Sub_ok _ _ _ _
  · exact g_Mul_ok _ _ _ _
  · exact g_Div_ok _ _ _ _
  · exact g_Sdiv_ok _ _ _ _
  · exact g_AddMod_ok _ _ _ _
  · exact g_MulMod_ok _ _ _ _
  · exact g_length_ok _ _ _ _
  · exact g_Read_ok _ _ _ _
  · exact g_Addr_ok _ _ _ _
  · exact g_Wide_ok _ _ _ _
  · exact g_Bytes_ok _ _ _ _
  · exact g_rAdd_ok _ _ _ _
  · exact g_rnot_ok _ _ _ _
  · exact g_rCmp_ok _ _ _ _
  · exact g_rNeg_ok _ _ _ _
  · exact g_rSub_ok _ _ _ _
  · exact g_rbit_ok _ _ _ _
  · exact g_rDiv_ok _ _ _ _
  · exact g_rAddMod_ok _ _ _ _
  · exact g_rMulMod_ok _ _ _ _
  · exact trivial
theorem GJ_lw : GJ 37 = g_lw := by funext args m; rfl
theorem GJ_From : GJ 36 = g_From := by funext args m; rfl
theorem GJ_rFrom : GJ 60 = g_rFrom := by funext args m; rfl
theorem GJ_minus : GJ 54 = g_minus := by funext args m; rfl
theorem GJ_known : GJ 12 = g_known := by funext args m; rfl
theorem GJ_Small : GJ 29 = g_Small := by funext args m; rfl
theorem GJ_neg : GJ 50 = g_neg := by funext args m; rfl
theorem GJ_rneg : GJ 52 = g_rneg := by funext args m; rfl
theorem GJ_lowByte : GJ 72 = g_lowByte := by funext args m; rfl
theorem GJ_Shl : GJ 21 = g_Shl := by funext args m; rfl
theorem GJ_Shr : GJ 23 = g_Shr := by funext args m; rfl
theorem GJ_Sar : GJ 25 = g_Sar := by funext args m; rfl
theorem GJ_Byte : GJ 27 = g_Byte := by funext args m; rfl
theorem GJ_Extend : GJ 19 = g_Extend := by funext args m; rfl
theorem GJ_Add : GJ 55 = g_Add := by funext args m; rfl
theorem GJ_Sub : GJ 49 = g_Sub := by funext args m; rfl
theorem GJ_Mul : GJ 59 = g_Mul := by funext args m; rfl
theorem GJ_Div : GJ 8 = g_Div := by funext args m; rfl
theorem GJ_Sdiv : GJ 10 = g_Sdiv := by funext args m; rfl
theorem GJ_AddMod : GJ 13 = g_AddMod := by funext args m; rfl
theorem GJ_MulMod : GJ 15 = g_MulMod := by funext args m; rfl
theorem GJ_length : GJ 58 = g_length := by funext args m; rfl
theorem GJ_Read : GJ 34 = g_Read := by funext args m; rfl
theorem GJ_Addr : GJ 38 = g_Addr := by funext args m; rfl
theorem GJ_Wide : GJ 40 = g_Wide := by funext args m; rfl
theorem GJ_Bytes : GJ 32 = g_Bytes := by funext args m; rfl
theorem GJ_rAdd : GJ 75 = g_rAdd := by funext args m; rfl
theorem GJ_rnot : GJ 77 = g_rnot := by funext args m; rfl
theorem GJ_rCmp : GJ 46 = g_rCmp := by funext args m; rfl
theorem GJ_rNeg : GJ 53 = g_rNeg := by funext args m; rfl
theorem GJ_rSub : GJ 47 = g_rSub := by funext args m; rfl
theorem GJ_rbit : GJ 45 = g_rbit := by funext args m; rfl
theorem GJ_rDiv : GJ 9 = g_rDiv := by funext args m; rfl
theorem GJ_rAddMod : GJ 14 = g_rAddMod := by funext args m; rfl
theorem GJ_rMulMod : GJ 16 = g_rMulMod := by funext args m; rfl

theorem rests_vc (a b m : Nat) (ha : a < W) (hb : b < W) (hm : m < W) (w : World) : Calls Try.prog 4 (cvs [.word a, .word b, .word m]).toArray w (Yes w) := by
  refine Vc.calls T0_ok Try.func4 rfl rfl (args := [.word a, .word b, .word m]) (k := 27) rfl (MemOk.start _) ?_; change Vc _ _ (c8 (.word a) (.word b) (.word m) .undef .undef .undef .undef .undef (c8 .undef .undef .undef .undef .undef .undef .undef .undef (c8 .undef .undef .undef .undef .undef .undef .undef .undef ([.undef, .undef, .undef, .undef, .undef, .undef])))) _ _
  ((repeat (first | (with_reducible refine Vc.seq fun N hN => ?_) | (with_reducible refine Vc.block ?_) | ((with_reducible refine Vc.skip ?_); dsimp only [thenK, blockK, Nat.beq]; (first | (refine hN _ _ ?_; clear hN N) | skip)) | ((with_reducible refine Vc.exit ?_); dsimp only [thenK, blockK, Nat.beq]; (first | (refine hN _ _ ?_; clear hN N) | skip)) | (with_reducible intro _) | ((with_reducible refine And.intro ?_ ?_); (focus (first | ((repeat' with_reducible apply And.intro) <;> first | with_reducible exact True.intro | with_reducible assumption | with_reducible exact eqW_of rfl) | (first | with_reducible exact True.intro | ((repeat' apply And.intro) <;> first | with_reducible exact True.intro | with_reducible rfl | with_reducible assumption | omega | (simp only [mod_u8, mod_u16, mod_u32, mod_u64]; omega) | (simp only [List.length_cons, List.length_nil, List.length_replicate, List.length_set]; omega) | (simp; done)))))) | ((first | ((with_reducible refine askT_of ?_ (fun hb => ?_)); (focus (first | ((repeat' with_reducible apply And.intro) <;> first | with_reducible exact True.intro | with_reducible assumption | with_reducible exact eqW_of rfl) | (first | with_reducible exact True.intro | ((repeat' apply And.intro) <;> first | with_reducible exact True.intro | with_reducible rfl | with_reducible assumption | omega | (simp only [mod_u8, mod_u16, mod_u32, mod_u64]; omega) | (simp only [List.length_cons, List.length_nil, List.length_replicate, List.length_set]; omega) | (simp; done))))); (try simp only [hb])) | ((with_reducible refine Vc.fin ?_); dsimp only [thenK, blockK, retK, resS, resOne, resAll]) | ((with_reducible refine Vc.hold ?_); first | refine Vc.regiont T0_ok GJ_ok ?_ | refine Vc.drawt (id := 1) T0_ok GJ_ok (by kernel_rfl) [0, 1, 2, 3, 4, 6, 7, 8, 5, 9, 10, 11, 12, 13, 14, 15, 17, 18, 19, 16] 20 [] trivial (by kernel_rfl) ?_)); (try simp only [pickO, nthO, dropO, dOp.eq_def, v8A, v8B, dstOf, Bool.not_true, Bool.not_false, evs, evp, c8g0, c8g1, c8g2, c8g3, c8g4, c8g5, c8g6, c8g7, c8gs, c8s0, c8s1, c8s2, c8s3, c8s4, c8s5, c8s6, c8s7, c8ss, c8hav, c8agr, sget, sset, blen, bpush, bget, bset, Nat.beq, Nat.ble, Nat.blt.eq_def, nth?, tys, takeN, Nat.zero_add, fillS, splice, allOne, ordL, intL, wordL, rowL, sapp, resAll, und, lk, hav, agr, bpre, Int.reduceToNat, Int.reduceLE, Int.reduceLT, Nat.reduceLT, Nat.reduceLeDiff, Nat.reduceAdd, Nat.reduceMul, Nat.reduceSub, Int.reduceAdd, Int.reduceSub, Int.reduceMul, eq_self, decide_true, beq_self_eq_true, List.length_cons, List.length_nil, Nat.min_eq_left, IntKind.bits, ty_3, zc_3, ty_4, zc_4, ty_5, zc_5, ty_9, zc_9, ty_22, zc_22, ty_24, zc_24, zr_24, ty_32, zc_32, ty_34, zc_34, zr_34, ty_45, zc_45, zr_45, ty_46, zc_46, zr_46, ty_53, zc_53, ty_59, zc_59, ty_67, ty_71, zc_71, zr_71, ty_77, zc_77, zr_77, ty_82, GJ_lw, g_lw.eq_def, GJ_From, g_From.eq_def, GJ_rFrom, g_rFrom.eq_def, GJ_minus, g_minus.eq_def, GJ_known, g_known.eq_def, GJ_Small, g_Small.eq_def, GJ_neg, g_neg.eq_def, GJ_rneg, g_rneg.eq_def, GJ_lowByte, g_lowByte.eq_def, GJ_Shl, g_Shl.eq_def, GJ_Shr, g_Shr.eq_def, GJ_Sar, g_Sar.eq_def, GJ_Byte, g_Byte.eq_def, GJ_Extend, g_Extend.eq_def, GJ_Add, g_Add.eq_def, GJ_Sub, g_Sub.eq_def, GJ_Mul, g_Mul.eq_def, GJ_Div, g_Div.eq_def, GJ_Sdiv, g_Sdiv.eq_def, GJ_AddMod, g_AddMod.eq_def, GJ_MulMod, g_MulMod.eq_def, GJ_length, g_length.eq_def, GJ_Read, g_Read.eq_def, GJ_Addr, g_Addr.eq_def, GJ_Wide, g_Wide.eq_def, GJ_Bytes, g_Bytes.eq_def, GJ_rAdd, g_rAdd.eq_def, GJ_rnot, g_rnot.eq_def, GJ_rCmp, g_rCmp.eq_def, GJ_rNeg, g_rNeg.eq_def, GJ_rSub, g_rSub.eq_def, GJ_rbit, g_rbit.eq_def, GJ_rDiv, g_rDiv.eq_def, GJ_rAddMod, g_rAddMod.eq_def, GJ_rMulMod, g_rMulMod.eq_def]); (try simp (disch := omega) only [wrap_u8, wrap_u16, wrap_u32, wrap_u64, wrap_i8, wrap_i16, wrap_i32, wrap_i64, tnc])) | ((with_reducible refine hN _ _ ?_); clear hN N; (try simp (disch := omega) only [wrap_u8, wrap_u16, wrap_u32, wrap_u64, wrap_i8, wrap_i16, wrap_i32, wrap_i64, tnc])))); (try ((with_reducible refine Fin.of ?_); (try with_reducible exact True.intro))))
  exact ⟨trivial, congrArg SV.bool (eqW_of rfl)⟩
end Go.Proofs.Ytgmlabdcfbeijaa
