/-
  The law WordPowers, walked: for words a, e it answers true; the world is the same but for new memory.
-/
import Derived.Test.YtgmlabdcfbeijaaR5
import Derived.Test.YtgmlabdcfbeijaaX1
import Derived.Test.YtgmlabdcfbeijaaFR
namespace Go.Proofs.Ytgmlabdcfbeijaa
set_option linter.unusedSimpArgs false
set_option linter.unusedVariables false
set_option maxHeartbeats 4000000
open Go.RowKit
def g_Exp (args : List SV) (_m : List Blk) : CR := match args with | [.word a, .word e] => .pure (a < W ∧ e < W) (.word (expN a e)) | _ => .none
theorem g_Exp_ok (w0 : World) (B : List Nat) (args : List SV) (m : List Blk) : CROk Try.prog w0 B 17 args m (g_Exp args m) := by
  unfold g_Exp; split
  · rename_i a e; exact fun h w _ => calls_pure Try.func17 rfl rfl (exp_vc a e h.1 h.2 w)
  · exact trivial
def GB : Ctr := fun f args m => match f with
  | 37 => g_lw args m
  | 36 => g_From args m
  | 60 => g_rFrom args m
  | 54 => g_minus args m
  | 12 => g_known args m
  | 29 => g_Small args m
  | 50 => g_neg args m
  | 52 => g_rneg args m
  | 72 => g_lowByte args m
  | 21 => g_Shl args m
  | 23 => g_Shr args m
  | 25 => g_Sar args m
  | 27 => g_Byte args m
  | 19 => g_Extend args m
  | 55 => g_Add args m
  | 49 => g_Sub args m
  | 59 => g_Mul args m
  | 8 => g_Div args m
  | 10 => g_Sdiv args m
  | 13 => g_AddMod args m
  | 15 => g_MulMod args m
  | 58 => g_length args m
  | 34 => g_Read args m
  | 38 => g_Addr args m
  | 40 => g_Wide args m
  | 32 => g_Bytes args m
  | 75 => g_rAdd args m
  | 77 => g_rnot args m
  | 46 => g_rCmp args m
  | 53 => g_rNeg args m
  | 47 => g_rSub args m
  | 45 => g_rbit args m
  | 62 => g_rMul args m
  | 61 => g_rhighest args m
  | 18 => g_rExp args m
  | 17 => g_Exp args m
  | _ => .none
theorem GB_ok : GOk Try.prog GB := by
  intro w0 B f args m; unfold GB; split
  · exact g_lw_ok _ _ _ _
  · exact g_From_ok _ _ _ _
  · exact g_rFrom_ok _ _ _ _
  · exact g_minus_ok _ _ _ _
  · exact g_known_ok _ _ _ _
  · exact g_Small_ok _ _ _ _
  · exact g_neg_ok _ _ _ _
  · exact g_rneg_ok _ _ _ _
  · exact g_lowByte_ok _ _ _ _
  · exact g_Shl_ok _ _ _ _
  · exact g_Shr_ok _ _ _ _
  · exact g_Sar_ok _ _ _ _
  · exact g_Byte_ok _ _ _ _
  · exact g_Extend_ok _ _ _ _
  · exact g_Add_ok _ _ _ _
  · exact g_Sub_ok _ _ _ _
  · exact g_Mul_ok _ _ _ _
  · exact g_Div_ok _ _ _ _
  · exact g_Sdiv_ok _ _ _ _
  · exact g_AddMod_ok _ _ _ _
  · exact g_MulMod_ok _ _ _ _
  · exact g_length_ok _ _ _ _
  · exact g_Read_ok _ _ _ _
  · exact g_Addr_ok _ _ _ _
  · exact g_Wide_ok _ _ _ _
  · exact g_Bytes_ok _ _ _ _
  · exact g_rAdd_ok _ _ _ _
  · exact g_rnot_ok _ _ _ _
  · exact g_rCmp_ok _ _ _ _
  · exact g_rNeg_ok _ _ _ _
  · exact g_rSub_ok _ _ _ _
  · exact g_rbit_ok _ _ _ _
  · exact g_rMul_ok _ _ _ _
  · exact g_rhighest_ok _ _ _ _
  · exact g_rExp_ok _ _ _ _
  · exact g_Exp_ok _ _ _ _
  · exact trivial
theorem GB_lw : GB 37 = g_lw := by funext args m; rfl
theorem GB_From : GB 36 = g_From := by funext args m; rfl
theorem GB_rFrom : GB 60 = g_rFrom := by funext args m; rfl
theorem GB_minus : GB 54 = g_minus := by funext args m; rfl
theorem GB_known : GB 12 = g_known := by funext args m; rfl
theorem GB_Small : GB 29 = g_Small := by funext args m; rfl
theorem GB_neg : GB 50 = g_neg := by funext args m; rfl
theorem GB_rneg : GB 52 = g_rneg := by funext args m; rfl
theorem GB_lowByte : GB 72 = g_lowByte := by funext args m; rfl
theorem GB_Shl : GB 21 = g_Shl := by funext args m; rfl
theorem GB_Shr : GB 23 = g_Shr := by funext args m; rfl
theorem GB_Sar : GB 25 = g_Sar := by funext args m; rfl
theorem GB_Byte : GB 27 = g_Byte := by funext args m; rfl
theorem GB_Extend : GB 19 = g_Extend := by funext args m; rfl
theorem GB_Add : GB 55 = g_Add := by funext args m; rfl
theorem GB_Sub : GB 49 = g_Sub := by funext args m; rfl
theorem GB_Mul : GB 59 = g_Mul := by funext args m; rfl
theorem GB_Div : GB 8 = g_Div := by funext args m; rfl
theorem GB_Sdiv : GB 10 = g_Sdiv := by funext args m; rfl
theorem GB_AddMod : GB 13 = g_AddMod := by funext args m; rfl
theorem GB_MulMod : GB 15 = g_MulMod := by funext args m; rfl
theorem GB_length : GB 58 = g_length := by funext args m; rfl
theorem GB_Read : GB 34 = g_Read := by funext args m; rfl
theorem GB_Addr : GB 38 = g_Addr := by funext args m; rfl
theorem GB_Wide : GB 40 = g_Wide := by funext args m; rfl
theorem GB_Bytes : GB 32 = g_Bytes := by funext args m; rfl
theorem GB_rAdd : GB 75 = g_rAdd := by funext args m; rfl
theorem GB_rnot : GB 77 = g_rnot := by funext args m; rfl
theorem GB_rCmp : GB 46 = g_rCmp := by funext args m; rfl
theorem GB_rNeg : GB 53 = g_rNeg := by funext args m; rfl
theorem GB_rSub : GB 47 = g_rSub := by funext args m; rfl
theorem GB_rbit : GB 45 = g_rbit := by funext args m; rfl
theorem GB_rMul : GB 62 = g_rMul := by funext args m; rfl
theorem GB_rhighest : GB 61 = g_rhighest := by funext args m; rfl
theorem GB_rExp : GB 18 = g_rExp := by funext args m; rfl
theorem GB_Exp : GB 17 = g_Exp := by funext args m; rfl

theorem powers_vc (a b : Nat) (ha : a < W) (hb : b < W) (w : World) : Calls Try.prog 5 (cvs [.word a, .word b]).toArray w (Yes w) := by
  refine Vc.calls T0_ok Try.func5 rfl rfl (args := [.word a, .word b]) (k := 13) rfl (MemOk.start _) ?_; change Vc _ _ (c8 (.word a) (.word b) .undef .undef .undef .undef .undef .undef ([.undef, .undef, .undef, .undef, .undef, .undef, .undef])) _ _
  ((repeat (first | (with_reducible refine Vc.seq fun N hN => ?_) | (with_reducible refine Vc.block ?_) | ((with_reducible refine Vc.skip ?_); dsimp only [thenK, blockK, Nat.beq]; (first | (refine hN _ _ ?_; clear hN N) | skip)) | ((with_reducible refine Vc.exit ?_); dsimp only [thenK, blockK, Nat.beq]; (first | (refine hN _ _ ?_; clear hN N) | skip)) | (with_reducible intro _) | ((with_reducible refine And.intro ?_ ?_); (focus (first | ((repeat' with_reducible apply And.intro) <;> first | with_reducible exact True.intro | with_reducible assumption | with_reducible exact eqW_of rfl) | (first | with_reducible exact True.intro | ((repeat' apply And.intro) <;> first | with_reducible exact True.intro | with_reducible rfl | with_reducible assumption | omega | (simp only [mod_u8, mod_u16, mod_u32, mod_u64]; omega) | (simp only [List.length_cons, List.length_nil, List.length_replicate, List.length_set]; omega) | (simp; done)))))) | ((first | ((with_reducible refine askT_of ?_ (fun hb => ?_)); (focus (first | ((repeat' with_reducible apply And.intro) <;> first | with_reducible exact True.intro | with_reducible assumption | with_reducible exact eqW_of rfl) | (first | with_reducible exact True.intro | ((repeat' apply And.intro) <;> first | with_reducible exact True.intro | with_reducible rfl | with_reducible assumption | omega | (simp only [mod_u8, mod_u16, mod_u32, mod_u64]; omega) | (simp only [List.length_cons, List.length_nil, List.length_replicate, List.length_set]; omega) | (simp; done))))); (try simp only [hb])) | ((with_reducible refine Vc.fin ?_); dsimp only [thenK, blockK, retK, resS, resOne, resAll]) | ((with_reducible refine Vc.hold ?_); first | refine Vc.regiont T0_ok GB_ok ?_ | refine Vc.drawt (id := 1) T0_ok GB_ok (by kernel_rfl) [0, 1, 2, 3, 5, 6, 4] 7 [] trivial (by kernel_rfl) ?_)); (try simp only [pickO, nthO, dropO, dOp.eq_def, v8A, v8B, dstOf, Bool.not_true, Bool.not_false, evs, evp, c8g0, c8g1, c8g2, c8g3, c8g4, c8g5, c8g6, c8g7, c8gs, c8s0, c8s1, c8s2, c8s3, c8s4, c8s5, c8s6, c8s7, c8ss, c8hav, c8agr, sget, sset, blen, bpush, bget, bset, Nat.beq, Nat.ble, Nat.blt.eq_def, nth?, tys, takeN, Nat.zero_add, fillS, splice, allOne, ordL, intL, wordL, rowL, sapp, resAll, und, lk, hav, agr, bpre, Int.reduceToNat, Int.reduceLE, Int.reduceLT, Nat.reduceLT, Nat.reduceLeDiff, Nat.reduceAdd, Nat.reduceMul, Nat.reduceSub, Int.reduceAdd, Int.reduceSub, Int.reduceMul, eq_self, decide_true, beq_self_eq_true, List.length_cons, List.length_nil, Nat.min_eq_left, IntKind.bits, ty_3, zc_3, ty_4, zc_4, ty_5, zc_5, ty_9, zc_9, ty_22, zc_22, ty_24, zc_24, zr_24, ty_32, zc_32, ty_34, zc_34, zr_34, ty_45, zc_45, zr_45, ty_46, zc_46, zr_46, ty_53, zc_53, ty_59, zc_59, ty_67, ty_71, zc_71, zr_71, ty_77, zc_77, zr_77, ty_82, GB_lw, g_lw.eq_def, GB_From, g_From.eq_def, GB_rFrom, g_rFrom.eq_def, GB_minus, g_minus.eq_def, GB_known, g_known.eq_def, GB_Small, g_Small.eq_def, GB_neg, g_neg.eq_def, GB_rneg, g_rneg.eq_def, GB_lowByte, g_lowByte.eq_def, GB_Shl, g_Shl.eq_def, GB_Shr, g_Shr.eq_def, GB_Sar, g_Sar.eq_def, GB_Byte, g_Byte.eq_def, GB_Extend, g_Extend.eq_def, GB_Add, g_Add.eq_def, GB_Sub, g_Sub.eq_def, GB_Mul, g_Mul.eq_def, GB_Div, g_Div.eq_def, GB_Sdiv, g_Sdiv.eq_def, GB_AddMod, g_AddMod.eq_def, GB_MulMod, g_MulMod.eq_def, GB_length, g_length.eq_def, GB_Read, g_Read.eq_def, GB_Addr, g_Addr.eq_def, GB_Wide, g_Wide.eq_def, GB_Bytes, g_Bytes.eq_def, GB_rAdd, g_rAdd.eq_def, GB_rnot, g_rnot.eq_def, GB_rCmp, g_rCmp.eq_def, GB_rNeg, g_rNeg.eq_def, GB_rSub, g_rSub.eq_def, GB_rbit, g_rbit.eq_def, GB_rMul, g_rMul.eq_def, GB_rhighest, g_rhighest.eq_def, GB_rExp, g_rExp.eq_def, GB_Exp, g_Exp.eq_def]); (try simp (disch := omega) only [wrap_u8, wrap_u16, wrap_u32, wrap_u64, wrap_i8, wrap_i16, wrap_i32, wrap_i64, tnc])) | ((with_reducible refine hN _ _ ?_); clear hN N; (try simp (disch := omega) only [wrap_u8, wrap_u16, wrap_u32, wrap_u64, wrap_i8, wrap_i16, wrap_i32, wrap_i64, tnc])))); (try ((with_reducible refine Fin.of ?_); (try with_reducible exact True.intro))))
  exact ⟨trivial, congrArg SV.bool (eqW_of rfl)⟩
end Go.Proofs.Ytgmlabdcfbeijaa
