/-
  The law WordBytes, walked: for a word, bytes, a number and an address it answers true; the world is the same but for new memory.
-/
import Derived.Test.YtgmlabdcfbeijaaR8
import Derived.Test.YtgmlabdcfbeijaaR9
import Derived.Test.YtgmlabdcfbeijaaFR
namespace Go.Proofs.Ytgmlabdcfbeijaa
set_option linter.unusedSimpArgs false
set_option linter.unusedVariables false
set_option maxHeartbeats 4000000
open Go.RowKit
def GR : Ctr := fun f args m => match f with
  | 37 => g_lw args m
  | 36 => g_From args m
  | 60 => g_rFrom args m
  | 54 => g_minus args m
  | 12 => g_known args m
  | 29 => g_Small args m
  | 50 => g_neg args m
  | 52 => g_rneg args m
  | 72 => g_lowByte args m
  | 21 => g_Shl args m
  | 23 => g_Shr args m
  | 25 => g_Sar args m
  | 27 => g_Byte args m
  | 19 => g_Extend args m
  | 55 => g_Add args m
  | 49 => g_Sub args m
  | 59 => g_Mul args m
  | 8 => g_Div args m
  | 10 => g_Sdiv args m
  | 13 => g_AddMod args m
  | 15 => g_MulMod args m
  | 58 => g_length args m
  | 34 => g_Read args m
  | 38 => g_Addr args m
  | 40 => g_Wide args m
  | 32 => g_Bytes args m
  | 39 => g_rAddr args m
  | 35 => g_rRead args m
  | 41 => g_rWide args m
  | 33 => g_rBytes args m
  | 30 => g_rSmall args m
  | 31 => g_same args m
  | _ => .none
theorem GR_ok : GOk Try.prog GR := by
  intro w0 B f args m; unfold GR; split
  · exact g_lw_ok _ _ _ _
  · exact g_From_ok _ _ _ _
  · exact g_rFrom_ok _ _ _ _
  · exact g_minus_ok _ _ _ _
  · exact g_known_ok _ _ _ _
  · exact g_Small_ok _ _ _ _
  · exact g_neg_ok _ _ _ _
  · exact g_rneg_ok _ _ _ _
  · exact g_lowByte_ok _ _ _ _
  · exact g_Shl_ok _ _ _ _
  · exact g_Shr_ok _ _ _ _
  · exact g_Sar_ok _ _ _ _
  · exact g_Byte_ok _ _ _ _
  · exact g_Extend_ok _ _ _ _
  · exact g_Add_ok _ _ _ _
  · exact g_Sub_ok _ _ _ _
  · exact g_Mul_ok _ _ _ _
  · exact g_Div_ok _ _ _ _
  · exact g_Sdiv_ok _ _ _ _
  · exact g_AddMod_ok _ _ _ _
  · exact g_MulMod_ok _ _ _ _
  · exact g_length_ok _ _ _ _
  · exact g_Read_ok _ _ _ _
  · exact g_Addr_ok _ _ _ _
  · exact g_Wide_ok _ _ _ _
  · exact g_Bytes_ok _ _ _ _
  · exact g_rAddr_ok _ _ _ _
  · exact g_rRead_ok _ _ _ _
  · exact g_rWide_ok _ _ _ _
  · exact g_rBytes_ok _ _ _ _
  · exact g_rSmall_ok _ _ _ _
  · exact g_same_ok _ _ _ _
  · exact trivial
theorem GR_lw : GR 37 = g_lw := by funext args m; rfl
theorem GR_From : GR 36 = g_From := by funext args m; rfl
theorem GR_rFrom : GR 60 = g_rFrom := by funext args m; rfl
theorem GR_minus : GR 54 = g_minus := by funext args m; rfl
theorem GR_known : GR 12 = g_known := by funext args m; rfl
theorem GR_Small : GR 29 = g_Small := by funext args m; rfl
theorem GR_neg : GR 50 = g_neg := by funext args m; rfl
theorem GR_rneg : GR 52 = g_rneg := by funext args m; rfl
theorem GR_lowByte : GR 72 = g_lowByte := by funext args m; rfl
theorem GR_Shl : GR 21 = g_Shl := by funext args m; rfl
theorem GR_Shr : GR 23 = g_Shr := by funext args m; rfl
theorem GR_Sar : GR 25 = g_Sar := by funext args m; rfl
theorem GR_Byte : GR 27 = g_Byte := by funext args m; rfl
theorem GR_Extend : GR 19 = g_Extend := by funext args m; rfl
theorem GR_Add : GR 55 = g_Add := by funext args m; rfl
theorem GR_Sub : GR 49 = g_Sub := by funext args m; rfl
theorem GR_Mul : GR 59 = g_Mul := by funext args m; rfl
theorem GR_Div : GR 8 = g_Div := by funext args m; rfl
theorem GR_Sdiv : GR 10 = g_Sdiv := by funext args m; rfl
theorem GR_AddMod : GR 13 = g_AddMod := by funext args m; rfl
theorem GR_MulMod : GR 15 = g_MulMod := by funext args m; rfl
theorem GR_length : GR 58 = g_length := by funext args m; rfl
theorem GR_Read : GR 34 = g_Read := by funext args m; rfl
theorem GR_Addr : GR 38 = g_Addr := by funext args m; rfl
theorem GR_Wide : GR 40 = g_Wide := by funext args m; rfl
theorem GR_Bytes : GR 32 = g_Bytes := by funext args m; rfl
theorem GR_rAddr : GR 39 = g_rAddr := by funext args m; rfl
theorem GR_rRead : GR 35 = g_rRead := by funext args m; rfl
theorem GR_rWide : GR 41 = g_rWide := by funext args m; rfl
theorem GR_rBytes : GR 33 = g_rBytes := by funext args m; rfl
theorem GR_rSmall : GR 30 = g_rSmall := by funext args m; rfl
theorem GR_same : GR 31 = g_same := by funext args m; rfl

theorem beq_self' (b : Bool) : (b == b) = true := by cases b <;> rfl
theorem bytes_law (a k : Nat) (b : Option Addr) (n c : Nat) (xs ad : List Int) (ha : a < W) (hl : xs.length = n) (hn : n ≤ c) (hb : adr b n c) (hx : allB xs) (hk : k < 18446744073709551616) (hd : ad.length = 20) (hda : allB ad) (w : World) (hm : MemOk w [] [.ro b (.ints .u8 xs)] w) :
    Calls Try.prog 7 (cvs [.word a, .sl 0 b 0 0 1 n c, .int .u64 k, .ints .u8 ad]).toArray w (Yes w) := by
  have t1 : (xs.drop 0).take n = xs := by rw [List.drop_zero, List.take_of_length_le (by omega)]
  have t2 : ((bytI a 32).drop 0).take 32 = bytI a 32 := by rw [List.drop_zero, List.take_of_length_le (by rw [bytI_len]; exact Nat.le_refl _)]
  refine Vc.calls T0_ok Try.func7 rfl rfl (args := [.word a, .sl 0 b 0 0 1 n c, .int .u64 k, .ints .u8 ad]) (k := 70) rfl hm ?_; change Vc _ _ (c8 (.word a) (.sl 0 b 0 0 1 n c) (.int .u64 k) (.ints .u8 ad) .undef .undef .undef .undef (c8 .undef .undef .undef .undef .undef .undef .undef .undef (c8 .undef .undef .undef .undef .undef .undef .undef .undef (c8 .undef .undef .undef .undef .undef .undef .undef .undef (c8 .undef .undef .undef .undef .undef .undef .undef .undef (c8 .undef .undef .undef .undef .undef .undef .undef .undef (c8 .undef .undef .undef .undef .undef .undef .undef .undef (c8 .undef .undef .undef .undef .undef .undef .undef .undef (c8 .undef .undef .undef .undef .undef .undef .undef .undef ([.undef, .undef])))))))))) _ _
  ((repeat (first | (with_reducible refine Vc.seq fun N hN => ?_) | (with_reducible refine Vc.block ?_) | ((with_reducible refine Vc.skip ?_); dsimp only [thenK, blockK, Nat.beq]; (first | (refine hN _ _ ?_; clear hN N) | skip)) | ((with_reducible refine Vc.exit ?_); dsimp only [thenK, blockK, Nat.beq]; (first | (refine hN _ _ ?_; clear hN N) | skip)) | (with_reducible intro _) | ((with_reducible refine And.intro ?_ ?_); (focus ((first | with_reducible exact True.intro | ((repeat' apply And.intro) <;> first | with_reducible exact True.intro | with_reducible rfl | with_reducible assumption | omega | (simp only [mod_u8, mod_u16, mod_u32, mod_u64]; omega) | (simp only [List.length_cons, List.length_nil, List.length_replicate, List.length_set]; omega) | (simp; done)))))) | ((first | ((with_reducible refine askT_of ?_ (fun hb => ?_)); (focus ((first | with_reducible exact True.intro | ((repeat' apply And.intro) <;> first | with_reducible exact True.intro | with_reducible rfl | with_reducible assumption | omega | (simp only [mod_u8, mod_u16, mod_u32, mod_u64]; omega) | (simp only [List.length_cons, List.length_nil, List.length_replicate, List.length_set]; omega) | (simp; done))))); (try simp only [hb])) | ((with_reducible refine Vc.fin ?_); dsimp only [thenK, blockK, retK, resS, resOne, resAll]) | ((with_reducible refine Vc.hold ?_); first | refine Vc.regiont T0_ok GR_ok ?_ | refine Vc.drawt (id := 5) T0_ok GR_ok (by kernel_rfl) [0, 2, 1, 3, 4, 5, 6, 8, 7, 9, 10, 11, 12, 13, 15, 14, 16, 17, 18, 19, 20, 21, 22, 23, 24, 25] 26 [] trivial (by kernel_rfl) ?_ | refine Vc.drawt (id := 6) T0_ok GR_ok (by kernel_rfl) [0, 1, 2, 3, 4, 5, 7, 6, 8, 9, 10, 11, 12, 14, 13] 15 [] trivial (by kernel_rfl) ?_)); (try simp only [pickO, nthO, dropO, dOp.eq_def, v8A, v8B, adr_some, adr_nil, true_or, dstOf, Bool.not_true, Bool.not_false, evs, evp, c8g0, c8g1, c8g2, c8g3, c8g4, c8g5, c8g6, c8g7, c8gs, c8s0, c8s1, c8s2, c8s3, c8s4, c8s5, c8s6, c8s7, c8ss, c8hav, c8agr, sget, sset, blen, bpush, bget, bset, Nat.beq, Nat.ble, Nat.blt.eq_def, nth?, tys, takeN, Nat.zero_add, fillS, splice, allOne, ordL, intL, wordL, rowL, sapp, resAll, und, lk, hav, agr, bpre, Int.reduceToNat, Int.reduceLE, Int.reduceLT, Nat.reduceLT, Nat.reduceLeDiff, Nat.reduceAdd, Nat.reduceMul, Nat.reduceSub, Int.reduceAdd, Int.reduceSub, Int.reduceMul, eq_self, decide_true, beq_self_eq_true, List.length_cons, List.length_nil, Nat.min_eq_left, IntKind.bits, ty_3, zc_3, ty_4, zc_4, ty_5, zc_5, ty_9, zc_9, ty_22, zc_22, ty_24, zc_24, zr_24, ty_32, zc_32, ty_34, zc_34, zr_34, ty_45, zc_45, zr_45, ty_46, zc_46, zr_46, ty_53, zc_53, ty_59, zc_59, ty_67, ty_71, zc_71, zr_71, ty_77, zc_77, zr_77, ty_82, GR_lw, g_lw.eq_def, GR_From, g_From.eq_def, GR_rFrom, g_rFrom.eq_def, GR_minus, g_minus.eq_def, GR_known, g_known.eq_def, GR_Small, g_Small.eq_def, GR_neg, g_neg.eq_def, GR_rneg, g_rneg.eq_def, GR_lowByte, g_lowByte.eq_def, GR_Shl, g_Shl.eq_def, GR_Shr, g_Shr.eq_def, GR_Sar, g_Sar.eq_def, GR_Byte, g_Byte.eq_def, GR_Extend, g_Extend.eq_def, GR_Add, g_Add.eq_def, GR_Sub, g_Sub.eq_def, GR_Mul, g_Mul.eq_def, GR_Div, g_Div.eq_def, GR_Sdiv, g_Sdiv.eq_def, GR_AddMod, g_AddMod.eq_def, GR_MulMod, g_MulMod.eq_def, GR_length, g_length.eq_def, GR_Read, g_Read.eq_def, GR_Addr, g_Addr.eq_def, GR_Wide, g_Wide.eq_def, GR_Bytes, g_Bytes.eq_def, GR_rAddr, g_rAddr.eq_def, GR_rRead, g_rRead.eq_def, GR_rWide, g_rWide.eq_def, GR_rBytes, g_rBytes.eq_def, GR_rSmall, g_rSmall.eq_def, GR_same, g_same.eq_def]); (try simp (disch := omega) only [wrap_u8, wrap_u16, wrap_u32, wrap_u64, wrap_i8, wrap_i16, wrap_i32, wrap_i64, tnc])) | ((with_reducible refine hN _ _ ?_); clear hN N; (try simp (disch := omega) only [wrap_u8, wrap_u16, wrap_u32, wrap_u64, wrap_i8, wrap_i16, wrap_i32, wrap_i64, tnc])))); (try ((with_reducible refine Fin.of ?_); (try with_reducible exact True.intro))))
  (refine Vc.cond T0_ok (by rfl) (fun hb => ?_) (fun hb => ?_))
  · clear hb
    ((repeat (first | (with_reducible refine Vc.seq fun N hN => ?_) | (with_reducible refine Vc.block ?_) | ((with_reducible refine Vc.skip ?_); dsimp only [thenK, blockK, Nat.beq]; (first | (refine hN _ _ ?_; clear hN N) | skip)) | ((with_reducible refine Vc.exit ?_); dsimp only [thenK, blockK, Nat.beq]; (first | (refine hN _ _ ?_; clear hN N) | skip)) | (with_reducible intro _) | ((with_reducible refine And.intro ?_ ?_); (focus ((first | with_reducible exact True.intro | ((repeat' apply And.intro) <;> first | with_reducible exact True.intro | with_reducible rfl | with_reducible assumption | omega | (simp only [mod_u8, mod_u16, mod_u32, mod_u64]; omega) | (simp only [List.length_cons, List.length_nil, List.length_replicate, List.length_set]; omega) | (simp; done)))))) | ((first | ((with_reducible refine askT_of ?_ (fun hb => ?_)); (focus ((first | with_reducible exact True.intro | ((repeat' apply And.intro) <;> first | with_reducible exact True.intro | with_reducible rfl | with_reducible assumption | omega | (simp only [mod_u8, mod_u16, mod_u32, mod_u64]; omega) | (simp only [List.length_cons, List.length_nil, List.length_replicate, List.length_set]; omega) | (simp; done))))); (try simp only [hb])) | ((with_reducible refine Vc.fin ?_); dsimp only [thenK, blockK, retK, resS, resOne, resAll]) | ((with_reducible refine Vc.hold ?_); first | refine Vc.regiont T0_ok GR_ok ?_ | refine Vc.drawt (id := 5) T0_ok GR_ok (by kernel_rfl) [0, 2, 1, 3, 4, 5, 6, 8, 7, 9, 10, 11, 12, 13, 15, 14, 16, 17, 18, 19, 20, 21, 22, 23, 24, 25] 26 [] trivial (by kernel_rfl) ?_ | refine Vc.drawt (id := 6) T0_ok GR_ok (by kernel_rfl) [0, 1, 2, 3, 4, 5, 7, 6, 8, 9, 10, 11, 12, 14, 13] 15 [] trivial (by kernel_rfl) ?_)); (try simp only [pickO, nthO, dropO, dOp.eq_def, v8A, v8B, adr_some, adr_nil, true_or, dstOf, Bool.not_true, Bool.not_false, evs, evp, c8g0, c8g1, c8g2, c8g3, c8g4, c8g5, c8g6, c8g7, c8gs, c8s0, c8s1, c8s2, c8s3, c8s4, c8s5, c8s6, c8s7, c8ss, c8hav, c8agr, sget, sset, blen, bpush, bget, bset, Nat.beq, Nat.ble, Nat.blt.eq_def, nth?, tys, takeN, Nat.zero_add, fillS, splice, allOne, ordL, intL, wordL, rowL, sapp, resAll, und, lk, hav, agr, bpre, Int.reduceToNat, Int.reduceLE, Int.reduceLT, Nat.reduceLT, Nat.reduceLeDiff, Nat.reduceAdd, Nat.reduceMul, Nat.reduceSub, Int.reduceAdd, Int.reduceSub, Int.reduceMul, eq_self, decide_true, beq_self_eq_true, List.length_cons, List.length_nil, Nat.min_eq_left, IntKind.bits, ty_3, zc_3, ty_4, zc_4, ty_5, zc_5, ty_9, zc_9, ty_22, zc_22, ty_24, zc_24, zr_24, ty_32, zc_32, ty_34, zc_34, zr_34, ty_45, zc_45, zr_45, ty_46, zc_46, zr_46, ty_53, zc_53, ty_59, zc_59, ty_67, ty_71, zc_71, zr_71, ty_77, zc_77, zr_77, ty_82, GR_lw, g_lw.eq_def, GR_From, g_From.eq_def, GR_rFrom, g_rFrom.eq_def, GR_minus, g_minus.eq_def, GR_known, g_known.eq_def, GR_Small, g_Small.eq_def, GR_neg, g_neg.eq_def, GR_rneg, g_rneg.eq_def, GR_lowByte, g_lowByte.eq_def, GR_Shl, g_Shl.eq_def, GR_Shr, g_Shr.eq_def, GR_Sar, g_Sar.eq_def, GR_Byte, g_Byte.eq_def, GR_Extend, g_Extend.eq_def, GR_Add, g_Add.eq_def, GR_Sub, g_Sub.eq_def, GR_Mul, g_Mul.eq_def, GR_Div, g_Div.eq_def, GR_Sdiv, g_Sdiv.eq_def, GR_AddMod, g_AddMod.eq_def, GR_MulMod, g_MulMod.eq_def, GR_length, g_length.eq_def, GR_Read, g_Read.eq_def, GR_Addr, g_Addr.eq_def, GR_Wide, g_Wide.eq_def, GR_Bytes, g_Bytes.eq_def, GR_rAddr, g_rAddr.eq_def, GR_rRead, g_rRead.eq_def, GR_rWide, g_rWide.eq_def, GR_rBytes, g_rBytes.eq_def, GR_rSmall, g_rSmall.eq_def, GR_same, g_same.eq_def]); (try simp (disch := omega) only [wrap_u8, wrap_u16, wrap_u32, wrap_u64, wrap_i8, wrap_i16, wrap_i32, wrap_i64, tnc])) | ((with_reducible refine hN _ _ ?_); clear hN N; (try simp (disch := omega) only [wrap_u8, wrap_u16, wrap_u32, wrap_u64, wrap_i8, wrap_i16, wrap_i32, wrap_i64, tnc])))); (try ((with_reducible refine Fin.of ?_); (try with_reducible exact True.intro))))
    exact ⟨trivial, trivial⟩
  · have hn2 := of_decide_eq_false hb
    ((repeat (first | (with_reducible refine Vc.seq fun N hN => ?_) | (with_reducible refine Vc.block ?_) | ((with_reducible refine Vc.skip ?_); dsimp only [thenK, blockK, Nat.beq]; (first | (refine hN _ _ ?_; clear hN N) | skip)) | ((with_reducible refine Vc.exit ?_); dsimp only [thenK, blockK, Nat.beq]; (first | (refine hN _ _ ?_; clear hN N) | skip)) | (with_reducible intro _) | ((with_reducible refine And.intro ?_ ?_); (focus (first | ((repeat' with_reducible apply And.intro) <;> first | with_reducible exact True.intro | with_reducible assumption | with_reducible rfl | with_reducible exact eqW_of rfl | (rw [t1]; assumption) | (rw [t2]; exact bytI_all _ _) | exact Nat.le_of_eq (bytI_len _ _).symm | exact bytI_len _ _ | with_reducible exact beq_self' _ | exact decide_eq_true rfl | omega) | (first | with_reducible exact True.intro | ((repeat' apply And.intro) <;> first | with_reducible exact True.intro | with_reducible rfl | with_reducible assumption | omega | (simp only [mod_u8, mod_u16, mod_u32, mod_u64]; omega) | (simp only [List.length_cons, List.length_nil, List.length_replicate, List.length_set]; omega) | (simp; done)))))) | ((first | ((with_reducible refine askT_of ?_ (fun hb => ?_)); (focus (first | ((repeat' with_reducible apply And.intro) <;> first | with_reducible exact True.intro | with_reducible assumption | with_reducible rfl | with_reducible exact eqW_of rfl | (rw [t1]; assumption) | (rw [t2]; exact bytI_all _ _) | exact Nat.le_of_eq (bytI_len _ _).symm | exact bytI_len _ _ | with_reducible exact beq_self' _ | exact decide_eq_true rfl | omega) | (first | with_reducible exact True.intro | ((repeat' apply And.intro) <;> first | with_reducible exact True.intro | with_reducible rfl | with_reducible assumption | omega | (simp only [mod_u8, mod_u16, mod_u32, mod_u64]; omega) | (simp only [List.length_cons, List.length_nil, List.length_replicate, List.length_set]; omega) | (simp; done))))); (try simp only [hb])) | ((with_reducible refine Vc.fin ?_); dsimp only [thenK, blockK, retK, resS, resOne, resAll]) | ((with_reducible refine Vc.hold ?_); first | refine Vc.regiont T0_ok GR_ok ?_ | refine Vc.drawt (id := 5) T0_ok GR_ok (by kernel_rfl) [0, 2, 1, 3, 4, 5, 6, 8, 7, 9, 10, 11, 12, 13, 15, 14, 16, 17, 18, 19, 20, 21, 22, 23, 24, 25] 26 [] trivial (by kernel_rfl) ?_ | refine Vc.drawt (id := 6) T0_ok GR_ok (by kernel_rfl) [0, 1, 2, 3, 4, 5, 7, 6, 8, 9, 10, 11, 12, 14, 13] 15 [] trivial (by kernel_rfl) ?_)); (try simp only [pickO, nthO, dropO, dOp.eq_def, v8A, v8B, adr_some, adr_nil, true_or, dstOf, Bool.not_true, Bool.not_false, evs, evp, c8g0, c8g1, c8g2, c8g3, c8g4, c8g5, c8g6, c8g7, c8gs, c8s0, c8s1, c8s2, c8s3, c8s4, c8s5, c8s6, c8s7, c8ss, c8hav, c8agr, sget, sset, blen, bpush, bget, bset, Nat.beq, Nat.ble, Nat.blt.eq_def, nth?, tys, takeN, Nat.zero_add, fillS, splice, allOne, ordL, intL, wordL, rowL, sapp, resAll, und, lk, hav, agr, bpre, Int.reduceToNat, Int.reduceLE, Int.reduceLT, Nat.reduceLT, Nat.reduceLeDiff, Nat.reduceAdd, Nat.reduceMul, Nat.reduceSub, Int.reduceAdd, Int.reduceSub, Int.reduceMul, eq_self, decide_true, beq_self_eq_true, List.length_cons, List.length_nil, Nat.min_eq_left, IntKind.bits, ty_3, zc_3, ty_4, zc_4, ty_5, zc_5, ty_9, zc_9, ty_22, zc_22, ty_24, zc_24, zr_24, ty_32, zc_32, ty_34, zc_34, zr_34, ty_45, zc_45, zr_45, ty_46, zc_46, zr_46, ty_53, zc_53, ty_59, zc_59, ty_67, ty_71, zc_71, zr_71, ty_77, zc_77, zr_77, ty_82, GR_lw, g_lw.eq_def, GR_From, g_From.eq_def, GR_rFrom, g_rFrom.eq_def, GR_minus, g_minus.eq_def, GR_known, g_known.eq_def, GR_Small, g_Small.eq_def, GR_neg, g_neg.eq_def, GR_rneg, g_rneg.eq_def, GR_lowByte, g_lowByte.eq_def, GR_Shl, g_Shl.eq_def, GR_Shr, g_Shr.eq_def, GR_Sar, g_Sar.eq_def, GR_Byte, g_Byte.eq_def, GR_Extend, g_Extend.eq_def, GR_Add, g_Add.eq_def, GR_Sub, g_Sub.eq_def, GR_Mul, g_Mul.eq_def, GR_Div, g_Div.eq_def, GR_Sdiv, g_Sdiv.eq_def, GR_AddMod, g_AddMod.eq_def, GR_MulMod, g_MulMod.eq_def, GR_length, g_length.eq_def, GR_Read, g_Read.eq_def, GR_Addr, g_Addr.eq_def, GR_Wide, g_Wide.eq_def, GR_Bytes, g_Bytes.eq_def, GR_rAddr, g_rAddr.eq_def, GR_rRead, g_rRead.eq_def, GR_rWide, g_rWide.eq_def, GR_rBytes, g_rBytes.eq_def, GR_rSmall, g_rSmall.eq_def, GR_same, g_same.eq_def]); (try simp (disch := omega) only [wrap_u8, wrap_u16, wrap_u32, wrap_u64, wrap_i8, wrap_i16, wrap_i32, wrap_i64, tnc])) | ((with_reducible refine hN _ _ ?_); clear hN N; (try simp (disch := omega) only [wrap_u8, wrap_u16, wrap_u32, wrap_u64, wrap_i8, wrap_i16, wrap_i32, wrap_i64, tnc])))); (try ((with_reducible refine Fin.of ?_); (try with_reducible exact True.intro))))
    exact ⟨trivial, congrArg SV.bool (eqW_of rfl)⟩
end Go.Proofs.Ytgmlabdcfbeijaa
