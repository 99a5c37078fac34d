/-
  The document's answers for words (quaestorref01), walked: Neg, Sub, Scmp, bit; their table.
-/
import Derived.Test.YtgmlabdcfbeijaaR2
import Derived.Test.YtgmlabdcfbeijaaX1
namespace Go.Proofs.Ytgmlabdcfbeijaa
set_option linter.unusedSimpArgs false
set_option linter.unusedVariables false
set_option maxHeartbeats 4000000
open Go.RowKit
def g_rAdd (args : List SV) (_m : List Blk) : CR := match args with | [.word a, .word b] => .pure (a < W ∧ b < W) (.tup [.word (addN a b), .bool (addB a b)]) | _ => .none
theorem g_rAdd_ok (w0 : World) (B : List Nat) (args : List SV) (m : List Blk) : CROk Try.prog w0 B 75 args m (g_rAdd args m) := by
  unfold g_rAdd; split
  · rename_i a b; exact fun h w _ => calls_pure Try.func75 rfl rfl (radd_vc a b h.1 h.2 w)
  · exact trivial
def g_rnot (args : List SV) (_m : List Blk) : CR := match args with | [.word a] => .pure (a < W) (.word (W - 1 - a)) | _ => .none
theorem g_rnot_ok (w0 : World) (B : List Nat) (args : List SV) (m : List Blk) : CROk Try.prog w0 B 77 args m (g_rnot args m) := by
  unfold g_rnot; split
  · rename_i a; exact fun h w _ => calls_pure Try.func77 rfl rfl (rnot_vc a h w)
  · exact trivial
def g_rCmp (args : List SV) (_m : List Blk) : CR := match args with | [.word a, .word b] => .pure (a < W ∧ b < W) (.int .i64 (cmpI a b)) | _ => .none
theorem g_rCmp_ok (w0 : World) (B : List Nat) (args : List SV) (m : List Blk) : CROk Try.prog w0 B 46 args m (g_rCmp args m) := by
  unfold g_rCmp; split
  · rename_i a b; exact fun h w _ => calls_pure Try.func46 rfl rfl (cmp_vc a b h.1 h.2 w)
  · exact trivial
def G6 : Ctr := fun f args m => match f with
  | 37 => g_lw args m
  | 36 => g_From args m
  | 60 => g_rFrom args m
  | 54 => g_minus args m
  | 12 => g_known args m
  | 29 => g_Small args m
  | 50 => g_neg args m
  | 52 => g_rneg args m
  | 72 => g_lowByte args m
  | 21 => g_Shl args m
  | 23 => g_Shr args m
  | 25 => g_Sar args m
  | 27 => g_Byte args m
  | 19 => g_Extend args m
  | 55 => g_Add args m
  | 49 => g_Sub args m
  | 59 => g_Mul args m
  | 8 => g_Div args m
  | 10 => g_Sdiv args m
  | 13 => g_AddMod args m
  | 15 => g_MulMod args m
  | 58 => g_length args m
  | 34 => g_Read args m
  | 38 => g_Addr args m
  | 40 => g_Wide args m
  | 32 => g_Bytes args m
  | 75 => g_rAdd args m
  | 77 => g_rnot args m
  | 46 => g_rCmp args m
  | _ => .none
theorem G6_ok : GOk Try.prog G6 := by
  intro w0 B f args m; unfold G6; split
  · exact g_lw_ok _ _ _ _
  · exact g_From_ok _ _ _ _
  · exact g_rFrom_ok _ _ _ _
  · exact g_minus_ok _ _ _ _
  · exact g_known_ok _ _ _ _
  · exact g_Small_ok _ _ _ _
  · exact g_neg_ok _ _ _ _
  · exact g_rneg_ok _ _ _ _
  · exact g_lowByte_ok _ _ _ _
  · exact g_Shl_ok _ _ _ _
  · exact g_Shr_ok _ _ _ _
  · exact g_Sar_ok _ _ _ _
  · exact g_Byte_ok _ _ _ _
  · exact g_Extend_ok _ _ _ _
  · exact g_Add_ok _ _ _ _
  · exact g_Sub_ok _ _ _ _
  · exact g_Mul_ok _ _ _ _
  · exact g_Div_ok _ _ _ _
  · exact g_Sdiv_ok _ _ _ _
  · exact g_AddMod_ok _ _ _ _
  · exact g_MulMod_ok _ _ _ _
  · exact g_length_ok _ _ _ _
  · exact g_Read_ok _ _ _ _
  · exact g_Addr_ok _ _ _ _
  · exact g_Wide_ok _ _ _ _
  · exact g_Bytes_ok _ _ _ _
  · exact g_rAdd_ok _ _ _ _
  · exact g_rnot_ok _ _ _ _
  · exact g_rCmp_ok _ _ _ _
  · exact trivial
theorem G6_lw : G6 37 = g_lw := by funext args m; rfl
theorem G6_From : G6 36 = g_From := by funext args m; rfl
theorem G6_rFrom : G6 60 = g_rFrom := by funext args m; rfl
theorem G6_minus : G6 54 = g_minus := by funext args m; rfl
theorem G6_known : G6 12 = g_known := by funext args m; rfl
theorem G6_Small : G6 29 = g_Small := by funext args m; rfl
theorem G6_neg : G6 50 = g_neg := by funext args m; rfl
theorem G6_rneg : G6 52 = g_rneg := by funext args m; rfl
theorem G6_lowByte : G6 72 = g_lowByte := by funext args m; rfl
theorem G6_Shl : G6 21 = g_Shl := by funext args m; rfl
theorem G6_Shr : G6 23 = g_Shr := by funext args m; rfl
theorem G6_Sar : G6 25 = g_Sar := by funext args m; rfl
theorem G6_Byte : G6 27 = g_Byte := by funext args m; rfl
theorem G6_Extend : G6 19 = g_Extend := by funext args m; rfl
theorem G6_Add : G6 55 = g_Add := by funext args m; rfl
theorem G6_Sub : G6 49 = g_Sub := by funext args m; rfl
theorem G6_Mul : G6 59 = g_Mul := by funext args m; rfl
theorem G6_Div : G6 8 = g_Div := by funext args m; rfl
theorem G6_Sdiv : G6 10 = g_Sdiv := by funext args m; rfl
theorem G6_AddMod : G6 13 = g_AddMod := by funext args m; rfl
theorem G6_MulMod : G6 15 = g_MulMod := by funext args m; rfl
theorem G6_length : G6 58 = g_length := by funext args m; rfl
theorem G6_Read : G6 34 = g_Read := by funext args m; rfl
theorem G6_Addr : G6 38 = g_Addr := by funext args m; rfl
theorem G6_Wide : G6 40 = g_Wide := by funext args m; rfl
theorem G6_Bytes : G6 32 = g_Bytes := by funext args m; rfl
theorem G6_rAdd : G6 75 = g_rAdd := by funext args m; rfl
theorem G6_rnot : G6 77 = g_rnot := by funext args m; rfl
theorem G6_rCmp : G6 46 = g_rCmp := by funext args m; rfl

theorem neg_num {a : Nat} (ha : a < W) : addN (W - 1 - a) 1 = subN 0 a := by
  unfold addN subN
  rw [show W - 1 - a + 1 = 0 + W - a by omega]
theorem rNeg_vc (a : Nat) (ha : a < W) (w : World) : Calls Try.prog 53 (cvs [.word a]).toArray w (fun en w' => ∃ u, en = .returned u ∧ ∃ v m', u = cv v ∧ MemOk w [] m' w' ∧ v = .word (subN 0 a)) := by
  have h1 : 1 < W := by decide
  have h2 : W - 1 - a < W := by omega
  refine Vc.calls T0_ok Try.func53 rfl rfl (args := [.word a]) (k := 12) rfl (MemOk.start _) ?_; change Vc _ _ (c8 (.word a) .undef .undef .undef .undef .undef .undef .undef ([.undef, .undef, .undef, .undef, .undef])) _ _
  ((repeat (first | (with_reducible refine Vc.seq fun N hN => ?_) | (with_reducible refine Vc.block ?_) | ((with_reducible refine Vc.skip ?_); dsimp only [thenK, blockK, Nat.beq]; (first | (refine hN _ _ ?_; clear hN N) | skip)) | ((with_reducible refine Vc.exit ?_); dsimp only [thenK, blockK, Nat.beq]; (first | (refine hN _ _ ?_; clear hN N) | skip)) | (with_reducible intro _) | ((with_reducible refine And.intro ?_ ?_); (focus (first | ((repeat' with_reducible apply And.intro) <;> first | with_reducible exact True.intro | with_reducible assumption | omega) | (first | with_reducible exact True.intro | ((repeat' apply And.intro) <;> first | with_reducible exact True.intro | with_reducible rfl | with_reducible assumption | omega | (simp only [mod_u8, mod_u16, mod_u32, mod_u64]; omega) | (simp only [List.length_cons, List.length_nil, List.length_replicate, List.length_set]; omega) | (simp; done)))))) | ((first | ((with_reducible refine askT_of ?_ (fun hb => ?_)); (focus (first | ((repeat' with_reducible apply And.intro) <;> first | with_reducible exact True.intro | with_reducible assumption | omega) | (first | with_reducible exact True.intro | ((repeat' apply And.intro) <;> first | with_reducible exact True.intro | with_reducible rfl | with_reducible assumption | omega | (simp only [mod_u8, mod_u16, mod_u32, mod_u64]; omega) | (simp only [List.length_cons, List.length_nil, List.length_replicate, List.length_set]; omega) | (simp; done))))); (try simp only [hb])) | ((with_reducible refine Vc.fin ?_); dsimp only [thenK, blockK, retK, resS, resOne, resAll]) | ((with_reducible refine Vc.hold ?_); first | refine Vc.regiont T0_ok G6_ok ?_)); (try simp only [pickO, nthO, dropO, dOp.eq_def, v8A, v8B, adr_some, adr_nil, true_or, dstOf, Bool.not_true, Bool.not_false, evs, evp, c8g0, c8g1, c8g2, c8g3, c8g4, c8g5, c8g6, c8g7, c8gs, c8s0, c8s1, c8s2, c8s3, c8s4, c8s5, c8s6, c8s7, c8ss, c8hav, c8agr, sget, sset, blen, bpush, bget, bset, Nat.beq, Nat.ble, Nat.blt.eq_def, nth?, tys, takeN, Nat.zero_add, fillS, splice, allOne, ordL, intL, wordL, rowL, sapp, resAll, und, lk, hav, agr, bpre, Int.reduceToNat, Int.reduceLE, Int.reduceLT, Nat.reduceLT, Nat.reduceLeDiff, Nat.reduceAdd, Nat.reduceMul, Nat.reduceSub, Int.reduceAdd, Int.reduceSub, Int.reduceMul, eq_self, decide_true, beq_self_eq_true, List.length_cons, List.length_nil, Nat.min_eq_left, IntKind.bits, ty_3, zc_3, ty_4, zc_4, ty_5, zc_5, ty_9, zc_9, ty_22, zc_22, ty_24, zc_24, zr_24, ty_32, zc_32, ty_34, zc_34, zr_34, ty_45, zc_45, zr_45, ty_46, zc_46, zr_46, ty_53, zc_53, ty_59, zc_59, ty_67, ty_71, zc_71, zr_71, ty_77, zc_77, zr_77, ty_82, G6_lw, g_lw.eq_def, G6_From, g_From.eq_def, G6_rFrom, g_rFrom.eq_def, G6_minus, g_minus.eq_def, G6_known, g_known.eq_def, G6_Small, g_Small.eq_def, G6_neg, g_neg.eq_def, G6_rneg, g_rneg.eq_def, G6_lowByte, g_lowByte.eq_def, G6_Shl, g_Shl.eq_def, G6_Shr, g_Shr.eq_def, G6_Sar, g_Sar.eq_def, G6_Byte, g_Byte.eq_def, G6_Extend, g_Extend.eq_def, G6_Add, g_Add.eq_def, G6_Sub, g_Sub.eq_def, G6_Mul, g_Mul.eq_def, G6_Div, g_Div.eq_def, G6_Sdiv, g_Sdiv.eq_def, G6_AddMod, g_AddMod.eq_def, G6_MulMod, g_MulMod.eq_def, G6_length, g_length.eq_def, G6_Read, g_Read.eq_def, G6_Addr, g_Addr.eq_def, G6_Wide, g_Wide.eq_def, G6_Bytes, g_Bytes.eq_def, G6_rAdd, g_rAdd.eq_def, G6_rnot, g_rnot.eq_def, G6_rCmp, g_rCmp.eq_def]); (try simp (disch := omega) only [wrap_u8, wrap_u16, wrap_u32, wrap_u64, wrap_i8, wrap_i16, wrap_i32, wrap_i64, tnc])) | ((with_reducible refine hN _ _ ?_); clear hN N; (try simp (disch := omega) only [wrap_u8, wrap_u16, wrap_u32, wrap_u64, wrap_i8, wrap_i16, wrap_i32, wrap_i64, tnc])))); (try ((with_reducible refine Fin.of ?_); (try with_reducible exact True.intro))))
  ((try simp only [v8A, v8B, adr_some, adr_nil, true_or, dstOf, Bool.not_true, Bool.not_false, evs, evp, c8g0, c8g1, c8g2, c8g3, c8g4, c8g5, c8g6, c8g7, c8gs, c8s0, c8s1, c8s2, c8s3, c8s4, c8s5, c8s6, c8s7, c8ss, c8hav, c8agr, sget, sset, blen, bpush, bget, bset, Nat.beq, Nat.ble, Nat.blt.eq_def, nth?, tys, takeN, Nat.zero_add, fillS, splice, allOne, ordL, intL, wordL, rowL, sapp, resAll, und, lk, hav, agr, bpre, Int.reduceToNat, Int.reduceLE, Int.reduceLT, Nat.reduceLT, Nat.reduceLeDiff, Nat.reduceAdd, Nat.reduceMul, Nat.reduceSub, Int.reduceAdd, Int.reduceSub, Int.reduceMul, eq_self, decide_true, beq_self_eq_true, List.length_cons, List.length_nil, Nat.min_eq_left, IntKind.bits, ty_3, zc_3, ty_4, zc_4, ty_5, zc_5, ty_9, zc_9, ty_22, zc_22, ty_24, zc_24, zr_24, ty_32, zc_32, ty_34, zc_34, zr_34, ty_45, zc_45, zr_45, ty_46, zc_46, zr_46, ty_53, zc_53, ty_59, zc_59, ty_67, ty_71, zc_71, zr_71, ty_77, zc_77, zr_77, ty_82]); (repeat' apply And.intro) <;> first | trivial | with_reducible rfl | (congr 1; omega) | rw [neg_num ha])
def g_rNeg (args : List SV) (_m : List Blk) : CR := match args with | [.word a] => .pure (a < W) (.word (subN 0 a)) | _ => .none
theorem g_rNeg_ok (w0 : World) (B : List Nat) (args : List SV) (m : List Blk) : CROk Try.prog w0 B 53 args m (g_rNeg args m) := by
  unfold g_rNeg; split
  · rename_i a; exact fun h w _ => calls_pure Try.func53 rfl rfl (rNeg_vc a h w)
  · exact trivial
def G7 : Ctr := fun f args m => match f with
  | 37 => g_lw args m
  | 36 => g_From args m
  | 60 => g_rFrom args m
  | 54 => g_minus args m
  | 12 => g_known args m
  | 29 => g_Small args m
  | 50 => g_neg args m
  | 52 => g_rneg args m
  | 72 => g_lowByte args m
  | 21 => g_Shl args m
  | 23 => g_Shr args m
  | 25 => g_Sar args m
  | 27 => g_Byte args m
  | 19 => g_Extend args m
  | 55 => g_Add args m
  | 49 => g_Sub args m
  | 59 => g_Mul args m
  | 8 => g_Div args m
  | 10 => g_Sdiv args m
  | 13 => g_AddMod args m
  | 15 => g_MulMod args m
  | 58 => g_length args m
  | 34 => g_Read args m
  | 38 => g_Addr args m
  | 40 => g_Wide args m
  | 32 => g_Bytes args m
  | 75 => g_rAdd args m
  | 77 => g_rnot args m
  | 46 => g_rCmp args m
  | 53 => g_rNeg args m
  | _ => .none
theorem G7_ok : GOk Try.prog G7 := by
  intro w0 B f args m; unfold G7; split
  · exact g_lw_ok _ _ _ _
  · exact g_From_ok _ _ _ _
  · exact g_rFrom_ok _ _ _ _
  · exact g_minus_ok _ _ _ _
  · exact g_known_ok _ _ _ _
  · exact g_Small_ok _ _ _ _
  · exact g_neg_ok _ _ _ _
  · exact g_rneg_ok _ _ _ _
  · exact g_lowByte_ok _ _ _ _
  · exact g_Shl_ok _ _ _ _
  · exact g_Shr_ok _ _ _ _
  · exact g_Sar_ok _ _ _ _
  · exact g_Byte_ok _ _ _ _
  · exact g_Extend_ok _ _ _ _
  · exact g_Add_ok _ _ _ _
  · exact g_Sub_ok _ _ _ _
  · exact g_Mul_ok _ _ _ _
  · exact g_Div_ok _ _ _ _
  · exact g_Sdiv_ok _ _ _ _
  · exact g_AddMod_ok _ _ _ _
  · exact g_MulMod_ok _ _ _ _
  · exact g_length_ok _ _ _ _
  · exact g_Read_ok _ _ _ _
  · exact g_Addr_ok _ _ _ _
  · exact g_Wide_ok _ _ _ _
  · exact g_Bytes_ok _ _ _ _
  · exact g_rAdd_ok _ _ _ _
  · exact g_rnot_ok _ _ _ _
  · exact g_rCmp_ok _ _ _ _
  · exact g_rNeg_ok _ _ _ _
  · exact trivial
theorem G7_lw : G7 37 = g_lw := by funext args m; rfl
theorem G7_From : G7 36 = g_From := by funext args m; rfl
theorem G7_rFrom : G7 60 = g_rFrom := by funext args m; rfl
theorem G7_minus : G7 54 = g_minus := by funext args m; rfl
theorem G7_known : G7 12 = g_known := by funext args m; rfl
theorem G7_Small : G7 29 = g_Small := by funext args m; rfl
theorem G7_neg : G7 50 = g_neg := by funext args m; rfl
theorem G7_rneg : G7 52 = g_rneg := by funext args m; rfl
theorem G7_lowByte : G7 72 = g_lowByte := by funext args m; rfl
theorem G7_Shl : G7 21 = g_Shl := by funext args m; rfl
theorem G7_Shr : G7 23 = g_Shr := by funext args m; rfl
theorem G7_Sar : G7 25 = g_Sar := by funext args m; rfl
theorem G7_Byte : G7 27 = g_Byte := by funext args m; rfl
theorem G7_Extend : G7 19 = g_Extend := by funext args m; rfl
theorem G7_Add : G7 55 = g_Add := by funext args m; rfl
theorem G7_Sub : G7 49 = g_Sub := by funext args m; rfl
theorem G7_Mul : G7 59 = g_Mul := by funext args m; rfl
theorem G7_Div : G7 8 = g_Div := by funext args m; rfl
theorem G7_Sdiv : G7 10 = g_Sdiv := by funext args m; rfl
theorem G7_AddMod : G7 13 = g_AddMod := by funext args m; rfl
theorem G7_MulMod : G7 15 = g_MulMod := by funext args m; rfl
theorem G7_length : G7 58 = g_length := by funext args m; rfl
theorem G7_Read : G7 34 = g_Read := by funext args m; rfl
theorem G7_Addr : G7 38 = g_Addr := by funext args m; rfl
theorem G7_Wide : G7 40 = g_Wide := by funext args m; rfl
theorem G7_Bytes : G7 32 = g_Bytes := by funext args m; rfl
theorem G7_rAdd : G7 75 = g_rAdd := by funext args m; rfl
theorem G7_rnot : G7 77 = g_rnot := by funext args m; rfl
theorem G7_rCmp : G7 46 = g_rCmp := by funext args m; rfl
theorem G7_rNeg : G7 53 = g_rNeg := by funext args m; rfl

theorem sub_num2 {a b : Nat} (ha : a < W) (hb : b < W) : addN a (subN 0 b) = subN a b := by
  unfold addN subN
  rw [Nat.add_mod_mod]
  congr 1; omega
theorem cmp_lt (a b : Nat) : decide (cmpI a b < 0) = subB a b := by
  unfold cmpI subB
  by_cases h : a = b
  · subst h; simp
  · by_cases h2 : a < b
    · rw [if_neg h, if_pos h2]; simp [h2]
    · rw [if_neg h, if_neg h2]; simp [h2]
theorem rSub_vc (a b : Nat) (ha : a < W) (hb : b < W) (w : World) : Calls Try.prog 47 (cvs [.word a, .word b]).toArray w (fun en w' => ∃ u, en = .returned u ∧ ∃ v m', u = cv v ∧ MemOk w [] m' w' ∧ v = .tup [.word (subN a b), .bool (subB a b)]) := by
  refine Vc.calls T0_ok Try.func47 rfl rfl (args := [.word a, .word b]) (k := 18) rfl (MemOk.start _) ?_; change Vc _ _ (c8 (.word a) (.word b) .undef .undef .undef .undef .undef .undef (c8 .undef .undef .undef .undef .undef .undef .undef .undef ([.undef, .undef, .undef, .undef]))) _ _
  ((repeat (first | (with_reducible refine Vc.seq fun N hN => ?_) | (with_reducible refine Vc.block ?_) | ((with_reducible refine Vc.skip ?_); dsimp only [thenK, blockK, Nat.beq]; (first | (refine hN _ _ ?_; clear hN N) | skip)) | ((with_reducible refine Vc.exit ?_); dsimp only [thenK, blockK, Nat.beq]; (first | (refine hN _ _ ?_; clear hN N) | skip)) | (with_reducible intro _) | ((with_reducible refine And.intro ?_ ?_); (focus (first | ((repeat' with_reducible apply And.intro) <;> first | with_reducible exact True.intro | with_reducible assumption | with_reducible exact subN_lt _ _ | omega) | (first | with_reducible exact True.intro | ((repeat' apply And.intro) <;> first | with_reducible exact True.intro | with_reducible rfl | with_reducible assumption | omega | (simp only [mod_u8, mod_u16, mod_u32, mod_u64]; omega) | (simp only [List.length_cons, List.length_nil, List.length_replicate, List.length_set]; omega) | (simp; done)))))) | ((first | ((with_reducible refine askT_of ?_ (fun hb => ?_)); (focus (first | ((repeat' with_reducible apply And.intro) <;> first | with_reducible exact True.intro | with_reducible assumption | with_reducible exact subN_lt _ _ | omega) | (first | with_reducible exact True.intro | ((repeat' apply And.intro) <;> first | with_reducible exact True.intro | with_reducible rfl | with_reducible assumption | omega | (simp only [mod_u8, mod_u16, mod_u32, mod_u64]; omega) | (simp only [List.length_cons, List.length_nil, List.length_replicate, List.length_set]; omega) | (simp; done))))); (try simp only [hb])) | ((with_reducible refine Vc.fin ?_); dsimp only [thenK, blockK, retK, resS, resOne, resAll]) | ((with_reducible refine Vc.hold ?_); first | refine Vc.regiont T0_ok G7_ok ?_ | refine Vc.drawt (id := 1) T0_ok G7_ok (by kernel_rfl) [0, 1, 2, 3, 4, 5, 6] 8 [⟨7, 6, 24, _⟩] ⟨⟨⟨_, _, rfl⟩, zc_24⟩, trivial⟩ (by kernel_rfl) ?_ | refine Vc.drawt (id := 2) T0_ok G7_ok (by kernel_rfl) [0, 1, 2, 3, 4] 5 [] trivial (by kernel_rfl) ?_)); (try simp only [pickO, nthO, dropO, dOp.eq_def, v8A, v8B, adr_some, adr_nil, true_or, dstOf, Bool.not_true, Bool.not_false, evs, evp, c8g0, c8g1, c8g2, c8g3, c8g4, c8g5, c8g6, c8g7, c8gs, c8s0, c8s1, c8s2, c8s3, c8s4, c8s5, c8s6, c8s7, c8ss, c8hav, c8agr, sget, sset, blen, bpush, bget, bset, Nat.beq, Nat.ble, Nat.blt.eq_def, nth?, tys, takeN, Nat.zero_add, fillS, splice, allOne, ordL, intL, wordL, rowL, sapp, resAll, und, lk, hav, agr, bpre, Int.reduceToNat, Int.reduceLE, Int.reduceLT, Nat.reduceLT, Nat.reduceLeDiff, Nat.reduceAdd, Nat.reduceMul, Nat.reduceSub, Int.reduceAdd, Int.reduceSub, Int.reduceMul, eq_self, decide_true, beq_self_eq_true, List.length_cons, List.length_nil, Nat.min_eq_left, IntKind.bits, ty_3, zc_3, ty_4, zc_4, ty_5, zc_5, ty_9, zc_9, ty_22, zc_22, ty_24, zc_24, zr_24, ty_32, zc_32, ty_34, zc_34, zr_34, ty_45, zc_45, zr_45, ty_46, zc_46, zr_46, ty_53, zc_53, ty_59, zc_59, ty_67, ty_71, zc_71, zr_71, ty_77, zc_77, zr_77, ty_82, G7_lw, g_lw.eq_def, G7_From, g_From.eq_def, G7_rFrom, g_rFrom.eq_def, G7_minus, g_minus.eq_def, G7_known, g_known.eq_def, G7_Small, g_Small.eq_def, G7_neg, g_neg.eq_def, G7_rneg, g_rneg.eq_def, G7_lowByte, g_lowByte.eq_def, G7_Shl, g_Shl.eq_def, G7_Shr, g_Shr.eq_def, G7_Sar, g_Sar.eq_def, G7_Byte, g_Byte.eq_def, G7_Extend, g_Extend.eq_def, G7_Add, g_Add.eq_def, G7_Sub, g_Sub.eq_def, G7_Mul, g_Mul.eq_def, G7_Div, g_Div.eq_def, G7_Sdiv, g_Sdiv.eq_def, G7_AddMod, g_AddMod.eq_def, G7_MulMod, g_MulMod.eq_def, G7_length, g_length.eq_def, G7_Read, g_Read.eq_def, G7_Addr, g_Addr.eq_def, G7_Wide, g_Wide.eq_def, G7_Bytes, g_Bytes.eq_def, G7_rAdd, g_rAdd.eq_def, G7_rnot, g_rnot.eq_def, G7_rCmp, g_rCmp.eq_def, G7_rNeg, g_rNeg.eq_def]); (try simp (disch := omega) only [wrap_u8, wrap_u16, wrap_u32, wrap_u64, wrap_i8, wrap_i16, wrap_i32, wrap_i64, tnc])) | ((with_reducible refine hN _ _ ?_); clear hN N; (try simp (disch := omega) only [wrap_u8, wrap_u16, wrap_u32, wrap_u64, wrap_i8, wrap_i16, wrap_i32, wrap_i64, tnc])))); (try ((with_reducible refine Fin.of ?_); (try with_reducible exact True.intro))))
  ((try simp only [v8A, v8B, adr_some, adr_nil, true_or, dstOf, Bool.not_true, Bool.not_false, evs, evp, c8g0, c8g1, c8g2, c8g3, c8g4, c8g5, c8g6, c8g7, c8gs, c8s0, c8s1, c8s2, c8s3, c8s4, c8s5, c8s6, c8s7, c8ss, c8hav, c8agr, sget, sset, blen, bpush, bget, bset, Nat.beq, Nat.ble, Nat.blt.eq_def, nth?, tys, takeN, Nat.zero_add, fillS, splice, allOne, ordL, intL, wordL, rowL, sapp, resAll, und, lk, hav, agr, bpre, Int.reduceToNat, Int.reduceLE, Int.reduceLT, Nat.reduceLT, Nat.reduceLeDiff, Nat.reduceAdd, Nat.reduceMul, Nat.reduceSub, Int.reduceAdd, Int.reduceSub, Int.reduceMul, eq_self, decide_true, beq_self_eq_true, List.length_cons, List.length_nil, Nat.min_eq_left, IntKind.bits, ty_3, zc_3, ty_4, zc_4, ty_5, zc_5, ty_9, zc_9, ty_22, zc_22, ty_24, zc_24, zr_24, ty_32, zc_32, ty_34, zc_34, zr_34, ty_45, zc_45, zr_45, ty_46, zc_46, zr_46, ty_53, zc_53, ty_59, zc_59, ty_67, ty_71, zc_71, zr_71, ty_77, zc_77, zr_77, ty_82]); (repeat' apply And.intro) <;> first | trivial | with_reducible rfl | (congr 1; omega) | rw [sub_num2 ha hb, cmp_lt])
def g_rSub (args : List SV) (_m : List Blk) : CR := match args with | [.word a, .word b] => .pure (a < W ∧ b < W) (.tup [.word (subN a b), .bool (subB a b)]) | _ => .none
theorem g_rSub_ok (w0 : World) (B : List Nat) (args : List SV) (m : List Blk) : CROk Try.prog w0 B 47 args m (g_rSub args m) := by
  unfold g_rSub; split
  · rename_i a b; exact fun h w _ => calls_pure Try.func47 rfl rfl (rSub_vc a b h.1 h.2 w)
  · exact trivial
theorem rbit_vc (a i : Nat) (hi : i < 256) (w : World) : Calls Try.prog 45 (cvs [.word a, .int .i64 i]).toArray w (fun en w' => ∃ u, en = .returned u ∧ ∃ v m', u = cv v ∧ MemOk w [] m' w' ∧ v = .bool (a.testBit i)) := by
  refine Vc.calls T0_ok Try.func45 rfl rfl (args := [.word a, .int .i64 i]) (k := 13) rfl (MemOk.start _) ?_; change Vc _ _ (c8 (.word a) (.int .i64 i) .undef .undef .undef .undef .undef .undef ([.undef, .undef, .undef, .undef, .undef, .undef, .undef])) _ _
  ((repeat (first | (with_reducible refine Vc.seq fun N hN => ?_) | (with_reducible refine Vc.block ?_) | ((with_reducible refine Vc.skip ?_); dsimp only [thenK, blockK, Nat.beq]; (first | (refine hN _ _ ?_; clear hN N) | skip)) | ((with_reducible refine Vc.exit ?_); dsimp only [thenK, blockK, Nat.beq]; (first | (refine hN _ _ ?_; clear hN N) | skip)) | (with_reducible intro _) | ((with_reducible refine And.intro ?_ ?_); (focus ((first | with_reducible exact True.intro | ((repeat' apply And.intro) <;> first | with_reducible exact True.intro | with_reducible rfl | with_reducible assumption | omega | (simp only [mod_u8, mod_u16, mod_u32, mod_u64]; omega) | (simp only [List.length_cons, List.length_nil, List.length_replicate, List.length_set]; omega) | (simp; done)))))) | ((first | ((with_reducible refine askT_of ?_ (fun hb => ?_)); (focus ((first | with_reducible exact True.intro | ((repeat' apply And.intro) <;> first | with_reducible exact True.intro | with_reducible rfl | with_reducible assumption | omega | (simp only [mod_u8, mod_u16, mod_u32, mod_u64]; omega) | (simp only [List.length_cons, List.length_nil, List.length_replicate, List.length_set]; omega) | (simp; done))))); (try simp only [hb])) | ((with_reducible refine Vc.fin ?_); dsimp only [thenK, blockK, retK, resS, resOne, resAll]) | ((with_reducible refine Vc.hold ?_); first | refine Vc.regiont T0_ok G7_ok ?_)); (try simp only [pickO, nthO, dropO, dOp.eq_def, v8A, v8B, adr_some, adr_nil, true_or, dstOf, Bool.not_true, Bool.not_false, evs, evp, c8g0, c8g1, c8g2, c8g3, c8g4, c8g5, c8g6, c8g7, c8gs, c8s0, c8s1, c8s2, c8s3, c8s4, c8s5, c8s6, c8s7, c8ss, c8hav, c8agr, sget, sset, blen, bpush, bget, bset, Nat.beq, Nat.ble, Nat.blt.eq_def, nth?, tys, takeN, Nat.zero_add, fillS, splice, allOne, ordL, intL, wordL, rowL, sapp, resAll, und, lk, hav, agr, bpre, Int.reduceToNat, Int.reduceLE, Int.reduceLT, Nat.reduceLT, Nat.reduceLeDiff, Nat.reduceAdd, Nat.reduceMul, Nat.reduceSub, Int.reduceAdd, Int.reduceSub, Int.reduceMul, eq_self, decide_true, beq_self_eq_true, List.length_cons, List.length_nil, Nat.min_eq_left, IntKind.bits, ty_3, zc_3, ty_4, zc_4, ty_5, zc_5, ty_9, zc_9, ty_22, zc_22, ty_24, zc_24, zr_24, ty_32, zc_32, ty_34, zc_34, zr_34, ty_45, zc_45, zr_45, ty_46, zc_46, zr_46, ty_53, zc_53, ty_59, zc_59, ty_67, ty_71, zc_71, zr_71, ty_77, zc_77, zr_77, ty_82, G7_lw, g_lw.eq_def, G7_From, g_From.eq_def, G7_rFrom, g_rFrom.eq_def, G7_minus, g_minus.eq_def, G7_known, g_known.eq_def, G7_Small, g_Small.eq_def, G7_neg, g_neg.eq_def, G7_rneg, g_rneg.eq_def, G7_lowByte, g_lowByte.eq_def, G7_Shl, g_Shl.eq_def, G7_Shr, g_Shr.eq_def, G7_Sar, g_Sar.eq_def, G7_Byte, g_Byte.eq_def, G7_Extend, g_Extend.eq_def, G7_Add, g_Add.eq_def, G7_Sub, g_Sub.eq_def, G7_Mul, g_Mul.eq_def, G7_Div, g_Div.eq_def, G7_Sdiv, g_Sdiv.eq_def, G7_AddMod, g_AddMod.eq_def, G7_MulMod, g_MulMod.eq_def, G7_length, g_length.eq_def, G7_Read, g_Read.eq_def, G7_Addr, g_Addr.eq_def, G7_Wide, g_Wide.eq_def, G7_Bytes, g_Bytes.eq_def, G7_rAdd, g_rAdd.eq_def, G7_rnot, g_rnot.eq_def, G7_rCmp, g_rCmp.eq_def, G7_rNeg, g_rNeg.eq_def]); (try simp (disch := omega) only [wrap_u8, wrap_u16, wrap_u32, wrap_u64, wrap_i8, wrap_i16, wrap_i32, wrap_i64, tnc])) | ((with_reducible refine hN _ _ ?_); clear hN N; (try simp (disch := omega) only [wrap_u8, wrap_u16, wrap_u32, wrap_u64, wrap_i8, wrap_i16, wrap_i32, wrap_i64, tnc])))); (try ((with_reducible refine Fin.of ?_); (try with_reducible exact True.intro))))
  ((try simp only [v8A, v8B, adr_some, adr_nil, true_or, dstOf, Bool.not_true, Bool.not_false, evs, evp, c8g0, c8g1, c8g2, c8g3, c8g4, c8g5, c8g6, c8g7, c8gs, c8s0, c8s1, c8s2, c8s3, c8s4, c8s5, c8s6, c8s7, c8ss, c8hav, c8agr, sget, sset, blen, bpush, bget, bset, Nat.beq, Nat.ble, Nat.blt.eq_def, nth?, tys, takeN, Nat.zero_add, fillS, splice, allOne, ordL, intL, wordL, rowL, sapp, resAll, und, lk, hav, agr, bpre, Int.reduceToNat, Int.reduceLE, Int.reduceLT, Nat.reduceLT, Nat.reduceLeDiff, Nat.reduceAdd, Nat.reduceMul, Nat.reduceSub, Int.reduceAdd, Int.reduceSub, Int.reduceMul, eq_self, decide_true, beq_self_eq_true, List.length_cons, List.length_nil, Nat.min_eq_left, IntKind.bits, ty_3, zc_3, ty_4, zc_4, ty_5, zc_5, ty_9, zc_9, ty_22, zc_22, ty_24, zc_24, zr_24, ty_32, zc_32, ty_34, zc_34, zr_34, ty_45, zc_45, zr_45, ty_46, zc_46, zr_46, ty_53, zc_53, ty_59, zc_59, ty_67, ty_71, zc_71, zr_71, ty_77, zc_77, zr_77, ty_82]); (repeat' apply And.intro) <;> first | trivial | with_reducible rfl | (congr 1; omega) | rw [exp_bit hi, Nat.testBit_eq_decide_div_mod_eq])
def g_rbit (args : List SV) (_m : List Blk) : CR := match args with | [.word a, .int .i64 i] => .pure (0 ≤ i ∧ i < 256) (.bool (a.testBit i.toNat)) | _ => .none
theorem g_rbit_ok (w0 : World) (B : List Nat) (args : List SV) (m : List Blk) : CROk Try.prog w0 B 45 args m (g_rbit args m) := by
  unfold g_rbit; split
  · rename_i a i; exact fun h w _ => calls_pure Try.func45 rfl rfl ((by have := rbit_vc a i.toNat (by omega) w; rw [Int.toNat_of_nonneg h.1] at this; exact this))
  · exact trivial
end Go.Proofs.Ytgmlabdcfbeijaa
