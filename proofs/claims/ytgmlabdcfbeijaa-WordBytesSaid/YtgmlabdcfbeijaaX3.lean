/-
  Read and Wide of words, walked; contracts of bytes.
-/
import Derived.Test.YtgmlabdcfbeijaaX2
import Derived.Test.YtgmlabdcfbeijaaRE
namespace Go.Proofs.Ytgmlabdcfbeijaa
set_option linter.unusedSimpArgs false
set_option linter.unusedVariables false
set_option maxHeartbeats 4000000
open Go.RowKit
theorem rdI_drop {ys : List Int} {k : Nat} (h : k < ys.length) : rdI (ys.drop (ys.length - (k + 1))) = (ys.getD (ys.length - 1 - k) 0).toNat * 256 ^ k + rdI (ys.drop (ys.length - k)) := by
  have h1 : ys.length - (k + 1) < ys.length := by omega
  rw [List.drop_eq_getElem_cons h1, rdI, show ys.length - (k + 1) + 1 = ys.length - k by omega]
  simp only [List.length_drop]
  rw [show ys.length - (ys.length - k) = k by omega, List.getD_eq_getElem?_getD, show ys.length - 1 - k = ys.length - (k + 1) by omega, List.getElem?_eq_getElem h1]
  rfl
theorem read_step {x k : Nat} {y : Int} (hx : x < 256 ^ k) (hk : k < 32) (h0 : 0 ≤ y) (h1 : y ≤ 255) :
    (lmI x).set ((k : Int) / 8).toNat (bits .or .u64 ((lmI x).getD ((k : Int) / 8).toNat 0) (IntKind.u64.wrap (IntKind.u64.wrap y * 2 ^ min ((k : Int) % 8 * 8).toNat 64))) = lmI (y.toNat * 256 ^ k + x) := by
  have e1 : ((k : Int) / 8).toNat = k / 8 := by omega
  have e2 : min ((k : Int) % 8 * 8).toNat 64 = k % 8 * 8 := by omega
  have e3 : IntKind.u64.wrap y = ((y.toNat : Nat) : Int) := by rw [wrap_u64 h0 (by omega)]; omega
  have hm : k % 8 * 8 ≤ 56 := by omega
  have hp : y.toNat * 2 ^ (k % 8 * 8) < 18446744073709551616 := by
    have h2 : y.toNat * 2 ^ (k % 8 * 8) ≤ 255 * 2 ^ 56 := Nat.mul_le_mul (by omega) (Nat.pow_le_pow_right (by decide) hm)
    exact Nat.lt_of_le_of_lt h2 (by decide)
  have e4 : IntKind.u64.wrap (((y.toNat : Nat) : Int) * 2 ^ (k % 8 * 8)) = ((y.toNat * 2 ^ (k % 8 * 8) : Nat) : Int) := by
    have e5 : ((y.toNat : Nat) : Int) * 2 ^ (k % 8 * 8) = ((y.toNat * 2 ^ (k % 8 * 8) : Nat) : Int) := by rw [Int.natCast_mul, Int.natCast_pow]; rfl
    rw [e5, wrap_u64 (by omega) (by omega)]
  rw [e1, e2, e3, e4, lmI_get _ _ (by omega), bits_or_u64_nat _ _ (lm_lt _ _) hp]
  exact lmI_put hk hx (by omega)
/-- What bytes are read as: the last 32. -/
def readN (xs : List Int) : Nat := rdI (xs.drop (xs.length - 32))
theorem allB_drop {xs : List Int} (h : allB xs) (n : Nat) : allB (xs.drop n) := fun x hx => h x (List.mem_of_mem_drop hx)
theorem rdI_W {l : List Int} (h : allB l) (hl : l.length ≤ 32) : rdI l < W := by
  have h1 := rdI_lt h
  have h2 : (256 : Nat) ^ l.length ≤ 256 ^ 32 := Nat.pow_le_pow_right (by decide) hl
  have h3 : (256 : Nat) ^ 32 = W := by decide
  omega
theorem readN_lt {xs : List Int} (h : allB xs) : readN xs < W := rdI_W (allB_drop h _) (by rw [List.length_drop]; omega)
theorem read_vc (xs : List Int) (a : Option Addr) (n cp : Nat) (hn : xs.length = n) (hc : n ≤ cp) (hb : n ≤ 9223372036854775807) (hx : allB xs) (ha : adr a n cp) (w : World) (hm : MemOk w [] [.ro a (.ints .u8 xs)] w) :
    Calls Try.prog 34 (cvs [.sl 0 a 0 0 1 n cp]).toArray w (fun en w' => ∃ u, en = .returned u ∧ ∃ v m', u = cv v ∧ MemOk w [] m' w' ∧ v = .word (readN xs)) := by
  refine Vc.calls T0_ok Try.func34 rfl rfl (args := [.sl 0 a 0 0 1 n cp]) (k := 36) rfl hm ?_; change Vc _ _ (c8 (.sl 0 a 0 0 1 n cp) .undef .undef .undef .undef .undef .undef .undef (c8 .undef .undef .undef .undef .undef .undef .undef .undef (c8 .undef .undef .undef .undef .undef .undef .undef .undef (c8 .undef .undef .undef .undef .undef .undef .undef .undef ([.undef, .undef, .undef, .undef, .undef]))))) _ _
  have em : (if (0 : Int) < (n : Int) - 32 then (n : Int) - 32 else 0) = ((n - 32 : Nat) : Int) := by split <;> omega
  ((repeat (first | (with_reducible refine Vc.seq fun N hN => ?_) | (with_reducible refine Vc.block ?_) | ((with_reducible refine Vc.skip ?_); dsimp only [thenK, blockK, Nat.beq]; (first | (refine hN _ _ ?_; clear hN N) | skip)) | ((with_reducible refine Vc.exit ?_); dsimp only [thenK, blockK, Nat.beq]; (first | (refine hN _ _ ?_; clear hN N) | skip)) | (with_reducible intro _) | ((with_reducible refine And.intro ?_ ?_); (focus (first | ((repeat' apply And.intro) <;> first | exact True.intro | (rw [em]; omega) | omega) | (first | with_reducible exact True.intro | ((repeat' apply And.intro) <;> first | with_reducible exact True.intro | with_reducible rfl | with_reducible assumption | omega | (simp only [mod_u8, mod_u16, mod_u32, mod_u64]; omega) | (simp only [List.length_cons, List.length_nil, List.length_replicate, List.length_set]; omega) | (simp; done)))))) | ((first | ((with_reducible refine askT_of ?_ (fun hb => ?_)); (focus (first | ((repeat' apply And.intro) <;> first | exact True.intro | (rw [em]; omega) | omega) | (first | with_reducible exact True.intro | ((repeat' apply And.intro) <;> first | with_reducible exact True.intro | with_reducible rfl | with_reducible assumption | omega | (simp only [mod_u8, mod_u16, mod_u32, mod_u64]; omega) | (simp only [List.length_cons, List.length_nil, List.length_replicate, List.length_set]; omega) | (simp; done))))); (try simp only [hb])) | ((with_reducible refine Vc.fin ?_); dsimp only [thenK, blockK, retK, resS, resOne, resAll]) | ((with_reducible refine Vc.hold ?_); first | refine Vc.regiont T0_ok G2_ok ?_ | refine Vc.drawt (id := 6) T0_ok G2_ok (by kernel_rfl) [0, 1, 2, 3, 4, 5, 6, 7, 8, 9, 10, 11, 12, 13, 14, 15, 16] 17 [] trivial (by kernel_rfl) ?_)); (try simp only [pickO, nthO, dropO, dOp.eq_def, v8A, v8B, adr_some, adr_nil, true_or, dstOf, Bool.not_true, Bool.not_false, evs, evp, c8g0, c8g1, c8g2, c8g3, c8g4, c8g5, c8g6, c8g7, c8gs, c8s0, c8s1, c8s2, c8s3, c8s4, c8s5, c8s6, c8s7, c8ss, c8hav, c8agr, sget, sset, blen, bpush, bget, bset, Nat.beq, Nat.ble, Nat.blt.eq_def, nth?, tys, takeN, Nat.zero_add, fillS, splice, allOne, ordL, intL, wordL, rowL, sapp, resAll, und, lk, hav, agr, bpre, Int.reduceToNat, Int.reduceLE, Int.reduceLT, Nat.reduceLT, Nat.reduceLeDiff, Nat.reduceAdd, Nat.reduceMul, Nat.reduceSub, Int.reduceAdd, Int.reduceSub, Int.reduceMul, eq_self, decide_true, beq_self_eq_true, List.length_cons, List.length_nil, Nat.min_eq_left, IntKind.bits, ty_3, zc_3, ty_4, zc_4, ty_5, zc_5, ty_9, zc_9, ty_22, zc_22, ty_24, zc_24, zr_24, ty_32, zc_32, ty_34, zc_34, zr_34, ty_45, zc_45, zr_45, ty_46, zc_46, zr_46, ty_53, zc_53, ty_59, zc_59, ty_67, ty_71, zc_71, zr_71, ty_77, zc_77, zr_77, ty_82, G2_lw, g_lw.eq_def, G2_From, g_From.eq_def, G2_rFrom, g_rFrom.eq_def, G2_minus, g_minus.eq_def, G2_known, g_known.eq_def, G2_Small, g_Small.eq_def, G2_neg, g_neg.eq_def, G2_rneg, g_rneg.eq_def, G2_lowByte, g_lowByte.eq_def, G2_Shl, g_Shl.eq_def, G2_Shr, g_Shr.eq_def, G2_Sar, g_Sar.eq_def, G2_Byte, g_Byte.eq_def, G2_Extend, g_Extend.eq_def, G2_Add, g_Add.eq_def, G2_Sub, g_Sub.eq_def, G2_Mul, g_Mul.eq_def, G2_Div, g_Div.eq_def, G2_Sdiv, g_Sdiv.eq_def, G2_AddMod, g_AddMod.eq_def, G2_MulMod, g_MulMod.eq_def, G2_length, g_length.eq_def]); (try simp (disch := omega) only [wrap_u8, wrap_u16, wrap_u32, wrap_u64, wrap_i8, wrap_i16, wrap_i32, wrap_i64, tnc])) | ((with_reducible refine hN _ _ ?_); clear hN N; (try simp (disch := omega) only [wrap_u8, wrap_u16, wrap_u32, wrap_u64, wrap_i8, wrap_i16, wrap_i32, wrap_i64, tnc])))); (try ((with_reducible refine Fin.of ?_); (try with_reducible exact True.intro))))
  (revert N; intro N1 hN1)
  rename_i b1 b2
  simp only [em, ite_self, tnc]
  clear em
  have ha2 : adr a (n - (n - 32)) (cp - (n - 32)) := adr_cut (l := n - 32) ha (by omega) rfl
  generalize hd : n - 32 = d at *
  have hys : (xs.drop d).length = n - d := by rw [List.length_drop, hn]
  have hr : readN xs = rdI (xs.drop d) := by unfold readN; rw [hn, hd]
  have hg : ∀ j, xs.getD (d + j) 0 = (xs.drop d).getD j 0 := fun j => by rw [List.getD_eq_getElem?_getD, List.getD_eq_getElem?_getD, List.getElem?_drop]
  have hby : ∀ j, j < n - d → 0 ≤ (xs.drop d).getD j 0 ∧ (xs.drop d).getD j 0 ≤ 255 := fun j hj => by
    rw [List.getD_eq_getElem?_getD, List.getElem?_eq_getElem (by omega)]
    exact allB_drop hx d _ (List.getElem_mem _)
  have hby2 := allB_drop hx d
  generalize hy : xs.drop d = ys at *
  generalize hL : n - d = L at *
  generalize hC : cp - d = C at *
  have hL32 : L ≤ 32 := by omega
  have h00 : rdI (ys.drop (L - 0)) = 0 := by rw [Nat.sub_zero, List.drop_of_length_le (by omega)]; rfl
  refine Vc.recon 2 (.ints .u64 (lmI 0)) rfl (cc_lmI 0) ?_
  simp only [bset]
  refine Vc.loop 4 37 (fun k => [(12, .int .i64 (L : Nat)), (13, .int .i64 (k : Nat))])
    (fun k => [.ro a (.ints .u8 xs), .blk b1 24 (.words [0]), .blk b2 24 (.ints .u64 (lmI (rdI (ys.drop (L - k)))))])
    (fun k => k ≤ L) (fun k => L - k) 0 ⟨Nat.zero_le _, ?_, ?_⟩ (fun k junk hk => ?_)
  · ((try simp only [v8A, v8B, adr_some, adr_nil, true_or, dstOf, Bool.not_true, Bool.not_false, evs, evp, c8g0, c8g1, c8g2, c8g3, c8g4, c8g5, c8g6, c8g7, c8gs, c8s0, c8s1, c8s2, c8s3, c8s4, c8s5, c8s6, c8s7, c8ss, c8hav, c8agr, sget, sset, blen, bpush, bget, bset, Nat.beq, Nat.ble, Nat.blt.eq_def, nth?, tys, takeN, Nat.zero_add, fillS, splice, allOne, ordL, intL, wordL, rowL, sapp, resAll, und, lk, hav, agr, bpre, Int.reduceToNat, Int.reduceLE, Int.reduceLT, Nat.reduceLT, Nat.reduceLeDiff, Nat.reduceAdd, Nat.reduceMul, Nat.reduceSub, Int.reduceAdd, Int.reduceSub, Int.reduceMul, eq_self, decide_true, beq_self_eq_true, List.length_cons, List.length_nil, Nat.min_eq_left, IntKind.bits, ty_3, zc_3, ty_4, zc_4, ty_5, zc_5, ty_9, zc_9, ty_22, zc_22, ty_24, zc_24, zr_24, ty_32, zc_32, ty_34, zc_34, zr_34, ty_45, zc_45, zr_45, ty_46, zc_46, zr_46, ty_53, zc_53, ty_59, zc_59, ty_67, ty_71, zc_71, zr_71, ty_77, zc_77, zr_77, ty_82]); (repeat' apply And.intro) <;> first | trivial | with_reducible rfl | (congr 1; omega) | fail)
  · ((try simp only [v8A, v8B, adr_some, adr_nil, true_or, dstOf, Bool.not_true, Bool.not_false, evs, evp, c8g0, c8g1, c8g2, c8g3, c8g4, c8g5, c8g6, c8g7, c8gs, c8s0, c8s1, c8s2, c8s3, c8s4, c8s5, c8s6, c8s7, c8ss, c8hav, c8agr, sget, sset, blen, bpush, bget, bset, Nat.beq, Nat.ble, Nat.blt.eq_def, nth?, tys, takeN, Nat.zero_add, fillS, splice, allOne, ordL, intL, wordL, rowL, sapp, resAll, und, lk, hav, agr, bpre, Int.reduceToNat, Int.reduceLE, Int.reduceLT, Nat.reduceLT, Nat.reduceLeDiff, Nat.reduceAdd, Nat.reduceMul, Nat.reduceSub, Int.reduceAdd, Int.reduceSub, Int.reduceMul, eq_self, decide_true, beq_self_eq_true, List.length_cons, List.length_nil, Nat.min_eq_left, IntKind.bits, ty_3, zc_3, ty_4, zc_4, ty_5, zc_5, ty_9, zc_9, ty_22, zc_22, ty_24, zc_24, zr_24, ty_32, zc_32, ty_34, zc_34, zr_34, ty_45, zc_45, zr_45, ty_46, zc_46, zr_46, ty_53, zc_53, ty_59, zc_59, ty_67, ty_71, zc_71, zr_71, ty_77, zc_77, zr_77, ty_82]); (repeat' apply And.intro) <;> first | trivial | with_reducible rfl | (congr 1; omega) | rw [h00])
  · have hlt : rdI (ys.drop (L - k)) < 256 ^ k := by
      have := rdI_lt (allB_drop hby2 (L - k))
      rw [List.length_drop, hys] at this
      rwa [show L - (L - k) = k by omega] at this
    (simp only [v8A, v8B, adr_some, adr_nil, true_or, dstOf, Bool.not_true, Bool.not_false, evs, evp, c8g0, c8g1, c8g2, c8g3, c8g4, c8g5, c8g6, c8g7, c8gs, c8s0, c8s1, c8s2, c8s3, c8s4, c8s5, c8s6, c8s7, c8ss, c8hav, c8agr, sget, sset, blen, bpush, bget, bset, Nat.beq, Nat.ble, Nat.blt.eq_def, nth?, tys, takeN, Nat.zero_add, fillS, splice, allOne, ordL, intL, wordL, rowL, sapp, resAll, und, lk, hav, agr, bpre, Int.reduceToNat, Int.reduceLE, Int.reduceLT, Nat.reduceLT, Nat.reduceLeDiff, Nat.reduceAdd, Nat.reduceMul, Nat.reduceSub, Int.reduceAdd, Int.reduceSub, Int.reduceMul, eq_self, decide_true, beq_self_eq_true, List.length_cons, List.length_nil, Nat.min_eq_left, IntKind.bits, ty_3, zc_3, ty_4, zc_4, ty_5, zc_5, ty_9, zc_9, ty_22, zc_22, ty_24, zc_24, zr_24, ty_32, zc_32, ty_34, zc_34, zr_34, ty_45, zc_45, zr_45, ty_46, zc_46, zr_46, ty_53, zc_53, ty_59, zc_59, ty_67, ty_71, zc_71, zr_71, ty_77, zc_77, zr_77, ty_82])
    ((repeat (first | (with_reducible refine Vc.seq fun N hN => ?_) | (with_reducible refine Vc.block ?_) | ((with_reducible refine Vc.skip ?_); dsimp only [thenK, blockK, Nat.beq]; (first | (refine hN _ _ ?_; clear hN N) | skip)) | ((with_reducible refine Vc.exit ?_); dsimp only [thenK, blockK, Nat.beq]; (first | (refine hN _ _ ?_; clear hN N) | skip)) | (with_reducible intro _) | ((with_reducible refine And.intro ?_ ?_); (focus ((first | with_reducible exact True.intro | ((repeat' apply And.intro) <;> first | with_reducible exact True.intro | with_reducible rfl | with_reducible assumption | omega | (simp only [mod_u8, mod_u16, mod_u32, mod_u64]; omega) | (simp only [List.length_cons, List.length_nil, List.length_replicate, List.length_set]; omega) | (simp; done)))))) | ((first | ((with_reducible refine askT_of ?_ (fun hb => ?_)); (focus ((first | with_reducible exact True.intro | ((repeat' apply And.intro) <;> first | with_reducible exact True.intro | with_reducible rfl | with_reducible assumption | omega | (simp only [mod_u8, mod_u16, mod_u32, mod_u64]; omega) | (simp only [List.length_cons, List.length_nil, List.length_replicate, List.length_set]; omega) | (simp; done))))); (try simp only [hb])) | ((with_reducible refine Vc.fin ?_); dsimp only [thenK, blockK, retK, resS, resOne, resAll]) | ((with_reducible refine Vc.hold ?_); first | refine Vc.regiont T0_ok G2_ok ?_ | refine Vc.drawt (id := 6) T0_ok G2_ok (by kernel_rfl) [0, 1, 2, 3, 4, 5, 6, 7, 8, 9, 10, 11, 12, 13, 14, 15, 16] 17 [] trivial (by kernel_rfl) ?_)); (try simp only [pickO, nthO, dropO, dOp.eq_def, v8A, v8B, adr_some, adr_nil, true_or, dstOf, Bool.not_true, Bool.not_false, evs, evp, c8g0, c8g1, c8g2, c8g3, c8g4, c8g5, c8g6, c8g7, c8gs, c8s0, c8s1, c8s2, c8s3, c8s4, c8s5, c8s6, c8s7, c8ss, c8hav, c8agr, sget, sset, blen, bpush, bget, bset, Nat.beq, Nat.ble, Nat.blt.eq_def, nth?, tys, takeN, Nat.zero_add, fillS, splice, allOne, ordL, intL, wordL, rowL, sapp, resAll, und, lk, hav, agr, bpre, Int.reduceToNat, Int.reduceLE, Int.reduceLT, Nat.reduceLT, Nat.reduceLeDiff, Nat.reduceAdd, Nat.reduceMul, Nat.reduceSub, Int.reduceAdd, Int.reduceSub, Int.reduceMul, eq_self, decide_true, beq_self_eq_true, List.length_cons, List.length_nil, Nat.min_eq_left, IntKind.bits, ty_3, zc_3, ty_4, zc_4, ty_5, zc_5, ty_9, zc_9, ty_22, zc_22, ty_24, zc_24, zr_24, ty_32, zc_32, ty_34, zc_34, zr_34, ty_45, zc_45, zr_45, ty_46, zc_46, zr_46, ty_53, zc_53, ty_59, zc_59, ty_67, ty_71, zc_71, zr_71, ty_77, zc_77, zr_77, ty_82, G2_lw, g_lw.eq_def, G2_From, g_From.eq_def, G2_rFrom, g_rFrom.eq_def, G2_minus, g_minus.eq_def, G2_known, g_known.eq_def, G2_Small, g_Small.eq_def, G2_neg, g_neg.eq_def, G2_rneg, g_rneg.eq_def, G2_lowByte, g_lowByte.eq_def, G2_Shl, g_Shl.eq_def, G2_Shr, g_Shr.eq_def, G2_Sar, g_Sar.eq_def, G2_Byte, g_Byte.eq_def, G2_Extend, g_Extend.eq_def, G2_Add, g_Add.eq_def, G2_Sub, g_Sub.eq_def, G2_Mul, g_Mul.eq_def, G2_Div, g_Div.eq_def, G2_Sdiv, g_Sdiv.eq_def, G2_AddMod, g_AddMod.eq_def, G2_MulMod, g_MulMod.eq_def, G2_length, g_length.eq_def]); (try simp (disch := omega) only [wrap_u8, wrap_u16, wrap_u32, wrap_u64, wrap_i8, wrap_i16, wrap_i32, wrap_i64, tnc])) | ((with_reducible refine hN _ _ ?_); clear hN N; (try simp (disch := omega) only [wrap_u8, wrap_u16, wrap_u32, wrap_u64, wrap_i8, wrap_i16, wrap_i32, wrap_i64, tnc])))); (try ((with_reducible refine Fin.of ?_); (try with_reducible exact True.intro))))
    (refine Vc.cond T0_ok (by rfl) (fun hb => ?_) (fun hb => ?_))
    · have hk' := of_decide_eq_true hb
      ((repeat (first | (with_reducible refine Vc.seq fun N hN => ?_) | (with_reducible refine Vc.block ?_) | ((with_reducible refine Vc.skip ?_); dsimp only [thenK, blockK, Nat.beq]; (first | (refine hN _ _ ?_; clear hN N) | skip)) | ((with_reducible refine Vc.exit ?_); dsimp only [thenK, blockK, Nat.beq]; (first | (refine hN _ _ ?_; clear hN N) | skip)) | (with_reducible intro _) | ((with_reducible refine And.intro ?_ ?_); (focus (first | ((repeat' apply And.intro) <;> first | exact True.intro | omega | (rw [lmI_len]; omega) | with_reducible assumption) | (first | with_reducible exact True.intro | ((repeat' apply And.intro) <;> first | with_reducible exact True.intro | with_reducible rfl | with_reducible assumption | omega | (simp only [mod_u8, mod_u16, mod_u32, mod_u64]; omega) | (simp only [List.length_cons, List.length_nil, List.length_replicate, List.length_set]; omega) | (simp; done)))))) | ((first | ((with_reducible refine askT_of ?_ (fun hb => ?_)); (focus (first | ((repeat' apply And.intro) <;> first | exact True.intro | omega | (rw [lmI_len]; omega) | with_reducible assumption) | (first | with_reducible exact True.intro | ((repeat' apply And.intro) <;> first | with_reducible exact True.intro | with_reducible rfl | with_reducible assumption | omega | (simp only [mod_u8, mod_u16, mod_u32, mod_u64]; omega) | (simp only [List.length_cons, List.length_nil, List.length_replicate, List.length_set]; omega) | (simp; done))))); (try simp only [hb])) | ((with_reducible refine Vc.fin ?_); dsimp only [thenK, blockK, retK, resS, resOne, resAll]) | ((with_reducible refine Vc.hold ?_); first | refine Vc.regiont T0_ok G2_ok ?_ | refine Vc.drawt (id := 6) T0_ok G2_ok (by kernel_rfl) [0, 1, 2, 3, 4, 5, 6, 7, 8, 9, 10, 11, 12, 13, 14, 15, 16] 17 [] trivial (by kernel_rfl) ?_)); (try simp only [pickO, nthO, dropO, dOp.eq_def, v8A, v8B, adr_some, adr_nil, true_or, dstOf, Bool.not_true, Bool.not_false, evs, evp, c8g0, c8g1, c8g2, c8g3, c8g4, c8g5, c8g6, c8g7, c8gs, c8s0, c8s1, c8s2, c8s3, c8s4, c8s5, c8s6, c8s7, c8ss, c8hav, c8agr, sget, sset, blen, bpush, bget, bset, Nat.beq, Nat.ble, Nat.blt.eq_def, nth?, tys, takeN, Nat.zero_add, fillS, splice, allOne, ordL, intL, wordL, rowL, sapp, resAll, und, lk, hav, agr, bpre, Int.reduceToNat, Int.reduceLE, Int.reduceLT, Nat.reduceLT, Nat.reduceLeDiff, Nat.reduceAdd, Nat.reduceMul, Nat.reduceSub, Int.reduceAdd, Int.reduceSub, Int.reduceMul, eq_self, decide_true, beq_self_eq_true, List.length_cons, List.length_nil, Nat.min_eq_left, IntKind.bits, ty_3, zc_3, ty_4, zc_4, ty_5, zc_5, ty_9, zc_9, ty_22, zc_22, ty_24, zc_24, zr_24, ty_32, zc_32, ty_34, zc_34, zr_34, ty_45, zc_45, zr_45, ty_46, zc_46, zr_46, ty_53, zc_53, ty_59, zc_59, ty_67, ty_71, zc_71, zr_71, ty_77, zc_77, zr_77, ty_82, G2_lw, g_lw.eq_def, G2_From, g_From.eq_def, G2_rFrom, g_rFrom.eq_def, G2_minus, g_minus.eq_def, G2_known, g_known.eq_def, G2_Small, g_Small.eq_def, G2_neg, g_neg.eq_def, G2_rneg, g_rneg.eq_def, G2_lowByte, g_lowByte.eq_def, G2_Shl, g_Shl.eq_def, G2_Shr, g_Shr.eq_def, G2_Sar, g_Sar.eq_def, G2_Byte, g_Byte.eq_def, G2_Extend, g_Extend.eq_def, G2_Add, g_Add.eq_def, G2_Sub, g_Sub.eq_def, G2_Mul, g_Mul.eq_def, G2_Div, g_Div.eq_def, G2_Sdiv, g_Sdiv.eq_def, G2_AddMod, g_AddMod.eq_def, G2_MulMod, g_MulMod.eq_def, G2_length, g_length.eq_def]); (try simp (disch := omega) only [wrap_u8, wrap_u16, wrap_u32, wrap_u64, wrap_i8, wrap_i16, wrap_i32, wrap_i64, tnc])) | ((with_reducible refine hN _ _ ?_); clear hN N; (try simp (disch := omega) only [wrap_u8, wrap_u16, wrap_u32, wrap_u64, wrap_i8, wrap_i16, wrap_i32, wrap_i64, tnc])))); (try ((with_reducible refine Fin.of ?_); (try with_reducible exact True.intro))))
      have hst := rdI_drop (ys := ys) (k := k) (by omega)
      rw [hys] at hst
      have e1 : ((L : Int) - 1 - (k : Int)).toNat = L - 1 - k := by omega
      have e2 := hby (L - 1 - k) (by omega)
      refine ⟨k + 1, by omega, ?_, ?_, by omega⟩
      · ((try simp only [v8A, v8B, adr_some, adr_nil, true_or, dstOf, Bool.not_true, Bool.not_false, evs, evp, c8g0, c8g1, c8g2, c8g3, c8g4, c8g5, c8g6, c8g7, c8gs, c8s0, c8s1, c8s2, c8s3, c8s4, c8s5, c8s6, c8s7, c8ss, c8hav, c8agr, sget, sset, blen, bpush, bget, bset, Nat.beq, Nat.ble, Nat.blt.eq_def, nth?, tys, takeN, Nat.zero_add, fillS, splice, allOne, ordL, intL, wordL, rowL, sapp, resAll, und, lk, hav, agr, bpre, Int.reduceToNat, Int.reduceLE, Int.reduceLT, Nat.reduceLT, Nat.reduceLeDiff, Nat.reduceAdd, Nat.reduceMul, Nat.reduceSub, Int.reduceAdd, Int.reduceSub, Int.reduceMul, eq_self, decide_true, beq_self_eq_true, List.length_cons, List.length_nil, Nat.min_eq_left, IntKind.bits, ty_3, zc_3, ty_4, zc_4, ty_5, zc_5, ty_9, zc_9, ty_22, zc_22, ty_24, zc_24, zr_24, ty_32, zc_32, ty_34, zc_34, zr_34, ty_45, zc_45, zr_45, ty_46, zc_46, zr_46, ty_53, zc_53, ty_59, zc_59, ty_67, ty_71, zc_71, zr_71, ty_77, zc_77, zr_77, ty_82]); (repeat' apply And.intro) <;> first | trivial | with_reducible rfl | (congr 1; omega) | fail)
      · ((try simp only [v8A, v8B, adr_some, adr_nil, true_or, dstOf, Bool.not_true, Bool.not_false, evs, evp, c8g0, c8g1, c8g2, c8g3, c8g4, c8g5, c8g6, c8g7, c8gs, c8s0, c8s1, c8s2, c8s3, c8s4, c8s5, c8s6, c8s7, c8ss, c8hav, c8agr, sget, sset, blen, bpush, bget, bset, Nat.beq, Nat.ble, Nat.blt.eq_def, nth?, tys, takeN, Nat.zero_add, fillS, splice, allOne, ordL, intL, wordL, rowL, sapp, resAll, und, lk, hav, agr, bpre, Int.reduceToNat, Int.reduceLE, Int.reduceLT, Nat.reduceLT, Nat.reduceLeDiff, Nat.reduceAdd, Nat.reduceMul, Nat.reduceSub, Int.reduceAdd, Int.reduceSub, Int.reduceMul, eq_self, decide_true, beq_self_eq_true, List.length_cons, List.length_nil, Nat.min_eq_left, IntKind.bits, ty_3, zc_3, ty_4, zc_4, ty_5, zc_5, ty_9, zc_9, ty_22, zc_22, ty_24, zc_24, zr_24, ty_32, zc_32, ty_34, zc_34, zr_34, ty_45, zc_45, zr_45, ty_46, zc_46, zr_46, ty_53, zc_53, ty_59, zc_59, ty_67, ty_71, zc_71, zr_71, ty_77, zc_77, zr_77, ty_82]); (repeat' apply And.intro) <;> first | trivial | with_reducible rfl | (congr 1; omega) | rw [e1, hg, read_step hlt (by omega) e2.1 e2.2, hst])
    · have hk' := of_decide_eq_false hb
      have hk2 : k = L := by omega
      subst hk2
      ((repeat (first | (with_reducible refine Vc.seq fun N hN => ?_) | (with_reducible refine Vc.block ?_) | ((with_reducible refine Vc.skip ?_); dsimp only [thenK, blockK, Nat.beq]; (first | (refine hN _ _ ?_; clear hN N) | skip)) | ((with_reducible refine Vc.exit ?_); dsimp only [thenK, blockK, Nat.beq]; (first | (refine hN _ _ ?_; clear hN N) | skip)) | (with_reducible intro _) | ((with_reducible refine And.intro ?_ ?_); (focus ((first | with_reducible exact True.intro | ((repeat' apply And.intro) <;> first | with_reducible exact True.intro | with_reducible rfl | with_reducible assumption | omega | (simp only [mod_u8, mod_u16, mod_u32, mod_u64]; omega) | (simp only [List.length_cons, List.length_nil, List.length_replicate, List.length_set]; omega) | (simp; done)))))) | ((first | ((with_reducible refine askT_of ?_ (fun hb => ?_)); (focus ((first | with_reducible exact True.intro | ((repeat' apply And.intro) <;> first | with_reducible exact True.intro | with_reducible rfl | with_reducible assumption | omega | (simp only [mod_u8, mod_u16, mod_u32, mod_u64]; omega) | (simp only [List.length_cons, List.length_nil, List.length_replicate, List.length_set]; omega) | (simp; done))))); (try simp only [hb])) | ((with_reducible refine Vc.fin ?_); dsimp only [thenK, blockK, retK, resS, resOne, resAll]) | ((with_reducible refine Vc.hold ?_); first | refine Vc.regiont T0_ok G2_ok ?_ | refine Vc.drawt (id := 6) T0_ok G2_ok (by kernel_rfl) [0, 1, 2, 3, 4, 5, 6, 7, 8, 9, 10, 11, 12, 13, 14, 15, 16] 17 [] trivial (by kernel_rfl) ?_)); (try simp only [pickO, nthO, dropO, dOp.eq_def, v8A, v8B, adr_some, adr_nil, true_or, dstOf, Bool.not_true, Bool.not_false, evs, evp, c8g0, c8g1, c8g2, c8g3, c8g4, c8g5, c8g6, c8g7, c8gs, c8s0, c8s1, c8s2, c8s3, c8s4, c8s5, c8s6, c8s7, c8ss, c8hav, c8agr, sget, sset, blen, bpush, bget, bset, Nat.beq, Nat.ble, Nat.blt.eq_def, nth?, tys, takeN, Nat.zero_add, fillS, splice, allOne, ordL, intL, wordL, rowL, sapp, resAll, und, lk, hav, agr, bpre, Int.reduceToNat, Int.reduceLE, Int.reduceLT, Nat.reduceLT, Nat.reduceLeDiff, Nat.reduceAdd, Nat.reduceMul, Nat.reduceSub, Int.reduceAdd, Int.reduceSub, Int.reduceMul, eq_self, decide_true, beq_self_eq_true, List.length_cons, List.length_nil, Nat.min_eq_left, IntKind.bits, ty_3, zc_3, ty_4, zc_4, ty_5, zc_5, ty_9, zc_9, ty_22, zc_22, ty_24, zc_24, zr_24, ty_32, zc_32, ty_34, zc_34, zr_34, ty_45, zc_45, zr_45, ty_46, zc_46, zr_46, ty_53, zc_53, ty_59, zc_59, ty_67, ty_71, zc_71, zr_71, ty_77, zc_77, zr_77, ty_82, G2_lw, g_lw.eq_def, G2_From, g_From.eq_def, G2_rFrom, g_rFrom.eq_def, G2_minus, g_minus.eq_def, G2_known, g_known.eq_def, G2_Small, g_Small.eq_def, G2_neg, g_neg.eq_def, G2_rneg, g_rneg.eq_def, G2_lowByte, g_lowByte.eq_def, G2_Shl, g_Shl.eq_def, G2_Shr, g_Shr.eq_def, G2_Sar, g_Sar.eq_def, G2_Byte, g_Byte.eq_def, G2_Extend, g_Extend.eq_def, G2_Add, g_Add.eq_def, G2_Sub, g_Sub.eq_def, G2_Mul, g_Mul.eq_def, G2_Div, g_Div.eq_def, G2_Sdiv, g_Sdiv.eq_def, G2_AddMod, g_AddMod.eq_def, G2_MulMod, g_MulMod.eq_def, G2_length, g_length.eq_def]); (try simp (disch := omega) only [wrap_u8, wrap_u16, wrap_u32, wrap_u64, wrap_i8, wrap_i16, wrap_i32, wrap_i64, tnc])) | ((with_reducible refine hN _ _ ?_); clear hN N; (try simp (disch := omega) only [wrap_u8, wrap_u16, wrap_u32, wrap_u64, wrap_i8, wrap_i16, wrap_i32, wrap_i64, tnc])))); (try ((with_reducible refine Fin.of ?_); (try with_reducible exact True.intro))))
      (refine hN1 _ _ ?_; (try clear hN N); clear hN1 N1)
      ((repeat (first | (with_reducible refine Vc.seq fun N hN => ?_) | (with_reducible refine Vc.block ?_) | ((with_reducible refine Vc.skip ?_); dsimp only [thenK, blockK, Nat.beq]; (first | (refine hN _ _ ?_; clear hN N) | skip)) | ((with_reducible refine Vc.exit ?_); dsimp only [thenK, blockK, Nat.beq]; (first | (refine hN _ _ ?_; clear hN N) | skip)) | (with_reducible intro _) | ((with_reducible refine And.intro ?_ ?_); (focus (first | ((repeat' with_reducible apply And.intro) <;> first | exact True.intro | exact allU_lmI _ | exact lmI_len _) | (first | with_reducible exact True.intro | ((repeat' apply And.intro) <;> first | with_reducible exact True.intro | with_reducible rfl | with_reducible assumption | omega | (simp only [mod_u8, mod_u16, mod_u32, mod_u64]; omega) | (simp only [List.length_cons, List.length_nil, List.length_replicate, List.length_set]; omega) | (simp; done)))))) | ((first | ((with_reducible refine askT_of ?_ (fun hb => ?_)); (focus (first | ((repeat' with_reducible apply And.intro) <;> first | exact True.intro | exact allU_lmI _ | exact lmI_len _) | (first | with_reducible exact True.intro | ((repeat' apply And.intro) <;> first | with_reducible exact True.intro | with_reducible rfl | with_reducible assumption | omega | (simp only [mod_u8, mod_u16, mod_u32, mod_u64]; omega) | (simp only [List.length_cons, List.length_nil, List.length_replicate, List.length_set]; omega) | (simp; done))))); (try simp only [hb])) | ((with_reducible refine Vc.fin ?_); dsimp only [thenK, blockK, retK, resS, resOne, resAll]) | ((with_reducible refine Vc.hold ?_); first | refine Vc.regiont T0_ok G2_ok ?_ | refine Vc.drawt (id := 6) T0_ok G2_ok (by kernel_rfl) [0, 1, 2, 3, 4, 5, 6, 7, 8, 9, 10, 11, 12, 13, 14, 15, 16] 17 [] trivial (by kernel_rfl) ?_)); (try simp only [pickO, nthO, dropO, dOp.eq_def, v8A, v8B, adr_some, adr_nil, true_or, dstOf, Bool.not_true, Bool.not_false, evs, evp, c8g0, c8g1, c8g2, c8g3, c8g4, c8g5, c8g6, c8g7, c8gs, c8s0, c8s1, c8s2, c8s3, c8s4, c8s5, c8s6, c8s7, c8ss, c8hav, c8agr, sget, sset, blen, bpush, bget, bset, Nat.beq, Nat.ble, Nat.blt.eq_def, nth?, tys, takeN, Nat.zero_add, fillS, splice, allOne, ordL, intL, wordL, rowL, sapp, resAll, und, lk, hav, agr, bpre, Int.reduceToNat, Int.reduceLE, Int.reduceLT, Nat.reduceLT, Nat.reduceLeDiff, Nat.reduceAdd, Nat.reduceMul, Nat.reduceSub, Int.reduceAdd, Int.reduceSub, Int.reduceMul, eq_self, decide_true, beq_self_eq_true, List.length_cons, List.length_nil, Nat.min_eq_left, IntKind.bits, ty_3, zc_3, ty_4, zc_4, ty_5, zc_5, ty_9, zc_9, ty_22, zc_22, ty_24, zc_24, zr_24, ty_32, zc_32, ty_34, zc_34, zr_34, ty_45, zc_45, zr_45, ty_46, zc_46, zr_46, ty_53, zc_53, ty_59, zc_59, ty_67, ty_71, zc_71, zr_71, ty_77, zc_77, zr_77, ty_82, G2_lw, g_lw.eq_def, G2_From, g_From.eq_def, G2_rFrom, g_rFrom.eq_def, G2_minus, g_minus.eq_def, G2_known, g_known.eq_def, G2_Small, g_Small.eq_def, G2_neg, g_neg.eq_def, G2_rneg, g_rneg.eq_def, G2_lowByte, g_lowByte.eq_def, G2_Shl, g_Shl.eq_def, G2_Shr, g_Shr.eq_def, G2_Sar, g_Sar.eq_def, G2_Byte, g_Byte.eq_def, G2_Extend, g_Extend.eq_def, G2_Add, g_Add.eq_def, G2_Sub, g_Sub.eq_def, G2_Mul, g_Mul.eq_def, G2_Div, g_Div.eq_def, G2_Sdiv, g_Sdiv.eq_def, G2_AddMod, g_AddMod.eq_def, G2_MulMod, g_MulMod.eq_def, G2_length, g_length.eq_def]); (try simp (disch := omega) only [wrap_u8, wrap_u16, wrap_u32, wrap_u64, wrap_i8, wrap_i16, wrap_i32, wrap_i64, tnc])) | ((with_reducible refine hN _ _ ?_); clear hN N; (try simp (disch := omega) only [wrap_u8, wrap_u16, wrap_u32, wrap_u64, wrap_i8, wrap_i16, wrap_i32, wrap_i64, tnc])))); (try ((with_reducible refine Fin.of ?_); (try with_reducible exact True.intro))))
      ((try simp only [v8A, v8B, adr_some, adr_nil, true_or, dstOf, Bool.not_true, Bool.not_false, evs, evp, c8g0, c8g1, c8g2, c8g3, c8g4, c8g5, c8g6, c8g7, c8gs, c8s0, c8s1, c8s2, c8s3, c8s4, c8s5, c8s6, c8s7, c8ss, c8hav, c8agr, sget, sset, blen, bpush, bget, bset, Nat.beq, Nat.ble, Nat.blt.eq_def, nth?, tys, takeN, Nat.zero_add, fillS, splice, allOne, ordL, intL, wordL, rowL, sapp, resAll, und, lk, hav, agr, bpre, Int.reduceToNat, Int.reduceLE, Int.reduceLT, Nat.reduceLT, Nat.reduceLeDiff, Nat.reduceAdd, Nat.reduceMul, Nat.reduceSub, Int.reduceAdd, Int.reduceSub, Int.reduceMul, eq_self, decide_true, beq_self_eq_true, List.length_cons, List.length_nil, Nat.min_eq_left, IntKind.bits, ty_3, zc_3, ty_4, zc_4, ty_5, zc_5, ty_9, zc_9, ty_22, zc_22, ty_24, zc_24, zr_24, ty_32, zc_32, ty_34, zc_34, zr_34, ty_45, zc_45, zr_45, ty_46, zc_46, zr_46, ty_53, zc_53, ty_59, zc_59, ty_67, ty_71, zc_71, zr_71, ty_77, zc_77, zr_77, ty_82]); (repeat' apply And.intro) <;> first | trivial | with_reducible rfl | (congr 1; omega) | rw [numI_lmI (rdI_W (allB_drop hby2 _) (by rw [List.length_drop]; omega)), Nat.sub_self, List.drop_zero, hr])
/-- What a callee reads. -/
def g_Read (args : List SV) (m : List Blk) : CR :=
  match args with
  | [x] => match srcC x m with
    | some (q, k, .ints .u8 xs) => .pure (q ∧ k ≤ 9223372036854775807 ∧ allB xs) (.word (readN xs))
    | _ => .none
  | _ => .none
theorem g_Read_ok (w0 : World) (B : List Nat) (args : List SV) (m : List Blk) : CROk Try.prog w0 B 34 args m (g_Read args m) := by
  unfold g_Read
  split
  · rename_i x
    split
    · rename_i q k xs hs
      intro ⟨hq, hk, hx⟩ w hm
      obtain ⟨h1, a, cp, h2, h3, h4, h5⟩ := src_ro hs hq hm
      have hl : xs.length = k := by simpa [cc, conEs] using h1
      have e : cvs [x] = cvs [.sl 0 a 0 0 1 k cp] := by simp only [cvs]; rw [h2]; rfl
      rw [e]
      exact calls_pure Try.func34 rfl rfl (read_vc xs a k cp hl h3 hk hx h5 w h4)
    · exact trivial
  · exact trivial
def G4 : Ctr := fun f args m => match f with
  | 37 => g_lw args m
  | 36 => g_From args m
  | 60 => g_rFrom args m
  | 54 => g_minus args m
  | 12 => g_known args m
  | 29 => g_Small args m
  | 50 => g_neg args m
  | 52 => g_rneg args m
  | 72 => g_lowByte args m
  | 21 => g_Shl args m
  | 23 => g_Shr args m
  | 25 => g_Sar args m
  | 27 => g_Byte args m
  | 19 => g_Extend args m
  | 55 => g_Add args m
  | 49 => g_Sub args m
  | 59 => g_Mul args m
  | 8 => g_Div args m
  | 10 => g_Sdiv args m
  | 13 => g_AddMod args m
  | 15 => g_MulMod args m
  | 58 => g_length args m
  | 34 => g_Read args m
  | _ => .none
theorem G4_ok : GOk Try.prog G4 := by
  intro w0 B f args m; unfold G4; split
  · exact g_lw_ok _ _ _ _
  · exact g_From_ok _ _ _ _
  · exact g_rFrom_ok _ _ _ _
  · exact g_minus_ok _ _ _ _
  · exact g_known_ok _ _ _ _
  · exact g_Small_ok _ _ _ _
  · exact g_neg_ok _ _ _ _
  · exact g_rneg_ok _ _ _ _
  · exact g_lowByte_ok _ _ _ _
  · exact g_Shl_ok _ _ _ _
  · exact g_Shr_ok _ _ _ _
  · exact g_Sar_ok _ _ _ _
  · exact g_Byte_ok _ _ _ _
  · exact g_Extend_ok _ _ _ _
  · exact g_Add_ok _ _ _ _
  · exact g_Sub_ok _ _ _ _
  · exact g_Mul_ok _ _ _ _
  · exact g_Div_ok _ _ _ _
  · exact g_Sdiv_ok _ _ _ _
  · exact g_AddMod_ok _ _ _ _
  · exact g_MulMod_ok _ _ _ _
  · exact g_length_ok _ _ _ _
  · exact g_Read_ok _ _ _ _
  · exact trivial
theorem G4_lw : G4 37 = g_lw := by funext args m; rfl
theorem G4_From : G4 36 = g_From := by funext args m; rfl
theorem G4_rFrom : G4 60 = g_rFrom := by funext args m; rfl
theorem G4_minus : G4 54 = g_minus := by funext args m; rfl
theorem G4_known : G4 12 = g_known := by funext args m; rfl
theorem G4_Small : G4 29 = g_Small := by funext args m; rfl
theorem G4_neg : G4 50 = g_neg := by funext args m; rfl
theorem G4_rneg : G4 52 = g_rneg := by funext args m; rfl
theorem G4_lowByte : G4 72 = g_lowByte := by funext args m; rfl
theorem G4_Shl : G4 21 = g_Shl := by funext args m; rfl
theorem G4_Shr : G4 23 = g_Shr := by funext args m; rfl
theorem G4_Sar : G4 25 = g_Sar := by funext args m; rfl
theorem G4_Byte : G4 27 = g_Byte := by funext args m; rfl
theorem G4_Extend : G4 19 = g_Extend := by funext args m; rfl
theorem G4_Add : G4 55 = g_Add := by funext args m; rfl
theorem G4_Sub : G4 49 = g_Sub := by funext args m; rfl
theorem G4_Mul : G4 59 = g_Mul := by funext args m; rfl
theorem G4_Div : G4 8 = g_Div := by funext args m; rfl
theorem G4_Sdiv : G4 10 = g_Sdiv := by funext args m; rfl
theorem G4_AddMod : G4 13 = g_AddMod := by funext args m; rfl
theorem G4_MulMod : G4 15 = g_MulMod := by funext args m; rfl
theorem G4_length : G4 58 = g_length := by funext args m; rfl
theorem G4_Read : G4 34 = g_Read := by funext args m; rfl

end Go.Proofs.Ytgmlabdcfbeijaa
