/-
  Bytecode: the laws of the looks and of the places to jump to, walked. No condition.
-/
import Derived.Test.YtajgdlekngcmjaaCC
import Derived.Test.YtajgdlekngcmjaaFR
namespace Go.Proofs.Ytajgdlekngcmjaa
set_option linter.unusedSimpArgs false
set_option linter.unusedVariables false
set_option maxHeartbeats 4000000
open Go.RowKit
def g_cKnown (args : List SV) (_m : List Blk) : CR := match args with | [] => .pure (True) (.bool true) | _ => .none
theorem g_cKnown_ok (w0 : World) (B : List Nat) (args : List SV) (m : List Blk) : CROk Try.prog w0 B 11 args m (g_cKnown args m) := by
  unfold g_cKnown; split
  · exact fun h w _ => calls_pure Try.func11 rfl rfl (cknown_vc w)
  · exact trivial
def GD4 : Ctr := fun f args m => match f with
  | 14 => g_At args m
  | 12 => g_Push args m
  | 9 => g_Info args m
  | 18 => g_Jumps args m
  | 11 => g_cKnown args m
  | 16 => g_May args m
  | 15 => g_rAt args m
  | 13 => g_rPush args m
  | 19 => g_rJumps args m
  | 17 => g_rMay args m
  | _ => .none
theorem GD4_ok : GOk Try.prog GD4 := by
  intro w0 B f args m; unfold GD4; split
  · exact g_At_ok _ _ _ _
  · exact g_Push_ok _ _ _ _
  · exact g_Info_ok _ _ _ _
  · exact g_Jumps_ok _ _ _ _
  · exact g_cKnown_ok _ _ _ _
  · exact g_May_ok _ _ _ _
  · exact g_rAt_ok _ _ _ _
  · exact g_rPush_ok _ _ _ _
  · exact g_rJumps_ok _ _ _ _
  · exact g_rMay_ok _ _ _ _
  · exact trivial
theorem GD4_At : GD4 14 = g_At := by funext args m; rfl
theorem GD4_Push : GD4 12 = g_Push := by funext args m; rfl
theorem GD4_Info : GD4 9 = g_Info := by funext args m; rfl
theorem GD4_Jumps : GD4 18 = g_Jumps := by funext args m; rfl
theorem GD4_cKnown : GD4 11 = g_cKnown := by funext args m; rfl
theorem GD4_May : GD4 16 = g_May := by funext args m; rfl
theorem GD4_rAt : GD4 15 = g_rAt := by funext args m; rfl
theorem GD4_rPush : GD4 13 = g_rPush := by funext args m; rfl
theorem GD4_rJumps : GD4 19 = g_rJumps := by funext args m; rfl
theorem GD4_rMay : GD4 17 = g_rMay := by funext args m; rfl

theorem numI_one (x : Int) : numI [x, 0, 0, 0] = x.toNat := by unfold numI num; simp
theorem looks_law (xs : List Int) (a1 : Option Addr) (n1 c1 : Nat) (hl1 : xs.length = n1) (hc1 : n1 ≤ c1) (ha1 : adr a1 n1 c1) (hx1 : allB xs) (pc : Nat) (hp : pc < 18446744073709551616) (t : Nat) (ht : t < W) (w : World) (hm : MemOk w [] [.ro a1 (.ints .u8 xs)] w) :
    Calls Try.prog 4 (cvs [.sl 0 a1 0 0 1 n1 c1, .int .u64 (pc : Int), .word t]).toArray w (Yes w) := by
  have u1 : (xs.drop 0).take n1 = xs := by rw [List.drop_zero, List.take_of_length_le (by omega)]
  have u3 : xs.take n1 = xs := List.take_of_length_le (by omega)
  have he : ∀ z, eqW z z = true := fun z => eqW_of rfl
  have hn1 := numI_one (pc : Int)
  have hau : allU [(pc : Int), 0, 0, 0] := ⟨by omega, by omega, by omega, by omega, trivial⟩
  have hpW : pc < W := Nat.lt_trans hp (by decide)
  by_cases hk : n1 ≤ 1500
  · have d1 : decide ((1500 : Int) < (n1 : Int)) = false := decide_eq_false (by omega)
    refine Vc.calls T0_ok Try.func4 rfl rfl (args := [.sl 0 a1 0 0 1 n1 c1, .int .u64 (pc : Int), .word t]) (k := 65) rfl hm ?_; change Vc _ _ (c8 (.sl 0 a1 0 0 1 n1 c1) (.int .u64 (pc : Int)) (.word t) .undef .undef .undef .undef .undef (c8 .undef .undef .undef .undef .undef .undef .undef .undef (c8 .undef .undef .undef .undef .undef .undef .undef .undef (c8 .undef .undef .undef .undef .undef .undef .undef .undef (c8 .undef .undef .undef .undef .undef .undef .undef .undef (c8 .undef .undef .undef .undef .undef .undef .undef .undef (c8 .undef .undef .undef .undef .undef .undef .undef .undef (c8 .undef .undef .undef .undef .undef .undef .undef .undef ([.undef, .undef, .undef, .undef]))))))))) _ _
    ((repeat (first | (with_reducible refine Vc.seq fun N hN => ?_) | (with_reducible refine Vc.block ?_) | ((with_reducible refine Vc.skip ?_); dsimp only [thenK, blockK, Nat.beq]; (first | (refine hN _ _ ?_; clear hN N) | skip)) | ((with_reducible refine Vc.exit ?_); dsimp only [thenK, blockK, Nat.beq]; (first | (refine hN _ _ ?_; clear hN N) | skip)) | (with_reducible intro _) | ((with_reducible refine And.intro ?_ ?_); (focus (first | ((repeat' with_reducible apply And.intro) <;> first | with_reducible exact True.intro | with_reducible assumption | with_reducible rfl | with_reducible exact allU_0 | omega) | exact sd0))) | ((first | ((with_reducible refine askT_of ?_ (fun hb => ?_)); (focus (first | ((repeat' with_reducible apply And.intro) <;> first | with_reducible exact True.intro | with_reducible assumption | with_reducible rfl | with_reducible exact allU_0 | omega) | exact sd0)); (try simp only [hb])) | ((with_reducible refine Vc.fin ?_); dsimp only [thenK, blockK, retK, resS, resOne, resAll]) | ((with_reducible refine Vc.hold ?_); first | refine Vc.regiont T0_ok GD4_ok ?_ | refine Vc.drawt (id := 6) T0_ok GD4_ok (by kernel_rfl) [0, 1, 2, 3, 4, 5, 6, 8, 9, 7, 10, 11, 12, 13, 14, 15, 16, 18, 19, 20, 17] 21 [] trivial (by kernel_rfl) ?_)); (try simp only [pickO, nthO, dropO, dOp.eq_def, v8A, strIx.eq_def, appT.eq_def, copyStep.eq_def, copyC.eq_def, v8B, adr_some, adr_nil, true_or, dstOf, Bool.not_true, Bool.not_false, evs, evp, v8C, sget, sset, blen, bpush, bget, bset, Nat.beq, Nat.ble, Nat.blt.eq_def, nth?, tys, takeN, Nat.zero_add, fillS, splice, allOne, ordL, intL, wordL, rowL, sapp, resAll, und, lk, hav, agr, bpre, Int.reduceToNat, Int.reduceLE, Int.reduceLT, Nat.reduceLT, Nat.reduceLeDiff, Nat.reduceAdd, Nat.reduceMul, Nat.reduceSub, Int.reduceAdd, Int.reduceSub, Int.reduceMul, eq_self, decide_true, beq_self_eq_true, List.length_cons, List.length_nil, Nat.min_eq_left, IntKind.bits, tabs, GD4_At, g_At.eq_def, GD4_Push, g_Push.eq_def, GD4_Info, g_Info.eq_def, GD4_Jumps, g_Jumps.eq_def, GD4_cKnown, g_cKnown.eq_def, GD4_May, g_May.eq_def, GD4_rAt, g_rAt.eq_def, GD4_rPush, g_rPush.eq_def, GD4_rJumps, g_rJumps.eq_def, GD4_rMay, g_rMay.eq_def, d1]); (try simp (disch := omega) only [v8W])) | ((with_reducible refine hN _ _ ?_); clear hN N; (try simp (disch := omega) only [v8W])))); (try ((with_reducible refine Fin.of ?_); (try with_reducible exact True.intro))))
    (refine Vc.cond T0_ok (t := false) (by rfl) (fun h => Bool.noConfusion h) (fun _ => ?_))
    ((repeat (first | (with_reducible refine Vc.seq fun N hN => ?_) | (with_reducible refine Vc.block ?_) | ((with_reducible refine Vc.skip ?_); dsimp only [thenK, blockK, Nat.beq]; (first | (refine hN _ _ ?_; clear hN N) | skip)) | ((with_reducible refine Vc.exit ?_); dsimp only [thenK, blockK, Nat.beq]; (first | (refine hN _ _ ?_; clear hN N) | skip)) | (with_reducible intro _) | ((with_reducible refine And.intro ?_ ?_); (focus (first | ((repeat' with_reducible apply And.intro) <;> first | with_reducible exact True.intro | with_reducible assumption | with_reducible rfl | with_reducible exact allU_0 | omega) | exact sd0))) | ((first | ((with_reducible refine askT_of ?_ (fun hb => ?_)); (focus (first | ((repeat' with_reducible apply And.intro) <;> first | with_reducible exact True.intro | with_reducible assumption | with_reducible rfl | with_reducible exact allU_0 | omega) | exact sd0)); (try simp only [hb])) | ((with_reducible refine Vc.fin ?_); dsimp only [thenK, blockK, retK, resS, resOne, resAll]) | ((with_reducible refine Vc.hold ?_); first | refine Vc.regiont T0_ok GD4_ok ?_ | refine Vc.drawt (id := 6) T0_ok GD4_ok (by kernel_rfl) [0, 1, 2, 3, 4, 5, 6, 8, 9, 7, 10, 11, 12, 13, 14, 15, 16, 18, 19, 20, 17] 21 [] trivial (by kernel_rfl) ?_)); (try simp only [pickO, nthO, dropO, dOp.eq_def, v8A, strIx.eq_def, appT.eq_def, copyStep.eq_def, copyC.eq_def, v8B, adr_some, adr_nil, true_or, dstOf, Bool.not_true, Bool.not_false, evs, evp, v8C, sget, sset, blen, bpush, bget, bset, Nat.beq, Nat.ble, Nat.blt.eq_def, nth?, tys, takeN, Nat.zero_add, fillS, splice, allOne, ordL, intL, wordL, rowL, sapp, resAll, und, lk, hav, agr, bpre, Int.reduceToNat, Int.reduceLE, Int.reduceLT, Nat.reduceLT, Nat.reduceLeDiff, Nat.reduceAdd, Nat.reduceMul, Nat.reduceSub, Int.reduceAdd, Int.reduceSub, Int.reduceMul, eq_self, decide_true, beq_self_eq_true, List.length_cons, List.length_nil, Nat.min_eq_left, IntKind.bits, tabs, GD4_At, g_At.eq_def, GD4_Push, g_Push.eq_def, GD4_Info, g_Info.eq_def, GD4_Jumps, g_Jumps.eq_def, GD4_cKnown, g_cKnown.eq_def, GD4_May, g_May.eq_def, GD4_rAt, g_rAt.eq_def, GD4_rPush, g_rPush.eq_def, GD4_rJumps, g_rJumps.eq_def, GD4_rMay, g_rMay.eq_def, u1, u3, he, hn1, tnc, List.drop_zero]); (try simp (disch := omega) only [v8W])) | ((with_reducible refine hN _ _ ?_); clear hN N; (try simp (disch := omega) only [v8W])))); (try ((with_reducible refine Fin.of ?_); (try with_reducible exact True.intro))))
    trace_state
    exact ⟨trivial, trivial⟩
  · have d1 : decide ((1500 : Int) < (n1 : Int)) = true := decide_eq_true (by omega)
    refine Vc.calls T0_ok Try.func4 rfl rfl (args := [.sl 0 a1 0 0 1 n1 c1, .int .u64 (pc : Int), .word t]) (k := 65) rfl hm ?_; change Vc _ _ (c8 (.sl 0 a1 0 0 1 n1 c1) (.int .u64 (pc : Int)) (.word t) .undef .undef .undef .undef .undef (c8 .undef .undef .undef .undef .undef .undef .undef .undef (c8 .undef .undef .undef .undef .undef .undef .undef .undef (c8 .undef .undef .undef .undef .undef .undef .undef .undef (c8 .undef .undef .undef .undef .undef .undef .undef .undef (c8 .undef .undef .undef .undef .undef .undef .undef .undef (c8 .undef .undef .undef .undef .undef .undef .undef .undef (c8 .undef .undef .undef .undef .undef .undef .undef .undef ([.undef, .undef, .undef, .undef]))))))))) _ _
    ((repeat (first | (with_reducible refine Vc.seq fun N hN => ?_) | (with_reducible refine Vc.block ?_) | ((with_reducible refine Vc.skip ?_); dsimp only [thenK, blockK, Nat.beq]; (first | (refine hN _ _ ?_; clear hN N) | skip)) | ((with_reducible refine Vc.exit ?_); dsimp only [thenK, blockK, Nat.beq]; (first | (refine hN _ _ ?_; clear hN N) | skip)) | (with_reducible intro _) | ((with_reducible refine And.intro ?_ ?_); (focus (first | ((repeat' with_reducible apply And.intro) <;> first | with_reducible exact True.intro | with_reducible assumption | with_reducible rfl | with_reducible exact allU_0 | omega) | exact sd0))) | ((first | ((with_reducible refine askT_of ?_ (fun hb => ?_)); (focus (first | ((repeat' with_reducible apply And.intro) <;> first | with_reducible exact True.intro | with_reducible assumption | with_reducible rfl | with_reducible exact allU_0 | omega) | exact sd0)); (try simp only [hb])) | ((with_reducible refine Vc.fin ?_); dsimp only [thenK, blockK, retK, resS, resOne, resAll]) | ((with_reducible refine Vc.hold ?_); first | refine Vc.regiont T0_ok GD4_ok ?_ | refine Vc.drawt (id := 6) T0_ok GD4_ok (by kernel_rfl) [0, 1, 2, 3, 4, 5, 6, 8, 9, 7, 10, 11, 12, 13, 14, 15, 16, 18, 19, 20, 17] 21 [] trivial (by kernel_rfl) ?_)); (try simp only [pickO, nthO, dropO, dOp.eq_def, v8A, strIx.eq_def, appT.eq_def, copyStep.eq_def, copyC.eq_def, v8B, adr_some, adr_nil, true_or, dstOf, Bool.not_true, Bool.not_false, evs, evp, v8C, sget, sset, blen, bpush, bget, bset, Nat.beq, Nat.ble, Nat.blt.eq_def, nth?, tys, takeN, Nat.zero_add, fillS, splice, allOne, ordL, intL, wordL, rowL, sapp, resAll, und, lk, hav, agr, bpre, Int.reduceToNat, Int.reduceLE, Int.reduceLT, Nat.reduceLT, Nat.reduceLeDiff, Nat.reduceAdd, Nat.reduceMul, Nat.reduceSub, Int.reduceAdd, Int.reduceSub, Int.reduceMul, eq_self, decide_true, beq_self_eq_true, List.length_cons, List.length_nil, Nat.min_eq_left, IntKind.bits, tabs, GD4_At, g_At.eq_def, GD4_Push, g_Push.eq_def, GD4_Info, g_Info.eq_def, GD4_Jumps, g_Jumps.eq_def, GD4_cKnown, g_cKnown.eq_def, GD4_May, g_May.eq_def, GD4_rAt, g_rAt.eq_def, GD4_rPush, g_rPush.eq_def, GD4_rJumps, g_rJumps.eq_def, GD4_rMay, g_rMay.eq_def, d1]); (try simp (disch := omega) only [v8W])) | ((with_reducible refine hN _ _ ?_); clear hN N; (try simp (disch := omega) only [v8W])))); (try ((with_reducible refine Fin.of ?_); (try with_reducible exact True.intro))))
    (refine Vc.cond T0_ok (t := true) (by rfl) (fun _ => ?_) (fun h => Bool.noConfusion h))
    ((repeat (first | (with_reducible refine Vc.seq fun N hN => ?_) | (with_reducible refine Vc.block ?_) | ((with_reducible refine Vc.skip ?_); dsimp only [thenK, blockK, Nat.beq]; (first | (refine hN _ _ ?_; clear hN N) | skip)) | ((with_reducible refine Vc.exit ?_); dsimp only [thenK, blockK, Nat.beq]; (first | (refine hN _ _ ?_; clear hN N) | skip)) | (with_reducible intro _) | ((with_reducible refine And.intro ?_ ?_); (focus (first | ((repeat' with_reducible apply And.intro) <;> first | with_reducible exact True.intro | with_reducible assumption | with_reducible rfl | with_reducible exact allU_0 | omega) | exact sd0))) | ((first | ((with_reducible refine askT_of ?_ (fun hb => ?_)); (focus (first | ((repeat' with_reducible apply And.intro) <;> first | with_reducible exact True.intro | with_reducible assumption | with_reducible rfl | with_reducible exact allU_0 | omega) | exact sd0)); (try simp only [hb])) | ((with_reducible refine Vc.fin ?_); dsimp only [thenK, blockK, retK, resS, resOne, resAll]) | ((with_reducible refine Vc.hold ?_); first | refine Vc.regiont T0_ok GD4_ok ?_ | refine Vc.drawt (id := 6) T0_ok GD4_ok (by kernel_rfl) [0, 1, 2, 3, 4, 5, 6, 8, 9, 7, 10, 11, 12, 13, 14, 15, 16, 18, 19, 20, 17] 21 [] trivial (by kernel_rfl) ?_)); (try simp only [pickO, nthO, dropO, dOp.eq_def, v8A, strIx.eq_def, appT.eq_def, copyStep.eq_def, copyC.eq_def, v8B, adr_some, adr_nil, true_or, dstOf, Bool.not_true, Bool.not_false, evs, evp, v8C, sget, sset, blen, bpush, bget, bset, Nat.beq, Nat.ble, Nat.blt.eq_def, nth?, tys, takeN, Nat.zero_add, fillS, splice, allOne, ordL, intL, wordL, rowL, sapp, resAll, und, lk, hav, agr, bpre, Int.reduceToNat, Int.reduceLE, Int.reduceLT, Nat.reduceLT, Nat.reduceLeDiff, Nat.reduceAdd, Nat.reduceMul, Nat.reduceSub, Int.reduceAdd, Int.reduceSub, Int.reduceMul, eq_self, decide_true, beq_self_eq_true, List.length_cons, List.length_nil, Nat.min_eq_left, IntKind.bits, tabs, GD4_At, g_At.eq_def, GD4_Push, g_Push.eq_def, GD4_Info, g_Info.eq_def, GD4_Jumps, g_Jumps.eq_def, GD4_cKnown, g_cKnown.eq_def, GD4_May, g_May.eq_def, GD4_rAt, g_rAt.eq_def, GD4_rPush, g_rPush.eq_def, GD4_rJumps, g_rJumps.eq_def, GD4_rMay, g_rMay.eq_def]); (try simp (disch := omega) only [v8W])) | ((with_reducible refine hN _ _ ?_); clear hN N; (try simp (disch := omega) only [v8W])))); (try ((with_reducible refine Fin.of ?_); (try with_reducible exact True.intro))))
    exact ⟨trivial, trivial⟩
end Go.Proofs.Ytajgdlekngcmjaa
