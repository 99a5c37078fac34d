/-
  The chapter's examples and HexaWrites (package quaestorlaw06), walked. No condition.
-/
import Derived.Test.YtcmgndhkdnjmnaaDoorH5
import Derived.Test.YtcmgndhkdnjmnaaDoorFR
namespace Go.Proofs.YtcmgndhkdnjmnaaDoor
set_option linter.unusedSimpArgs false
set_option linter.unusedVariables false
set_option maxHeartbeats 4000000
set_option maxRecDepth 10000
open Go.RowKit
def g_hNum (args : List SV) (_m : List Blk) : CR := match args with | [.word a] => .pure (True) (.str (hexN a)) | _ => .none
theorem g_hNum_ok (w0 : World) (B : List Nat) (args : List SV) (m : List Blk) : CROk Tryd.prog w0 B 10 args m (g_hNum args m) := by
  unfold g_hNum; split
  · rename_i a; exact fun h w _ => calls_pure Tryd.func10 rfl rfl (hnum_vc a w)
  · exact trivial
def g_qNum (args : List SV) (_m : List Blk) : CR := match args with | [.word a] => .pure (True) (.str (hexN a)) | _ => .none
theorem g_qNum_ok (w0 : World) (B : List Nat) (args : List SV) (m : List Blk) : CROk Tryd.prog w0 B 11 args m (g_qNum args m) := by
  unfold g_qNum; split
  · rename_i a; exact fun h w _ => calls_pure Tryd.func11 rfl rfl (qnum_vc a w)
  · exact trivial
theorem hexN_all (a : Nat) : allB (hexN a) := by
  have hD : allB (numD ((bytI a 32).flatMap dgs)) := by
    by_cases h0 : tz 48 ((bytI a 32).flatMap dgs) = []
    · rw [numD_nil h0]; intro y hy; simp only [List.mem_cons, List.not_mem_nil, or_false] at hy; omega
    · rw [numD_some h0]; exact tz_all (flat_all _)
  intro y hy
  simp only [hexN, List.mem_cons] at hy
  rcases hy with rfl | rfl | hy
  · omega
  · omega
  · exact hD y hy
def GX3 : Ctr := fun f args m => match f with
  | 12 => g_hRead args m
  | 14 => g_hCount args m
  | 8 => g_hWrite args m
  | 10 => g_hNum args m
  | _ => .none
theorem GX3_ok : GOk Tryd.prog GX3 := by
  intro w0 B f args m; unfold GX3; split
  · exact g_hRead_ok _ _ _ _
  · exact g_hCount_ok _ _ _ _
  · exact g_hWrite_ok _ _ _ _
  · exact g_hNum_ok _ _ _ _
  · exact trivial
theorem GX3_hRead : GX3 12 = g_hRead := by funext args m; rfl
theorem GX3_hCount : GX3 14 = g_hCount := by funext args m; rfl
theorem GX3_hWrite : GX3 8 = g_hWrite := by funext args m; rfl
theorem GX3_hNum : GX3 10 = g_hNum := by funext args m; rfl

theorem hknown_vc (w : World) : Calls Tryd.prog 7 (cvs []).toArray w (fun en w' => ∃ u, en = .returned u ∧ ∃ v m', u = cv v ∧ MemOk w [] m' w' ∧ v = .bool true) := by
  have k1 : rdH [48, 120, 65] = none := by decide +kernel
  have k2 : cntV [48, 120, 48, 48] = (0, 60) := by decide +kernel
  have k3 : cntV [48, 120] = (0, 60) := by decide +kernel
  have k4 : wrH [10, 255] = [48, 120, 48, 97, 102, 102] := by decide +kernel
  have k5 : hexN 256 = [48, 120, 49, 48, 48] := by decide +kernel
  have k6 : hexN 0 = [48, 120, 48] := by decide +kernel
  have k7 : List.take 2 (List.drop 0 [(10 : Int), 255]) = [10, 255] := rfl
  have k8 : ∀ ys : List Int, decide (ys = ys) = true := fun ys => decide_eq_true rfl
  have k9 : numI [0, 0, 0, 0] = 0 := rfl
  have k10 : numI [256, 0, 0, 0] = 256 := rfl
  have k11 : strI { data := #[48, 120, 48] } = [48, 120, 48] := rfl
  have k12 : strI { data := #[48, 120, 49, 48, 48] } = [48, 120, 49, 48, 48] := rfl
  have b1 : allB [48, 120, 49, 48, 48] := by unfold allB; decide
  have b2 : allB [48, 120, 48] := by unfold allB; decide
  have b3 : allB [48, 120, 48, 97, 102, 102] := by unfold allB; decide
  have b4 : allB [10, 255] := by unfold allB; decide
  have b5 : allB [48, 120, 65] := by unfold allB; decide
  have b6 : allB [48, 120, 48, 48] := by unfold allB; decide
  have b7 : allB [48, 120] := by unfold allB; decide
  have c1 : allU [256, 0, 0, 0] := by refine ⟨?_, ?_, ?_, ?_, ?_⟩ <;> first | exact trivial | omega
  have c2 : allU [0, 0, 0, 0] := allU_0
  refine Vc.calls T0_ok Tryd.func7 rfl rfl (args := []) (k := 44) rfl (MemOk.start _) ?_; change Vc _ _ (c8 .undef .undef .undef .undef .undef .undef .undef .undef (c8 .undef .undef .undef .undef .undef .undef .undef .undef (c8 .undef .undef .undef .undef .undef .undef .undef .undef (c8 .undef .undef .undef .undef .undef .undef .undef .undef (c8 .undef .undef .undef .undef .undef .undef .undef .undef ([.undef, .undef, .undef, .undef])))))) _ _
  ((repeat (first | (with_reducible refine Vc.seq fun N hN => ?_) | (with_reducible refine Vc.block ?_) | ((with_reducible refine Vc.skip ?_); dsimp only [thenK, blockK, Nat.beq]; (first | (refine hN _ _ ?_; clear hN N) | skip)) | ((with_reducible refine Vc.exit ?_); dsimp only [thenK, blockK, Nat.beq]; (first | (refine hN _ _ ?_; clear hN N) | skip)) | (with_reducible intro _) | ((with_reducible refine And.intro ?_ ?_); (focus (first | ((repeat' with_reducible apply And.intro) <;> first | with_reducible exact True.intro | with_reducible assumption | with_reducible rfl | (unfold allB; decide) | (simp only [List.length_cons, List.length_nil]; omega) | omega) | exact sd0))) | ((first | ((with_reducible refine askT_of ?_ (fun hb => ?_)); (focus (first | ((repeat' with_reducible apply And.intro) <;> first | with_reducible exact True.intro | with_reducible assumption | with_reducible rfl | (unfold allB; decide) | (simp only [List.length_cons, List.length_nil]; omega) | omega) | exact sd0)); (try simp only [hb])) | ((with_reducible refine Vc.fin ?_); dsimp only [thenK, blockK, retK, resS, resOne, resAll]) | ((with_reducible refine Vc.hold ?_); first | refine Vc.regiont T0_ok GX3_ok ?_)); (try simp only [pickO, nthO, dropO, dOp.eq_def, v8A, strIx.eq_def, appT.eq_def, v8B, adr_some, adr_nil, true_or, dstOf, Bool.not_true, Bool.not_false, evs, evp, v8C, sget, sset, blen, bpush, bget, bset, Nat.beq, Nat.ble, Nat.blt.eq_def, nth?, tys, takeN, Nat.zero_add, fillS, splice, allOne, ordL, intL, wordL, rowL, sapp, resAll, und, lk, hav, agr, bpre, Int.reduceToNat, Int.reduceLE, Int.reduceLT, Nat.reduceLT, Nat.reduceLeDiff, Nat.reduceAdd, Nat.reduceMul, Nat.reduceSub, Int.reduceAdd, Int.reduceSub, Int.reduceMul, eq_self, decide_true, beq_self_eq_true, List.length_cons, List.length_nil, Nat.min_eq_left, IntKind.bits, tabs, GX3_hRead, g_hRead.eq_def, GX3_hCount, g_hCount.eq_def, GX3_hWrite, g_hWrite.eq_def, GX3_hNum, g_hNum.eq_def, k1, k2, k3, k4, k5, k6, k7, k8, k9, k10, k11, k12]); (try simp (disch := omega) only [v8W])) | ((with_reducible refine hN _ _ ?_); clear hN N; (try simp (disch := omega) only [v8W])))); (try ((with_reducible refine Fin.of ?_); (try with_reducible exact True.intro))))
  ((try simp only [v8A, strIx.eq_def, appT.eq_def, v8B, adr_some, adr_nil, true_or, dstOf, Bool.not_true, Bool.not_false, evs, evp, v8C, sget, sset, blen, bpush, bget, bset, Nat.beq, Nat.ble, Nat.blt.eq_def, nth?, tys, takeN, Nat.zero_add, fillS, splice, allOne, ordL, intL, wordL, rowL, sapp, resAll, und, lk, hav, agr, bpre, Int.reduceToNat, Int.reduceLE, Int.reduceLT, Nat.reduceLT, Nat.reduceLeDiff, Nat.reduceAdd, Nat.reduceMul, Nat.reduceSub, Int.reduceAdd, Int.reduceSub, Int.reduceMul, eq_self, decide_true, beq_self_eq_true, List.length_cons, List.length_nil, Nat.min_eq_left, IntKind.bits, tabs]); (repeat' apply And.intro) <;> first | trivial | with_reducible rfl | (congr 1; omega) | fail)
def g_hKno (args : List SV) (_m : List Blk) : CR := match args with | [] => .pure (True) (.bool true) | _ => .none
theorem g_hKno_ok (w0 : World) (B : List Nat) (args : List SV) (m : List Blk) : CROk Tryd.prog w0 B 7 args m (g_hKno args m) := by
  unfold g_hKno; split
  · exact fun h w _ => calls_pure Tryd.func7 rfl rfl (hknown_vc w)
  · exact trivial
def GX4 : Ctr := fun f args m => match f with
  | 7 => g_hKno args m
  | 8 => g_hWrite args m
  | 9 => g_qWrite args m
  | 10 => g_hNum args m
  | 11 => g_qNum args m
  | _ => .none
theorem GX4_ok : GOk Tryd.prog GX4 := by
  intro w0 B f args m; unfold GX4; split
  · exact g_hKno_ok _ _ _ _
  · exact g_hWrite_ok _ _ _ _
  · exact g_qWrite_ok _ _ _ _
  · exact g_hNum_ok _ _ _ _
  · exact g_qNum_ok _ _ _ _
  · exact trivial
theorem GX4_hKno : GX4 7 = g_hKno := by funext args m; rfl
theorem GX4_hWrite : GX4 8 = g_hWrite := by funext args m; rfl
theorem GX4_qWrite : GX4 9 = g_qWrite := by funext args m; rfl
theorem GX4_hNum : GX4 10 = g_hNum := by funext args m; rfl
theorem GX4_qNum : GX4 11 = g_qNum := by funext args m; rfl

theorem writes_law (b : Option Addr) (n c : Nat) (xs : List Int) (a : Nat) (ha : a < W) (hl : xs.length = n) (hn : n ≤ c) (hc : c ≤ maxLen) (hb : adr b n c) (hx : allB xs) (w : World) (hm : MemOk w [] [.ro b (.ints .u8 xs)] w) :
    Calls Tryd.prog 3 (cvs [.sl 0 b 0 0 1 n c, .word a]).toArray w (Yes w) := by
  have t1 : (xs.drop 0).take n = xs := by rw [List.drop_zero, List.take_of_length_le (by omega)]
  have t2 := wrH_all xs
  have t3 : decide (wrH xs = wrH xs) = true := decide_eq_true rfl
  have t4 : allB (hexN a) := hexN_all a
  have t5 : decide (hexN a = hexN a) = true := decide_eq_true rfl
  by_cases hk : n ≤ 1000
  · have d1 : decide ((1000 : Int) < (n : Int)) = false := decide_eq_false (by omega)
    refine Vc.calls T0_ok Tryd.func3 rfl rfl (args := [.sl 0 b 0 0 1 n c, .word a]) (k := 23) rfl hm ?_; change Vc _ _ (c8 (.sl 0 b 0 0 1 n c) (.word a) .undef .undef .undef .undef .undef .undef (c8 .undef .undef .undef .undef .undef .undef .undef .undef (c8 .undef .undef .undef .undef .undef .undef .undef .undef ([.undef])))) _ _
    ((repeat (first | (with_reducible refine Vc.seq fun N hN => ?_) | (with_reducible refine Vc.block ?_) | ((with_reducible refine Vc.skip ?_); dsimp only [thenK, blockK, Nat.beq]; (first | (refine hN _ _ ?_; clear hN N) | skip)) | ((with_reducible refine Vc.exit ?_); dsimp only [thenK, blockK, Nat.beq]; (first | (refine hN _ _ ?_; clear hN N) | skip)) | (with_reducible intro _) | ((with_reducible refine And.intro ?_ ?_); (focus (first | ((repeat' with_reducible apply And.intro) <;> first | with_reducible exact True.intro | with_reducible assumption | with_reducible rfl | (rw [t1]; assumption) | omega) | exact sd0))) | ((first | ((with_reducible refine askT_of ?_ (fun hb => ?_)); (focus (first | ((repeat' with_reducible apply And.intro) <;> first | with_reducible exact True.intro | with_reducible assumption | with_reducible rfl | (rw [t1]; assumption) | omega) | exact sd0)); (try simp only [hb])) | ((with_reducible refine Vc.fin ?_); dsimp only [thenK, blockK, retK, resS, resOne, resAll]) | ((with_reducible refine Vc.hold ?_); first | refine Vc.regiont T0_ok GX4_ok ?_ | refine Vc.drawt (id := 1) T0_ok GX4_ok (by kernel_rfl) [0, 1, 2, 3, 4, 5, 6, 8, 7, 9, 10, 11, 12, 13, 15, 14] 16 [] trivial (by kernel_rfl) ?_)); (try simp only [pickO, nthO, dropO, dOp.eq_def, v8A, strIx.eq_def, appT.eq_def, v8B, adr_some, adr_nil, true_or, dstOf, Bool.not_true, Bool.not_false, evs, evp, v8C, sget, sset, blen, bpush, bget, bset, Nat.beq, Nat.ble, Nat.blt.eq_def, nth?, tys, takeN, Nat.zero_add, fillS, splice, allOne, ordL, intL, wordL, rowL, sapp, resAll, und, lk, hav, agr, bpre, Int.reduceToNat, Int.reduceLE, Int.reduceLT, Nat.reduceLT, Nat.reduceLeDiff, Nat.reduceAdd, Nat.reduceMul, Nat.reduceSub, Int.reduceAdd, Int.reduceSub, Int.reduceMul, eq_self, decide_true, beq_self_eq_true, List.length_cons, List.length_nil, Nat.min_eq_left, IntKind.bits, tabs, GX4_hKno, g_hKno.eq_def, GX4_hWrite, g_hWrite.eq_def, GX4_qWrite, g_qWrite.eq_def, GX4_hNum, g_hNum.eq_def, GX4_qNum, g_qNum.eq_def, d1, t1, t3, t5]); (try simp (disch := omega) only [v8W])) | ((with_reducible refine hN _ _ ?_); clear hN N; (try simp (disch := omega) only [v8W])))); (try ((with_reducible refine Fin.of ?_); (try with_reducible exact True.intro))))
    exact ⟨trivial, trivial⟩
  · have d1 : decide ((1000 : Int) < (n : Int)) = true := decide_eq_true (by omega)
    refine Vc.calls T0_ok Tryd.func3 rfl rfl (args := [.sl 0 b 0 0 1 n c, .word a]) (k := 23) rfl hm ?_; change Vc _ _ (c8 (.sl 0 b 0 0 1 n c) (.word a) .undef .undef .undef .undef .undef .undef (c8 .undef .undef .undef .undef .undef .undef .undef .undef (c8 .undef .undef .undef .undef .undef .undef .undef .undef ([.undef])))) _ _
    ((repeat (first | (with_reducible refine Vc.seq fun N hN => ?_) | (with_reducible refine Vc.block ?_) | ((with_reducible refine Vc.skip ?_); dsimp only [thenK, blockK, Nat.beq]; (first | (refine hN _ _ ?_; clear hN N) | skip)) | ((with_reducible refine Vc.exit ?_); dsimp only [thenK, blockK, Nat.beq]; (first | (refine hN _ _ ?_; clear hN N) | skip)) | (with_reducible intro _) | ((with_reducible refine And.intro ?_ ?_); (focus (first | ((repeat' with_reducible apply And.intro) <;> first | with_reducible exact True.intro | with_reducible assumption | omega) | exact sd0))) | ((first | ((with_reducible refine askT_of ?_ (fun hb => ?_)); (focus (first | ((repeat' with_reducible apply And.intro) <;> first | with_reducible exact True.intro | with_reducible assumption | omega) | exact sd0)); (try simp only [hb])) | ((with_reducible refine Vc.fin ?_); dsimp only [thenK, blockK, retK, resS, resOne, resAll]) | ((with_reducible refine Vc.hold ?_); first | refine Vc.regiont T0_ok GX4_ok ?_ | refine Vc.drawt (id := 1) T0_ok GX4_ok (by kernel_rfl) [0, 1, 2, 3, 4, 5, 6, 8, 7, 9, 10, 11, 12, 13, 15, 14] 16 [] trivial (by kernel_rfl) ?_)); (try simp only [pickO, nthO, dropO, dOp.eq_def, v8A, strIx.eq_def, appT.eq_def, v8B, adr_some, adr_nil, true_or, dstOf, Bool.not_true, Bool.not_false, evs, evp, v8C, sget, sset, blen, bpush, bget, bset, Nat.beq, Nat.ble, Nat.blt.eq_def, nth?, tys, takeN, Nat.zero_add, fillS, splice, allOne, ordL, intL, wordL, rowL, sapp, resAll, und, lk, hav, agr, bpre, Int.reduceToNat, Int.reduceLE, Int.reduceLT, Nat.reduceLT, Nat.reduceLeDiff, Nat.reduceAdd, Nat.reduceMul, Nat.reduceSub, Int.reduceAdd, Int.reduceSub, Int.reduceMul, eq_self, decide_true, beq_self_eq_true, List.length_cons, List.length_nil, Nat.min_eq_left, IntKind.bits, tabs, GX4_hKno, g_hKno.eq_def, GX4_hWrite, g_hWrite.eq_def, GX4_qWrite, g_qWrite.eq_def, GX4_hNum, g_hNum.eq_def, GX4_qNum, g_qNum.eq_def, d1]); (try simp (disch := omega) only [v8W])) | ((with_reducible refine hN _ _ ?_); clear hN N; (try simp (disch := omega) only [v8W])))); (try ((with_reducible refine Fin.of ?_); (try with_reducible exact True.intro))))
    exact ⟨trivial, trivial⟩
end Go.Proofs.YtcmgndhkdnjmnaaDoor
