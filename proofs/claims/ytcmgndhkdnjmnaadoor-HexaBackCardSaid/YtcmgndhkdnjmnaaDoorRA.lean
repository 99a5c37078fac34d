/-
  The document's shifts (quaestorref01), walked: Shl, Shr, Sar, Extend, Byte.
-/
import Derived.Test.YtcmgndhkdnjmnaaDoorR8
import Derived.Test.YtcmgndhkdnjmnaaDoorR9
namespace Go.Proofs.YtcmgndhkdnjmnaaDoor
set_option linter.unusedSimpArgs false
set_option linter.unusedVariables false
set_option maxHeartbeats 4000000
set_option maxRecDepth 10000
open Go.RowKit
theorem rshl_vc (n a : Nat) (hn : n < W) (ha : a < W) (w : World) : Calls Tryd.prog 27 (cvs [.word n, .word a]).toArray w (fun en w' => ∃ u, en = .returned u ∧ ∃ v m', u = cv v ∧ MemOk w [] m' w' ∧ v = .word (shlM n a)) := by
  have e1 := mv_shl a n
  refine Vc.calls T0_ok Tryd.func27 rfl rfl (args := [.word n, .word a]) (k := 7) rfl (MemOk.start _) ?_; change Vc _ _ (c8 (.word n) (.word a) .undef .undef .undef .undef .undef .undef ([.undef])) _ _
  ((repeat (first | (with_reducible refine Vc.seq fun N hN => ?_) | (with_reducible refine Vc.block ?_) | ((with_reducible refine Vc.skip ?_); dsimp only [thenK, blockK, Nat.beq]; (first | (refine hN _ _ ?_; clear hN N) | skip)) | ((with_reducible refine Vc.exit ?_); dsimp only [thenK, blockK, Nat.beq]; (first | (refine hN _ _ ?_; clear hN N) | skip)) | (with_reducible intro _) | ((with_reducible refine And.intro ?_ ?_); (focus (exact sd0))) | ((first | ((with_reducible refine askT_of ?_ (fun hb => ?_)); (focus (exact sd0)); (try simp only [hb])) | ((with_reducible refine Vc.fin ?_); dsimp only [thenK, blockK, retK, resS, resOne, resAll]) | ((with_reducible refine Vc.hold ?_); first | refine Vc.regiont T0_ok GM_ok ?_ | refine Vc.drawt (id := 1) T0_ok GM_ok (by kernel_rfl) [0, 1, 2] 3 [] trivial (by kernel_rfl) ?_)); (try simp only [pickO, nthO, dropO, dOp.eq_def, v8A, strIx.eq_def, appT.eq_def, v8B, adr_some, adr_nil, true_or, dstOf, Bool.not_true, Bool.not_false, evs, evp, v8C, sget, sset, blen, bpush, bget, bset, Nat.beq, Nat.ble, Nat.blt.eq_def, nth?, tys, takeN, Nat.zero_add, fillS, splice, allOne, ordL, intL, wordL, rowL, sapp, resAll, und, lk, hav, agr, bpre, Int.reduceToNat, Int.reduceLE, Int.reduceLT, Nat.reduceLT, Nat.reduceLeDiff, Nat.reduceAdd, Nat.reduceMul, Nat.reduceSub, Int.reduceAdd, Int.reduceSub, Int.reduceMul, eq_self, decide_true, beq_self_eq_true, List.length_cons, List.length_nil, Nat.min_eq_left, IntKind.bits, tabs, GM_rFrom, g_rFrom.eq_def, GM_lowByte, g_lowByte.eq_def, GM_Read, g_Read.eq_def, GM_Bytes, g_Bytes.eq_def, GM_rbit, g_rbit.eq_def, GM_rSmall, g_rSmall.eq_def, GM_rwith, g_rwith.eq_def, GM_rfar, g_rfar.eq_def, GM_rshift, g_rshift.eq_def]); (try simp (disch := omega) only [v8W])) | ((with_reducible refine hN _ _ ?_); clear hN N; (try simp (disch := omega) only [v8W])))); (try ((with_reducible refine Fin.of ?_); (try with_reducible exact True.intro))))
  ((try simp only [v8A, strIx.eq_def, appT.eq_def, v8B, adr_some, adr_nil, true_or, dstOf, Bool.not_true, Bool.not_false, evs, evp, v8C, sget, sset, blen, bpush, bget, bset, Nat.beq, Nat.ble, Nat.blt.eq_def, nth?, tys, takeN, Nat.zero_add, fillS, splice, allOne, ordL, intL, wordL, rowL, sapp, resAll, und, lk, hav, agr, bpre, Int.reduceToNat, Int.reduceLE, Int.reduceLT, Nat.reduceLT, Nat.reduceLeDiff, Nat.reduceAdd, Nat.reduceMul, Nat.reduceSub, Int.reduceAdd, Int.reduceSub, Int.reduceMul, eq_self, decide_true, beq_self_eq_true, List.length_cons, List.length_nil, Nat.min_eq_left, IntKind.bits, tabs]); (repeat' apply And.intro) <;> first | trivial | with_reducible rfl | (congr 1; omega) | rw [e1])
def g_rShl (args : List SV) (_m : List Blk) : CR := match args with | [.word n, .word a] => .pure (n < W ∧ a < W) (.word (shlM n a)) | _ => .none
theorem g_rShl_ok (w0 : World) (B : List Nat) (args : List SV) (m : List Blk) : CROk Tryd.prog w0 B 27 args m (g_rShl args m) := by
  unfold g_rShl; split
  · rename_i n a; exact fun h w _ => calls_pure Tryd.func27 rfl rfl (rshl_vc n a h.1 h.2 w)
  · exact trivial
end Go.Proofs.YtcmgndhkdnjmnaaDoor
