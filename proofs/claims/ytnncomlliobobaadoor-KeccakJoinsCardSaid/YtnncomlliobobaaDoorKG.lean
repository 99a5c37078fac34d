/-
  The law KeccakJoins of package quaestorlaw02 (the document's Join, walked) answers true for all lists of words; the listed variables are read out of the row.
-/
import Derived.Test.YtnncomlliobobaaDoorKL
import Derived.Test.YtnncomlliobobaaDoorKV
import Derived.Test.YtnncomlliobobaaDoorFV
import Derived.Test.YtnncomlliobobaaDoorCards
import Derived.Test.YtnncomlliobobaaDoorTie
import Derived.Deep.DeepHandedRow
import Derived.Lib.LaidTab
import Derived.OpenShut
namespace Go.Proofs.YtnncomlliobobaaDoor
set_option linter.unusedSimpArgs false
set_option linter.unusedVariables false
set_option maxHeartbeats 4000000
set_option maxRecDepth 10000
open Go.RowKit
def GKJ : Ctr := fun f args m => match f with
  | 22 => g_rBytes args m
  | 9 => g_qSum args m
  | _ => .none
theorem GKJ_ok : GOk Tryd.prog GKJ := by
  intro w0 B f args m; unfold GKJ; split
  · exact g_rBytes_ok _ _ _ _
  · exact g_qSum_ok _ _ _ _
  · exact trivial
theorem GKJ_rBytes : GKJ 22 = g_rBytes := by funext args m; rfl
theorem GKJ_qSum : GKJ 9 = g_qSum := by funext args m; rfl

theorem qjoin_vc (l : List Nat) (a : Option Addr) (n cp : Nat) (hl : l.length = n) (hc : n ≤ cp) (hb : n ≤ 1000) (ha : adr a n cp) (w : World) (hm : MemOk w [] [.ro a (.words l)] w) :
    Calls Tryd.prog 11 (cvs [.sl 0 a 0 0 4 n cp]).toArray w (fun en w' => ∃ u, en = .returned u ∧ ∃ v m', u = cv v ∧ MemOk w [] m' w' ∧ v = .word (kSum (wB l n))) := by
  have hbl : ∀ z, (bytI z 32).length = 32 := fun z => bytI_len z 32
  refine Vc.calls T0_ok Tryd.func11 rfl rfl (args := [.sl 0 a 0 0 4 n cp]) (k := 19) rfl hm ?_; change Vc _ _ (c8 (.sl 0 a 0 0 4 n cp) .undef .undef .undef .undef .undef .undef .undef (c8 .undef .undef .undef .undef .undef .undef .undef .undef ([.undef, .undef, .undef, .undef]))) _ _
  ((repeat (first | (with_reducible refine Vc.seq fun N hN => ?_) | (with_reducible refine Vc.block ?_) | ((with_reducible refine Vc.skip ?_); dsimp only [thenK, blockK, Nat.beq]; (first | (refine hN _ _ ?_; clear hN N) | skip)) | ((with_reducible refine Vc.exit ?_); dsimp only [thenK, blockK, Nat.beq]; (first | (refine hN _ _ ?_; clear hN N) | skip)) | (with_reducible intro _) | ((with_reducible refine And.intro ?_ ?_); (focus (first | ((repeat' with_reducible apply And.intro) <;> first | with_reducible exact True.intro | with_reducible assumption | with_reducible rfl | with_reducible exact allU_0 | omega) | exact sd0))) | ((first | ((with_reducible refine askT_of ?_ (fun hb => ?_)); (focus (first | ((repeat' with_reducible apply And.intro) <;> first | with_reducible exact True.intro | with_reducible assumption | with_reducible rfl | with_reducible exact allU_0 | omega) | exact sd0)); (try simp only [hb])) | ((with_reducible refine Vc.fin ?_); dsimp only [thenK, blockK, retK, resS, resOne, resAll]) | ((with_reducible refine Vc.hold ?_); first | refine Vc.regiont T0_ok GKJ_ok ?_)); (try simp only [pickO, nthO, dropO, dOp.eq_def, v8A, strIx.eq_def, appT.eq_def, copyStep.eq_def, copyC.eq_def, v8B, adr_some, adr_nil, true_or, dstOf, Bool.not_true, Bool.not_false, evs, evp, v8C, sget, sset, blen, bpush, bget, bset, Nat.beq, Nat.ble, Nat.blt.eq_def, nth?, tys, takeN, Nat.zero_add, fillS, splice, allOne, ordL, intL, wordL, rowL, sapp, resAll, und, lk, hav, agr, bpre, Int.reduceToNat, Int.reduceLE, Int.reduceLT, Nat.reduceLT, Nat.reduceLeDiff, Nat.reduceAdd, Nat.reduceMul, Nat.reduceSub, Int.reduceAdd, Int.reduceSub, Int.reduceMul, eq_self, decide_true, beq_self_eq_true, List.length_cons, List.length_nil, Nat.min_eq_left, IntKind.bits, tabs, GKJ_rBytes, g_rBytes.eq_def, GKJ_qSum, g_qSum.eq_def]); (try simp (disch := omega) only [v8W])) | ((with_reducible refine hN _ _ ?_); clear hN N; (try simp (disch := omega) only [v8W])))); (try ((with_reducible refine Fin.of ?_); (try with_reducible exact True.intro))))
  (revert N; intro N1 hN1)
  rename_i b0
  refine Vc.nilown 3 5 1 .u8 rfl ?_
  (simp only [v8A, strIx.eq_def, appT.eq_def, copyStep.eq_def, copyC.eq_def, v8B, adr_some, adr_nil, true_or, dstOf, Bool.not_true, Bool.not_false, evs, evp, v8C, sget, sset, blen, bpush, bget, bset, Nat.beq, Nat.ble, Nat.blt.eq_def, nth?, tys, takeN, Nat.zero_add, fillS, splice, allOne, ordL, intL, wordL, rowL, sapp, resAll, und, lk, hav, agr, bpre, Int.reduceToNat, Int.reduceLE, Int.reduceLT, Nat.reduceLT, Nat.reduceLeDiff, Nat.reduceAdd, Nat.reduceMul, Nat.reduceSub, Int.reduceAdd, Int.reduceSub, Int.reduceMul, eq_self, decide_true, beq_self_eq_true, List.length_cons, List.length_nil, Nat.min_eq_left, IntKind.bits, tabs])
  refine Vc.loop 5 20 (fun (x : Nat × Value) => [(3, .own 2 x.2 (32 * x.1)), (4, .int .i64 (x.1 : Nat))]) (fun x => [.ro a (.words l), .blk b0 26 (.words [0]), .own x.2 (32 * x.1) 5 1 (.ints .u8 (wB l x.1))]) (fun x => x.1 ≤ n) (fun x => n - x.1) (0, .slice none 0 0) ⟨Nat.zero_le _, ?_, ?_⟩ (fun x junk hx => ?_)
  · ((try simp only [v8A, strIx.eq_def, appT.eq_def, copyStep.eq_def, copyC.eq_def, v8B, adr_some, adr_nil, true_or, dstOf, Bool.not_true, Bool.not_false, evs, evp, v8C, sget, sset, blen, bpush, bget, bset, Nat.beq, Nat.ble, Nat.blt.eq_def, nth?, tys, takeN, Nat.zero_add, fillS, splice, allOne, ordL, intL, wordL, rowL, sapp, resAll, und, lk, hav, agr, bpre, Int.reduceToNat, Int.reduceLE, Int.reduceLT, Nat.reduceLT, Nat.reduceLeDiff, Nat.reduceAdd, Nat.reduceMul, Nat.reduceSub, Int.reduceAdd, Int.reduceSub, Int.reduceMul, eq_self, decide_true, beq_self_eq_true, List.length_cons, List.length_nil, Nat.min_eq_left, IntKind.bits, tabs]); (repeat' with_reducible apply And.intro) <;> first | with_reducible exact True.intro | rfl | with_reducible rfl | (congr 1 <;> omega) | trivial)
  · ((try simp only [v8A, strIx.eq_def, appT.eq_def, copyStep.eq_def, copyC.eq_def, v8B, adr_some, adr_nil, true_or, dstOf, Bool.not_true, Bool.not_false, evs, evp, v8C, sget, sset, blen, bpush, bget, bset, Nat.beq, Nat.ble, Nat.blt.eq_def, nth?, tys, takeN, Nat.zero_add, fillS, splice, allOne, ordL, intL, wordL, rowL, sapp, resAll, und, lk, hav, agr, bpre, Int.reduceToNat, Int.reduceLE, Int.reduceLT, Nat.reduceLT, Nat.reduceLeDiff, Nat.reduceAdd, Nat.reduceMul, Nat.reduceSub, Int.reduceAdd, Int.reduceSub, Int.reduceMul, eq_self, decide_true, beq_self_eq_true, List.length_cons, List.length_nil, Nat.min_eq_left, IntKind.bits, tabs]); (repeat' with_reducible apply And.intro) <;> first | with_reducible exact True.intro | rw [wB_0]; rfl | with_reducible rfl | (congr 1 <;> omega) | trivial)
  · obtain ⟨k, v⟩ := x
    simp only at hx ⊢
    have h0 := wB_len l k (by omega)
    have ha0 := wB_all l k
    have hs : k < n → wB l (k + 1) = wB l k ++ bytI (l.getD k 0) 32 := fun h => wB_s l k (by omega)
    generalize hw : wB l k = o at *
    (simp only [v8A, strIx.eq_def, appT.eq_def, copyStep.eq_def, copyC.eq_def, v8B, adr_some, adr_nil, true_or, dstOf, Bool.not_true, Bool.not_false, evs, evp, v8C, sget, sset, blen, bpush, bget, bset, Nat.beq, Nat.ble, Nat.blt.eq_def, nth?, tys, takeN, Nat.zero_add, fillS, splice, allOne, ordL, intL, wordL, rowL, sapp, resAll, und, lk, hav, agr, bpre, Int.reduceToNat, Int.reduceLE, Int.reduceLT, Nat.reduceLT, Nat.reduceLeDiff, Nat.reduceAdd, Nat.reduceMul, Nat.reduceSub, Int.reduceAdd, Int.reduceSub, Int.reduceMul, eq_self, decide_true, beq_self_eq_true, List.length_cons, List.length_nil, Nat.min_eq_left, IntKind.bits, tabs])
    by_cases hlt : k < n
    · have d1 : decide ((k : Int) < (n : Int)) = true := decide_eq_true (by omega)
      have hs' := hs hlt
      have e1 : 32 * (k + 1) = 32 * k + 32 := by omega
      have u1 : ∀ z, (bytI z 32).take 32 = bytI z 32 := fun z => List.take_of_length_le (by rw [bytI_len]; exact Nat.le_refl _)
      have hz := hbl (l.getD k 0)
      ((repeat (first | (with_reducible refine Vc.seq fun N hN => ?_) | (with_reducible refine Vc.block ?_) | ((with_reducible refine Vc.skip ?_); dsimp only [thenK, blockK, Nat.beq]; (first | (refine hN _ _ ?_; clear hN N) | skip)) | ((with_reducible refine Vc.exit ?_); dsimp only [thenK, blockK, Nat.beq]; (first | (refine hN _ _ ?_; clear hN N) | skip)) | (with_reducible intro _) | ((with_reducible refine And.intro ?_ ?_); (focus (first | ((repeat' with_reducible apply And.intro) <;> first | with_reducible exact True.intro | with_reducible assumption | with_reducible rfl | with_reducible exact allU_0 | omega) | exact sd0))) | ((first | ((with_reducible refine askT_of ?_ (fun hb => ?_)); (focus (first | ((repeat' with_reducible apply And.intro) <;> first | with_reducible exact True.intro | with_reducible assumption | with_reducible rfl | with_reducible exact allU_0 | omega) | exact sd0)); (try simp only [hb])) | ((with_reducible refine Vc.fin ?_); dsimp only [thenK, blockK, retK, resS, resOne, resAll]) | ((with_reducible refine Vc.hold ?_); first | refine Vc.regiont T0_ok GKJ_ok ?_)); (try simp only [pickO, nthO, dropO, dOp.eq_def, v8A, strIx.eq_def, appT.eq_def, copyStep.eq_def, copyC.eq_def, v8B, adr_some, adr_nil, true_or, dstOf, Bool.not_true, Bool.not_false, evs, evp, v8C, sget, sset, blen, bpush, bget, bset, Nat.beq, Nat.ble, Nat.blt.eq_def, nth?, tys, takeN, Nat.zero_add, fillS, splice, allOne, ordL, intL, wordL, rowL, sapp, resAll, und, lk, hav, agr, bpre, Int.reduceToNat, Int.reduceLE, Int.reduceLT, Nat.reduceLT, Nat.reduceLeDiff, Nat.reduceAdd, Nat.reduceMul, Nat.reduceSub, Int.reduceAdd, Int.reduceSub, Int.reduceMul, eq_self, decide_true, beq_self_eq_true, List.length_cons, List.length_nil, Nat.min_eq_left, IntKind.bits, tabs, GKJ_rBytes, g_rBytes.eq_def, GKJ_qSum, g_qSum.eq_def, d1]); (try simp (disch := omega) only [v8W])) | ((with_reducible refine hN _ _ ?_); clear hN N; (try simp (disch := omega) only [v8W])))); (try ((with_reducible refine Fin.of ?_); (try with_reducible exact True.intro))))
      (refine Vc.cond T0_ok (t := true) (by rfl) (fun _ => ?_) (fun h => Bool.noConfusion h))
      ((repeat (first | (with_reducible refine Vc.seq fun N hN => ?_) | (with_reducible refine Vc.block ?_) | ((with_reducible refine Vc.skip ?_); dsimp only [thenK, blockK, Nat.beq]; (first | (refine hN _ _ ?_; clear hN N) | skip)) | ((with_reducible refine Vc.exit ?_); dsimp only [thenK, blockK, Nat.beq]; (first | (refine hN _ _ ?_; clear hN N) | skip)) | (with_reducible intro _) | ((with_reducible refine And.intro ?_ ?_); (focus (first | ((repeat' with_reducible apply And.intro) <;> first | with_reducible exact True.intro | with_reducible assumption | with_reducible rfl | omega) | exact sd0))) | ((first | ((with_reducible refine askT_of ?_ (fun hb => ?_)); (focus (first | ((repeat' with_reducible apply And.intro) <;> first | with_reducible exact True.intro | with_reducible assumption | with_reducible rfl | omega) | exact sd0)); (try simp only [hb])) | ((with_reducible refine Vc.fin ?_); dsimp only [thenK, blockK, retK, resS, resOne, resAll]) | ((with_reducible refine Vc.hold ?_); first | refine Vc.regiont T0_ok GKJ_ok ?_)); (try simp only [pickO, nthO, dropO, dOp.eq_def, v8A, strIx.eq_def, appT.eq_def, copyStep.eq_def, copyC.eq_def, v8B, adr_some, adr_nil, true_or, dstOf, Bool.not_true, Bool.not_false, evs, evp, v8C, sget, sset, blen, bpush, bget, bset, Nat.beq, Nat.ble, Nat.blt.eq_def, nth?, tys, takeN, Nat.zero_add, fillS, splice, allOne, ordL, intL, wordL, rowL, sapp, resAll, und, lk, hav, agr, bpre, Int.reduceToNat, Int.reduceLE, Int.reduceLT, Nat.reduceLT, Nat.reduceLeDiff, Nat.reduceAdd, Nat.reduceMul, Nat.reduceSub, Int.reduceAdd, Int.reduceSub, Int.reduceMul, eq_self, decide_true, beq_self_eq_true, List.length_cons, List.length_nil, Nat.min_eq_left, IntKind.bits, tabs, GKJ_rBytes, g_rBytes.eq_def, GKJ_qSum, g_qSum.eq_def, tnc, List.drop_zero, u1]); (try simp (disch := omega) only [v8W])) | ((with_reducible refine hN _ _ ?_); clear hN N; (try simp (disch := omega) only [v8W])))); (try ((with_reducible refine Fin.of ?_); (try with_reducible exact True.intro))))
      rename_i vb vq
      refine ⟨(k + 1, vq), by simp only; omega, ?_, ?_, by simp only; omega⟩
      · ((try simp only [v8A, strIx.eq_def, appT.eq_def, copyStep.eq_def, copyC.eq_def, v8B, adr_some, adr_nil, true_or, dstOf, Bool.not_true, Bool.not_false, evs, evp, v8C, sget, sset, blen, bpush, bget, bset, Nat.beq, Nat.ble, Nat.blt.eq_def, nth?, tys, takeN, Nat.zero_add, fillS, splice, allOne, ordL, intL, wordL, rowL, sapp, resAll, und, lk, hav, agr, bpre, Int.reduceToNat, Int.reduceLE, Int.reduceLT, Nat.reduceLT, Nat.reduceLeDiff, Nat.reduceAdd, Nat.reduceMul, Nat.reduceSub, Int.reduceAdd, Int.reduceSub, Int.reduceMul, eq_self, decide_true, beq_self_eq_true, List.length_cons, List.length_nil, Nat.min_eq_left, IntKind.bits, tabs]); (repeat' with_reducible apply And.intro) <;> first | with_reducible exact True.intro | rw [e1] | (congr 1 <;> omega))
      · ((try simp only [v8A, strIx.eq_def, appT.eq_def, copyStep.eq_def, copyC.eq_def, v8B, adr_some, adr_nil, true_or, dstOf, Bool.not_true, Bool.not_false, evs, evp, v8C, sget, sset, blen, bpush, bget, bset, Nat.beq, Nat.ble, Nat.blt.eq_def, nth?, tys, takeN, Nat.zero_add, fillS, splice, allOne, ordL, intL, wordL, rowL, sapp, resAll, und, lk, hav, agr, bpre, Int.reduceToNat, Int.reduceLE, Int.reduceLT, Nat.reduceLT, Nat.reduceLeDiff, Nat.reduceAdd, Nat.reduceMul, Nat.reduceSub, Int.reduceAdd, Int.reduceSub, Int.reduceMul, eq_self, decide_true, beq_self_eq_true, List.length_cons, List.length_nil, Nat.min_eq_left, IntKind.bits, tabs]); (repeat' with_reducible apply And.intro) <;> first | with_reducible exact True.intro | rw [hs', e1] | (congr 1 <;> omega))
    · have d1 : decide ((k : Int) < (n : Int)) = false := decide_eq_false (by omega)
      obtain rfl : k = n := by omega
      have u1 : o.take (32 * k) = o := List.take_of_length_le (by omega)
      ((repeat (first | (with_reducible refine Vc.seq fun N hN => ?_) | (with_reducible refine Vc.block ?_) | ((with_reducible refine Vc.skip ?_); dsimp only [thenK, blockK, Nat.beq]; (first | (refine hN _ _ ?_; clear hN N) | skip)) | ((with_reducible refine Vc.exit ?_); dsimp only [thenK, blockK, Nat.beq]; (first | (refine hN _ _ ?_; clear hN N) | skip)) | (with_reducible intro _) | ((with_reducible refine And.intro ?_ ?_); (focus (first | ((repeat' with_reducible apply And.intro) <;> first | with_reducible exact True.intro | with_reducible assumption | with_reducible rfl | with_reducible exact allU_0 | omega) | exact sd0))) | ((first | ((with_reducible refine askT_of ?_ (fun hb => ?_)); (focus (first | ((repeat' with_reducible apply And.intro) <;> first | with_reducible exact True.intro | with_reducible assumption | with_reducible rfl | with_reducible exact allU_0 | omega) | exact sd0)); (try simp only [hb])) | ((with_reducible refine Vc.fin ?_); dsimp only [thenK, blockK, retK, resS, resOne, resAll]) | ((with_reducible refine Vc.hold ?_); first | refine Vc.regiont T0_ok GKJ_ok ?_)); (try simp only [pickO, nthO, dropO, dOp.eq_def, v8A, strIx.eq_def, appT.eq_def, copyStep.eq_def, copyC.eq_def, v8B, adr_some, adr_nil, true_or, dstOf, Bool.not_true, Bool.not_false, evs, evp, v8C, sget, sset, blen, bpush, bget, bset, Nat.beq, Nat.ble, Nat.blt.eq_def, nth?, tys, takeN, Nat.zero_add, fillS, splice, allOne, ordL, intL, wordL, rowL, sapp, resAll, und, lk, hav, agr, bpre, Int.reduceToNat, Int.reduceLE, Int.reduceLT, Nat.reduceLT, Nat.reduceLeDiff, Nat.reduceAdd, Nat.reduceMul, Nat.reduceSub, Int.reduceAdd, Int.reduceSub, Int.reduceMul, eq_self, decide_true, beq_self_eq_true, List.length_cons, List.length_nil, Nat.min_eq_left, IntKind.bits, tabs, GKJ_rBytes, g_rBytes.eq_def, GKJ_qSum, g_qSum.eq_def, d1]); (try simp (disch := omega) only [v8W])) | ((with_reducible refine hN _ _ ?_); clear hN N; (try simp (disch := omega) only [v8W])))); (try ((with_reducible refine Fin.of ?_); (try with_reducible exact True.intro))))
      (refine Vc.cond T0_ok (t := false) (by rfl) (fun h => Bool.noConfusion h) (fun _ => ?_))
      ((repeat (first | (with_reducible refine Vc.seq fun N hN => ?_) | (with_reducible refine Vc.block ?_) | ((with_reducible refine Vc.skip ?_); dsimp only [thenK, blockK, Nat.beq]; (first | (refine hN _ _ ?_; clear hN N) | skip)) | ((with_reducible refine Vc.exit ?_); dsimp only [thenK, blockK, Nat.beq]; (first | (refine hN _ _ ?_; clear hN N) | skip)) | (with_reducible intro _) | ((with_reducible refine And.intro ?_ ?_); (focus (first | ((repeat' with_reducible apply And.intro) <;> first | with_reducible exact True.intro | with_reducible assumption | with_reducible rfl | with_reducible exact allU_0 | omega) | exact sd0))) | ((first | ((with_reducible refine askT_of ?_ (fun hb => ?_)); (focus (first | ((repeat' with_reducible apply And.intro) <;> first | with_reducible exact True.intro | with_reducible assumption | with_reducible rfl | with_reducible exact allU_0 | omega) | exact sd0)); (try simp only [hb])) | ((with_reducible refine Vc.fin ?_); dsimp only [thenK, blockK, retK, resS, resOne, resAll]) | ((with_reducible refine Vc.hold ?_); first | refine Vc.regiont T0_ok GKJ_ok ?_)); (try simp only [pickO, nthO, dropO, dOp.eq_def, v8A, strIx.eq_def, appT.eq_def, copyStep.eq_def, copyC.eq_def, v8B, adr_some, adr_nil, true_or, dstOf, Bool.not_true, Bool.not_false, evs, evp, v8C, sget, sset, blen, bpush, bget, bset, Nat.beq, Nat.ble, Nat.blt.eq_def, nth?, tys, takeN, Nat.zero_add, fillS, splice, allOne, ordL, intL, wordL, rowL, sapp, resAll, und, lk, hav, agr, bpre, Int.reduceToNat, Int.reduceLE, Int.reduceLT, Nat.reduceLT, Nat.reduceLeDiff, Nat.reduceAdd, Nat.reduceMul, Nat.reduceSub, Int.reduceAdd, Int.reduceSub, Int.reduceMul, eq_self, decide_true, beq_self_eq_true, List.length_cons, List.length_nil, Nat.min_eq_left, IntKind.bits, tabs, GKJ_rBytes, g_rBytes.eq_def, GKJ_qSum, g_qSum.eq_def]); (try simp (disch := omega) only [v8W])) | ((with_reducible refine hN _ _ ?_); clear hN N; (try simp (disch := omega) only [v8W])))); (try ((with_reducible refine Fin.of ?_); (try with_reducible exact True.intro))))
      (refine hN1 _ _ ?_; (try clear hN N); clear hN1 N1)
      ((repeat (first | (with_reducible refine Vc.seq fun N hN => ?_) | (with_reducible refine Vc.block ?_) | ((with_reducible refine Vc.skip ?_); dsimp only [thenK, blockK, Nat.beq]; (first | (refine hN _ _ ?_; clear hN N) | skip)) | ((with_reducible refine Vc.exit ?_); dsimp only [thenK, blockK, Nat.beq]; (first | (refine hN _ _ ?_; clear hN N) | skip)) | (with_reducible intro _) | ((with_reducible refine And.intro ?_ ?_); (focus (first | ((repeat' with_reducible apply And.intro) <;> first | with_reducible exact True.intro | with_reducible assumption | with_reducible rfl | with_reducible exact allU_0 | omega) | exact sd0))) | ((first | ((with_reducible refine askT_of ?_ (fun hb => ?_)); (focus (first | ((repeat' with_reducible apply And.intro) <;> first | with_reducible exact True.intro | with_reducible assumption | with_reducible rfl | with_reducible exact allU_0 | omega) | exact sd0)); (try simp only [hb])) | ((with_reducible refine Vc.fin ?_); dsimp only [thenK, blockK, retK, resS, resOne, resAll]) | ((with_reducible refine Vc.hold ?_); first | refine Vc.regiont T0_ok GKJ_ok ?_)); (try simp only [pickO, nthO, dropO, dOp.eq_def, v8A, strIx.eq_def, appT.eq_def, copyStep.eq_def, copyC.eq_def, v8B, adr_some, adr_nil, true_or, dstOf, Bool.not_true, Bool.not_false, evs, evp, v8C, sget, sset, blen, bpush, bget, bset, Nat.beq, Nat.ble, Nat.blt.eq_def, nth?, tys, takeN, Nat.zero_add, fillS, splice, allOne, ordL, intL, wordL, rowL, sapp, resAll, und, lk, hav, agr, bpre, Int.reduceToNat, Int.reduceLE, Int.reduceLT, Nat.reduceLT, Nat.reduceLeDiff, Nat.reduceAdd, Nat.reduceMul, Nat.reduceSub, Int.reduceAdd, Int.reduceSub, Int.reduceMul, eq_self, decide_true, beq_self_eq_true, List.length_cons, List.length_nil, Nat.min_eq_left, IntKind.bits, tabs, GKJ_rBytes, g_rBytes.eq_def, GKJ_qSum, g_qSum.eq_def, List.drop_zero, u1]); (try simp (disch := omega) only [v8W])) | ((with_reducible refine hN _ _ ?_); clear hN N; (try simp (disch := omega) only [v8W])))); (try ((with_reducible refine Fin.of ?_); (try with_reducible exact True.intro))))
      exact ⟨⟨⟨trivial, trivial⟩, trivial, trivial⟩, by rw [hw]⟩
def g_qJoin (args : List SV) (m : List Blk) : CR :=
  match args with
  | [x] => match srcC x m with
    | some (q, k, .words l) => .pure (q ∧ k ≤ 1000) (.word (kSum (wB l k)))
    | _ => .none
  | _ => .none
theorem g_qJoin_ok (w0 : World) (B : List Nat) (args : List SV) (m : List Blk) : CROk Tryd.prog w0 B 11 args m (g_qJoin args m) := by
  unfold g_qJoin
  split
  · rename_i x
    split
    · rename_i q k l hs
      intro ⟨hq, hk⟩ w hm
      obtain ⟨l1, a, cp, e1, b1, m1, d1⟩ := src_ro hs hq hm
      have hl : l.length = k := by rw [words_cells_len] at l1; simp only [conEs] at l1; omega
      have e : cvs [x] = cvs [.sl 0 a 0 0 4 k cp] := by simp only [cvs]; rw [e1]; rfl
      rw [e]
      exact calls_pure Tryd.func11 rfl rfl (qjoin_vc l a k cp hl b1 hk d1 w m1)
    · exact trivial
  · exact trivial
def GKB : Ctr := fun f args m => match f with
  | 8 => g_kSum args m
  | 10 => g_kJoin args m
  | 7 => g_kKnown args m
  | 11 => g_qJoin args m
  | _ => .none
theorem GKB_ok : GOk Tryd.prog GKB := by
  intro w0 B f args m; unfold GKB; split
  · exact g_kSum_ok _ _ _ _
  · exact g_kJoin_ok _ _ _ _
  · exact g_kKnown_ok _ _ _ _
  · exact g_qJoin_ok _ _ _ _
  · exact trivial
theorem GKB_kSum : GKB 8 = g_kSum := by funext args m; rfl
theorem GKB_kJoin : GKB 10 = g_kJoin := by funext args m; rfl
theorem GKB_kKnown : GKB 7 = g_kKnown := by funext args m; rfl
theorem GKB_qJoin : GKB 11 = g_qJoin := by funext args m; rfl

theorem kjoins_law (l : List Nat) (a : Option Addr) (n cp : Nat) (hl : l.length = n) (hc : n ≤ cp) (ha : adr a n cp) (w : World) (hm : MemOk w [] [.ro (some ⟨2, 0, none⟩) (.ints .u64 kKeys), .ro (some ⟨3, 0, none⟩) (.ints .u8 kPathI), .ro a (.words l)] w) :
    Calls Tryd.prog 4 (cvs [.sl 2 a 0 0 4 n cp]).toArray w (Yes w) := by
  have t1 : (l.drop 0).take n = l := by rw [List.drop_zero, List.take_of_length_le (by omega)]
  have t2 : l.take n = l := List.take_of_length_le (by omega)
  have he : ∀ z, eqW z z = true := fun z => eqW_of rfl
  by_cases hk : n ≤ 46
  · have d1 : decide ((46 : Int) < (n : Int)) = false := decide_eq_false (by omega)
    refine Vc.calls T0_ok Tryd.func4 rfl rfl (args := [.sl 2 a 0 0 4 n cp]) (k := 13) rfl hm ?_; change Vc _ _ (c8 (.sl 2 a 0 0 4 n cp) .undef .undef .undef .undef .undef .undef .undef ([.undef, .undef, .undef, .undef, .undef, .undef])) _ _
    ((repeat (first | (with_reducible refine Vc.seq fun N hN => ?_) | (with_reducible refine Vc.block ?_) | ((with_reducible refine Vc.skip ?_); dsimp only [thenK, blockK, Nat.beq]; (first | (refine hN _ _ ?_; clear hN N) | skip)) | ((with_reducible refine Vc.exit ?_); dsimp only [thenK, blockK, Nat.beq]; (first | (refine hN _ _ ?_; clear hN N) | skip)) | (with_reducible intro _) | ((with_reducible refine And.intro ?_ ?_); (focus (first | ((repeat' with_reducible apply And.intro) <;> first | with_reducible exact True.intro | with_reducible assumption | with_reducible rfl | with_reducible exact allU_0 | omega) | exact sd0))) | ((first | ((with_reducible refine askT_of ?_ (fun hb => ?_)); (focus (first | ((repeat' with_reducible apply And.intro) <;> first | with_reducible exact True.intro | with_reducible assumption | with_reducible rfl | with_reducible exact allU_0 | omega) | exact sd0)); (try simp only [hb])) | ((with_reducible refine Vc.fin ?_); dsimp only [thenK, blockK, retK, resS, resOne, resAll]) | ((with_reducible refine Vc.hold ?_); first | refine Vc.regiont T0_ok GKB_ok ?_)); (try simp only [pickO, nthO, dropO, dOp.eq_def, v8A, strIx.eq_def, appT.eq_def, copyStep.eq_def, copyC.eq_def, v8B, adr_some, adr_nil, true_or, dstOf, Bool.not_true, Bool.not_false, evs, evp, v8C, sget, sset, blen, bpush, bget, bset, Nat.beq, Nat.ble, Nat.blt.eq_def, nth?, tys, takeN, Nat.zero_add, fillS, splice, allOne, ordL, intL, wordL, rowL, sapp, resAll, und, lk, hav, agr, bpre, Int.reduceToNat, Int.reduceLE, Int.reduceLT, Nat.reduceLT, Nat.reduceLeDiff, Nat.reduceAdd, Nat.reduceMul, Nat.reduceSub, Int.reduceAdd, Int.reduceSub, Int.reduceMul, eq_self, decide_true, beq_self_eq_true, List.length_cons, List.length_nil, Nat.min_eq_left, IntKind.bits, tabs, GKB_kSum, g_kSum.eq_def, GKB_kJoin, g_kJoin.eq_def, GKB_kKnown, g_kKnown.eq_def, GKB_qJoin, g_qJoin.eq_def, d1]); (try simp (disch := omega) only [v8W])) | ((with_reducible refine hN _ _ ?_); clear hN N; (try simp (disch := omega) only [v8W])))); (try ((with_reducible refine Fin.of ?_); (try with_reducible exact True.intro))))
    (refine Vc.cond T0_ok (t := false) (by rfl) (fun h => Bool.noConfusion h) (fun _ => ?_))
    ((repeat (first | (with_reducible refine Vc.seq fun N hN => ?_) | (with_reducible refine Vc.block ?_) | ((with_reducible refine Vc.skip ?_); dsimp only [thenK, blockK, Nat.beq]; (first | (refine hN _ _ ?_; clear hN N) | skip)) | ((with_reducible refine Vc.exit ?_); dsimp only [thenK, blockK, Nat.beq]; (first | (refine hN _ _ ?_; clear hN N) | skip)) | (with_reducible intro _) | ((with_reducible refine And.intro ?_ ?_); (focus (first | ((repeat' with_reducible apply And.intro) <;> first | with_reducible exact True.intro | with_reducible assumption | with_reducible rfl | with_reducible exact allU_0 | omega) | exact sd0))) | ((first | ((with_reducible refine askT_of ?_ (fun hb => ?_)); (focus (first | ((repeat' with_reducible apply And.intro) <;> first | with_reducible exact True.intro | with_reducible assumption | with_reducible rfl | with_reducible exact allU_0 | omega) | exact sd0)); (try simp only [hb])) | ((with_reducible refine Vc.fin ?_); dsimp only [thenK, blockK, retK, resS, resOne, resAll]) | ((with_reducible refine Vc.hold ?_); first | refine Vc.regiont T0_ok GKB_ok ?_)); (try simp only [pickO, nthO, dropO, dOp.eq_def, v8A, strIx.eq_def, appT.eq_def, copyStep.eq_def, copyC.eq_def, v8B, adr_some, adr_nil, true_or, dstOf, Bool.not_true, Bool.not_false, evs, evp, v8C, sget, sset, blen, bpush, bget, bset, Nat.beq, Nat.ble, Nat.blt.eq_def, nth?, tys, takeN, Nat.zero_add, fillS, splice, allOne, ordL, intL, wordL, rowL, sapp, resAll, und, lk, hav, agr, bpre, Int.reduceToNat, Int.reduceLE, Int.reduceLT, Nat.reduceLT, Nat.reduceLeDiff, Nat.reduceAdd, Nat.reduceMul, Nat.reduceSub, Int.reduceAdd, Int.reduceSub, Int.reduceMul, eq_self, decide_true, beq_self_eq_true, List.length_cons, List.length_nil, Nat.min_eq_left, IntKind.bits, tabs, GKB_kSum, g_kSum.eq_def, GKB_kJoin, g_kJoin.eq_def, GKB_kKnown, g_kKnown.eq_def, GKB_qJoin, g_qJoin.eq_def, t1, t2, he, List.drop_zero]); (try simp (disch := omega) only [v8W])) | ((with_reducible refine hN _ _ ?_); clear hN N; (try simp (disch := omega) only [v8W])))); (try ((with_reducible refine Fin.of ?_); (try with_reducible exact True.intro))))
    exact ⟨trivial, trivial⟩
  · have d1 : decide ((46 : Int) < (n : Int)) = true := decide_eq_true (by omega)
    refine Vc.calls T0_ok Tryd.func4 rfl rfl (args := [.sl 2 a 0 0 4 n cp]) (k := 13) rfl hm ?_; change Vc _ _ (c8 (.sl 2 a 0 0 4 n cp) .undef .undef .undef .undef .undef .undef .undef ([.undef, .undef, .undef, .undef, .undef, .undef])) _ _
    ((repeat (first | (with_reducible refine Vc.seq fun N hN => ?_) | (with_reducible refine Vc.block ?_) | ((with_reducible refine Vc.skip ?_); dsimp only [thenK, blockK, Nat.beq]; (first | (refine hN _ _ ?_; clear hN N) | skip)) | ((with_reducible refine Vc.exit ?_); dsimp only [thenK, blockK, Nat.beq]; (first | (refine hN _ _ ?_; clear hN N) | skip)) | (with_reducible intro _) | ((with_reducible refine And.intro ?_ ?_); (focus (first | ((repeat' with_reducible apply And.intro) <;> first | with_reducible exact True.intro | with_reducible assumption | with_reducible rfl | with_reducible exact allU_0 | omega) | exact sd0))) | ((first | ((with_reducible refine askT_of ?_ (fun hb => ?_)); (focus (first | ((repeat' with_reducible apply And.intro) <;> first | with_reducible exact True.intro | with_reducible assumption | with_reducible rfl | with_reducible exact allU_0 | omega) | exact sd0)); (try simp only [hb])) | ((with_reducible refine Vc.fin ?_); dsimp only [thenK, blockK, retK, resS, resOne, resAll]) | ((with_reducible refine Vc.hold ?_); first | refine Vc.regiont T0_ok GKB_ok ?_)); (try simp only [pickO, nthO, dropO, dOp.eq_def, v8A, strIx.eq_def, appT.eq_def, copyStep.eq_def, copyC.eq_def, v8B, adr_some, adr_nil, true_or, dstOf, Bool.not_true, Bool.not_false, evs, evp, v8C, sget, sset, blen, bpush, bget, bset, Nat.beq, Nat.ble, Nat.blt.eq_def, nth?, tys, takeN, Nat.zero_add, fillS, splice, allOne, ordL, intL, wordL, rowL, sapp, resAll, und, lk, hav, agr, bpre, Int.reduceToNat, Int.reduceLE, Int.reduceLT, Nat.reduceLT, Nat.reduceLeDiff, Nat.reduceAdd, Nat.reduceMul, Nat.reduceSub, Int.reduceAdd, Int.reduceSub, Int.reduceMul, eq_self, decide_true, beq_self_eq_true, List.length_cons, List.length_nil, Nat.min_eq_left, IntKind.bits, tabs, GKB_kSum, g_kSum.eq_def, GKB_kJoin, g_kJoin.eq_def, GKB_kKnown, g_kKnown.eq_def, GKB_qJoin, g_qJoin.eq_def, d1]); (try simp (disch := omega) only [v8W])) | ((with_reducible refine hN _ _ ?_); clear hN N; (try simp (disch := omega) only [v8W])))); (try ((with_reducible refine Fin.of ?_); (try with_reducible exact True.intro))))
    (refine Vc.cond T0_ok (t := true) (by rfl) (fun _ => ?_) (fun h => Bool.noConfusion h))
    ((repeat (first | (with_reducible refine Vc.seq fun N hN => ?_) | (with_reducible refine Vc.block ?_) | ((with_reducible refine Vc.skip ?_); dsimp only [thenK, blockK, Nat.beq]; (first | (refine hN _ _ ?_; clear hN N) | skip)) | ((with_reducible refine Vc.exit ?_); dsimp only [thenK, blockK, Nat.beq]; (first | (refine hN _ _ ?_; clear hN N) | skip)) | (with_reducible intro _) | ((with_reducible refine And.intro ?_ ?_); (focus (first | ((repeat' with_reducible apply And.intro) <;> first | with_reducible exact True.intro | with_reducible assumption | with_reducible rfl | with_reducible exact allU_0 | omega) | exact sd0))) | ((first | ((with_reducible refine askT_of ?_ (fun hb => ?_)); (focus (first | ((repeat' with_reducible apply And.intro) <;> first | with_reducible exact True.intro | with_reducible assumption | with_reducible rfl | with_reducible exact allU_0 | omega) | exact sd0)); (try simp only [hb])) | ((with_reducible refine Vc.fin ?_); dsimp only [thenK, blockK, retK, resS, resOne, resAll]) | ((with_reducible refine Vc.hold ?_); first | refine Vc.regiont T0_ok GKB_ok ?_)); (try simp only [pickO, nthO, dropO, dOp.eq_def, v8A, strIx.eq_def, appT.eq_def, copyStep.eq_def, copyC.eq_def, v8B, adr_some, adr_nil, true_or, dstOf, Bool.not_true, Bool.not_false, evs, evp, v8C, sget, sset, blen, bpush, bget, bset, Nat.beq, Nat.ble, Nat.blt.eq_def, nth?, tys, takeN, Nat.zero_add, fillS, splice, allOne, ordL, intL, wordL, rowL, sapp, resAll, und, lk, hav, agr, bpre, Int.reduceToNat, Int.reduceLE, Int.reduceLT, Nat.reduceLT, Nat.reduceLeDiff, Nat.reduceAdd, Nat.reduceMul, Nat.reduceSub, Int.reduceAdd, Int.reduceSub, Int.reduceMul, eq_self, decide_true, beq_self_eq_true, List.length_cons, List.length_nil, Nat.min_eq_left, IntKind.bits, tabs, GKB_kSum, g_kSum.eq_def, GKB_kJoin, g_kJoin.eq_def, GKB_kKnown, g_kKnown.eq_def, GKB_qJoin, g_qJoin.eq_def]); (try simp (disch := omega) only [v8W])) | ((with_reducible refine hN _ _ ?_); clear hN N; (try simp (disch := omega) only [v8W])))); (try ((with_reducible refine Fin.of ?_); (try with_reducible exact True.intro))))
    exact ⟨trivial, trivial⟩
open Go.ChangeShapes Go.WideShapes Go.ChangeAt
theorem kkj_laid {w : World} (h : laidMetH Tryd.prog Rows.keccakJoinsRow.laid w) : RoOk w (some ⟨2, 0, none⟩) (.ints .u64 kKeys) ∧ RoOk w (some ⟨3, 0, none⟩) (.ints .u8 kPathI) :=
  laid_two (n1 := "quaestor/keccak.keys") (n2 := "quaestor/keccak.path") h (by kernel_rfl) (by kernel_rfl) (by kernel_rfl) (by kernel_rfl) (by kernel_rfl) (by kernel_rfl)
theorem kJoins_core (l : List Nat) (a : Option Addr) (n cp : Nat) (hl : l.length = n) (hc : n ≤ cp) (ha : adr a n cp) (w : World) (hr : RoOk w a (.words l)) (h : laidMetH Tryd.prog Rows.keccakJoinsRow.laid w) :
    Calls Tryd.prog 4 (cvs [.sl 2 a 0 0 4 n cp]).toArray w (Yes w) := by
  have hh := kkj_laid h
  exact kjoins_law l a n cp hl hc ha w (ro_cons (ro_cons (ro_cons (ro_nil w) hr) hh.2) hh.1)
def keccakJoins_lay2 : Obj → Obj
  | .cells _ t frozen => .cells #[.int .u64 1, .int .u64 32898, .int .u64 9223372036854808714, .int .u64 9223372039002292224, .int .u64 32907, .int .u64 2147483649, .int .u64 9223372039002292353, .int .u64 9223372036854808585, .int .u64 138, .int .u64 136, .int .u64 2147516425, .int .u64 2147483658, .int .u64 2147516555, .int .u64 9223372036854775947, .int .u64 9223372036854808713, .int .u64 9223372036854808579, .int .u64 9223372036854808578, .int .u64 9223372036854775936, .int .u64 32778, .int .u64 9223372039002259466, .int .u64 9223372039002292353, .int .u64 9223372036854808704, .int .u64 2147483649, .int .u64 9223372039002292232] t frozen
  | o => o
def keccakJoins_lay3 : Obj → Obj
  | .cells _ t frozen => .cells #[.int .u8 10, .int .u8 7, .int .u8 11, .int .u8 17, .int .u8 18, .int .u8 3, .int .u8 5, .int .u8 16, .int .u8 8, .int .u8 21, .int .u8 24, .int .u8 4, .int .u8 15, .int .u8 23, .int .u8 19, .int .u8 13, .int .u8 12, .int .u8 2, .int .u8 20, .int .u8 14, .int .u8 22, .int .u8 9, .int .u8 6, .int .u8 1] t frozen
  | o => o
/-- A world for the witness: the settled one, the listed variables holding what the row lists. -/
noncomputable def keccakJoins_world (os : Os) : World :=
  { World.holding Tryd.prog os ⟨#[], #[], []⟩ with heap := (((World.holding Tryd.prog os ⟨#[], #[], []⟩).heap).modify 2 keccakJoins_lay2).modify 3 keccakJoins_lay3 }
set_option maxRecDepth 100000 in
theorem keccakJoins_laid (os : Os) : laidMet Tryd.prog Rows.keccakJoinsRow.laid ((keccakJoins_world os).forCall (fun _ _ => 0) ⟨#[], #[.slice none 0 0], []⟩).memory :=
  laidMet_of_run' 8 (by kernel_rfl) (by kernel_rfl)
set_option maxRecDepth 100000 in
theorem keccakJoins_reads (os : Os) {H : Type} (enc : TypeId × Value → H) : ∃ places, DataW.whole enc Tryd.prog ((keccakJoins_world os).forCall (fun _ _ => 0) ⟨#[], #[.slice none 0 0], []⟩).memory Tryd.f4.params.toList Rows.keccakJoinsSpec.vars false (#[.slice none 0 0] : Array Value).toList 8 = some ([.nil], [], places) :=
  ⟨[], by kernel_rfl⟩
set_option maxRecDepth 100000 in
theorem keccakJoins_lifted (os : Os) (started : os.Started) (H : Type) (enc : TypeId × Value → H) (F : Stop.Interp) :
    ReturnsInHanded {} Tryd.checked os 4 .any ((OpenSpec.ofChange Rows.keccakJoinsSpec).preRow enc Tryd.prog Tryd.f4 Rows.keccakJoinsRow.domain false Rows.keccakJoinsRow.laid) (((OpenSpec.ofChange Rows.keccakJoinsSpec).at F).post enc Tryd.prog Tryd.f4 false true false false) := by
  obtain ⟨places, hx⟩ := keccakJoins_reads os enc
  refine returnsInHanded_of_row (C := Tryd.checked) (s := OpenSpec.ofChange Rows.keccakJoinsSpec) Tryd.own started (by kernel_rfl) Tryd.func4
    (witness_row_at (enc := enc) (C := Tryd.checked) false (keccakJoins_world os) #[.slice none 0 0] rfl (by kernel_rfl) (by kernel_rfl) (by kernel_rfl)
      (OpenSpec.preRow_of_cond 8 hx (by kernel_rfl) (fun k hk => by cases hk) (by kernel_rfl) (keccakJoins_laid os))) ?_
  intro W0 base args ds gs before hval0 hW _ _ _ hlaid _ _
  have hval : ∀ (j : Nat) t v, Tryd.f4.params[j]? = some t → args[j]? = some v → Value.okWide Tryd.prog W0 .any base t v := hval0
  have hW' := hW
  obtain ⟨p, q, hA0, hV, rfl, hfz, hnd⟩ := hW
  have hA : DataW.TrodAll enc Tryd.prog W0 0 (fun _ => true) true Tryd.f4.params.toList args.toList ds p := hA0
  rw [Tryd.params4] at hA hval
  obtain ⟨v0, d0, rfl, rfl, h0⟩ := trodAll_one hA
  obtain ⟨rfl, rfl⟩ := trodVars_none hV
  obtain ⟨a0, n0, c0, x0, rfl, l0, k0, m0, q0, f0, r0, s0⟩ := words_open (hval 0 _ v0 rfl rfl) h0
  refine (calls_args (by simp only [cvs, cv_sl]; try rfl) (kJoins_core x0 a0 n0 c0 l0 k0 q0 W0 r0 hlaid)).mono fun e W' h => ?_
  obtain ⟨he, hw⟩ := Yes.out h
  subst he
  exact ⟨_, rfl, post_gr hW' hw (fun _ _ _ => trodAll_mk1 (shut_bool Tryd.underlying4 true)) (fun qq sp hsp => by
    have hh := trodAll_mk1 (s0 qq sp (fun z hz => hsp z (by simp [hz])))
    try simp only [List.append_nil, List.nil_append, List.append_assoc] at hh
    try simp only [List.append_nil, List.nil_append, List.append_assoc]
    exact hh) (fun _ => rfl) (ok_one (by kernel_rfl) rfl (okWide_bool_mk Tryd.underlying4 true))⟩
theorem keccakJoins_said : Rows.KeccakJoinsSaid :=
  OpenClaim.holds_of_cond 4 Tryd.f4 rfl rfl rfl rfl rfl rfl rfl ⟨rfl, rfl, rfl, rfl, rfl⟩ rfl rfl rfl rfl rfl (by kernel_rfl) Tryd.func4 (by kernel_rfl)
    (of_decide_eq_true (by kernel_rfl)) (by unfold Func.isWrapper; first | (rw [if_pos (by decide +kernel)]; kernel_rfl) | (rw [if_neg (by decide +kernel)]; exact ⟨rfl, rfl⟩))
    (fun os started H enc _ F => by rw [OpenClaim.pre_eq_preRow]; exact keccakJoins_lifted os started H enc F)
theorem keccakJoins_plain (f : FuncId) (fn : Func) (hf : Tryd.pinned.checked.prog.funcNamed "quaestor/quaestorlaw02.KeccakJoins" = some f) (hfn : Tryd.pinned.checked.prog.funcs[f]? = some fn) :
    false = Tryd.pinned.checked.prog.looks [] ∧ ∀ (j : Nat) t, fn.params[j]? = some t → Tryd.pinned.checked.prog.wantsStandIn t = false := by
  obtain rfl : f = 4 := Option.some.inj ((show Tryd.prog.funcNamed "quaestor/quaestorlaw02.KeccakJoins" = some 4 by kernel_rfl).symm.trans hf) |>.symm
  obtain rfl : fn = Tryd.f4 := (Option.some.inj (Tryd.func4.symm.trans hfn)).symm
  refine ⟨by kernel_rfl, fun j t ht => ?_⟩
  rw [Tryd.params4] at ht
  have ht2 := Array.mem_of_getElem? ht
  simp only [List.mem_toArray, List.mem_cons, List.not_mem_nil, or_false] at ht2
  rcases ht2 with rfl
  · exact (show Tryd.prog.wantsStandIn 29 = false by kernel_rfl)
theorem KeccakJoins_holds : Rows.KeccakJoinsCardSaid :=
  Claim7.holds_tied_plain_at .later [] _ _ _ _ keccakJoins_said (fun _ h => by cases h) (by kernel_rfl) (fun _ h => by cases h) keccakJoins_row_tie rfl ⟨rfl, rfl⟩ (by kernel_rfl) rfl keccakJoins_plain (by kernel_rfl)
#print axioms KeccakJoins_holds
end Go.Proofs.YtnncomlliobobaaDoor
