/-
  The document's bytes of words (quaestorref01), walked: Bytes, Addr, Read, Wide; SameBytes (quaestorref00).
-/
import Derived.Test.YtgllfgpnbdpcdaaDoorR3
import Derived.Test.YtgllfgpnbdpcdaaDoorEO
import Derived.Test.YtgllfgpnbdpcdaaDoorBS
namespace Go.Proofs.YtgllfgpnbdpcdaaDoor
set_option linter.unusedSimpArgs false
set_option linter.unusedVariables false
set_option maxHeartbeats 4000000
set_option maxRecDepth 10000
open Go.RowKit
theorem bytI_get {a n k : Nat} (h : k < n) : (bytI a n)[k]? = some ((byN a (n - 1 - k) : Nat) : Int) := by
  simp only [bytI, List.getElem?_map, List.getElem?_range h, Option.map_some]
theorem wrap_byte (x : Nat) : IntKind.u8.wrap ((x : Nat) : Int) = ((x % 256 : Nat) : Int) := by rw [mod_u8]; omega
/-- A byte of a word, as the document's Bytes takes it. -/
theorem byte_val (a k : Nat) (hk : k < 32) : IntKind.u8.wrap (((lm a (((31 : Int) - (k : Int)) / 8).toNat : Nat) : Int) / 2 ^ min (((31 : Int) - (k : Int)) % 8 * 8).toNat 64) = ((byN a (32 - 1 - k) : Nat) : Int) := by
  have h1 : (((31 : Int) - (k : Int)) / 8).toNat = (32 - 1 - k) / 8 := by omega
  have h2 : min (((31 : Int) - (k : Int)) % 8 * 8).toNat 64 = (32 - 1 - k) % 8 * 8 := by omega
  rw [h1, h2]
  have h3 : ((lm a ((32 - 1 - k) / 8) : Nat) : Int) / 2 ^ ((32 - 1 - k) % 8 * 8) = ((lm a ((32 - 1 - k) / 8) / 2 ^ ((32 - 1 - k) % 8 * 8) : Nat) : Int) := by rw [Int.natCast_ediv, Int.natCast_pow]; rfl
  rw [h3, wrap_byte]; rfl
theorem rbytes_vc (a : Nat) (w : World) : Calls Tryd.prog 30 (cvs [.word a]).toArray w (fun en w' => ∃ u, en = .returned u ∧ ∃ v m', u = cv v ∧ MemOk w [] m' w' ∧ ∃ s, v = .own 1 s 32 ∧ bget m' 1 = .own s 32 5 1 (.ints .u8 (bytI a 32))) := by
  refine Vc.calls T0_ok Tryd.func30 rfl rfl (args := [.word a]) (k := 25) rfl (MemOk.start _) ?_; change Vc _ _ (c8 (.word a) .undef .undef .undef .undef .undef .undef .undef (c8 .undef .undef .undef .undef .undef .undef .undef .undef (c8 .undef .undef .undef .undef .undef .undef .undef .undef ([.undef, .undef])))) _ _
  ((repeat (first | (with_reducible refine Vc.seq fun N hN => ?_) | (with_reducible refine Vc.block ?_) | ((with_reducible refine Vc.skip ?_); dsimp only [thenK, blockK, Nat.beq]; (first | (refine hN _ _ ?_; clear hN N) | skip)) | ((with_reducible refine Vc.exit ?_); dsimp only [thenK, blockK, Nat.beq]; (first | (refine hN _ _ ?_; clear hN N) | skip)) | (with_reducible intro _) | ((with_reducible refine And.intro ?_ ?_); (focus (exact sd0))) | ((first | ((with_reducible refine askT_of ?_ (fun hb => ?_)); (focus (exact sd0)); (try simp only [hb])) | ((with_reducible refine Vc.fin ?_); dsimp only [thenK, blockK, retK, resS, resOne, resAll]) | ((with_reducible refine Vc.hold ?_); first | refine Vc.regiont T0_ok G7_ok ?_)); (try simp only [pickO, nthO, dropO, dOp.eq_def, v8A, strIx.eq_def, appT.eq_def, v8B, adr_some, adr_nil, true_or, dstOf, Bool.not_true, Bool.not_false, evs, evp, v8C, sget, sset, blen, bpush, bget, bset, Nat.beq, Nat.ble, Nat.blt.eq_def, nth?, tys, takeN, Nat.zero_add, fillS, splice, allOne, ordL, intL, wordL, rowL, sapp, resAll, und, lk, hav, agr, bpre, Int.reduceToNat, Int.reduceLE, Int.reduceLT, Nat.reduceLT, Nat.reduceLeDiff, Nat.reduceAdd, Nat.reduceMul, Nat.reduceSub, Int.reduceAdd, Int.reduceSub, Int.reduceMul, eq_self, decide_true, beq_self_eq_true, List.length_cons, List.length_nil, Nat.min_eq_left, IntKind.bits, tabs, G7_From, g_From.eq_def, G7_Small, g_Small.eq_def, G7_lowByte, g_lowByte.eq_def, G7_Bytes, g_Bytes.eq_def]); (try simp (disch := omega) only [v8W])) | ((with_reducible refine hN _ _ ?_); clear hN N; (try simp (disch := omega) only [v8W])))); (try ((with_reducible refine Fin.of ?_); (try with_reducible exact True.intro))))
  (revert N; intro N1 hN1)
  rename_i b0
  refine Vc.nilown 3 5 1 .u8 rfl ?_
  (simp only [v8A, strIx.eq_def, appT.eq_def, v8B, adr_some, adr_nil, true_or, dstOf, Bool.not_true, Bool.not_false, evs, evp, v8C, sget, sset, blen, bpush, bget, bset, Nat.beq, Nat.ble, Nat.blt.eq_def, nth?, tys, takeN, Nat.zero_add, fillS, splice, allOne, ordL, intL, wordL, rowL, sapp, resAll, und, lk, hav, agr, bpre, Int.reduceToNat, Int.reduceLE, Int.reduceLT, Nat.reduceLT, Nat.reduceLeDiff, Nat.reduceAdd, Nat.reduceMul, Nat.reduceSub, Int.reduceAdd, Int.reduceSub, Int.reduceMul, eq_self, decide_true, beq_self_eq_true, List.length_cons, List.length_nil, Nat.min_eq_left, IntKind.bits, tabs])
  refine Vc.loop 5 26 (fun x => [(3, .own 1 x.2 x.1), (4, .int .i64 (x.1 : Nat))])
    (fun x => [.blk b0 24 (.words [a]), .own x.2 x.1 5 1 (.ints .u8 ((bytI a 32).take x.1))])
    (fun x => x.1 ≤ 32) (fun x => 32 - x.1) ((0 : Nat), (.slice none 0 0 : Value)) ⟨Nat.zero_le _, ?_, ?_⟩ (fun x junk hk => ?_)
  · ((try simp only [v8A, strIx.eq_def, appT.eq_def, v8B, adr_some, adr_nil, true_or, dstOf, Bool.not_true, Bool.not_false, evs, evp, v8C, sget, sset, blen, bpush, bget, bset, Nat.beq, Nat.ble, Nat.blt.eq_def, nth?, tys, takeN, Nat.zero_add, fillS, splice, allOne, ordL, intL, wordL, rowL, sapp, resAll, und, lk, hav, agr, bpre, Int.reduceToNat, Int.reduceLE, Int.reduceLT, Nat.reduceLT, Nat.reduceLeDiff, Nat.reduceAdd, Nat.reduceMul, Nat.reduceSub, Int.reduceAdd, Int.reduceSub, Int.reduceMul, eq_self, decide_true, beq_self_eq_true, List.length_cons, List.length_nil, Nat.min_eq_left, IntKind.bits, tabs]); (repeat' apply And.intro) <;> first | trivial | with_reducible rfl | (congr 1; omega) | fail)
  · ((try simp only [v8A, strIx.eq_def, appT.eq_def, v8B, adr_some, adr_nil, true_or, dstOf, Bool.not_true, Bool.not_false, evs, evp, v8C, sget, sset, blen, bpush, bget, bset, Nat.beq, Nat.ble, Nat.blt.eq_def, nth?, tys, takeN, Nat.zero_add, fillS, splice, allOne, ordL, intL, wordL, rowL, sapp, resAll, und, lk, hav, agr, bpre, Int.reduceToNat, Int.reduceLE, Int.reduceLT, Nat.reduceLT, Nat.reduceLeDiff, Nat.reduceAdd, Nat.reduceMul, Nat.reduceSub, Int.reduceAdd, Int.reduceSub, Int.reduceMul, eq_self, decide_true, beq_self_eq_true, List.length_cons, List.length_nil, Nat.min_eq_left, IntKind.bits, tabs]); (repeat' apply And.intro) <;> first | trivial | with_reducible rfl | (congr 1; omega) | fail)
  · obtain ⟨k, s⟩ := x
    simp only at hk ⊢
    (simp only [v8A, strIx.eq_def, appT.eq_def, v8B, adr_some, adr_nil, true_or, dstOf, Bool.not_true, Bool.not_false, evs, evp, v8C, sget, sset, blen, bpush, bget, bset, Nat.beq, Nat.ble, Nat.blt.eq_def, nth?, tys, takeN, Nat.zero_add, fillS, splice, allOne, ordL, intL, wordL, rowL, sapp, resAll, und, lk, hav, agr, bpre, Int.reduceToNat, Int.reduceLE, Int.reduceLT, Nat.reduceLT, Nat.reduceLeDiff, Nat.reduceAdd, Nat.reduceMul, Nat.reduceSub, Int.reduceAdd, Int.reduceSub, Int.reduceMul, eq_self, decide_true, beq_self_eq_true, List.length_cons, List.length_nil, Nat.min_eq_left, IntKind.bits, tabs])
    ((repeat (first | (with_reducible refine Vc.seq fun N hN => ?_) | (with_reducible refine Vc.block ?_) | ((with_reducible refine Vc.skip ?_); dsimp only [thenK, blockK, Nat.beq]; (first | (refine hN _ _ ?_; clear hN N) | skip)) | ((with_reducible refine Vc.exit ?_); dsimp only [thenK, blockK, Nat.beq]; (first | (refine hN _ _ ?_; clear hN N) | skip)) | (with_reducible intro _) | ((with_reducible refine And.intro ?_ ?_); (focus (exact sd0))) | ((first | ((with_reducible refine askT_of ?_ (fun hb => ?_)); (focus (exact sd0)); (try simp only [hb])) | ((with_reducible refine Vc.fin ?_); dsimp only [thenK, blockK, retK, resS, resOne, resAll]) | ((with_reducible refine Vc.hold ?_); first | refine Vc.regiont T0_ok G7_ok ?_)); (try simp only [pickO, nthO, dropO, dOp.eq_def, v8A, strIx.eq_def, appT.eq_def, v8B, adr_some, adr_nil, true_or, dstOf, Bool.not_true, Bool.not_false, evs, evp, v8C, sget, sset, blen, bpush, bget, bset, Nat.beq, Nat.ble, Nat.blt.eq_def, nth?, tys, takeN, Nat.zero_add, fillS, splice, allOne, ordL, intL, wordL, rowL, sapp, resAll, und, lk, hav, agr, bpre, Int.reduceToNat, Int.reduceLE, Int.reduceLT, Nat.reduceLT, Nat.reduceLeDiff, Nat.reduceAdd, Nat.reduceMul, Nat.reduceSub, Int.reduceAdd, Int.reduceSub, Int.reduceMul, eq_self, decide_true, beq_self_eq_true, List.length_cons, List.length_nil, Nat.min_eq_left, IntKind.bits, tabs, G7_From, g_From.eq_def, G7_Small, g_Small.eq_def, G7_lowByte, g_lowByte.eq_def, G7_Bytes, g_Bytes.eq_def]); (try simp (disch := omega) only [v8W])) | ((with_reducible refine hN _ _ ?_); clear hN N; (try simp (disch := omega) only [v8W])))); (try ((with_reducible refine Fin.of ?_); (try with_reducible exact True.intro))))
    (refine Vc.cond T0_ok (by rfl) (fun hb => ?_) (fun hb => ?_))
    · have hk' := of_decide_eq_true hb
      clear hb
      have e1 := byte_val a k (by omega)
      ((repeat (first | (with_reducible refine Vc.seq fun N hN => ?_) | (with_reducible refine Vc.block ?_) | ((with_reducible refine Vc.skip ?_); dsimp only [thenK, blockK, Nat.beq]; (first | (refine hN _ _ ?_; clear hN N) | skip)) | ((with_reducible refine Vc.exit ?_); dsimp only [thenK, blockK, Nat.beq]; (first | (refine hN _ _ ?_; clear hN N) | skip)) | (with_reducible intro _) | ((with_reducible refine And.intro ?_ ?_); (focus (first | ((repeat' with_reducible apply And.intro) <;> first | with_reducible exact True.intro | with_reducible rfl | (simp only [List.length_take, bytI_len, List.length_cons, List.length_nil]; omega) | omega) | exact sd0))) | ((first | ((with_reducible refine askT_of ?_ (fun hb => ?_)); (focus (first | ((repeat' with_reducible apply And.intro) <;> first | with_reducible exact True.intro | with_reducible rfl | (simp only [List.length_take, bytI_len, List.length_cons, List.length_nil]; omega) | omega) | exact sd0)); (try simp only [hb])) | ((with_reducible refine Vc.fin ?_); dsimp only [thenK, blockK, retK, resS, resOne, resAll]) | ((with_reducible refine Vc.hold ?_); first | refine Vc.regiont T0_ok G7_ok ?_)); (try simp only [pickO, nthO, dropO, dOp.eq_def, v8A, strIx.eq_def, appT.eq_def, v8B, adr_some, adr_nil, true_or, dstOf, Bool.not_true, Bool.not_false, evs, evp, v8C, sget, sset, blen, bpush, bget, bset, Nat.beq, Nat.ble, Nat.blt.eq_def, nth?, tys, takeN, Nat.zero_add, fillS, splice, allOne, ordL, intL, wordL, rowL, sapp, resAll, und, lk, hav, agr, bpre, Int.reduceToNat, Int.reduceLE, Int.reduceLT, Nat.reduceLT, Nat.reduceLeDiff, Nat.reduceAdd, Nat.reduceMul, Nat.reduceSub, Int.reduceAdd, Int.reduceSub, Int.reduceMul, eq_self, decide_true, beq_self_eq_true, List.length_cons, List.length_nil, Nat.min_eq_left, IntKind.bits, tabs, G7_From, g_From.eq_def, G7_Small, g_Small.eq_def, G7_lowByte, g_lowByte.eq_def, G7_Bytes, g_Bytes.eq_def]); (try simp (disch := omega) only [v8W])) | ((with_reducible refine hN _ _ ?_); clear hN N; (try simp (disch := omega) only [v8W])))); (try ((with_reducible refine Fin.of ?_); (try with_reducible exact True.intro))))
      rename_i bb v1
      have e2 := take_push (bytI_get (a := a) (show k < 32 by omega))
      refine ⟨(k + 1, v1), by simp only; omega, ?_, ?_, by simp only; omega⟩
      · ((try simp only [v8A, strIx.eq_def, appT.eq_def, v8B, adr_some, adr_nil, true_or, dstOf, Bool.not_true, Bool.not_false, evs, evp, v8C, sget, sset, blen, bpush, bget, bset, Nat.beq, Nat.ble, Nat.blt.eq_def, nth?, tys, takeN, Nat.zero_add, fillS, splice, allOne, ordL, intL, wordL, rowL, sapp, resAll, und, lk, hav, agr, bpre, Int.reduceToNat, Int.reduceLE, Int.reduceLT, Nat.reduceLT, Nat.reduceLeDiff, Nat.reduceAdd, Nat.reduceMul, Nat.reduceSub, Int.reduceAdd, Int.reduceSub, Int.reduceMul, eq_self, decide_true, beq_self_eq_true, List.length_cons, List.length_nil, Nat.min_eq_left, IntKind.bits, tabs]); (repeat' apply And.intro) <;> first | trivial | with_reducible rfl | (congr 1; omega) | fail)
      · ((try simp only [v8A, strIx.eq_def, appT.eq_def, v8B, adr_some, adr_nil, true_or, dstOf, Bool.not_true, Bool.not_false, evs, evp, v8C, sget, sset, blen, bpush, bget, bset, Nat.beq, Nat.ble, Nat.blt.eq_def, nth?, tys, takeN, Nat.zero_add, fillS, splice, allOne, ordL, intL, wordL, rowL, sapp, resAll, und, lk, hav, agr, bpre, Int.reduceToNat, Int.reduceLE, Int.reduceLT, Nat.reduceLT, Nat.reduceLeDiff, Nat.reduceAdd, Nat.reduceMul, Nat.reduceSub, Int.reduceAdd, Int.reduceSub, Int.reduceMul, eq_self, decide_true, beq_self_eq_true, List.length_cons, List.length_nil, Nat.min_eq_left, IntKind.bits, tabs]); (repeat' apply And.intro) <;> first | trivial | with_reducible rfl | (congr 1; omega) | (rw [e1]; simp only [List.drop_zero, List.take_succ_cons, List.take_zero]; rw [e2]))
    · have hk' := of_decide_eq_false hb
      have hk2 : k = 32 := by omega
      subst hk2
      clear hb
      ((repeat (first | (with_reducible refine Vc.seq fun N hN => ?_) | (with_reducible refine Vc.block ?_) | ((with_reducible refine Vc.skip ?_); dsimp only [thenK, blockK, Nat.beq]; (first | (refine hN _ _ ?_; clear hN N) | skip)) | ((with_reducible refine Vc.exit ?_); dsimp only [thenK, blockK, Nat.beq]; (first | (refine hN _ _ ?_; clear hN N) | skip)) | (with_reducible intro _) | ((with_reducible refine And.intro ?_ ?_); (focus (exact sd0))) | ((first | ((with_reducible refine askT_of ?_ (fun hb => ?_)); (focus (exact sd0)); (try simp only [hb])) | ((with_reducible refine Vc.fin ?_); dsimp only [thenK, blockK, retK, resS, resOne, resAll]) | ((with_reducible refine Vc.hold ?_); first | refine Vc.regiont T0_ok G7_ok ?_)); (try simp only [pickO, nthO, dropO, dOp.eq_def, v8A, strIx.eq_def, appT.eq_def, v8B, adr_some, adr_nil, true_or, dstOf, Bool.not_true, Bool.not_false, evs, evp, v8C, sget, sset, blen, bpush, bget, bset, Nat.beq, Nat.ble, Nat.blt.eq_def, nth?, tys, takeN, Nat.zero_add, fillS, splice, allOne, ordL, intL, wordL, rowL, sapp, resAll, und, lk, hav, agr, bpre, Int.reduceToNat, Int.reduceLE, Int.reduceLT, Nat.reduceLT, Nat.reduceLeDiff, Nat.reduceAdd, Nat.reduceMul, Nat.reduceSub, Int.reduceAdd, Int.reduceSub, Int.reduceMul, eq_self, decide_true, beq_self_eq_true, List.length_cons, List.length_nil, Nat.min_eq_left, IntKind.bits, tabs, G7_From, g_From.eq_def, G7_Small, g_Small.eq_def, G7_lowByte, g_lowByte.eq_def, G7_Bytes, g_Bytes.eq_def]); (try simp (disch := omega) only [v8W])) | ((with_reducible refine hN _ _ ?_); clear hN N; (try simp (disch := omega) only [v8W])))); (try ((with_reducible refine Fin.of ?_); (try with_reducible exact True.intro))))
      (refine hN1 _ _ ?_; (try clear hN N); clear hN1 N1)
      ((repeat (first | (with_reducible refine Vc.seq fun N hN => ?_) | (with_reducible refine Vc.block ?_) | ((with_reducible refine Vc.skip ?_); dsimp only [thenK, blockK, Nat.beq]; (first | (refine hN _ _ ?_; clear hN N) | skip)) | ((with_reducible refine Vc.exit ?_); dsimp only [thenK, blockK, Nat.beq]; (first | (refine hN _ _ ?_; clear hN N) | skip)) | (with_reducible intro _) | ((with_reducible refine And.intro ?_ ?_); (focus (exact sd0))) | ((first | ((with_reducible refine askT_of ?_ (fun hb => ?_)); (focus (exact sd0)); (try simp only [hb])) | ((with_reducible refine Vc.fin ?_); dsimp only [thenK, blockK, retK, resS, resOne, resAll]) | ((with_reducible refine Vc.hold ?_); first | refine Vc.regiont T0_ok G7_ok ?_)); (try simp only [pickO, nthO, dropO, dOp.eq_def, v8A, strIx.eq_def, appT.eq_def, v8B, adr_some, adr_nil, true_or, dstOf, Bool.not_true, Bool.not_false, evs, evp, v8C, sget, sset, blen, bpush, bget, bset, Nat.beq, Nat.ble, Nat.blt.eq_def, nth?, tys, takeN, Nat.zero_add, fillS, splice, allOne, ordL, intL, wordL, rowL, sapp, resAll, und, lk, hav, agr, bpre, Int.reduceToNat, Int.reduceLE, Int.reduceLT, Nat.reduceLT, Nat.reduceLeDiff, Nat.reduceAdd, Nat.reduceMul, Nat.reduceSub, Int.reduceAdd, Int.reduceSub, Int.reduceMul, eq_self, decide_true, beq_self_eq_true, List.length_cons, List.length_nil, Nat.min_eq_left, IntKind.bits, tabs, G7_From, g_From.eq_def, G7_Small, g_Small.eq_def, G7_lowByte, g_lowByte.eq_def, G7_Bytes, g_Bytes.eq_def]); (try simp (disch := omega) only [v8W])) | ((with_reducible refine hN _ _ ?_); clear hN N; (try simp (disch := omega) only [v8W])))); (try ((with_reducible refine Fin.of ?_); (try with_reducible exact True.intro))))
      exact ⟨trivial, s, rfl, by rw [List.take_of_length_le (by rw [bytI_len]; exact Nat.le_refl _)]⟩
def g_rBytes (args : List SV) (_m : List Blk) : CR :=
  match args with
  | [.word a] => .own True 5 1 32 (.ints .u8 (bytI a 32)) (fun v => v)
  | _ => .none
theorem g_rBytes_ok (w0 : World) (B : List Nat) (args : List SV) (m : List Blk) : CROk Tryd.prog w0 B 30 args m (g_rBytes args m) := by
  unfold g_rBytes
  split
  · rename_i a
    intro _ w _
    refine .inr ⟨enter_run Tryd.func30 rfl rfl _ w, (rbytes_vc a w).mono fun e w' ⟨u, he, v', m', hu, hm, s, hv, hs⟩ => ⟨u, he, s, ?_, hm.grown, ?_⟩⟩
    · rw [hu, hv]; rfl
    · exact hm.each _ (bget_mem hs (by simp))
  · exact trivial
def GN : Ctr := fun f args m => match f with
  | 42 => g_From args m
  | 33 => g_Small args m
  | 40 => g_lowByte args m
  | 29 => g_Bytes args m
  | 30 => g_rBytes args m
  | _ => .none
theorem GN_ok : GOk Tryd.prog GN := by
  intro w0 B f args m; unfold GN; split
  · exact g_From_ok _ _ _ _
  · exact g_Small_ok _ _ _ _
  · exact g_lowByte_ok _ _ _ _
  · exact g_Bytes_ok _ _ _ _
  · exact g_rBytes_ok _ _ _ _
  · exact trivial
theorem GN_From : GN 42 = g_From := by funext args m; rfl
theorem GN_Small : GN 33 = g_Small := by funext args m; rfl
theorem GN_lowByte : GN 40 = g_lowByte := by funext args m; rfl
theorem GN_Bytes : GN 29 = g_Bytes := by funext args m; rfl
theorem GN_rBytes : GN 30 = g_rBytes := by funext args m; rfl

def GO : Ctr := fun f args m => match f with
  | 42 => g_From args m
  | 33 => g_Small args m
  | 40 => g_lowByte args m
  | 29 => g_Bytes args m
  | 30 => g_rBytes args m
  | _ => .none
theorem GO_ok : GOk Tryd.prog GO := by
  intro w0 B f args m; unfold GO; split
  · exact g_From_ok _ _ _ _
  · exact g_Small_ok _ _ _ _
  · exact g_lowByte_ok _ _ _ _
  · exact g_Bytes_ok _ _ _ _
  · exact g_rBytes_ok _ _ _ _
  · exact trivial
theorem GO_From : GO 42 = g_From := by funext args m; rfl
theorem GO_Small : GO 33 = g_Small := by funext args m; rfl
theorem GO_lowByte : GO 40 = g_lowByte := by funext args m; rfl
theorem GO_Bytes : GO 29 = g_Bytes := by funext args m; rfl
theorem GO_rBytes : GO 30 = g_rBytes := by funext args m; rfl

end Go.Proofs.YtgllfgpnbdpcdaaDoor
