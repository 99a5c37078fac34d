/-
  SHA-256 by the document (quaestorref03), walked: turning a number, the keys, a block's words. No condition.
-/
import Derived.Test.YtnncomlliobobaaDoorS5
namespace Go.Proofs.YtnncomlliobobaaDoor
set_option linter.unusedSimpArgs false
set_option linter.unusedVariables false
set_option maxHeartbeats 4000000
set_option maxRecDepth 10000
open Go.RowKit
theorem or32_comm (x y : Int) : bits .or .u32 x y = bits .or .u32 y x := by
  unfold bits
  simp only [BitVec.or_comm]
theorem qrot_vc (v n : Int) (hn : 1 ≤ n ∧ n ≤ 31) (w : World) : Calls Tryd.prog 33 (cvs [.int .u32 v, .int .i64 n]).toArray w (fun en w' => ∃ u, en = .returned u ∧ ∃ v' m', u = cv v' ∧ MemOk w [] m' w' ∧ v' = .int .u32 (rr v n.toNat)) := by
  have e1 : min n.toNat 32 = n.toNat := by omega
  have e2 : min (32 - n).toNat 32 = 32 - n.toNat := by omega
  have e3 : rr v n.toNat = bits .or .u32 (v / 2 ^ n.toNat) (IntKind.u32.wrap (v * 2 ^ (32 - n.toNat))) := or32_comm _ _
  refine Vc.calls T0_ok Tryd.func33 rfl rfl (args := [.int .u32 v, .int .i64 n]) (k := 13) rfl (MemOk.start _) ?_; change Vc _ _ (c8 (.int .u32 v) (.int .i64 n) .undef .undef .undef .undef .undef .undef ([.undef, .undef, .undef, .undef, .undef, .undef, .undef])) _ _
  ((repeat (first | (with_reducible refine Vc.seq fun N hN => ?_) | (with_reducible refine Vc.block ?_) | ((with_reducible refine Vc.skip ?_); dsimp only [thenK, blockK, Nat.beq]; (first | (refine hN _ _ ?_; clear hN N) | skip)) | ((with_reducible refine Vc.exit ?_); dsimp only [thenK, blockK, Nat.beq]; (first | (refine hN _ _ ?_; clear hN N) | skip)) | (with_reducible intro _) | ((with_reducible refine And.intro ?_ ?_); (focus (first | ((repeat' with_reducible apply And.intro) <;> first | with_reducible exact True.intro | with_reducible assumption | with_reducible rfl | with_reducible exact allU_0 | omega) | exact sd0))) | ((first | ((with_reducible refine askT_of ?_ (fun hb => ?_)); (focus (first | ((repeat' with_reducible apply And.intro) <;> first | with_reducible exact True.intro | with_reducible assumption | with_reducible rfl | with_reducible exact allU_0 | omega) | exact sd0)); (try simp only [hb])) | ((with_reducible refine Vc.fin ?_); dsimp only [thenK, blockK, retK, resS, resOne, resAll]) | ((with_reducible refine Vc.hold ?_); first | refine Vc.regiont T0_ok GZ0_ok ?_)); (try simp only [pickO, nthO, dropO, dOp.eq_def, v8A, strIx.eq_def, appT.eq_def, copyStep.eq_def, copyC.eq_def, v8B, adr_some, adr_nil, true_or, dstOf, Bool.not_true, Bool.not_false, evs, evp, v8C, sget, sset, blen, bpush, bget, bset, Nat.beq, Nat.ble, Nat.blt.eq_def, nth?, tys, takeN, Nat.zero_add, fillS, splice, allOne, ordL, intL, wordL, rowL, sapp, resAll, und, lk, hav, agr, bpre, Int.reduceToNat, Int.reduceLE, Int.reduceLT, Nat.reduceLT, Nat.reduceLeDiff, Nat.reduceAdd, Nat.reduceMul, Nat.reduceSub, Int.reduceAdd, Int.reduceSub, Int.reduceMul, eq_self, decide_true, beq_self_eq_true, List.length_cons, List.length_nil, Nat.min_eq_left, IntKind.bits, tabs, e1, e2]); (try simp (disch := omega) only [v8W])) | ((with_reducible refine hN _ _ ?_); clear hN N; (try simp (disch := omega) only [v8W])))); (try ((with_reducible refine Fin.of ?_); (try with_reducible exact True.intro))))
  ((try simp only [v8A, strIx.eq_def, appT.eq_def, copyStep.eq_def, copyC.eq_def, v8B, adr_some, adr_nil, true_or, dstOf, Bool.not_true, Bool.not_false, evs, evp, v8C, sget, sset, blen, bpush, bget, bset, Nat.beq, Nat.ble, Nat.blt.eq_def, nth?, tys, takeN, Nat.zero_add, fillS, splice, allOne, ordL, intL, wordL, rowL, sapp, resAll, und, lk, hav, agr, bpre, Int.reduceToNat, Int.reduceLE, Int.reduceLT, Nat.reduceLT, Nat.reduceLeDiff, Nat.reduceAdd, Nat.reduceMul, Nat.reduceSub, Int.reduceAdd, Int.reduceSub, Int.reduceMul, eq_self, decide_true, beq_self_eq_true, List.length_cons, List.length_nil, Nat.min_eq_left, IntKind.bits, tabs]); (repeat' with_reducible apply And.intro) <;> first | with_reducible exact True.intro | rw [e3] | (congr 1 <;> omega))
def g_qRot (args : List SV) (_m : List Blk) : CR := match args with | [.int .u32 v, .int .i64 n] => .pure (1 ≤ n ∧ n ≤ 31) (.int .u32 (rr v n.toNat)) | _ => .none
theorem g_qRot_ok (w0 : World) (B : List Nat) (args : List SV) (m : List Blk) : CROk Tryd.prog w0 B 33 args m (g_qRot args m) := by
  unfold g_qRot; split
  · rename_i v n; exact fun h w _ => calls_pure Tryd.func33 rfl rfl (qrot_vc v n h w)
  · exact trivial
theorem qkeys_vc (w : World) : Calls Tryd.prog 34 (cvs []).toArray w (fun en w' => ∃ u, en = .returned u ∧ ∃ v m', u = cv v ∧ MemOk w [] m' w' ∧ ∃ nm s, v = .own nm s 64 ∧ bget m' nm = .own s 64 46 1 (.ints .u32 sKeys)) := by
  refine Vc.calls T0_ok Tryd.func34 rfl rfl (args := []) (k := 2) rfl (MemOk.start _) ?_; change Vc _ _ ([.undef, .undef]) _ _
  refine Vc.seq fun N hN => ?_
  refine Vc.regiont T0_ok GZ0_ok ?_
  (simp only [v8A, strIx.eq_def, appT.eq_def, copyStep.eq_def, copyC.eq_def, v8B, adr_some, adr_nil, true_or, dstOf, Bool.not_true, Bool.not_false, evs, evp, v8C, sget, sset, blen, bpush, bget, bset, Nat.beq, Nat.ble, Nat.blt.eq_def, nth?, tys, takeN, Nat.zero_add, fillS, splice, allOne, ordL, intL, wordL, rowL, sapp, resAll, und, lk, hav, agr, bpre, Int.reduceToNat, Int.reduceLE, Int.reduceLT, Nat.reduceLT, Nat.reduceLeDiff, Nat.reduceAdd, Nat.reduceMul, Nat.reduceSub, Int.reduceAdd, Int.reduceSub, Int.reduceMul, eq_self, decide_true, beq_self_eq_true, List.length_cons, List.length_nil, Nat.min_eq_left, IntKind.bits, tabs])
  refine ⟨trivial, hN _ _ ?_⟩
  clear hN N
  refine Vc.seq fun N hN => ?_
  refine Vc.regionOwn T0_ok GZ0_ok (e := 46) (k := .u32) (xs := sKeys) (by rfl) rfl (Nat.le_of_ble_eq_true rfl) (fun v0 => ?_)
  (simp only [v8A, strIx.eq_def, appT.eq_def, copyStep.eq_def, copyC.eq_def, v8B, adr_some, adr_nil, true_or, dstOf, Bool.not_true, Bool.not_false, evs, evp, v8C, sget, sset, blen, bpush, bget, bset, Nat.beq, Nat.ble, Nat.blt.eq_def, nth?, tys, takeN, Nat.zero_add, fillS, splice, allOne, ordL, intL, wordL, rowL, sapp, resAll, und, lk, hav, agr, bpre, Int.reduceToNat, Int.reduceLE, Int.reduceLT, Nat.reduceLT, Nat.reduceLeDiff, Nat.reduceAdd, Nat.reduceMul, Nat.reduceSub, Int.reduceAdd, Int.reduceSub, Int.reduceMul, eq_self, decide_true, beq_self_eq_true, List.length_cons, List.length_nil, Nat.min_eq_left, IntKind.bits, tabs])
  refine ⟨trivial, hN _ _ ?_⟩
  clear hN N
  ((repeat (first | (with_reducible refine Vc.seq fun N hN => ?_) | (with_reducible refine Vc.block ?_) | ((with_reducible refine Vc.skip ?_); dsimp only [thenK, blockK, Nat.beq]; (first | (refine hN _ _ ?_; clear hN N) | skip)) | ((with_reducible refine Vc.exit ?_); dsimp only [thenK, blockK, Nat.beq]; (first | (refine hN _ _ ?_; clear hN N) | skip)) | (with_reducible intro _) | ((with_reducible refine And.intro ?_ ?_); (focus (first | ((repeat' with_reducible apply And.intro) <;> first | with_reducible exact True.intro | with_reducible assumption | with_reducible rfl | with_reducible exact allU_0 | omega) | exact sd0))) | ((first | ((with_reducible refine askT_of ?_ (fun hb => ?_)); (focus (first | ((repeat' with_reducible apply And.intro) <;> first | with_reducible exact True.intro | with_reducible assumption | with_reducible rfl | with_reducible exact allU_0 | omega) | exact sd0)); (try simp only [hb])) | ((with_reducible refine Vc.fin ?_); dsimp only [thenK, blockK, retK, resS, resOne, resAll]) | ((with_reducible refine Vc.hold ?_); first | refine Vc.regiont T0_ok GZ0_ok ?_)); (try simp only [pickO, nthO, dropO, dOp.eq_def, v8A, strIx.eq_def, appT.eq_def, copyStep.eq_def, copyC.eq_def, v8B, adr_some, adr_nil, true_or, dstOf, Bool.not_true, Bool.not_false, evs, evp, v8C, sget, sset, blen, bpush, bget, bset, Nat.beq, Nat.ble, Nat.blt.eq_def, nth?, tys, takeN, Nat.zero_add, fillS, splice, allOne, ordL, intL, wordL, rowL, sapp, resAll, und, lk, hav, agr, bpre, Int.reduceToNat, Int.reduceLE, Int.reduceLT, Nat.reduceLT, Nat.reduceLeDiff, Nat.reduceAdd, Nat.reduceMul, Nat.reduceSub, Int.reduceAdd, Int.reduceSub, Int.reduceMul, eq_self, decide_true, beq_self_eq_true, List.length_cons, List.length_nil, Nat.min_eq_left, IntKind.bits, tabs]); (try simp (disch := omega) only [v8W])) | ((with_reducible refine hN _ _ ?_); clear hN N; (try simp (disch := omega) only [v8W])))); (try ((with_reducible refine Fin.of ?_); (try with_reducible exact True.intro))))
  exact ⟨trivial, 0, v0, rfl, rfl⟩
def g_qKeys (args : List SV) (_m : List Blk) : CR :=
  match args with
  | [] => .own True 46 1 64 (.ints .u32 sKeys) (fun v => v)
  | _ => .none
theorem g_qKeys_ok (w0 : World) (B : List Nat) (args : List SV) (m : List Blk) : CROk Tryd.prog w0 B 34 args m (g_qKeys args m) := by
  unfold g_qKeys
  split
  · intro _ w _
    refine .inr ⟨enter_run Tryd.func34 rfl rfl _ w, (qkeys_vc w).mono fun e w' ⟨u, he, v', m', hu, hm, nm, s, hv, hs⟩ => ⟨u, he, s, ?_, hm.grown, ?_⟩⟩
    · rw [hu, hv]; rfl
    · exact hm.each _ (bget_mem hs (by simp))
  · exact trivial
def GS6 : Ctr := fun f args m => match f with
  | 33 => g_qRot args m
  | 34 => g_qKeys args m
  | _ => .none
theorem GS6_ok : GOk Tryd.prog GS6 := by
  intro w0 B f args m; unfold GS6; split
  · exact g_qRot_ok _ _ _ _
  · exact g_qKeys_ok _ _ _ _
  · exact trivial
theorem GS6_qRot : GS6 33 = g_qRot := by funext args m; rfl
theorem GS6_qKeys : GS6 34 = g_qKeys := by funext args m; rfl

def qW1 (p : List Int) (i : Nat) : Int := bits .or .u32 (bits .or .u32 (bits .or .u32 (p.getD (4 * i) 0 * 2 ^ 24) (p.getD (4 * i + 1) 0 * 2 ^ 16)) (p.getD (4 * i + 2) 0 * 2 ^ 8)) (p.getD (4 * i + 3) 0)
def qW (p : List Int) (n : Nat) : List Int := it (fun w i => w ++ [qW1 p i]) n []
def qX (p : List Int) (n : Nat) : List Int := it (fun w k => w ++ [ad (ad (ad (sg1 (w.getD (k + 14) 0)) (w.getD (k + 9) 0)) (sg0 (w.getD (k + 1) 0))) (w.getD k 0)]) n (qW p 16)
def qOne (s : List Int) (k w : Int) : Int := ad (ad (ad (ad (s.getD 7 0) (xo (xo (rr (s.getD 4 0) 6) (rr (s.getD 4 0) 11)) (rr (s.getD 4 0) 25))) (xo (an (s.getD 4 0) (s.getD 5 0)) (an (no (s.getD 4 0)) (s.getD 6 0)))) k) w
def qTu (s : List Int) (k w : Int) : List Int := [ad (qOne s k w) (tTwo s), s.getD 0 0, s.getD 1 0, s.getD 2 0, ad (s.getD 3 0) (qOne s k w), s.getD 4 0, s.getD 5 0, s.getD 6 0]
def qV (w h : List Int) (n : Nat) : List Int := it (fun v t => qTu v (sKeys.getD t 0) (w.getD t 0)) n h
def qO (h v : List Int) (n : Nat) : List Int := it (fun o i => o ++ [ad (h.getD i 0) (v.getD i 0)]) n []
def qBlk (h p : List Int) : List Int := qO h (qV (qX p 48) h 64) 8
theorem qW_s (p : List Int) (i : Nat) : qW p (i + 1) = qW p i ++ [bits .or .u32 (bits .or .u32 (bits .or .u32 (p.getD (4 * i) 0 * 2 ^ 24) (p.getD (4 * i + 1) 0 * 2 ^ 16)) (p.getD (4 * i + 2) 0 * 2 ^ 8)) (p.getD (4 * i + 3) 0)] := it_s _ _ _
theorem qW_0 (p : List Int) : qW p 0 = [] := it_0 _ _
theorem qW_len (p : List Int) : ∀ n, (qW p n).length = n
  | 0 => by rw [qW_0]; rfl
  | n + 1 => by rw [qW_s, List.length_append, qW_len p n]; rfl
theorem qX_s (p : List Int) (k : Nat) : qX p (k + 1) = qX p k ++ [IntKind.u32.wrap (IntKind.u32.wrap (IntKind.u32.wrap (sg1 ((qX p k).getD (k + 14) 0) + (qX p k).getD (k + 9) 0) + sg0 ((qX p k).getD (k + 1) 0)) + (qX p k).getD k 0)] := it_s _ _ _
theorem qX_0 (p : List Int) : qX p 0 = qW p 16 := it_0 _ _
theorem qX_len (p : List Int) : ∀ n, (qX p n).length = 16 + n
  | 0 => by rw [qX_0, qW_len]
  | n + 1 => by rw [qX_s, List.length_append, qX_len p n]; rfl
theorem qV_s (w h : List Int) (t : Nat) : qV w h (t + 1) = qTu (qV w h t) (sKeys.getD t 0) (w.getD t 0) := it_s _ _ _
theorem qV_0 (w h : List Int) : qV w h 0 = h := it_0 _ _
theorem qV_len {h : List Int} (hl : h.length = 8) (w : List Int) : ∀ n, (qV w h n).length = 8
  | 0 => by rw [qV_0]; exact hl
  | n + 1 => by rw [qV_s]; rfl
theorem qO_s (h v : List Int) (i : Nat) : qO h v (i + 1) = qO h v i ++ [IntKind.u32.wrap (h.getD i 0 + v.getD i 0)] := it_s _ _ _
theorem qO_0 (h v : List Int) : qO h v 0 = [] := it_0 _ _
theorem qO_len (h v : List Int) : ∀ n, (qO h v n).length = n
  | 0 => by rw [qO_0]; rfl
  | n + 1 => by rw [qO_s, List.length_append, qO_len h v n]; rfl
end Go.Proofs.YtnncomlliobobaaDoor
