/-
  SHA-256 (package sha), walked: turning a number, the two mixtures, a round. No condition.
-/
import Derived.Test.YtnncomlliobobaaDoorS0
namespace Go.Proofs.YtnncomlliobobaaDoor
set_option linter.unusedSimpArgs false
set_option linter.unusedVariables false
set_option maxHeartbeats 4000000
set_option maxRecDepth 10000
open Go.RowKit
def xo (a b : Int) : Int := bits .xor .u32 a b
def an (a b : Int) : Int := bits .and .u32 a b
def no (a : Int) : Int := bits .xor .u32 4294967295 a
def ad (a b : Int) : Int := IntKind.u32.wrap (a + b)
def rr (v : Int) (n : Nat) : Int := bits .or .u32 (IntKind.u32.wrap (v * 2 ^ (32 - n))) (v / 2 ^ n)
def sg0 (v : Int) : Int := xo (xo (rr v 7) (rr v 18)) (v / 2 ^ 3)
def sg1 (v : Int) : Int := xo (xo (rr v 17) (rr v 19)) (v / 2 ^ 10)
/-- A round's two sums. -/
def tOne (s : List Int) (i : Int) : Int := ad (ad (ad (s.getD 7 0) (xo (xo (rr (s.getD 4 0) 6) (rr (s.getD 4 0) 11)) (rr (s.getD 4 0) 25))) (xo (an (s.getD 4 0) (s.getD 5 0)) (an (no (s.getD 4 0)) (s.getD 6 0)))) i
def tTwo (s : List Int) : Int := ad (xo (xo (rr (s.getD 0 0) 2) (rr (s.getD 0 0) 13)) (rr (s.getD 0 0) 22)) (xo (xo (an (s.getD 0 0) (s.getD 1 0)) (an (s.getD 0 0) (s.getD 2 0))) (an (s.getD 1 0) (s.getD 2 0)))
def sTu (s : List Int) (i : Int) : List Int := [ad (tOne s i) (tTwo s), s.getD 0 0, s.getD 1 0, s.getD 2 0, ad (s.getD 3 0) (tOne s i), s.getD 4 0, s.getD 5 0, s.getD 6 0]
theorem and31 (n : Int) (h : -31 ≤ n ∧ n ≤ -1) : bits .and .u64 (n + 18446744073709551616) 31 = n + 32 := by
  obtain ⟨k, hk⟩ := Int.eq_ofNat_of_zero_le (show 0 ≤ n + 18446744073709551616 by omega)
  rw [hk]
  have h1 := bits_and_u64_nat k 31 (by omega) (by decide)
  have h2 := Nat.and_two_pow_sub_one_eq_mod k 5
  have h3 : bits .and .u64 (k : Int) 31 = ((k &&& 31 : Nat) : Int) := h1
  rw [h3, show (31 : Nat) = 2 ^ 5 - 1 from rfl, h2]; omega
theorem rot32_vc (v n : Int) (hn : -31 ≤ n ∧ n ≤ -1) (w : World) : Calls Tryd.prog 42 (cvs [.int .u32 v, .int .i64 n]).toArray w (fun en w' => ∃ u, en = .returned u ∧ ∃ v' m', u = cv v' ∧ MemOk w [] m' w' ∧ v' = .int .u32 (rr v (-n).toNat)) := by
  have e0 := and31 n hn
  have e3 : IntKind.u64.wrap n = n + 18446744073709551616 := by rw [IntKind.wrap_u64]; omega
  have e1 : min (n + 32).toNat 32 = 32 - (-n).toNat := by omega
  have e2 : min (32 - (n + 32)).toNat 32 = (-n).toNat := by omega
  refine Vc.calls T0_ok Tryd.func42 rfl rfl (args := [.int .u32 v, .int .i64 n]) (k := 15) rfl (MemOk.start _) ?_; change Vc _ _ (c8 (.int .u32 v) (.int .i64 n) .undef .undef .undef .undef .undef .undef (c8 .undef .undef .undef .undef .undef .undef .undef .undef ([.undef]))) _ _
  ((repeat (first | (with_reducible refine Vc.seq fun N hN => ?_) | (with_reducible refine Vc.block ?_) | ((with_reducible refine Vc.skip ?_); dsimp only [thenK, blockK, Nat.beq]; (first | (refine hN _ _ ?_; clear hN N) | skip)) | ((with_reducible refine Vc.exit ?_); dsimp only [thenK, blockK, Nat.beq]; (first | (refine hN _ _ ?_; clear hN N) | skip)) | (with_reducible intro _) | ((with_reducible refine And.intro ?_ ?_); (focus (first | ((repeat' with_reducible apply And.intro) <;> first | with_reducible exact True.intro | with_reducible assumption | with_reducible rfl | with_reducible exact allU_0 | omega) | exact sd0))) | ((first | ((with_reducible refine askT_of ?_ (fun hb => ?_)); (focus (first | ((repeat' with_reducible apply And.intro) <;> first | with_reducible exact True.intro | with_reducible assumption | with_reducible rfl | with_reducible exact allU_0 | omega) | exact sd0)); (try simp only [hb])) | ((with_reducible refine Vc.fin ?_); dsimp only [thenK, blockK, retK, resS, resOne, resAll]) | ((with_reducible refine Vc.hold ?_); first | refine Vc.regiont T0_ok GZ0_ok ?_)); (try simp only [pickO, nthO, dropO, dOp.eq_def, v8A, strIx.eq_def, appT.eq_def, copyStep.eq_def, copyC.eq_def, v8B, adr_some, adr_nil, true_or, dstOf, Bool.not_true, Bool.not_false, evs, evp, v8C, sget, sset, blen, bpush, bget, bset, Nat.beq, Nat.ble, Nat.blt.eq_def, nth?, tys, takeN, Nat.zero_add, fillS, splice, allOne, ordL, intL, wordL, rowL, sapp, resAll, und, lk, hav, agr, bpre, Int.reduceToNat, Int.reduceLE, Int.reduceLT, Nat.reduceLT, Nat.reduceLeDiff, Nat.reduceAdd, Nat.reduceMul, Nat.reduceSub, Int.reduceAdd, Int.reduceSub, Int.reduceMul, eq_self, decide_true, beq_self_eq_true, List.length_cons, List.length_nil, Nat.min_eq_left, IntKind.bits, tabs, e3, e0]); (try simp (disch := omega) only [v8W])) | ((with_reducible refine hN _ _ ?_); clear hN N; (try simp (disch := omega) only [v8W])))); (try ((with_reducible refine Fin.of ?_); (try with_reducible exact True.intro))))
  ((try simp only [v8A, strIx.eq_def, appT.eq_def, copyStep.eq_def, copyC.eq_def, v8B, adr_some, adr_nil, true_or, dstOf, Bool.not_true, Bool.not_false, evs, evp, v8C, sget, sset, blen, bpush, bget, bset, Nat.beq, Nat.ble, Nat.blt.eq_def, nth?, tys, takeN, Nat.zero_add, fillS, splice, allOne, ordL, intL, wordL, rowL, sapp, resAll, und, lk, hav, agr, bpre, Int.reduceToNat, Int.reduceLE, Int.reduceLT, Nat.reduceLT, Nat.reduceLeDiff, Nat.reduceAdd, Nat.reduceMul, Nat.reduceSub, Int.reduceAdd, Int.reduceSub, Int.reduceMul, eq_self, decide_true, beq_self_eq_true, List.length_cons, List.length_nil, Nat.min_eq_left, IntKind.bits, tabs]); (repeat' with_reducible apply And.intro) <;> first | with_reducible exact True.intro | (unfold rr; rw [e1, e2]) | with_reducible rfl | (congr 1 <;> omega) | trivial)
def g_Rot32 (args : List SV) (_m : List Blk) : CR := match args with | [.int .u32 v, .int .i64 n] => .pure (-31 ≤ n ∧ n ≤ -1) (.int .u32 (rr v (-n).toNat)) | _ => .none
theorem g_Rot32_ok (w0 : World) (B : List Nat) (args : List SV) (m : List Blk) : CROk Tryd.prog w0 B 42 args m (g_Rot32 args m) := by
  unfold g_Rot32; split
  · rename_i v n; exact fun h w _ => calls_pure Tryd.func42 rfl rfl (rot32_vc v n h w)
  · exact trivial
def GS0 : Ctr := fun f args m => match f with
  | 42 => g_Rot32 args m
  | _ => .none
theorem GS0_ok : GOk Tryd.prog GS0 := by
  intro w0 B f args m; unfold GS0; split
  · exact g_Rot32_ok _ _ _ _
  · exact trivial
theorem GS0_Rot32 : GS0 42 = g_Rot32 := by funext args m; rfl

theorem orot_vc (v n : Int) (hn : 1 ≤ n ∧ n ≤ 31) (w : World) : Calls Tryd.prog 40 (cvs [.int .u32 v, .int .i64 n]).toArray w (fun en w' => ∃ u, en = .returned u ∧ ∃ v' m', u = cv v' ∧ MemOk w [] m' w' ∧ v' = .int .u32 (rr v n.toNat)) := by
  refine Vc.calls T0_ok Tryd.func40 rfl rfl (args := [.int .u32 v, .int .i64 n]) (k := 7) rfl (MemOk.start _) ?_; change Vc _ _ (c8 (.int .u32 v) (.int .i64 n) .undef .undef .undef .undef .undef .undef ([.undef])) _ _
  ((repeat (first | (with_reducible refine Vc.seq fun N hN => ?_) | (with_reducible refine Vc.block ?_) | ((with_reducible refine Vc.skip ?_); dsimp only [thenK, blockK, Nat.beq]; (first | (refine hN _ _ ?_; clear hN N) | skip)) | ((with_reducible refine Vc.exit ?_); dsimp only [thenK, blockK, Nat.beq]; (first | (refine hN _ _ ?_; clear hN N) | skip)) | (with_reducible intro _) | ((with_reducible refine And.intro ?_ ?_); (focus (first | ((repeat' with_reducible apply And.intro) <;> first | with_reducible exact True.intro | with_reducible assumption | with_reducible rfl | with_reducible exact allU_0 | omega) | exact sd0))) | ((first | ((with_reducible refine askT_of ?_ (fun hb => ?_)); (focus (first | ((repeat' with_reducible apply And.intro) <;> first | with_reducible exact True.intro | with_reducible assumption | with_reducible rfl | with_reducible exact allU_0 | omega) | exact sd0)); (try simp only [hb])) | ((with_reducible refine Vc.fin ?_); dsimp only [thenK, blockK, retK, resS, resOne, resAll]) | ((with_reducible refine Vc.hold ?_); first | refine Vc.regiont T0_ok GS0_ok ?_)); (try simp only [pickO, nthO, dropO, dOp.eq_def, v8A, strIx.eq_def, appT.eq_def, copyStep.eq_def, copyC.eq_def, v8B, adr_some, adr_nil, true_or, dstOf, Bool.not_true, Bool.not_false, evs, evp, v8C, sget, sset, blen, bpush, bget, bset, Nat.beq, Nat.ble, Nat.blt.eq_def, nth?, tys, takeN, Nat.zero_add, fillS, splice, allOne, ordL, intL, wordL, rowL, sapp, resAll, und, lk, hav, agr, bpre, Int.reduceToNat, Int.reduceLE, Int.reduceLT, Nat.reduceLT, Nat.reduceLeDiff, Nat.reduceAdd, Nat.reduceMul, Nat.reduceSub, Int.reduceAdd, Int.reduceSub, Int.reduceMul, eq_self, decide_true, beq_self_eq_true, List.length_cons, List.length_nil, Nat.min_eq_left, IntKind.bits, tabs, GS0_Rot32, g_Rot32.eq_def]); (try simp (disch := omega) only [v8W])) | ((with_reducible refine hN _ _ ?_); clear hN N; (try simp (disch := omega) only [v8W])))); (try ((with_reducible refine Fin.of ?_); (try with_reducible exact True.intro))))
  exact ⟨trivial, by rw [show (-(0 - n)).toNat = n.toNat by omega]⟩
def g_oRot (args : List SV) (_m : List Blk) : CR := match args with | [.int .u32 v, .int .i64 n] => .pure (1 ≤ n ∧ n ≤ 31) (.int .u32 (rr v n.toNat)) | _ => .none
theorem g_oRot_ok (w0 : World) (B : List Nat) (args : List SV) (m : List Blk) : CROk Tryd.prog w0 B 40 args m (g_oRot args m) := by
  unfold g_oRot; split
  · rename_i v n; exact fun h w _ => calls_pure Tryd.func40 rfl rfl (orot_vc v n h w)
  · exact trivial
def GS1 : Ctr := fun f args m => match f with
  | 40 => g_oRot args m
  | _ => .none
theorem GS1_ok : GOk Tryd.prog GS1 := by
  intro w0 B f args m; unfold GS1; split
  · exact g_oRot_ok _ _ _ _
  · exact trivial
theorem GS1_oRot : GS1 40 = g_oRot := by funext args m; rfl

theorem sg0_vc (v : Int) (w : World) : Calls Tryd.prog 39 (cvs [.int .u32 v]).toArray w (fun en w' => ∃ u, en = .returned u ∧ ∃ v' m', u = cv v' ∧ MemOk w [] m' w' ∧ v' = .int .u32 (sg0 v)) := by
  refine Vc.calls T0_ok Tryd.func39 rfl rfl (args := [.int .u32 v]) (k := 10) rfl (MemOk.start _) ?_; change Vc _ _ (c8 (.int .u32 v) .undef .undef .undef .undef .undef .undef .undef ([.undef, .undef, .undef])) _ _
  ((repeat (first | (with_reducible refine Vc.seq fun N hN => ?_) | (with_reducible refine Vc.block ?_) | ((with_reducible refine Vc.skip ?_); dsimp only [thenK, blockK, Nat.beq]; (first | (refine hN _ _ ?_; clear hN N) | skip)) | ((with_reducible refine Vc.exit ?_); dsimp only [thenK, blockK, Nat.beq]; (first | (refine hN _ _ ?_; clear hN N) | skip)) | (with_reducible intro _) | ((with_reducible refine And.intro ?_ ?_); (focus (first | ((repeat' with_reducible apply And.intro) <;> first | with_reducible exact True.intro | with_reducible assumption | with_reducible rfl | with_reducible exact allU_0 | omega) | exact sd0))) | ((first | ((with_reducible refine askT_of ?_ (fun hb => ?_)); (focus (first | ((repeat' with_reducible apply And.intro) <;> first | with_reducible exact True.intro | with_reducible assumption | with_reducible rfl | with_reducible exact allU_0 | omega) | exact sd0)); (try simp only [hb])) | ((with_reducible refine Vc.fin ?_); dsimp only [thenK, blockK, retK, resS, resOne, resAll]) | ((with_reducible refine Vc.hold ?_); first | refine Vc.regiont T0_ok GS1_ok ?_)); (try simp only [pickO, nthO, dropO, dOp.eq_def, v8A, strIx.eq_def, appT.eq_def, copyStep.eq_def, copyC.eq_def, v8B, adr_some, adr_nil, true_or, dstOf, Bool.not_true, Bool.not_false, evs, evp, v8C, sget, sset, blen, bpush, bget, bset, Nat.beq, Nat.ble, Nat.blt.eq_def, nth?, tys, takeN, Nat.zero_add, fillS, splice, allOne, ordL, intL, wordL, rowL, sapp, resAll, und, lk, hav, agr, bpre, Int.reduceToNat, Int.reduceLE, Int.reduceLT, Nat.reduceLT, Nat.reduceLeDiff, Nat.reduceAdd, Nat.reduceMul, Nat.reduceSub, Int.reduceAdd, Int.reduceSub, Int.reduceMul, eq_self, decide_true, beq_self_eq_true, List.length_cons, List.length_nil, Nat.min_eq_left, IntKind.bits, tabs, GS1_oRot, g_oRot.eq_def]); (try simp (disch := omega) only [v8W])) | ((with_reducible refine hN _ _ ?_); clear hN N; (try simp (disch := omega) only [v8W])))); (try ((with_reducible refine Fin.of ?_); (try with_reducible exact True.intro))))
  exact ⟨trivial, rfl⟩
theorem sg1_vc (v : Int) (w : World) : Calls Tryd.prog 38 (cvs [.int .u32 v]).toArray w (fun en w' => ∃ u, en = .returned u ∧ ∃ v' m', u = cv v' ∧ MemOk w [] m' w' ∧ v' = .int .u32 (sg1 v)) := by
  refine Vc.calls T0_ok Tryd.func38 rfl rfl (args := [.int .u32 v]) (k := 10) rfl (MemOk.start _) ?_; change Vc _ _ (c8 (.int .u32 v) .undef .undef .undef .undef .undef .undef .undef ([.undef, .undef, .undef])) _ _
  ((repeat (first | (with_reducible refine Vc.seq fun N hN => ?_) | (with_reducible refine Vc.block ?_) | ((with_reducible refine Vc.skip ?_); dsimp only [thenK, blockK, Nat.beq]; (first | (refine hN _ _ ?_; clear hN N) | skip)) | ((with_reducible refine Vc.exit ?_); dsimp only [thenK, blockK, Nat.beq]; (first | (refine hN _ _ ?_; clear hN N) | skip)) | (with_reducible intro _) | ((with_reducible refine And.intro ?_ ?_); (focus (first | ((repeat' with_reducible apply And.intro) <;> first | with_reducible exact True.intro | with_reducible assumption | with_reducible rfl | with_reducible exact allU_0 | omega) | exact sd0))) | ((first | ((with_reducible refine askT_of ?_ (fun hb => ?_)); (focus (first | ((repeat' with_reducible apply And.intro) <;> first | with_reducible exact True.intro | with_reducible assumption | with_reducible rfl | with_reducible exact allU_0 | omega) | exact sd0)); (try simp only [hb])) | ((with_reducible refine Vc.fin ?_); dsimp only [thenK, blockK, retK, resS, resOne, resAll]) | ((with_reducible refine Vc.hold ?_); first | refine Vc.regiont T0_ok GS1_ok ?_)); (try simp only [pickO, nthO, dropO, dOp.eq_def, v8A, strIx.eq_def, appT.eq_def, copyStep.eq_def, copyC.eq_def, v8B, adr_some, adr_nil, true_or, dstOf, Bool.not_true, Bool.not_false, evs, evp, v8C, sget, sset, blen, bpush, bget, bset, Nat.beq, Nat.ble, Nat.blt.eq_def, nth?, tys, takeN, Nat.zero_add, fillS, splice, allOne, ordL, intL, wordL, rowL, sapp, resAll, und, lk, hav, agr, bpre, Int.reduceToNat, Int.reduceLE, Int.reduceLT, Nat.reduceLT, Nat.reduceLeDiff, Nat.reduceAdd, Nat.reduceMul, Nat.reduceSub, Int.reduceAdd, Int.reduceSub, Int.reduceMul, eq_self, decide_true, beq_self_eq_true, List.length_cons, List.length_nil, Nat.min_eq_left, IntKind.bits, tabs, GS1_oRot, g_oRot.eq_def]); (try simp (disch := omega) only [v8W])) | ((with_reducible refine hN _ _ ?_); clear hN N; (try simp (disch := omega) only [v8W])))); (try ((with_reducible refine Fin.of ?_); (try with_reducible exact True.intro))))
  exact ⟨trivial, rfl⟩
def g_oSg0 (args : List SV) (_m : List Blk) : CR := match args with | [.int .u32 v] => .pure (True) (.int .u32 (sg0 v)) | _ => .none
theorem g_oSg0_ok (w0 : World) (B : List Nat) (args : List SV) (m : List Blk) : CROk Tryd.prog w0 B 39 args m (g_oSg0 args m) := by
  unfold g_oSg0; split
  · rename_i v; exact fun h w _ => calls_pure Tryd.func39 rfl rfl (sg0_vc v w)
  · exact trivial
def g_oSg1 (args : List SV) (_m : List Blk) : CR := match args with | [.int .u32 v] => .pure (True) (.int .u32 (sg1 v)) | _ => .none
theorem g_oSg1_ok (w0 : World) (B : List Nat) (args : List SV) (m : List Blk) : CROk Tryd.prog w0 B 38 args m (g_oSg1 args m) := by
  unfold g_oSg1; split
  · rename_i v; exact fun h w _ => calls_pure Tryd.func38 rfl rfl (sg1_vc v w)
  · exact trivial
theorem oturn_vc (xs : List Int) (x : Int) (b : Nat) (t : TypeId) (hl : xs.length = 8) (w : World) (hm : MemOk w [b] [.blk b t (.ints .u32 xs)] w) : Calls Tryd.prog 32 (cvs [.ptr 0 b 0 0 0 0, .int .u32 x]).toArray w (fun en w' => ∃ u, en = .returned u ∧ ∃ v' m', u = cv v' ∧ MemOk w [b] m' w' ∧ v' = .tup [] ∧ bget m' 0 = .blk b t (.ints .u32 (sTu xs x))) := by
  have hno : (if IntKind.u32.signed = true then (-1 : Int) else IntKind.u32.max) = 4294967295 := by decide
  refine Vc.calls T0_ok Tryd.func32 rfl rfl (args := [.ptr 0 b 0 0 0 0, .int .u32 x]) (k := 96) rfl hm ?_; change Vc _ _ (c8 (.ptr 0 b 0 0 0 0) (.int .u32 x) .undef .undef .undef .undef .undef .undef (c8 .undef .undef .undef .undef .undef .undef .undef .undef (c8 .undef .undef .undef .undef .undef .undef .undef .undef (c8 .undef .undef .undef .undef .undef .undef .undef .undef (c8 .undef .undef .undef .undef .undef .undef .undef .undef (c8 .undef .undef .undef .undef .undef .undef .undef .undef (c8 .undef .undef .undef .undef .undef .undef .undef .undef (c8 .undef .undef .undef .undef .undef .undef .undef .undef (c8 .undef .undef .undef .undef .undef .undef .undef .undef (c8 .undef .undef .undef .undef .undef .undef .undef .undef (c8 .undef .undef .undef .undef .undef .undef .undef .undef (c8 .undef .undef .undef .undef .undef .undef .undef .undef ([.undef, .undef]))))))))))))) _ _
  ((repeat (first | (with_reducible refine Vc.seq fun N hN => ?_) | (with_reducible refine Vc.block ?_) | ((with_reducible refine Vc.skip ?_); dsimp only [thenK, blockK, Nat.beq]; (first | (refine hN _ _ ?_; clear hN N) | skip)) | ((with_reducible refine Vc.exit ?_); dsimp only [thenK, blockK, Nat.beq]; (first | (refine hN _ _ ?_; clear hN N) | skip)) | (with_reducible intro _) | ((with_reducible refine And.intro ?_ ?_); (focus (first | ((repeat' with_reducible apply And.intro) <;> first | with_reducible exact True.intro | with_reducible assumption | with_reducible rfl | with_reducible exact allU_0 | omega) | exact sd0))) | ((first | ((with_reducible refine askT_of ?_ (fun hb => ?_)); (focus (first | ((repeat' with_reducible apply And.intro) <;> first | with_reducible exact True.intro | with_reducible assumption | with_reducible rfl | with_reducible exact allU_0 | omega) | exact sd0)); (try simp only [hb])) | ((with_reducible refine Vc.fin ?_); dsimp only [thenK, blockK, retK, resS, resOne, resAll]) | ((with_reducible refine Vc.hold ?_); first | refine Vc.regiont T0_ok GS1_ok ?_ | refine Vc.drawt (id := 0) T0_ok GS1_ok (by kernel_rfl) [0, 1, 2, 3, 4, 5, 6, 7, 8, 9, 10, 11, 12, 13, 14, 15, 16, 17, 18, 19, 20, 21, 22, 23, 24, 25, 26, 27, 28] 29 [] trivial (by kernel_rfl) ?_ | refine Vc.drawt (id := 1) T0_ok GS1_ok (by kernel_rfl) [0, 1, 2, 3, 4, 6, 9, 13, 14, 15, 16, 17, 18, 19, 20, 22, 5, 7, 8, 10, 11, 12, 21] 23 [] trivial (by kernel_rfl) ?_)); (try simp only [pickO, nthO, dropO, dOp.eq_def, v8A, strIx.eq_def, appT.eq_def, copyStep.eq_def, copyC.eq_def, v8B, adr_some, adr_nil, true_or, dstOf, Bool.not_true, Bool.not_false, evs, evp, v8C, sget, sset, blen, bpush, bget, bset, Nat.beq, Nat.ble, Nat.blt.eq_def, nth?, tys, takeN, Nat.zero_add, fillS, splice, allOne, ordL, intL, wordL, rowL, sapp, resAll, und, lk, hav, agr, bpre, Int.reduceToNat, Int.reduceLE, Int.reduceLT, Nat.reduceLT, Nat.reduceLeDiff, Nat.reduceAdd, Nat.reduceMul, Nat.reduceSub, Int.reduceAdd, Int.reduceSub, Int.reduceMul, eq_self, decide_true, beq_self_eq_true, List.length_cons, List.length_nil, Nat.min_eq_left, IntKind.bits, tabs, GS1_oRot, g_oRot.eq_def, hno]); (try simp (disch := omega) only [v8W])) | ((with_reducible refine hN _ _ ?_); clear hN N; (try simp (disch := omega) only [v8W])))); (try ((with_reducible refine Fin.of ?_); (try with_reducible exact True.intro))))
  rfl
def g_oTurn (args : List SV) (m : List Blk) : CR :=
  match args with
  | [.ptr nm b base i sz j, .int .u32 x] => match bget m nm with
    | .blk b' _ (.ints .u32 xs) => .turn (b = b' ∧ base = 0 ∧ i = 0 ∧ sz = 0 ∧ j = 0 ∧ xs.length = 8) nm (.ints .u32 (sTu xs x)) (.tup [])
    | _ => .none
  | _ => .none
theorem g_oTurn_ok (w0 : World) (B : List Nat) (args : List SV) (m : List Blk) : CROk Tryd.prog w0 B 32 args m (g_oTurn args m) := by
  unfold g_oTurn
  split
  · rename_i nm b base i sz j x
    split
    · rename_i b' t xs hb
      intro ⟨e1, e2, e3, e4, e5, hl⟩ w hm
      subst e1 e2 e3 e4 e5
      exact calls_turn Tryd.func32 rfl rfl hm hb (k := 0) (args' := [.ptr 0 b 0 0 0 0, .int .u32 x]) rfl (oturn_vc xs x b t hl w (turn_start hm hb))
    · exact trivial
  · exact trivial
end Go.Proofs.YtnncomlliobobaaDoor
