/-
  The document's answers for words (quaestorref01), walked: Neg, Sub, Scmp, bit; their table.
-/
import Derived.Test.YtcmgndhkdnjmnaaDoorR2
import Derived.Test.YtcmgndhkdnjmnaaDoorX1
namespace Go.Proofs.YtcmgndhkdnjmnaaDoor
set_option linter.unusedSimpArgs false
set_option linter.unusedVariables false
set_option maxHeartbeats 4000000
set_option maxRecDepth 10000
open Go.RowKit
def G6 : Ctr := fun f args m => match f with
  | 28 => g_rFrom args m
  | 35 => g_lowByte args m
  | 26 => g_Read args m
  | 20 => g_Bytes args m
  | _ => .none
theorem G6_ok : GOk Tryd.prog G6 := by
  intro w0 B f args m; unfold G6; split
  · exact g_rFrom_ok _ _ _ _
  · exact g_lowByte_ok _ _ _ _
  · exact g_Read_ok _ _ _ _
  · exact g_Bytes_ok _ _ _ _
  · exact trivial
theorem G6_rFrom : G6 28 = g_rFrom := by funext args m; rfl
theorem G6_lowByte : G6 35 = g_lowByte := by funext args m; rfl
theorem G6_Read : G6 26 = g_Read := by funext args m; rfl
theorem G6_Bytes : G6 20 = g_Bytes := by funext args m; rfl

theorem neg_num {a : Nat} (ha : a < W) : addN (W - 1 - a) 1 = subN 0 a := by
  unfold addN subN
  rw [show W - 1 - a + 1 = 0 + W - a by omega]
def G7 : Ctr := fun f args m => match f with
  | 28 => g_rFrom args m
  | 35 => g_lowByte args m
  | 26 => g_Read args m
  | 20 => g_Bytes args m
  | _ => .none
theorem G7_ok : GOk Tryd.prog G7 := by
  intro w0 B f args m; unfold G7; split
  · exact g_rFrom_ok _ _ _ _
  · exact g_lowByte_ok _ _ _ _
  · exact g_Read_ok _ _ _ _
  · exact g_Bytes_ok _ _ _ _
  · exact trivial
theorem G7_rFrom : G7 28 = g_rFrom := by funext args m; rfl
theorem G7_lowByte : G7 35 = g_lowByte := by funext args m; rfl
theorem G7_Read : G7 26 = g_Read := by funext args m; rfl
theorem G7_Bytes : G7 20 = g_Bytes := by funext args m; rfl

theorem sub_num2 {a b : Nat} (ha : a < W) (hb : b < W) : addN a (subN 0 b) = subN a b := by
  unfold addN subN
  rw [Nat.add_mod_mod]
  congr 1; omega
theorem cmp_lt (a b : Nat) : decide (cmpI a b < 0) = subB a b := by
  unfold cmpI subB
  by_cases h : a = b
  · subst h; simp
  · by_cases h2 : a < b
    · rw [if_neg h, if_pos h2]; simp [h2]
    · rw [if_neg h, if_neg h2]; simp [h2]
theorem rbit_vc (a i : Nat) (hi : i < 256) (w : World) : Calls Tryd.prog 54 (cvs [.word a, .int .i64 i]).toArray w (fun en w' => ∃ u, en = .returned u ∧ ∃ v m', u = cv v ∧ MemOk w [] m' w' ∧ v = .bool (a.testBit i)) := by
  refine Vc.calls T0_ok Tryd.func54 rfl rfl (args := [.word a, .int .i64 i]) (k := 13) rfl (MemOk.start _) ?_; change Vc _ _ (c8 (.word a) (.int .i64 i) .undef .undef .undef .undef .undef .undef ([.undef, .undef, .undef, .undef, .undef, .undef, .undef])) _ _
  ((repeat (first | (with_reducible refine Vc.seq fun N hN => ?_) | (with_reducible refine Vc.block ?_) | ((with_reducible refine Vc.skip ?_); dsimp only [thenK, blockK, Nat.beq]; (first | (refine hN _ _ ?_; clear hN N) | skip)) | ((with_reducible refine Vc.exit ?_); dsimp only [thenK, blockK, Nat.beq]; (first | (refine hN _ _ ?_; clear hN N) | skip)) | (with_reducible intro _) | ((with_reducible refine And.intro ?_ ?_); (focus (exact sd0))) | ((first | ((with_reducible refine askT_of ?_ (fun hb => ?_)); (focus (exact sd0)); (try simp only [hb])) | ((with_reducible refine Vc.fin ?_); dsimp only [thenK, blockK, retK, resS, resOne, resAll]) | ((with_reducible refine Vc.hold ?_); first | refine Vc.regiont T0_ok G7_ok ?_)); (try simp only [pickO, nthO, dropO, dOp.eq_def, v8A, strIx.eq_def, appT.eq_def, v8B, adr_some, adr_nil, true_or, dstOf, Bool.not_true, Bool.not_false, evs, evp, v8C, sget, sset, blen, bpush, bget, bset, Nat.beq, Nat.ble, Nat.blt.eq_def, nth?, tys, takeN, Nat.zero_add, fillS, splice, allOne, ordL, intL, wordL, rowL, sapp, resAll, und, lk, hav, agr, bpre, Int.reduceToNat, Int.reduceLE, Int.reduceLT, Nat.reduceLT, Nat.reduceLeDiff, Nat.reduceAdd, Nat.reduceMul, Nat.reduceSub, Int.reduceAdd, Int.reduceSub, Int.reduceMul, eq_self, decide_true, beq_self_eq_true, List.length_cons, List.length_nil, Nat.min_eq_left, IntKind.bits, tabs, G7_rFrom, g_rFrom.eq_def, G7_lowByte, g_lowByte.eq_def, G7_Read, g_Read.eq_def, G7_Bytes, g_Bytes.eq_def]); (try simp (disch := omega) only [v8W])) | ((with_reducible refine hN _ _ ?_); clear hN N; (try simp (disch := omega) only [v8W])))); (try ((with_reducible refine Fin.of ?_); (try with_reducible exact True.intro))))
  ((try simp only [v8A, strIx.eq_def, appT.eq_def, v8B, adr_some, adr_nil, true_or, dstOf, Bool.not_true, Bool.not_false, evs, evp, v8C, sget, sset, blen, bpush, bget, bset, Nat.beq, Nat.ble, Nat.blt.eq_def, nth?, tys, takeN, Nat.zero_add, fillS, splice, allOne, ordL, intL, wordL, rowL, sapp, resAll, und, lk, hav, agr, bpre, Int.reduceToNat, Int.reduceLE, Int.reduceLT, Nat.reduceLT, Nat.reduceLeDiff, Nat.reduceAdd, Nat.reduceMul, Nat.reduceSub, Int.reduceAdd, Int.reduceSub, Int.reduceMul, eq_self, decide_true, beq_self_eq_true, List.length_cons, List.length_nil, Nat.min_eq_left, IntKind.bits, tabs]); (repeat' apply And.intro) <;> first | trivial | with_reducible rfl | (congr 1; omega) | rw [exp_bit hi, Nat.testBit_eq_decide_div_mod_eq])
def g_rbit (args : List SV) (_m : List Blk) : CR := match args with | [.word a, .int .i64 i] => .pure (0 ≤ i ∧ i < 256) (.bool (a.testBit i.toNat)) | _ => .none
theorem g_rbit_ok (w0 : World) (B : List Nat) (args : List SV) (m : List Blk) : CROk Tryd.prog w0 B 54 args m (g_rbit args m) := by
  unfold g_rbit; split
  · rename_i a i; exact fun h w _ => calls_pure Tryd.func54 rfl rfl ((by have := rbit_vc a i.toNat (by omega) w; rw [Int.toNat_of_nonneg h.1] at this; exact this))
  · exact trivial
end Go.Proofs.YtcmgndhkdnjmnaaDoor
