/-
 Bytes, Read, Addr and Wide of words, walked.
-/
import Derived.Test.YtpebhddacbdicaaEO
import Derived.Test.YtpebhddacbdicaaEI
import Derived.Test.YtpebhddacbdicaaRD
import Derived.Laws.Bits64b
set_option maxHeartbeats 4000000
set_option linter.unusedVariables false
set_option linter.unusedSimpArgs false
namespace Go.Proofs.Ytpebhddacbdicaa
open Go.RowKit
def bytK (a n k : Nat) : List Int := (List.range n).map fun i => if n - 1 - i < k then ((byN a (n - 1 - i) : Nat) : Int) else 0
theorem bytK_0 (a n : Nat) : bytK a n 0 = List.replicate n 0 := by
 apply List.ext_getElem <;> simp [bytK]
theorem bytK_n (a n : Nat) : bytK a n n = bytI a n := by
 apply List.ext_getElem
 ·simp [bytK, bytI]
 ·intro i h1 h2
  simp [bytK] at h1
  simp [bytK, bytI]; omega
theorem bytK_len (a n k : Nat) : (bytK a n k).length = n := by simp [bytK]
theorem bytK_set (a n k : Nat) (h : k < n) : (bytK a n k).set (n - 1 - k) ((byN a k : Nat) : Int) = bytK a n (k + 1) := by
 apply List.ext_getElem
 ·simp [bytK]
 ·intro i h1 h2
  simp [bytK] at h1
  rw [List.getElem_set]
  by_cases hi : n - 1 - k = i
  ·rw [if_pos hi]
   subst hi
   simp [bytK]
   have e : n - 1 - (n - 1 - k) = k := by omega
   rw [e, if_pos (by omega)]
  ·rw [if_neg hi]
   simp [bytK]
   by_cases hk : n - 1 - i < k
   ·rw [if_pos hk, if_pos (by omega)]
   ·rw [if_neg hk, if_neg (by omega)]
theorem addr_vc (a : Nat) (w : World) : Calls Try.prog 54 (cvs [.word a]).toArray w (fun en w' => ∃ u, en = .returned u ∧ ∃ v m', u = cv v ∧ MemOk w [] m' w' ∧ v = .ints .u8 (bytI a 20)) := by
 refine Vc.calls T0_ok Try.func54 rfl rfl (args := [.word a]) (k := 15) rfl (MemOk.start _) ?_; change Vc _ _ (c8 (.word a) .undef .undef .undef .undef .undef .undef .undef (c8 .undef .undef .undef .undef .undef .undef .undef .undef ([]))) _ _
 ((repeat (first | (with_reducible first | refine Vc.seq fun N hN => ?_ | refine Vc.block ?_) | (with_reducible intro _) | ((with_reducible refine And.intro ?_ ?_); (focus (exact sd0))) | ((first | ((with_reducible refine Vc.hold ?_); first | refine Vc.regiont T0_ok G2_ok ?_)); (try simp only [v8Y, Nat.beq, Nat.ble, Int.reduceToNat, Int.reduceLE, Int.reduceLT, Nat.reduceLT, Nat.reduceLeDiff, Nat.reduceAdd, Nat.reduceMul, Nat.reduceSub, Int.reduceAdd, Int.reduceSub, Int.reduceMul, tabs, G2_set])) | ((with_reducible refine hN _ _ ?_); clear hN N))))
 (revert N; intro N1 hN1)
 rename_i b0 b1 b2
 refine Vc.loop 4 16 (fun k => [(5, .int .i64 (k : Nat))])
  (fun k => [.blk b0 27 (.words [a]), .blk b1 24 (.ints .u8 (List.replicate 20 0)), .blk b2 24 (.ints .u8 (bytK a 20 k))])
  (fun k => k ≤ 20) (fun k => 20 - k) 0 ⟨Nat.zero_le _, ?_, ?_⟩ (fun k junk hk => ?_)
 ·((try simp only [v8Y, Nat.beq, Nat.ble, Int.reduceToNat, Int.reduceLE, Int.reduceLT, Nat.reduceLT, Nat.reduceLeDiff, Nat.reduceAdd, Nat.reduceMul, Nat.reduceSub, Int.reduceAdd, Int.reduceSub, Int.reduceMul, tabs]); (repeat' with_reducible apply And.intro) <;> first | with_reducible exact True.intro | fail | with_reducible rfl | (congr 1 <;> omega) | trivial)
 ·((try simp only [v8Y, Nat.beq, Nat.ble, Int.reduceToNat, Int.reduceLE, Int.reduceLT, Nat.reduceLT, Nat.reduceLeDiff, Nat.reduceAdd, Nat.reduceMul, Nat.reduceSub, Int.reduceAdd, Int.reduceSub, Int.reduceMul, tabs]); (repeat' with_reducible apply And.intro) <;> first | with_reducible exact True.intro | rw [bytK_0] | with_reducible rfl | (congr 1 <;> omega) | trivial)
 ·(simp only [v8Y, Nat.beq, Nat.ble, Int.reduceToNat, Int.reduceLE, Int.reduceLT, Nat.reduceLT, Nat.reduceLeDiff, Nat.reduceAdd, Nat.reduceMul, Nat.reduceSub, Int.reduceAdd, Int.reduceSub, Int.reduceMul, tabs])
  ((repeat (first | (with_reducible refine Vc.seq fun N hN => ?_) | ((with_reducible refine And.intro ?_ ?_); (focus (exact sd0))) | ((first | ((with_reducible refine Vc.hold ?_); first | refine Vc.regiont T0_ok G2_ok ?_)); (try simp only [v8Y, Nat.beq, Nat.ble, Int.reduceToNat, Int.reduceLE, Int.reduceLT, Nat.reduceLT, Nat.reduceLeDiff, Nat.reduceAdd, Nat.reduceMul, Nat.reduceSub, Int.reduceAdd, Int.reduceSub, Int.reduceMul, tabs, G2_set])) | ((with_reducible refine hN _ _ ?_); clear hN N))))
  (refine Vc.cond T0_ok (by rfl) (fun hb => ?_) (fun hb => ?_))
  ·have hk' := of_decide_eq_true hb
   ((repeat (first | (with_reducible first | refine Vc.seq fun N hN => ?_ | refine Vc.block ?_) | ((first | with_reducible refine Vc.skip ?_); dsimp only [thenK, blockK, Nat.beq]; (first | (refine hN _ _ ?_; clear hN N))) | ((with_reducible refine And.intro ?_ ?_); exact sX9) | ((first | ((with_reducible refine Vc.hold ?_); first | refine Vc.regiont T0_ok G2_ok ?_)); (try simp only [v8Y, Nat.beq, Nat.ble, Int.reduceToNat, Int.reduceLE, Int.reduceLT, Nat.reduceLT, Nat.reduceLeDiff, Nat.reduceAdd, Nat.reduceMul, Nat.reduceSub, Int.reduceAdd, Int.reduceSub, Int.reduceMul, tabs, G2_set])) | ((with_reducible refine hN _ _ ?_); clear hN N))))
   refine ⟨k + 1, by omega, ?_, ?_, by omega⟩
   ·((try simp only [v8Y, Nat.beq, Nat.ble, Int.reduceToNat, Int.reduceLE, Int.reduceLT, Nat.reduceLT, Nat.reduceLeDiff, Nat.reduceAdd, Nat.reduceMul, Nat.reduceSub, Int.reduceAdd, Int.reduceSub, Int.reduceMul, tabs]); (repeat' with_reducible apply And.intro) <;> first | with_reducible exact True.intro | fail | with_reducible rfl | (congr 1 <;> omega) | trivial)
   ·((try simp only [v8Y, Nat.beq, Nat.ble, Int.reduceToNat, Int.reduceLE, Int.reduceLT, Nat.reduceLT, Nat.reduceLeDiff, Nat.reduceAdd, Nat.reduceMul, Nat.reduceSub, Int.reduceAdd, Int.reduceSub, Int.reduceMul, tabs]); (repeat' with_reducible apply And.intro) <;> first | with_reducible exact True.intro | rw [← bytK_set _ _ _ (by omega), show (19 - (k : Int)).toNat = 20 - 1 - k by omega] | with_reducible rfl | (congr 1 <;> omega) | trivial)
  ·have hk' := of_decide_eq_false hb
   have hk2 : k = 20 := by omega
   subst hk2
   rw [bytK_n]
   ((repeat (first | (with_reducible refine Vc.seq fun N hN => ?_) | ((first | with_reducible refine Vc.exit ?_); dsimp only [thenK, blockK, Nat.beq]; (first | skip)) | ((with_reducible refine And.intro ?_ ?_); (focus (exact sd0))) | ((first | ((with_reducible refine Vc.fin ?_); dsimp only [thenK, blockK, retK, resS, resOne, resAll]) | ((with_reducible refine Vc.hold ?_); first | refine Vc.regiont T0_ok G2_ok ?_)); (try simp only [v8Y, Nat.beq, Nat.ble, Int.reduceToNat, Int.reduceLE, Int.reduceLT, Nat.reduceLT, Nat.reduceLeDiff, Nat.reduceAdd, Nat.reduceMul, Nat.reduceSub, Int.reduceAdd, Int.reduceSub, Int.reduceMul, tabs, G2_set])) | ((with_reducible refine hN _ _ ?_); clear hN N))); (try ((with_reducible refine Fin.of ?_); (try with_reducible exact True.intro))))
   (refine hN1 _ _ ?_; (try clear hN N); clear hN1 N1)
   ((repeat (first | (with_reducible refine Vc.seq fun N hN => ?_) | ((with_reducible refine And.intro ?_ ?_); (focus (first | ((repeat' apply And.intro) <;> first | exact True.intro | exact bytI_len _ _ | (rw [bytI_len, List.length_replicate])) | exact sd0))) | ((first | ((with_reducible refine Vc.fin ?_); dsimp only [thenK, blockK, retK, resS, resOne, resAll]) | ((with_reducible refine Vc.hold ?_); first | refine Vc.regiont T0_ok G2_ok ?_)); (try simp only [v8Y, Nat.beq, Nat.ble, Int.reduceToNat, Int.reduceLE, Int.reduceLT, Nat.reduceLT, Nat.reduceLeDiff, Nat.reduceAdd, Nat.reduceMul, Nat.reduceSub, Int.reduceAdd, Int.reduceSub, Int.reduceMul, tabs, G2_set])) | ((with_reducible refine hN _ _ ?_); clear hN N))); (try ((with_reducible refine Fin.of ?_); (try with_reducible exact True.intro))))
   ((try simp only [v8Y, Nat.beq, Nat.ble, Int.reduceToNat, Int.reduceLE, Int.reduceLT, Nat.reduceLT, Nat.reduceLeDiff, Nat.reduceAdd, Nat.reduceMul, Nat.reduceSub, Int.reduceAdd, Int.reduceSub, Int.reduceMul, tabs]); (repeat' with_reducible apply And.intro) <;> first | with_reducible exact True.intro | fail | with_reducible rfl | (congr 1 <;> omega) | trivial)
theorem bytes_vc (a : Nat) (w : World) : Calls Try.prog 22 (cvs [.word a]).toArray w (fun en w' => ∃ u, en = .returned u ∧ ∃ v m', u = cv v ∧ MemOk w [] m' w' ∧ ∃ s, v = .own 1 s 32 ∧ bget m' 1 = .own s 32 5 1 (.ints .u8 (bytI a 32))) := by
 refine Vc.calls T0_ok Try.func22 rfl rfl (args := [.word a]) (k := 20) rfl (MemOk.start _) ?_; change Vc _ _ (c8 (.word a) .undef .undef .undef .undef .undef .undef .undef (c8 .undef .undef .undef .undef .undef .undef .undef .undef ([.undef, .undef, .undef, .undef, .undef]))) _ _
 ((repeat (first | (with_reducible first | refine Vc.seq fun N hN => ?_ | refine Vc.block ?_) | (with_reducible intro _) | ((with_reducible refine And.intro ?_ ?_); (focus (exact sd0))) | ((first | ((with_reducible refine Vc.hold ?_); first | refine Vc.regiont T0_ok G2_ok ?_)); (try simp only [v8Y, Nat.beq, Nat.ble, Int.reduceToNat, Int.reduceLE, Int.reduceLT, Nat.reduceLT, Nat.reduceLeDiff, Nat.reduceAdd, Nat.reduceMul, Nat.reduceSub, Int.reduceAdd, Int.reduceSub, Int.reduceMul, tabs, G2_set])) | ((with_reducible refine hN _ _ ?_); clear hN N))))
 (revert N; intro N1 hN1)
 rename_i b0 s
 refine Vc.loop 4 21 (fun k => [(6, .int .i64 (k : Nat))])
  (fun k => [.blk b0 27 (.words [a]), .own s 32 5 1 (.ints .u8 (bytK a 32 k))])
  (fun k => k ≤ 32) (fun k => 32 - k) 0 ⟨Nat.zero_le _, ?_, ?_⟩ (fun k junk hk => ?_)
 ·((try simp only [v8Y, Nat.beq, Nat.ble, Int.reduceToNat, Int.reduceLE, Int.reduceLT, Nat.reduceLT, Nat.reduceLeDiff, Nat.reduceAdd, Nat.reduceMul, Nat.reduceSub, Int.reduceAdd, Int.reduceSub, Int.reduceMul, tabs]); (repeat' with_reducible apply And.intro) <;> first | with_reducible exact True.intro | fail | with_reducible rfl | (congr 1 <;> omega) | trivial)
 ·((try simp only [v8Y, Nat.beq, Nat.ble, Int.reduceToNat, Int.reduceLE, Int.reduceLT, Nat.reduceLT, Nat.reduceLeDiff, Nat.reduceAdd, Nat.reduceMul, Nat.reduceSub, Int.reduceAdd, Int.reduceSub, Int.reduceMul, tabs]); (repeat' with_reducible apply And.intro) <;> first | with_reducible exact True.intro | rw [bytK_0] | with_reducible rfl | (congr 1 <;> omega) | trivial)
 ·(simp only [v8Y, Nat.beq, Nat.ble, Int.reduceToNat, Int.reduceLE, Int.reduceLT, Nat.reduceLT, Nat.reduceLeDiff, Nat.reduceAdd, Nat.reduceMul, Nat.reduceSub, Int.reduceAdd, Int.reduceSub, Int.reduceMul, tabs])
  ((repeat (first | (with_reducible refine Vc.seq fun N hN => ?_) | ((with_reducible refine And.intro ?_ ?_); (focus (exact sd0))) | ((first | ((with_reducible refine Vc.hold ?_); first | refine Vc.regiont T0_ok G2_ok ?_)); (try simp only [v8Y, Nat.beq, Nat.ble, Int.reduceToNat, Int.reduceLE, Int.reduceLT, Nat.reduceLT, Nat.reduceLeDiff, Nat.reduceAdd, Nat.reduceMul, Nat.reduceSub, Int.reduceAdd, Int.reduceSub, Int.reduceMul, tabs, G2_set])) | ((with_reducible refine hN _ _ ?_); clear hN N))))
  (refine Vc.cond T0_ok (by rfl) (fun hb => ?_) (fun hb => ?_))
  ·have hk' := of_decide_eq_true hb
   ((repeat (first | (with_reducible first | refine Vc.seq fun N hN => ?_ | refine Vc.block ?_) | ((first | with_reducible refine Vc.skip ?_); dsimp only [thenK, blockK, Nat.beq]; (first | (refine hN _ _ ?_; clear hN N))) | ((with_reducible refine And.intro ?_ ?_); exact sX9) | ((first | ((with_reducible refine Vc.hold ?_); first | refine Vc.regiont T0_ok G2_ok ?_)); (try simp only [v8Y, Nat.beq, Nat.ble, Int.reduceToNat, Int.reduceLE, Int.reduceLT, Nat.reduceLT, Nat.reduceLeDiff, Nat.reduceAdd, Nat.reduceMul, Nat.reduceSub, Int.reduceAdd, Int.reduceSub, Int.reduceMul, tabs, G2_set])) | ((with_reducible refine hN _ _ ?_); clear hN N))))
   refine ⟨k + 1, by omega, ?_, ?_, by omega⟩
   ·((try simp only [v8Y, Nat.beq, Nat.ble, Int.reduceToNat, Int.reduceLE, Int.reduceLT, Nat.reduceLT, Nat.reduceLeDiff, Nat.reduceAdd, Nat.reduceMul, Nat.reduceSub, Int.reduceAdd, Int.reduceSub, Int.reduceMul, tabs]); (repeat' with_reducible apply And.intro) <;> first | with_reducible exact True.intro | fail | with_reducible rfl | (congr 1 <;> omega) | trivial)
   ·((try simp only [v8Y, Nat.beq, Nat.ble, Int.reduceToNat, Int.reduceLE, Int.reduceLT, Nat.reduceLT, Nat.reduceLeDiff, Nat.reduceAdd, Nat.reduceMul, Nat.reduceSub, Int.reduceAdd, Int.reduceSub, Int.reduceMul, tabs]); (repeat' with_reducible apply And.intro) <;> first | with_reducible exact True.intro | rw [← bytK_set _ _ _ (by omega), show (((32 : Nat) : Int) - 1 - (k : Int)).toNat = 32 - 1 - k by omega] | with_reducible rfl | (congr 1 <;> omega) | trivial)
  ·have hk' := of_decide_eq_false hb
   have hk2 : k = 32 := by omega
   subst hk2
   rw [bytK_n]
   ((repeat (first | (with_reducible refine Vc.seq fun N hN => ?_) | ((first | with_reducible refine Vc.exit ?_); dsimp only [thenK, blockK, Nat.beq]; (first | skip)) | ((with_reducible refine And.intro ?_ ?_); (focus (exact sd0))) | ((first | ((with_reducible refine Vc.fin ?_); dsimp only [thenK, blockK, retK, resS, resOne, resAll]) | ((with_reducible refine Vc.hold ?_); first | refine Vc.regiont T0_ok G2_ok ?_)); (try simp only [v8Y, Nat.beq, Nat.ble, Int.reduceToNat, Int.reduceLE, Int.reduceLT, Nat.reduceLT, Nat.reduceLeDiff, Nat.reduceAdd, Nat.reduceMul, Nat.reduceSub, Int.reduceAdd, Int.reduceSub, Int.reduceMul, tabs, G2_set])) | ((with_reducible refine hN _ _ ?_); clear hN N))); (try ((with_reducible refine Fin.of ?_); (try with_reducible exact True.intro))))
   (refine hN1 _ _ ?_; (try clear hN N); clear hN1 N1)
   ((repeat (first | (with_reducible refine Vc.seq fun N hN => ?_) | ((first | with_reducible refine Vc.exit ?_); dsimp only [thenK, blockK, Nat.beq]; (first | skip)) | ((with_reducible refine And.intro ?_ ?_); (focus (exact sd0))) | ((first | ((with_reducible refine Vc.fin ?_); dsimp only [thenK, blockK, retK, resS, resOne, resAll]) | ((with_reducible refine Vc.hold ?_); first | refine Vc.regiont T0_ok G2_ok ?_)); (try simp only [v8Y, Nat.beq, Nat.ble, Int.reduceToNat, Int.reduceLE, Int.reduceLT, Nat.reduceLT, Nat.reduceLeDiff, Nat.reduceAdd, Nat.reduceMul, Nat.reduceSub, Int.reduceAdd, Int.reduceSub, Int.reduceMul, tabs, G2_set])) | ((with_reducible refine hN _ _ ?_); clear hN N))); (try ((with_reducible refine Fin.of ?_); (try with_reducible exact True.intro))))
   exact ⟨trivial, s, rfl, rfl⟩
end Go.Proofs.Ytpebhddacbdicaa
