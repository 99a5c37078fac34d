/-
 Bytes, Read, Addr and Wide of words, walked.
-/
import Derived.Test.YtoadeekdgikghaaDoorEI
import Derived.Test.YtoadeekdgikghaaDoorTab
import Derived.Test.YtoadeekdgikghaaDoorRE
import Derived.Test.YtoadeekdgikghaaDoorRD
import Derived.Laws.Bits64b
set_option maxRecDepth 10000
set_option maxHeartbeats 4000000
set_option linter.defProp false
set_option linter.unusedVariables false
set_option linter.unusedSimpArgs false
namespace Go.Proofs.YtoadeekdgikghaaDoor
open Go.RowKit
def g_From (args : List SV) (_m : List Blk) : CR := match args with | [.int .u64 n] => .pure (0 ≤ n ∧ n ≤ 18446744073709551615) (.word n.toNat) | _ => .none
theorem g_From_ok (w0 : World) (B : List Nat) (args : List SV) (m : List Blk) : CROk Tryd.prog w0 B 43 args m (g_From args m) := by
 unfold g_From; split
 ·rename_i n; exact pure_old Tryd.func43 rfl rfl (fun h w => by have := from_any n.toNat (by omega) w; rw [Int.toNat_of_nonneg h.1] at this; exact this)
 ·exact trivial
def g_lowByte (args : List SV) (_m : List Blk) : CR := match args with | [.word a, .int .i64 i] => .pure (0 ≤ i ∧ i < 32) (.int .u8 (byN a i.toNat : Nat)) | _ => .none
theorem g_lowByte_ok (w0 : World) (B : List Nat) (args : List SV) (m : List Blk) : CROk Tryd.prog w0 B 54 args m (g_lowByte args m) := by
 unfold g_lowByte; split
 ·rename_i a i; exact pure_old Tryd.func54 rfl rfl (fun h w => by have := lowByte_any a i.toNat (by omega) w; rw [Int.toNat_of_nonneg h.1] at this; exact this)
 ·exact trivial
def g_Cmp (args : List SV) (_m : List Blk) : CR := match args with | [.word a, .word b] => .pure (a < W ∧ b < W) (.int .i64 (cmpI a b)) | _ => .none
theorem g_Cmp_ok (w0 : World) (B : List Nat) (args : List SV) (m : List Blk) : CROk Tryd.prog w0 B 42 args m (g_Cmp args m) := by
 unfold g_Cmp; split
 ·rename_i a b; exact pure_old Tryd.func42 rfl rfl (fun h w => cmp_any a b h.1 h.2 w)
 ·exact trivial
def g_Sub (args : List SV) (_m : List Blk) : CR := match args with | [.word a, .word b] => .pure (a < W ∧ b < W) (.tup [.word (subN a b), .bool (subB a b)]) | _ => .none
theorem g_Sub_ok (w0 : World) (B : List Nat) (args : List SV) (m : List Blk) : CROk Tryd.prog w0 B 41 args m (g_Sub args m) := by
 unfold g_Sub; split
 ·rename_i a b; exact pure_old Tryd.func41 rfl rfl (fun h w => sub_any a b h.1 h.2 w)
 ·exact trivial
end Go.Proofs.YtoadeekdgikghaaDoor

/-
 A symbolic walk of my own: contracts of functions that are handed slices of the caller's memory.
-/
namespace Go.Proofs.YtoadeekdgikghaaDoor
open Go.RowKit
noncomputable def G2 : Ctr := fun f args m => match f with
 | 43 => g_From args m
 | 54 => g_lowByte args m
 | 42 => g_Cmp args m
 | 41 => g_Sub args m
 | _ => .none
theorem G2_ok : GOk Tryd.prog G2 := by
 intro w0 B f args m; unfold G2; split
 ·exact g_From_ok _ _ _ _
 ·exact g_lowByte_ok _ _ _ _
 ·exact g_Cmp_ok _ _ _ _
 ·exact g_Sub_ok _ _ _ _
 ·exact trivial
theorem G2_From : G2 43 = g_From := by funext args m; rfl
theorem G2_lowByte : G2 54 = g_lowByte := by funext args m; rfl
theorem G2_Cmp : G2 42 = g_Cmp := by funext args m; rfl
theorem G2_Sub : G2 41 = g_Sub := by funext args m; rfl
def G2_set := And.intro (And.intro (And.intro (@G2_From) (@g_From.eq_def)) (And.intro (@G2_lowByte) (@g_lowByte.eq_def))) (And.intro (And.intro (@G2_Cmp) (@g_Cmp.eq_def)) (And.intro (@G2_Sub) (@g_Sub.eq_def)))

end Go.Proofs.YtoadeekdgikghaaDoor
namespace Go.Proofs.YtoadeekdgikghaaDoor
open Go.RowKit
def bytK (a n k : Nat) : List Int := (List.range n).map fun i => if n - 1 - i < k then ((byN a (n - 1 - i) : Nat) : Int) else 0
theorem bytK_0 (a n : Nat) : bytK a n 0 = List.replicate n 0 := by
 apply List.ext_getElem <;> simp [bytK]
theorem bytK_n (a n : Nat) : bytK a n n = bytI a n := by
 apply List.ext_getElem
 ·simp [bytK, bytI]
 ·intro i h1 h2
  simp [bytK] at h1
  simp [bytK, bytI]; omega
theorem bytK_len (a n k : Nat) : (bytK a n k).length = n := by simp [bytK]
theorem bytK_set (a n k : Nat) (h : k < n) : (bytK a n k).set (n - 1 - k) ((byN a k : Nat) : Int) = bytK a n (k + 1) := by
 apply List.ext_getElem
 ·simp [bytK]
 ·intro i h1 h2
  simp [bytK] at h1
  rw [List.getElem_set]
  by_cases hi : n - 1 - k = i
  ·rw [if_pos hi]
   subst hi
   simp [bytK]
   have e : n - 1 - (n - 1 - k) = k := by omega
   rw [e, if_pos (by omega)]
  ·rw [if_neg hi]
   simp [bytK]
   by_cases hk : n - 1 - i < k
   ·rw [if_pos hk, if_pos (by omega)]
   ·rw [if_neg hk, if_neg (by omega)]
theorem addr_vc (a : Nat) (w : World) : Calls Tryd.prog 67 (cvs [.word a]).toArray w (fun en w' => ∃ u, en = .returned u ∧ ∃ v m', u = cv v ∧ MemOk w [] m' w' ∧ v = .ints .u8 (bytI a 20)) := by
 refine Vc.calls T0_ok Tryd.func67 rfl rfl (args := [.word a]) (k := 15) rfl (MemOk.start _) ?_; change Vc _ _ (c8 (.word a) .undef .undef .undef .undef .undef .undef .undef (c8 .undef .undef .undef .undef .undef .undef .undef .undef ([]))) _ _
 ((repeat (first | (with_reducible first | refine Vc.seq fun N hN => ?_ | refine Vc.block ?_) | (with_reducible intro _) | ((with_reducible refine And.intro ?_ ?_); (focus (exact sd0))) | ((first | ((with_reducible refine Vc.hold ?_); first | refine Vc.regiont T0_ok G2_ok ?_)); (try simp only [v8Y, Nat.beq, Nat.ble, Int.reduceToNat, Int.reduceLE, Int.reduceLT, Nat.reduceLT, Nat.reduceLeDiff, Nat.reduceAdd, Nat.reduceMul, Nat.reduceSub, Int.reduceAdd, Int.reduceSub, Int.reduceMul, tabs, G2_set])) | ((with_reducible refine hN _ _ ?_); clear hN N))))
 (revert N; intro N1 hN1)
 rename_i b0 b1 b2
 refine Vc.loop 4 16 (fun k => [(5, .int .i64 (k : Nat))])
  (fun k => [.blk b0 27 (.words [a]), .blk b1 24 (.ints .u8 (List.replicate 20 0)), .blk b2 24 (.ints .u8 (bytK a 20 k))])
  (fun k => k ≤ 20) (fun k => 20 - k) 0 ⟨Nat.zero_le _, ?_, ?_⟩ (fun k junk hk => ?_)
 ·((try simp only [v8Y, Nat.beq, Nat.ble, Int.reduceToNat, Int.reduceLE, Int.reduceLT, Nat.reduceLT, Nat.reduceLeDiff, Nat.reduceAdd, Nat.reduceMul, Nat.reduceSub, Int.reduceAdd, Int.reduceSub, Int.reduceMul, tabs]); (repeat' with_reducible apply And.intro) <;> first | with_reducible exact True.intro | fail | with_reducible rfl | (congr 1 <;> omega) | trivial)
 ·((try simp only [v8Y, Nat.beq, Nat.ble, Int.reduceToNat, Int.reduceLE, Int.reduceLT, Nat.reduceLT, Nat.reduceLeDiff, Nat.reduceAdd, Nat.reduceMul, Nat.reduceSub, Int.reduceAdd, Int.reduceSub, Int.reduceMul, tabs]); (repeat' with_reducible apply And.intro) <;> first | with_reducible exact True.intro | rw [bytK_0] | with_reducible rfl | (congr 1 <;> omega) | trivial)
 ·(simp only [v8Y, Nat.beq, Nat.ble, Int.reduceToNat, Int.reduceLE, Int.reduceLT, Nat.reduceLT, Nat.reduceLeDiff, Nat.reduceAdd, Nat.reduceMul, Nat.reduceSub, Int.reduceAdd, Int.reduceSub, Int.reduceMul, tabs])
  ((repeat (first | (with_reducible refine Vc.seq fun N hN => ?_) | ((with_reducible refine And.intro ?_ ?_); (focus (exact sd0))) | ((first | ((with_reducible refine Vc.hold ?_); first | refine Vc.regiont T0_ok G2_ok ?_)); (try simp only [v8Y, Nat.beq, Nat.ble, Int.reduceToNat, Int.reduceLE, Int.reduceLT, Nat.reduceLT, Nat.reduceLeDiff, Nat.reduceAdd, Nat.reduceMul, Nat.reduceSub, Int.reduceAdd, Int.reduceSub, Int.reduceMul, tabs, G2_set])) | ((with_reducible refine hN _ _ ?_); clear hN N))))
  (refine Vc.cond T0_ok (by rfl) (fun hb => ?_) (fun hb => ?_))
  ·have hk' := of_decide_eq_true hb
   ((repeat (first | (with_reducible first | refine Vc.seq fun N hN => ?_ | refine Vc.block ?_) | ((first | with_reducible refine Vc.skip ?_); dsimp only [thenK, blockK, Nat.beq]; (first | (refine hN _ _ ?_; clear hN N))) | ((with_reducible refine And.intro ?_ ?_); exact sX20) | ((first | ((with_reducible refine Vc.hold ?_); first | refine Vc.regiont T0_ok G2_ok ?_)); (try simp only [v8Y, Nat.beq, Nat.ble, Int.reduceToNat, Int.reduceLE, Int.reduceLT, Nat.reduceLT, Nat.reduceLeDiff, Nat.reduceAdd, Nat.reduceMul, Nat.reduceSub, Int.reduceAdd, Int.reduceSub, Int.reduceMul, tabs, G2_set])) | ((with_reducible refine hN _ _ ?_); clear hN N))))
   refine ⟨k + 1, by omega, ?_, ?_, by omega⟩
   ·((try simp only [v8Y, Nat.beq, Nat.ble, Int.reduceToNat, Int.reduceLE, Int.reduceLT, Nat.reduceLT, Nat.reduceLeDiff, Nat.reduceAdd, Nat.reduceMul, Nat.reduceSub, Int.reduceAdd, Int.reduceSub, Int.reduceMul, tabs]); (repeat' with_reducible apply And.intro) <;> first | with_reducible exact True.intro | fail | with_reducible rfl | (congr 1 <;> omega) | trivial)
   ·((try simp only [v8Y, Nat.beq, Nat.ble, Int.reduceToNat, Int.reduceLE, Int.reduceLT, Nat.reduceLT, Nat.reduceLeDiff, Nat.reduceAdd, Nat.reduceMul, Nat.reduceSub, Int.reduceAdd, Int.reduceSub, Int.reduceMul, tabs]); (repeat' with_reducible apply And.intro) <;> first | with_reducible exact True.intro | rw [← bytK_set _ _ _ (by omega), show (19 - (k : Int)).toNat = 20 - 1 - k by omega] | with_reducible rfl | (congr 1 <;> omega) | trivial)
  ·have hk' := of_decide_eq_false hb
   have hk2 : k = 20 := by omega
   subst hk2
   rw [bytK_n]
   ((repeat (first | (with_reducible refine Vc.seq fun N hN => ?_) | ((first | with_reducible refine Vc.exit ?_); dsimp only [thenK, blockK, Nat.beq]; (first | skip)) | ((with_reducible refine And.intro ?_ ?_); (focus (exact sd0))) | ((first | ((with_reducible refine Vc.fin ?_); dsimp only [thenK, blockK, retK, resS, resOne, resAll]) | ((with_reducible refine Vc.hold ?_); first | refine Vc.regiont T0_ok G2_ok ?_)); (try simp only [v8Y, Nat.beq, Nat.ble, Int.reduceToNat, Int.reduceLE, Int.reduceLT, Nat.reduceLT, Nat.reduceLeDiff, Nat.reduceAdd, Nat.reduceMul, Nat.reduceSub, Int.reduceAdd, Int.reduceSub, Int.reduceMul, tabs, G2_set])) | ((with_reducible refine hN _ _ ?_); clear hN N))); (try ((with_reducible refine Fin.of ?_); (try with_reducible exact True.intro))))
   (refine hN1 _ _ ?_; (try clear hN N); clear hN1 N1)
   ((repeat (first | (with_reducible refine Vc.seq fun N hN => ?_) | ((with_reducible refine And.intro ?_ ?_); (focus (first | ((repeat' apply And.intro) <;> first | exact True.intro | exact bytI_len _ _ | (rw [bytI_len, List.length_replicate])) | exact sd0))) | ((first | ((with_reducible refine Vc.fin ?_); dsimp only [thenK, blockK, retK, resS, resOne, resAll]) | ((with_reducible refine Vc.hold ?_); first | refine Vc.regiont T0_ok G2_ok ?_)); (try simp only [v8Y, Nat.beq, Nat.ble, Int.reduceToNat, Int.reduceLE, Int.reduceLT, Nat.reduceLT, Nat.reduceLeDiff, Nat.reduceAdd, Nat.reduceMul, Nat.reduceSub, Int.reduceAdd, Int.reduceSub, Int.reduceMul, tabs, G2_set])) | ((with_reducible refine hN _ _ ?_); clear hN N))); (try ((with_reducible refine Fin.of ?_); (try with_reducible exact True.intro))))
   ((try simp only [v8Y, Nat.beq, Nat.ble, Int.reduceToNat, Int.reduceLE, Int.reduceLT, Nat.reduceLT, Nat.reduceLeDiff, Nat.reduceAdd, Nat.reduceMul, Nat.reduceSub, Int.reduceAdd, Int.reduceSub, Int.reduceMul, tabs]); (repeat' with_reducible apply And.intro) <;> first | with_reducible exact True.intro | fail | with_reducible rfl | (congr 1 <;> omega) | trivial)
theorem bytes_vc (a : Nat) (w : World) : Calls Tryd.prog 37 (cvs [.word a]).toArray w (fun en w' => ∃ u, en = .returned u ∧ ∃ v m', u = cv v ∧ MemOk w [] m' w' ∧ ∃ s, v = .own 1 s 32 ∧ bget m' 1 = .own s 32 5 1 (.ints .u8 (bytI a 32))) := by
 refine Vc.calls T0_ok Tryd.func37 rfl rfl (args := [.word a]) (k := 20) rfl (MemOk.start _) ?_; change Vc _ _ (c8 (.word a) .undef .undef .undef .undef .undef .undef .undef (c8 .undef .undef .undef .undef .undef .undef .undef .undef ([.undef, .undef, .undef, .undef, .undef]))) _ _
 ((repeat (first | (with_reducible first | refine Vc.seq fun N hN => ?_ | refine Vc.block ?_) | (with_reducible intro _) | ((with_reducible refine And.intro ?_ ?_); (focus (exact sd0))) | ((first | ((with_reducible refine Vc.hold ?_); first | refine Vc.regiont T0_ok G2_ok ?_)); (try simp only [v8Y, Nat.beq, Nat.ble, Int.reduceToNat, Int.reduceLE, Int.reduceLT, Nat.reduceLT, Nat.reduceLeDiff, Nat.reduceAdd, Nat.reduceMul, Nat.reduceSub, Int.reduceAdd, Int.reduceSub, Int.reduceMul, tabs, G2_set])) | ((with_reducible refine hN _ _ ?_); clear hN N))))
 (revert N; intro N1 hN1)
 rename_i b0 s
 refine Vc.loop 4 21 (fun k => [(6, .int .i64 (k : Nat))])
  (fun k => [.blk b0 27 (.words [a]), .own s 32 5 1 (.ints .u8 (bytK a 32 k))])
  (fun k => k ≤ 32) (fun k => 32 - k) 0 ⟨Nat.zero_le _, ?_, ?_⟩ (fun k junk hk => ?_)
 ·((try simp only [v8Y, Nat.beq, Nat.ble, Int.reduceToNat, Int.reduceLE, Int.reduceLT, Nat.reduceLT, Nat.reduceLeDiff, Nat.reduceAdd, Nat.reduceMul, Nat.reduceSub, Int.reduceAdd, Int.reduceSub, Int.reduceMul, tabs]); (repeat' with_reducible apply And.intro) <;> first | with_reducible exact True.intro | fail | with_reducible rfl | (congr 1 <;> omega) | trivial)
 ·((try simp only [v8Y, Nat.beq, Nat.ble, Int.reduceToNat, Int.reduceLE, Int.reduceLT, Nat.reduceLT, Nat.reduceLeDiff, Nat.reduceAdd, Nat.reduceMul, Nat.reduceSub, Int.reduceAdd, Int.reduceSub, Int.reduceMul, tabs]); (repeat' with_reducible apply And.intro) <;> first | with_reducible exact True.intro | rw [bytK_0] | with_reducible rfl | (congr 1 <;> omega) | trivial)
 ·(simp only [v8Y, Nat.beq, Nat.ble, Int.reduceToNat, Int.reduceLE, Int.reduceLT, Nat.reduceLT, Nat.reduceLeDiff, Nat.reduceAdd, Nat.reduceMul, Nat.reduceSub, Int.reduceAdd, Int.reduceSub, Int.reduceMul, tabs])
  ((repeat (first | (with_reducible refine Vc.seq fun N hN => ?_) | ((with_reducible refine And.intro ?_ ?_); (focus (exact sd0))) | ((first | ((with_reducible refine Vc.hold ?_); first | refine Vc.regiont T0_ok G2_ok ?_)); (try simp only [v8Y, Nat.beq, Nat.ble, Int.reduceToNat, Int.reduceLE, Int.reduceLT, Nat.reduceLT, Nat.reduceLeDiff, Nat.reduceAdd, Nat.reduceMul, Nat.reduceSub, Int.reduceAdd, Int.reduceSub, Int.reduceMul, tabs, G2_set])) | ((with_reducible refine hN _ _ ?_); clear hN N))))
  (refine Vc.cond T0_ok (by rfl) (fun hb => ?_) (fun hb => ?_))
  ·have hk' := of_decide_eq_true hb
   ((repeat (first | (with_reducible first | refine Vc.seq fun N hN => ?_ | refine Vc.block ?_) | ((first | with_reducible refine Vc.skip ?_); dsimp only [thenK, blockK, Nat.beq]; (first | (refine hN _ _ ?_; clear hN N))) | ((with_reducible refine And.intro ?_ ?_); exact sX20) | ((first | ((with_reducible refine Vc.hold ?_); first | refine Vc.regiont T0_ok G2_ok ?_)); (try simp only [v8Y, Nat.beq, Nat.ble, Int.reduceToNat, Int.reduceLE, Int.reduceLT, Nat.reduceLT, Nat.reduceLeDiff, Nat.reduceAdd, Nat.reduceMul, Nat.reduceSub, Int.reduceAdd, Int.reduceSub, Int.reduceMul, tabs, G2_set])) | ((with_reducible refine hN _ _ ?_); clear hN N))))
   refine ⟨k + 1, by omega, ?_, ?_, by omega⟩
   ·((try simp only [v8Y, Nat.beq, Nat.ble, Int.reduceToNat, Int.reduceLE, Int.reduceLT, Nat.reduceLT, Nat.reduceLeDiff, Nat.reduceAdd, Nat.reduceMul, Nat.reduceSub, Int.reduceAdd, Int.reduceSub, Int.reduceMul, tabs]); (repeat' with_reducible apply And.intro) <;> first | with_reducible exact True.intro | fail | with_reducible rfl | (congr 1 <;> omega) | trivial)
   ·((try simp only [v8Y, Nat.beq, Nat.ble, Int.reduceToNat, Int.reduceLE, Int.reduceLT, Nat.reduceLT, Nat.reduceLeDiff, Nat.reduceAdd, Nat.reduceMul, Nat.reduceSub, Int.reduceAdd, Int.reduceSub, Int.reduceMul, tabs]); (repeat' with_reducible apply And.intro) <;> first | with_reducible exact True.intro | rw [← bytK_set _ _ _ (by omega), show (((32 : Nat) : Int) - 1 - (k : Int)).toNat = 32 - 1 - k by omega] | with_reducible rfl | (congr 1 <;> omega) | trivial)
  ·have hk' := of_decide_eq_false hb
   have hk2 : k = 32 := by omega
   subst hk2
   rw [bytK_n]
   ((repeat (first | (with_reducible refine Vc.seq fun N hN => ?_) | ((first | with_reducible refine Vc.exit ?_); dsimp only [thenK, blockK, Nat.beq]; (first | skip)) | ((with_reducible refine And.intro ?_ ?_); (focus (exact sd0))) | ((first | ((with_reducible refine Vc.fin ?_); dsimp only [thenK, blockK, retK, resS, resOne, resAll]) | ((with_reducible refine Vc.hold ?_); first | refine Vc.regiont T0_ok G2_ok ?_)); (try simp only [v8Y, Nat.beq, Nat.ble, Int.reduceToNat, Int.reduceLE, Int.reduceLT, Nat.reduceLT, Nat.reduceLeDiff, Nat.reduceAdd, Nat.reduceMul, Nat.reduceSub, Int.reduceAdd, Int.reduceSub, Int.reduceMul, tabs, G2_set])) | ((with_reducible refine hN _ _ ?_); clear hN N))); (try ((with_reducible refine Fin.of ?_); (try with_reducible exact True.intro))))
   (refine hN1 _ _ ?_; (try clear hN N); clear hN1 N1)
   ((repeat (first | (with_reducible refine Vc.seq fun N hN => ?_) | ((first | with_reducible refine Vc.exit ?_); dsimp only [thenK, blockK, Nat.beq]; (first | skip)) | ((with_reducible refine And.intro ?_ ?_); (focus (exact sd0))) | ((first | ((with_reducible refine Vc.fin ?_); dsimp only [thenK, blockK, retK, resS, resOne, resAll]) | ((with_reducible refine Vc.hold ?_); first | refine Vc.regiont T0_ok G2_ok ?_)); (try simp only [v8Y, Nat.beq, Nat.ble, Int.reduceToNat, Int.reduceLE, Int.reduceLT, Nat.reduceLT, Nat.reduceLeDiff, Nat.reduceAdd, Nat.reduceMul, Nat.reduceSub, Int.reduceAdd, Int.reduceSub, Int.reduceMul, tabs, G2_set])) | ((with_reducible refine hN _ _ ?_); clear hN N))); (try ((with_reducible refine Fin.of ?_); (try with_reducible exact True.intro))))
   exact ⟨trivial, s, rfl, rfl⟩
end Go.Proofs.YtoadeekdgikghaaDoor
