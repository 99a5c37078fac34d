/-
 The document's answer for a product (quaestorref01.Mul), walked.
-/
import Derived.Test.YtjonbbmnjbnefaaDoorRE
import Derived.Test.YtjonbbmnjbnefaaDoorRN
import Derived.Test.YtjonbbmnjbnefaaDoorTab
import Derived.Laws.Bits64b
set_option maxRecDepth 10000
set_option maxHeartbeats 4000000
set_option linter.defProp false
set_option linter.unusedVariables false
set_option linter.unusedSimpArgs false
namespace Go.Proofs.YtjonbbmnjbnefaaDoor
open Go.RowKit
def GZ : Ctr := fun _ _ _ => .none
theorem GZ_ok : GOk Tryd.prog GZ := fun _ _ _ _ _ => trivial
def dg8 (a : Nat) : List Int := (List.range 8).map fun j => ((dg a j : Nat) : Int)
def dgK (a k : Nat) : List Int := (List.range 8).map fun j => if j < k then ((dg a j : Nat) : Int) else 0
theorem dgK_0 (a : Nat) : dgK a 0 = List.replicate 8 0 := by
 apply List.ext_getElem
 ·simp [dgK]
 ·intro i h1 h2
  simp only [dgK, List.getElem_map, List.getElem_range, List.getElem_replicate]
  rw [if_neg (by omega)]
theorem dgK_8 (a : Nat) : dgK a 8 = dg8 a := by
 apply List.ext_getElem
 ·simp [dgK, dg8]
 ·intro i h1 h2
  simp [dgK] at h1
  simp [dgK, dg8]; omega
theorem dgK_len (a k : Nat) : (dgK a k).length = 8 := by simp [dgK]
theorem dg8_len (a : Nat) : (dg8 a).length = 8 := by simp [dg8]
theorem dg8_get (a j : Nat) (h : j < 8) : (dg8 a).getD j 0 = ((dg a j : Nat) : Int) := by
 rw [List.getD_eq_getElem?_getD]
 simp only [dg8, List.getElem?_map, List.getElem?_range h, Option.map_some, Option.getD_some]
theorem dgK_set (a k : Nat) (_h : k < 8) : (dgK a k).set k ((dg a k : Nat) : Int) = dgK a (k + 1) := by
 apply List.ext_getElem
 ·simp [dgK]
 ·intro i h1 h2
  rw [List.getElem_set]
  simp only [dgK, List.getElem_map, List.getElem_range]
  by_cases hi : k = i
  ·rw [if_pos hi, if_pos (by omega), hi]
  ·rw [if_neg hi]
   by_cases hk : i < k
   ·rw [if_pos hk, if_pos (by omega)]
   ·rw [if_neg hk, if_neg (by omega)]
theorem and_D (x : Nat) (h : x < 18446744073709551616) : bits .and .u64 (x : Int) 4294967295 = ((x % D : Nat) : Int) := by
 have := bits_and_u64_nat x 4294967295 h (by decide)
 rw [show (4294967295 : Nat) = 2 ^ 32 - 1 from rfl, Nat.and_two_pow_sub_one_eq_mod] at this
 exact this
theorem lm_dg (a k : Nat) : lm a (k / 2) / 2 ^ (k % 2 * 32) % D = dg a k := by
 unfold lm dg
 rw [pow64, show (18446744073709551616 : Nat) = 2 ^ 64 from rfl, show D = 2 ^ 32 from rfl, ← Nat.pow_mul]
 have h2 : (2 : Nat) ^ 64 = 2 ^ (k % 2 * 32) * 2 ^ (64 - k % 2 * 32) := by rw [← Nat.pow_add]; congr 1; omega
 rw [h2, Nat.mod_mul_right_div_self, Nat.div_div_eq_div_mul, ← Nat.pow_add]
 rw [show 64 * (k / 2) + k % 2 * 32 = 32 * k by omega]
 exact Nat.mod_mod_of_dvd _ (by
  have : (2 : Nat) ^ (64 - k % 2 * 32) = 2 ^ 32 * 2 ^ (64 - k % 2 * 32 - 32) := by rw [← Nat.pow_add]; congr 1; omega
  rw [this]; exact Nat.dvd_mul_right _ _)
theorem half_bits (a k : Nat) (_hk : k < 8) : bits .and .u64 (((lm a ((k : Int) / 2).toNat : Nat) : Int) / 2 ^ min ((k : Int) % 2 * 32).toNat 64) 4294967295 = ((dg a k : Nat) : Int) := by
 rw [show ((k : Int) / 2).toNat = k / 2 by omega, show min ((k : Int) % 2 * 32).toNat 64 = k % 2 * 32 by omega]
 have h3 : ((lm a (k / 2) : Nat) : Int) / 2 ^ (k % 2 * 32) = ((lm a (k / 2) / 2 ^ (k % 2 * 32) : Nat) : Int) := by rw [Int.natCast_ediv, Int.natCast_pow]; rfl
 rw [h3, and_D _ (Nat.lt_of_le_of_lt (Nat.div_le_self _ _) (lm_lt _ _)), lm_dg]
theorem halves_vc (a : Nat) (w : World) : Calls Tryd.prog 87 (cvs [.word a]).toArray w (fun en w' => ∃ u, en = .returned u ∧ ∃ v m', u = cv v ∧ MemOk w [] m' w' ∧ v = .ints .u64 (dg8 a)) := by
 refine Vc.calls T0_ok Tryd.func87 rfl rfl (args := [.word a]) (k := 21) rfl (MemOk.start _) ?_; change Vc _ _ (c8 (.word a) .undef .undef .undef .undef .undef .undef .undef (c8 .undef .undef .undef .undef .undef .undef .undef .undef ([.undef, .undef, .undef, .undef, .undef, .undef]))) _ _
 ((repeat (first | (with_reducible first | refine Vc.seq fun N hN => ?_ | refine Vc.block ?_) | ((with_reducible first | refine Vc.skip ?_ | refine Vc.exit ?_); dsimp only [thenK, blockK, Nat.beq]; (first | (refine hN _ _ ?_; clear hN N) | skip)) | (with_reducible intro _) | ((with_reducible refine And.intro ?_ ?_); (focus (exact sd0))) | ((first | ((with_reducible refine askT_of ?_ (fun hb => ?_)); (focus (exact sd0)); (try simp only [hb])) | ((with_reducible refine Vc.fin ?_); dsimp only [thenK, blockK, retK, resS, resOne, resAll]) | ((with_reducible refine Vc.hold ?_); first | refine Vc.regiont T0_ok GZ_ok ?_)); (try simp only [v8Y, Nat.beq, Nat.ble, Int.reduceToNat, Int.reduceLE, Int.reduceLT, Nat.reduceLT, Nat.reduceLeDiff, Nat.reduceAdd, Nat.reduceMul, Nat.reduceSub, Int.reduceAdd, Int.reduceSub, Int.reduceMul, v8S, IntKind.bits, tabs]); (try simp (disch := omega) only [v8W])) | ((with_reducible refine hN _ _ ?_); clear hN N; (try simp (disch := omega) only [v8W])))); (try ((with_reducible refine Fin.of ?_); (try with_reducible exact True.intro))))
 (revert N; intro N1 hN1)
 rename_i b0 b1 b2
 refine Vc.loop 5 22 (fun k => [(4, .int .i64 (k : Nat))])
  (fun k => [.blk b0 26 (.words [a]), .blk b1 99 (.ints .u64 (List.replicate 8 0)), .blk b2 99 (.ints .u64 (dgK a k))])
  (fun k => k ≤ 8) (fun k => 8 - k) 0 ⟨Nat.zero_le _, ?_, ?_⟩ (fun k junk hk => ?_)
 ·((try simp only [v8Y, Nat.beq, Nat.ble, Int.reduceToNat, Int.reduceLE, Int.reduceLT, Nat.reduceLT, Nat.reduceLeDiff, Nat.reduceAdd, Nat.reduceMul, Nat.reduceSub, Int.reduceAdd, Int.reduceSub, Int.reduceMul, v8S, IntKind.bits, tabs]); (repeat' with_reducible apply And.intro) <;> first | with_reducible exact True.intro | fail | with_reducible rfl | (congr 1 <;> omega) | trivial)
 ·((try simp only [v8Y, Nat.beq, Nat.ble, Int.reduceToNat, Int.reduceLE, Int.reduceLT, Nat.reduceLT, Nat.reduceLeDiff, Nat.reduceAdd, Nat.reduceMul, Nat.reduceSub, Int.reduceAdd, Int.reduceSub, Int.reduceMul, v8S, IntKind.bits, tabs]); (repeat' with_reducible apply And.intro) <;> first | with_reducible exact True.intro | rw [dgK_0] | with_reducible rfl | (congr 1 <;> omega) | trivial)
 ·(simp only [v8Y, Nat.beq, Nat.ble, Int.reduceToNat, Int.reduceLE, Int.reduceLT, Nat.reduceLT, Nat.reduceLeDiff, Nat.reduceAdd, Nat.reduceMul, Nat.reduceSub, Int.reduceAdd, Int.reduceSub, Int.reduceMul, v8S, IntKind.bits, tabs])
  ((repeat (first | (with_reducible first | refine Vc.seq fun N hN => ?_ | refine Vc.block ?_) | ((with_reducible first | refine Vc.skip ?_ | refine Vc.exit ?_); dsimp only [thenK, blockK, Nat.beq]; (first | (refine hN _ _ ?_; clear hN N) | skip)) | (with_reducible intro _) | ((with_reducible refine And.intro ?_ ?_); (focus (exact sd0))) | ((first | ((with_reducible refine askT_of ?_ (fun hb => ?_)); (focus (exact sd0)); (try simp only [hb])) | ((with_reducible refine Vc.fin ?_); dsimp only [thenK, blockK, retK, resS, resOne, resAll]) | ((with_reducible refine Vc.hold ?_); first | refine Vc.regiont T0_ok GZ_ok ?_)); (try simp only [v8Y, Nat.beq, Nat.ble, Int.reduceToNat, Int.reduceLE, Int.reduceLT, Nat.reduceLT, Nat.reduceLeDiff, Nat.reduceAdd, Nat.reduceMul, Nat.reduceSub, Int.reduceAdd, Int.reduceSub, Int.reduceMul, v8S, IntKind.bits, tabs]); (try simp (disch := omega) only [v8W])) | ((with_reducible refine hN _ _ ?_); clear hN N; (try simp (disch := omega) only [v8W])))); (try ((with_reducible refine Fin.of ?_); (try with_reducible exact True.intro))))
  (refine Vc.cond T0_ok (by rfl) (fun hb => ?_) (fun hb => ?_))
  ·have hk' := of_decide_eq_true hb
   ((repeat (first | (with_reducible first | refine Vc.seq fun N hN => ?_ | refine Vc.block ?_) | ((with_reducible first | refine Vc.skip ?_ | refine Vc.exit ?_); dsimp only [thenK, blockK, Nat.beq]; (first | (refine hN _ _ ?_; clear hN N) | skip)) | (with_reducible intro _) | ((with_reducible refine And.intro ?_ ?_); (focus (first | ((repeat' with_reducible apply And.intro) <;> first | with_reducible exact True.intro | (rw [dgK_len]; omega)) | exact sd0))) | ((first | ((with_reducible refine askT_of ?_ (fun hb => ?_)); (focus (first | ((repeat' with_reducible apply And.intro) <;> first | with_reducible exact True.intro | (rw [dgK_len]; omega)) | exact sd0)); (try simp only [hb])) | ((with_reducible refine Vc.fin ?_); dsimp only [thenK, blockK, retK, resS, resOne, resAll]) | ((with_reducible refine Vc.hold ?_); first | refine Vc.regiont T0_ok GZ_ok ?_)); (try simp only [v8Y, Nat.beq, Nat.ble, Int.reduceToNat, Int.reduceLE, Int.reduceLT, Nat.reduceLT, Nat.reduceLeDiff, Nat.reduceAdd, Nat.reduceMul, Nat.reduceSub, Int.reduceAdd, Int.reduceSub, Int.reduceMul, v8S, IntKind.bits, tabs]); (try simp (disch := omega) only [v8W])) | ((with_reducible refine hN _ _ ?_); clear hN N; (try simp (disch := omega) only [v8W])))); (try ((with_reducible refine Fin.of ?_); (try with_reducible exact True.intro))))
   refine ⟨k + 1, by omega, ?_, ?_, by omega⟩
   ·((try simp only [v8Y, Nat.beq, Nat.ble, Int.reduceToNat, Int.reduceLE, Int.reduceLT, Nat.reduceLT, Nat.reduceLeDiff, Nat.reduceAdd, Nat.reduceMul, Nat.reduceSub, Int.reduceAdd, Int.reduceSub, Int.reduceMul, v8S, IntKind.bits, tabs]); (repeat' with_reducible apply And.intro) <;> first | with_reducible exact True.intro | fail | with_reducible rfl | (congr 1 <;> omega) | trivial)
   ·((try simp only [v8Y, Nat.beq, Nat.ble, Int.reduceToNat, Int.reduceLE, Int.reduceLT, Nat.reduceLT, Nat.reduceLeDiff, Nat.reduceAdd, Nat.reduceMul, Nat.reduceSub, Int.reduceAdd, Int.reduceSub, Int.reduceMul, v8S, IntKind.bits, tabs]); (repeat' with_reducible apply And.intro) <;> first | with_reducible exact True.intro | rw [half_bits a k (by omega), dgK_set _ _ (by omega)] | with_reducible rfl | (congr 1 <;> omega) | trivial)
  ·have hk' := of_decide_eq_false hb
   have hk2 : k = 8 := by omega
   subst hk2
   rw [dgK_8]
   ((repeat (first | (with_reducible first | refine Vc.seq fun N hN => ?_ | refine Vc.block ?_) | ((with_reducible first | refine Vc.skip ?_ | refine Vc.exit ?_); dsimp only [thenK, blockK, Nat.beq]; (first | (refine hN _ _ ?_; clear hN N) | skip)) | (with_reducible intro _) | ((with_reducible refine And.intro ?_ ?_); (focus (exact sd0))) | ((first | ((with_reducible refine askT_of ?_ (fun hb => ?_)); (focus (exact sd0)); (try simp only [hb])) | ((with_reducible refine Vc.fin ?_); dsimp only [thenK, blockK, retK, resS, resOne, resAll]) | ((with_reducible refine Vc.hold ?_); first | refine Vc.regiont T0_ok GZ_ok ?_)); (try simp only [v8Y, Nat.beq, Nat.ble, Int.reduceToNat, Int.reduceLE, Int.reduceLT, Nat.reduceLT, Nat.reduceLeDiff, Nat.reduceAdd, Nat.reduceMul, Nat.reduceSub, Int.reduceAdd, Int.reduceSub, Int.reduceMul, v8S, IntKind.bits, tabs]); (try simp (disch := omega) only [v8W])) | ((with_reducible refine hN _ _ ?_); clear hN N; (try simp (disch := omega) only [v8W])))); (try ((with_reducible refine Fin.of ?_); (try with_reducible exact True.intro))))
   (refine hN1 _ _ ?_; (try clear hN N); clear hN1 N1)
   ((repeat (first | (with_reducible first | refine Vc.seq fun N hN => ?_ | refine Vc.block ?_) | ((with_reducible first | refine Vc.skip ?_ | refine Vc.exit ?_); dsimp only [thenK, blockK, Nat.beq]; (first | (refine hN _ _ ?_; clear hN N) | skip)) | (with_reducible intro _) | ((with_reducible refine And.intro ?_ ?_); (focus (first | ((repeat' with_reducible apply And.intro) <;> first | with_reducible exact True.intro | exact dg8_len _ | (rw [dg8_len, List.length_replicate])) | exact sd0))) | ((first | ((with_reducible refine askT_of ?_ (fun hb => ?_)); (focus (first | ((repeat' with_reducible apply And.intro) <;> first | with_reducible exact True.intro | exact dg8_len _ | (rw [dg8_len, List.length_replicate])) | exact sd0)); (try simp only [hb])) | ((with_reducible refine Vc.fin ?_); dsimp only [thenK, blockK, retK, resS, resOne, resAll]) | ((with_reducible refine Vc.hold ?_); first | refine Vc.regiont T0_ok GZ_ok ?_)); (try simp only [v8Y, Nat.beq, Nat.ble, Int.reduceToNat, Int.reduceLE, Int.reduceLT, Nat.reduceLT, Nat.reduceLeDiff, Nat.reduceAdd, Nat.reduceMul, Nat.reduceSub, Int.reduceAdd, Int.reduceSub, Int.reduceMul, v8S, IntKind.bits, tabs]); (try simp (disch := omega) only [v8W])) | ((with_reducible refine hN _ _ ?_); clear hN N; (try simp (disch := omega) only [v8W])))); (try ((with_reducible refine Fin.of ?_); (try with_reducible exact True.intro))))
   ((try simp only [v8Y, Nat.beq, Nat.ble, Int.reduceToNat, Int.reduceLE, Int.reduceLT, Nat.reduceLT, Nat.reduceLeDiff, Nat.reduceAdd, Nat.reduceMul, Nat.reduceSub, Int.reduceAdd, Int.reduceSub, Int.reduceMul, v8S, IntKind.bits, tabs]); (repeat' with_reducible apply And.intro) <;> first | with_reducible exact True.intro | fail | with_reducible rfl | (congr 1 <;> omega) | trivial)
theorem powD (k : Nat) : D ^ k = 2 ^ (32 * k) := by rw [show D = 2 ^ 32 from rfl, ← Nat.pow_mul]
theorem lmD_below {x k j : Nat} (hx : x < D ^ k) (h : k ≤ 2 * j) : lm x j = 0 := by
 unfold lm
 rw [pow64, Nat.div_eq_of_lt, Nat.zero_mod]
 rw [powD] at hx
 exact Nat.lt_of_lt_of_le hx (Nat.pow_le_pow_right (by decide) (by omega))
theorem lmD_cut {x k : Nat} (hx : x < D ^ k) : lm x (k / 2) < 2 ^ (k % 2 * 32) := by
 have h1 : lm x (k / 2) = x / 2 ^ (64 * (k / 2)) % 2 ^ 64 := by unfold lm; rw [pow64]
 have h2 : x / 2 ^ (64 * (k / 2)) < 2 ^ (k % 2 * 32) := by
  rw [Nat.div_lt_iff_lt_mul (Nat.two_pow_pos _), ← Nat.pow_add]
  rw [powD] at hx
  rwa [show k % 2 * 32 + 64 * (k / 2) = 32 * k by omega]
 rw [h1]
 exact Nat.lt_of_le_of_lt (Nat.mod_le _ _) h2
theorem lmD_put {x k y j : Nat} (hx : x < D ^ k) (hy : y < D) : lm (y * D ^ k + x) j = if j = k / 2 then lm x j + y * 2 ^ (k % 2 * 32) else lm x j := by
 have hk : D ^ k = 2 ^ (64 * (k / 2)) * 2 ^ (k % 2 * 32) := by rw [powD, ← Nat.pow_add]; congr 1; omega
 have hm : k % 2 * 32 ≤ 32 := by omega
 by_cases hj : j = k / 2
 ·rw [if_pos hj]; subst hj
  have hc := lmD_cut hx
  have e1 : lm x (k / 2) = x / 2 ^ (64 * (k / 2)) := by
   unfold lm at hc ⊢
   rw [pow64] at hc ⊢
   have h2 : x / 2 ^ (64 * (k / 2)) < 2 ^ (k % 2 * 32) := by
    rw [Nat.div_lt_iff_lt_mul (Nat.two_pow_pos _), ← Nat.pow_add]
    rw [powD] at hx
    rwa [show k % 2 * 32 + 64 * (k / 2) = 32 * k by omega]
   have h3 : (2 : Nat) ^ (k % 2 * 32) ≤ 2 ^ 64 := Nat.pow_le_pow_right (by decide) (by omega)
   have h4 : (2 : Nat) ^ 64 = 18446744073709551616 := rfl
   exact Nat.mod_eq_of_lt (by omega)
  rw [e1] at hc ⊢
  unfold lm
  rw [pow64, hk]
  have e2 : y * (2 ^ (64 * (k / 2)) * 2 ^ (k % 2 * 32)) + x = x + y * 2 ^ (k % 2 * 32) * 2 ^ (64 * (k / 2)) := by
   rw [Nat.add_comm, Nat.mul_comm (2 ^ (64 * (k / 2))), Nat.mul_assoc]
  rw [e2, Nat.add_mul_div_right _ _ (Nat.two_pow_pos _)]
  apply Nat.mod_eq_of_lt
  have h5 : x / 2 ^ (64 * (k / 2)) + y * 2 ^ (k % 2 * 32) < 2 ^ (k % 2 * 32 + 32) := by
   have : (y + 1) * 2 ^ (k % 2 * 32) ≤ D * 2 ^ (k % 2 * 32) := Nat.mul_le_mul_right _ hy
   rw [Nat.add_mul] at this
   rw [Nat.pow_add, Nat.mul_comm (2 ^ (k % 2 * 32)) (2 ^ 32)]
   unfold D at this
   omega
  exact Nat.lt_of_lt_of_le h5 (by
   have : (2 : Nat) ^ (k % 2 * 32 + 32) ≤ 2 ^ 64 := Nat.pow_le_pow_right (by decide) (by omega)
   exact this)
 ·rw [if_neg hj]
  rcases Nat.lt_or_gt_of_ne hj with h | h
  ·unfold lm
   rw [pow64]
   have e : y * D ^ k + x = x + 2 ^ (64 * j) * (2 ^ 64 * (y * 2 ^ (32 * k - 64 * (j + 1)))) := by
    rw [powD, Nat.add_comm]
    congr 1
    rw [← Nat.mul_assoc, ← Nat.pow_add, Nat.mul_left_comm, ← Nat.pow_add]
    congr 2
    omega
   rw [e, Nat.add_mul_div_left _ _ (Nat.two_pow_pos _), show (18446744073709551616 : Nat) = 2 ^ 64 from rfl, Nat.add_mul_mod_self_left]
  ·have hlt : y * D ^ k + x < D ^ (k + 1) := by
    have : (y + 1) * D ^ k ≤ D * D ^ k := Nat.mul_le_mul_right _ hy
    rw [Nat.add_mul] at this
    rw [Nat.pow_succ, Nat.mul_comm (D ^ k)]; omega
   rw [lmD_below hlt (by omega), lmD_below hx (by omega)]
theorem lmD_set {P k : Nat} (hk : k < 8) : (lmI (P % D ^ k)).set (k / 2) (((lm (P % D ^ k) (k / 2) ||| dg P k * 2 ^ (k % 2 * 32) : Nat)) : Int) = lmI (P % D ^ (k + 1)) := by
 have hx : P % D ^ k < D ^ k := Nat.mod_lt _ (Dp k)
 have hy : dg P k < D := Nat.mod_lt _ D_pos
 rw [mod_split, Nat.add_comm (P % D ^ k), Nat.mul_comm (D ^ k)]
 generalize P % D ^ k = x at *
 generalize dg P k = y at *
 rw [or_put (lmD_cut hx)]
 have h0 := lmD_put (j := 0) hx hy
 have h1 := lmD_put (j := 1) hx hy
 have h2 := lmD_put (j := 2) hx hy
 have h3 := lmD_put (j := 3) hx hy
 unfold lmI
 rw [h0, h1, h2, h3]
 have : k / 2 = 0 ∨ k / 2 = 1 ∨ k / 2 = 2 ∨ k / 2 = 3 := by omega
 rcases this with h | h | h | h <;> rw [h] <;> rfl
def gB (P k : Nat) : Bool := decide (P / D ^ 8 % D ^ k ≠ 0)
theorem gB_0 (P : Nat) : gB P 0 = false := by unfold gB; rw [Nat.pow_zero, Nat.mod_one]; rfl
theorem dg_up (P k : Nat) : dg (P / D ^ 8) k = dg P (k + 8) := by unfold dg; rw [Nat.div_div_eq_div_mul, ← Nat.pow_add, Nat.add_comm 8]
theorem gB_succ (P k : Nat) : gB P (k + 1) = (gB P k || decide (dg P (k + 8) ≠ 0)) := by
 unfold gB
 rw [mod_split, dg_up]
 have hp := Dp k
 rw [Bool.eq_iff_iff]
 simp only [decide_eq_true_eq, Bool.or_eq_true]
 constructor
 ·intro h
  by_cases h1 : P / D ^ 8 % D ^ k = 0
  ·right
   intro h2
   rw [h1, h2, Nat.mul_zero] at h
   exact h rfl
  ·exact .inl h1
 ·rintro (h | h)
  ·exact Nat.ne_of_gt (Nat.add_pos_left (Nat.pos_of_ne_zero h) _)
  ·exact Nat.ne_of_gt (Nat.add_pos_right _ (Nat.mul_pos hp (Nat.pos_of_ne_zero h)))
theorem gB_8 {P : Nat} (h : P < W * W) : gB P 8 = decide (W ≤ P) := by
 have hW : D ^ 8 = W := by decide
 unfold gB
 rw [hW, Nat.mod_eq_of_lt (Nat.div_lt_of_lt_mul h)]
 rw [decide_eq_decide]
 have := @Nat.div_eq_zero_iff P W
 have hp : 0 < W := by decide
 omega
theorem mX_8 {a : Nat} (b : Nat) (ha : a < W) : mX a b 8 = a * b := by
 unfold mX; rw [show D ^ 8 = W by decide, Nat.mod_eq_of_lt ha]
theorem mulL_dg (a b i j : Nat) (hj : j < 16) : (mulL a b i 0).getD j 0 = ((dg (mX a b i) j : Nat) : Int) := by
 rw [List.getD_eq_getElem?_getD]
 simp only [mulL, List.getElem?_map, List.getElem?_range hj, Option.map_some, Option.getD_some, mT_0, ite_self]
def g_halves (args : List SV) (_m : List Blk) : CR := match args with | [.word a] => .pure (True) (.ints .u64 (dg8 a)) | _ => .none
theorem g_halves_ok (w0 : World) (B : List Nat) (args : List SV) (m : List Blk) : CROk Tryd.prog w0 B 87 args m (g_halves args m) := by
 unfold g_halves; split
 ·rename_i a; exact pure_old Tryd.func87 rfl rfl (fun h w => (halves_vc a w).mono fun en w' ⟨u, he, v, m', hu, hm, hv⟩ => by subst hu; subst hv; exact ⟨he, gw_of_grown hm.grown⟩)
 ·exact trivial
noncomputable def GHM : Ctr := fun f args m => match f with
 | 87 => g_halves args m
 | _ => .none
theorem GHM_ok : GOk Tryd.prog GHM := by
 intro w0 B f args m; unfold GHM; split
 ·exact g_halves_ok _ _ _ _
 ·exact trivial
theorem GHM_halves : GHM 87 = g_halves := by funext args m; rfl
def GHM_set := And.intro (@GHM_halves) (@g_halves.eq_def)

theorem mul_wrap {x y l c : Nat} (hx : x < D) (hy : y < D) (hl : l < D) (hc : c < D) :
  IntKind.u64.wrap (IntKind.u64.wrap ((l : Int) + IntKind.u64.wrap ((x : Int) * y)) + c) = ((l + x * y + c : Nat) : Int) := by
 have h := mul_fits hx hy hl hc
 have e : (x : Int) * y = ((x * y : Nat) : Int) := by rw [Int.natCast_mul]
 rw [e]
 generalize x * y = u at *
 have h1 : IntKind.u64.wrap (u : Int) = u := wrap_u64 (by omega) (by omega)
 have h2 : IntKind.u64.wrap ((l : Int) + u) = (l : Int) + u := wrap_u64 (by omega) (by omega)
 have h3 : IntKind.u64.wrap ((l : Int) + u + c) = (l : Int) + u + c := wrap_u64 (by omega) (by omega)
 rw [h1, h2, h3]
 omega
set_option maxRecDepth 4000 in
theorem rmul_vc (a b : Nat) (ha : a < W) (hb0 : b < W) (w : World) : Calls Tryd.prog 42 (cvs [.word a, .word b]).toArray w (fun en w' => ∃ u, en = .returned u ∧ ∃ v m', u = cv v ∧ MemOk w [] m' w' ∧ v = .tup [.word (a * b % W), .bool (decide (W ≤ a * b))]) := by
 have hb8 : b < D ^ 8 := Nat.lt_of_lt_of_eq hb0 (by decide)
 refine Vc.calls T0_ok Tryd.func42 rfl rfl (args := [.word a, .word b]) (k := 83) rfl (MemOk.start _) ?_; change Vc _ _ (c8 (.word a) (.word b) .undef .undef .undef .undef .undef .undef (c8 .undef .undef .undef .undef .undef .undef .undef .undef (c8 .undef .undef .undef .undef .undef .undef .undef .undef (c8 .undef .undef .undef .undef .undef .undef .undef .undef (c8 .undef .undef .undef .undef .undef .undef .undef .undef (c8 .undef .undef .undef .undef .undef .undef .undef .undef (c8 .undef .undef .undef .undef .undef .undef .undef .undef (c8 .undef .undef .undef .undef .undef .undef .undef .undef (c8 .undef .undef .undef .undef .undef .undef .undef .undef (c8 .undef .undef .undef .undef .undef .undef .undef .undef ([.undef, .undef, .undef, .undef, .undef]))))))))))) _ _
 ((repeat (first | (with_reducible first | refine Vc.seq fun N hN => ?_ | refine Vc.block ?_) | ((with_reducible first | refine Vc.skip ?_ | refine Vc.exit ?_); dsimp only [thenK, blockK, Nat.beq]; (first | (refine hN _ _ ?_; clear hN N) | skip)) | (with_reducible intro _) | ((with_reducible refine And.intro ?_ ?_); (focus (first | ((repeat' with_reducible apply And.intro) <;> first | with_reducible exact True.intro | exact dg8_len _ | (rw [dg8_len, List.length_replicate])) | exact sd0))) | ((first | ((with_reducible refine askT_of ?_ (fun hb => ?_)); (focus (first | ((repeat' with_reducible apply And.intro) <;> first | with_reducible exact True.intro | exact dg8_len _ | (rw [dg8_len, List.length_replicate])) | exact sd0)); (try simp only [hb])) | ((with_reducible refine Vc.fin ?_); dsimp only [thenK, blockK, retK, resS, resOne, resAll]) | ((with_reducible refine Vc.hold ?_); first | refine Vc.regiont T0_ok GHM_ok ?_ | refine Vc.drawt (id := 11) T0_ok GHM_ok (by kernel_rfl) [0, 1, 2, 3, 4, 5, 6, 7, 8, 9, 10, 11, 12, 13] 14 [] trivial (by kernel_rfl) ?_ | refine Vc.drawt (id := 20) T0_ok GHM_ok (by kernel_rfl) [0, 1, 2, 3, 4, 5, 6, 7, 8, 9, 10, 11, 12, 13] 14 [] trivial (by kernel_rfl) ?_)); (try simp only [v8Y, Nat.beq, Nat.ble, Int.reduceToNat, Int.reduceLE, Int.reduceLT, Nat.reduceLT, Nat.reduceLeDiff, Nat.reduceAdd, Nat.reduceMul, Nat.reduceSub, Int.reduceAdd, Int.reduceSub, Int.reduceMul, v8S, IntKind.bits, tabs, GHM_set]); (try simp (disch := omega) only [v8W])) | ((with_reducible refine hN _ _ ?_); clear hN N; (try simp (disch := omega) only [v8W])))); (try ((with_reducible refine Fin.of ?_); (try with_reducible exact True.intro))))
 (revert N; intro N1 hN1)
 rename_i b0 b1 b2 b3 b4 b5
 refine Vc.loop 10 85 (fun i => [(9, .int .i64 (i : Nat))])
  (fun i => [.blk b0 26 (.words [a]), .blk b1 26 (.words [b]), .blk b2 26 (.words [0]), .blk b3 99 (.ints .u64 (dg8 a)), .blk b4 99 (.ints .u64 (dg8 b)), .blk b5 101 (.ints .u64 (mulL a b i 0))])
  (fun i => i ≤ 8) (fun i => 8 - i) 0 ⟨Nat.zero_le _, ?_, ?_⟩ (fun i junk hi => ?_)
 ·((try simp only [v8Y, Nat.beq, Nat.ble, Int.reduceToNat, Int.reduceLE, Int.reduceLT, Nat.reduceLT, Nat.reduceLeDiff, Nat.reduceAdd, Nat.reduceMul, Nat.reduceSub, Int.reduceAdd, Int.reduceSub, Int.reduceMul, v8S, IntKind.bits, tabs]); (repeat' with_reducible apply And.intro) <;> first | with_reducible exact True.intro | fail | with_reducible rfl | (congr 1 <;> omega) | trivial)
 ·((try simp only [v8Y, Nat.beq, Nat.ble, Int.reduceToNat, Int.reduceLE, Int.reduceLT, Nat.reduceLT, Nat.reduceLeDiff, Nat.reduceAdd, Nat.reduceMul, Nat.reduceSub, Int.reduceAdd, Int.reduceSub, Int.reduceMul, v8S, IntKind.bits, tabs]); (repeat' with_reducible apply And.intro) <;> first | with_reducible exact True.intro | rw [mulL_0] | with_reducible rfl | (congr 1 <;> omega) | trivial)
 ·(simp only [v8Y, Nat.beq, Nat.ble, Int.reduceToNat, Int.reduceLE, Int.reduceLT, Nat.reduceLT, Nat.reduceLeDiff, Nat.reduceAdd, Nat.reduceMul, Nat.reduceSub, Int.reduceAdd, Int.reduceSub, Int.reduceMul, v8S, IntKind.bits, tabs])
  ((repeat (first | (with_reducible first | refine Vc.seq fun N hN => ?_ | refine Vc.block ?_) | ((with_reducible first | refine Vc.skip ?_ | refine Vc.exit ?_); dsimp only [thenK, blockK, Nat.beq]; (first | (refine hN _ _ ?_; clear hN N) | skip)) | (with_reducible intro _) | ((with_reducible refine And.intro ?_ ?_); (focus (exact sd0))) | ((first | ((with_reducible refine askT_of ?_ (fun hb => ?_)); (focus (exact sd0)); (try simp only [hb])) | ((with_reducible refine Vc.fin ?_); dsimp only [thenK, blockK, retK, resS, resOne, resAll]) | ((with_reducible refine Vc.hold ?_); first | refine Vc.regiont T0_ok GHM_ok ?_ | refine Vc.drawt (id := 11) T0_ok GHM_ok (by kernel_rfl) [0, 1, 2, 3, 4, 5, 6, 7, 8, 9, 10, 11, 12, 13] 14 [] trivial (by kernel_rfl) ?_ | refine Vc.drawt (id := 20) T0_ok GHM_ok (by kernel_rfl) [0, 1, 2, 3, 4, 5, 6, 7, 8, 9, 10, 11, 12, 13] 14 [] trivial (by kernel_rfl) ?_)); (try simp only [v8Y, Nat.beq, Nat.ble, Int.reduceToNat, Int.reduceLE, Int.reduceLT, Nat.reduceLT, Nat.reduceLeDiff, Nat.reduceAdd, Nat.reduceMul, Nat.reduceSub, Int.reduceAdd, Int.reduceSub, Int.reduceMul, v8S, IntKind.bits, tabs, GHM_set]); (try simp (disch := omega) only [v8W])) | ((with_reducible refine hN _ _ ?_); clear hN N; (try simp (disch := omega) only [v8W])))); (try ((with_reducible refine Fin.of ?_); (try with_reducible exact True.intro))))
  (refine Vc.cond T0_ok (by rfl) (fun hb => ?_) (fun hb => ?_))
  ·have hi' := of_decide_eq_true hb
   clear hb
   ((repeat (first | (with_reducible first | refine Vc.seq fun N hN => ?_ | refine Vc.block ?_) | ((with_reducible first | refine Vc.skip ?_ | refine Vc.exit ?_); dsimp only [thenK, blockK, Nat.beq]; (first | (refine hN _ _ ?_; clear hN N) | skip)) | (with_reducible intro _) | ((with_reducible refine And.intro ?_ ?_); (focus (exact sd0))) | ((first | ((with_reducible refine askT_of ?_ (fun hb => ?_)); (focus (exact sd0)); (try simp only [hb])) | ((with_reducible refine Vc.fin ?_); dsimp only [thenK, blockK, retK, resS, resOne, resAll]) | ((with_reducible refine Vc.hold ?_); first | refine Vc.regiont T0_ok GHM_ok ?_ | refine Vc.drawt (id := 11) T0_ok GHM_ok (by kernel_rfl) [0, 1, 2, 3, 4, 5, 6, 7, 8, 9, 10, 11, 12, 13] 14 [] trivial (by kernel_rfl) ?_ | refine Vc.drawt (id := 20) T0_ok GHM_ok (by kernel_rfl) [0, 1, 2, 3, 4, 5, 6, 7, 8, 9, 10, 11, 12, 13] 14 [] trivial (by kernel_rfl) ?_)); (try simp only [v8Y, Nat.beq, Nat.ble, Int.reduceToNat, Int.reduceLE, Int.reduceLT, Nat.reduceLT, Nat.reduceLeDiff, Nat.reduceAdd, Nat.reduceMul, Nat.reduceSub, Int.reduceAdd, Int.reduceSub, Int.reduceMul, v8S, IntKind.bits, tabs, GHM_set]); (try simp (disch := omega) only [v8W])) | ((with_reducible refine hN _ _ ?_); clear hN N; (try simp (disch := omega) only [v8W])))); (try ((with_reducible refine Fin.of ?_); (try with_reducible exact True.intro))))
   (revert N; intro N2 hN2)
   refine Vc.loop 12 85 (fun k => [(10, .int .u64 (mC a b i k : Nat)), (11, .int .i64 (k : Nat))])
    (fun k => [.blk b0 26 (.words [a]), .blk b1 26 (.words [b]), .blk b2 26 (.words [0]), .blk b3 99 (.ints .u64 (dg8 a)), .blk b4 99 (.ints .u64 (dg8 b)), .blk b5 101 (.ints .u64 (mulL a b i k))])
    (fun k => k ≤ 8) (fun k => 8 - k) 0 ⟨Nat.zero_le _, ?_, ?_⟩ (fun k junk2 hk => ?_)
   ·((try simp only [v8Y, Nat.beq, Nat.ble, Int.reduceToNat, Int.reduceLE, Int.reduceLT, Nat.reduceLT, Nat.reduceLeDiff, Nat.reduceAdd, Nat.reduceMul, Nat.reduceSub, Int.reduceAdd, Int.reduceSub, Int.reduceMul, v8S, IntKind.bits, tabs]); (repeat' with_reducible apply And.intro) <;> first | with_reducible exact True.intro | rw [mC_0]; rfl | with_reducible rfl | (congr 1 <;> omega) | trivial)
   ·((try simp only [v8Y, Nat.beq, Nat.ble, Int.reduceToNat, Int.reduceLE, Int.reduceLT, Nat.reduceLT, Nat.reduceLeDiff, Nat.reduceAdd, Nat.reduceMul, Nat.reduceSub, Int.reduceAdd, Int.reduceSub, Int.reduceMul, v8S, IntKind.bits, tabs]); (repeat' with_reducible apply And.intro) <;> first | with_reducible exact True.intro | fail | with_reducible rfl | (congr 1 <;> omega) | trivial)
   ·(simp only [v8Y, Nat.beq, Nat.ble, Int.reduceToNat, Int.reduceLE, Int.reduceLT, Nat.reduceLT, Nat.reduceLeDiff, Nat.reduceAdd, Nat.reduceMul, Nat.reduceSub, Int.reduceAdd, Int.reduceSub, Int.reduceMul, v8S, IntKind.bits, tabs])
    ((repeat (first | (with_reducible first | refine Vc.seq fun N hN => ?_ | refine Vc.block ?_) | ((with_reducible first | refine Vc.skip ?_ | refine Vc.exit ?_); dsimp only [thenK, blockK, Nat.beq]; (first | (refine hN _ _ ?_; clear hN N) | skip)) | (with_reducible intro _) | ((with_reducible refine And.intro ?_ ?_); (focus (exact sd0))) | ((first | ((with_reducible refine askT_of ?_ (fun hb => ?_)); (focus (exact sd0)); (try simp only [hb])) | ((with_reducible refine Vc.fin ?_); dsimp only [thenK, blockK, retK, resS, resOne, resAll]) | ((with_reducible refine Vc.hold ?_); first | refine Vc.regiont T0_ok GHM_ok ?_ | refine Vc.drawt (id := 11) T0_ok GHM_ok (by kernel_rfl) [0, 1, 2, 3, 4, 5, 6, 7, 8, 9, 10, 11, 12, 13] 14 [] trivial (by kernel_rfl) ?_ | refine Vc.drawt (id := 20) T0_ok GHM_ok (by kernel_rfl) [0, 1, 2, 3, 4, 5, 6, 7, 8, 9, 10, 11, 12, 13] 14 [] trivial (by kernel_rfl) ?_)); (try simp only [v8Y, Nat.beq, Nat.ble, Int.reduceToNat, Int.reduceLE, Int.reduceLT, Nat.reduceLT, Nat.reduceLeDiff, Nat.reduceAdd, Nat.reduceMul, Nat.reduceSub, Int.reduceAdd, Int.reduceSub, Int.reduceMul, v8S, IntKind.bits, tabs, GHM_set]); (try simp (disch := omega) only [v8W])) | ((with_reducible refine hN _ _ ?_); clear hN N; (try simp (disch := omega) only [v8W])))); (try ((with_reducible refine Fin.of ?_); (try with_reducible exact True.intro))))
    (refine Vc.cond T0_ok (by rfl) (fun hb => ?_) (fun hb => ?_))
    ·have hk' := of_decide_eq_true hb
     clear hb
     have hik : ((i : Int) + (k : Int)).toNat = i + k := by omega
     have gl := mulL_get a b i k (i + k) (by omega) (Nat.le_refl _)
     have gx := dg8_get a i (by omega)
     have gy := dg8_get b k (by omega)
     have ht := mul_wrap (dg_lt a i) (dg_lt b k) (dg_lt (mX a b i) (i + k)) (mC_lt a b i k)
     have hf := mul_fits (dg_lt a i) (dg_lt b k) (dg_lt (mX a b i) (i + k)) (mC_lt a b i k)
     obtain ⟨q1, q2⟩ := mul_step a b i k
     have hn := and_D _ hf
     rw [← q2] at hn
     have hs := mulL_set a b i k (by omega)
     ((repeat (first | (with_reducible first | refine Vc.seq fun N hN => ?_ | refine Vc.block ?_) | ((with_reducible first | refine Vc.skip ?_ | refine Vc.exit ?_); dsimp only [thenK, blockK, Nat.beq]; (first | (refine hN _ _ ?_; clear hN N) | skip)) | (with_reducible intro _) | ((with_reducible refine And.intro ?_ ?_); (focus (first | ((repeat' with_reducible apply And.intro) <;> first | with_reducible exact True.intro | (rw [mulL_len]; omega) | (rw [dg8_len]; omega) | omega) | exact sd0))) | ((first | ((with_reducible refine askT_of ?_ (fun hb => ?_)); (focus (first | ((repeat' with_reducible apply And.intro) <;> first | with_reducible exact True.intro | (rw [mulL_len]; omega) | (rw [dg8_len]; omega) | omega) | exact sd0)); (try simp only [hb])) | ((with_reducible refine Vc.fin ?_); dsimp only [thenK, blockK, retK, resS, resOne, resAll]) | ((with_reducible refine Vc.hold ?_); first | refine Vc.regiont T0_ok GHM_ok ?_ | refine Vc.drawt (id := 11) T0_ok GHM_ok (by kernel_rfl) [0, 1, 2, 3, 4, 5, 6, 7, 8, 9, 10, 11, 12, 13] 14 [] trivial (by kernel_rfl) ?_ | refine Vc.drawt (id := 20) T0_ok GHM_ok (by kernel_rfl) [0, 1, 2, 3, 4, 5, 6, 7, 8, 9, 10, 11, 12, 13] 14 [] trivial (by kernel_rfl) ?_)); (try simp only [v8Y, Nat.beq, Nat.ble, Int.reduceToNat, Int.reduceLE, Int.reduceLT, Nat.reduceLT, Nat.reduceLeDiff, Nat.reduceAdd, Nat.reduceMul, Nat.reduceSub, Int.reduceAdd, Int.reduceSub, Int.reduceMul, v8S, IntKind.bits, tabs, GHM_set, hik, gl, gx, gy, ht, hn]); (try simp (disch := omega) only [v8W])) | ((with_reducible refine hN _ _ ?_); clear hN N; (try simp (disch := omega) only [v8W])))); (try ((with_reducible refine Fin.of ?_); (try with_reducible exact True.intro))))
     refine ⟨k + 1, by omega, ?_, ?_, by omega⟩
     ·((try simp only [v8Y, Nat.beq, Nat.ble, Int.reduceToNat, Int.reduceLE, Int.reduceLT, Nat.reduceLT, Nat.reduceLeDiff, Nat.reduceAdd, Nat.reduceMul, Nat.reduceSub, Int.reduceAdd, Int.reduceSub, Int.reduceMul, v8S, IntKind.bits, tabs]); (repeat' with_reducible apply And.intro) <;> first | with_reducible exact True.intro | (rw [q1]; rfl) | with_reducible rfl | (congr 1 <;> omega) | trivial)
     ·((try simp only [v8Y, Nat.beq, Nat.ble, Int.reduceToNat, Int.reduceLE, Int.reduceLT, Nat.reduceLT, Nat.reduceLeDiff, Nat.reduceAdd, Nat.reduceMul, Nat.reduceSub, Int.reduceAdd, Int.reduceSub, Int.reduceMul, v8S, IntKind.bits, tabs]); (repeat' with_reducible apply And.intro) <;> first | with_reducible exact True.intro | rw [hs] | with_reducible rfl | (congr 1 <;> omega) | trivial)
    ·have hk' := of_decide_eq_false hb
     have hk2 : k = 8 := by omega
     subst hk2
     clear hb
     have h8 : ((i : Int) + 8).toNat = i + 8 := by omega
     have hn := mulL_next (a := a) i hb8
     ((repeat (first | (with_reducible first | refine Vc.seq fun N hN => ?_ | refine Vc.block ?_) | ((with_reducible first | refine Vc.skip ?_ | refine Vc.exit ?_); dsimp only [thenK, blockK, Nat.beq]; (first | (refine hN _ _ ?_; clear hN N) | skip)) | (with_reducible intro _) | ((with_reducible refine And.intro ?_ ?_); (focus (exact sd0))) | ((first | ((with_reducible refine askT_of ?_ (fun hb => ?_)); (focus (exact sd0)); (try simp only [hb])) | ((with_reducible refine Vc.fin ?_); dsimp only [thenK, blockK, retK, resS, resOne, resAll]) | ((with_reducible refine Vc.hold ?_); first | refine Vc.regiont T0_ok GHM_ok ?_ | refine Vc.drawt (id := 11) T0_ok GHM_ok (by kernel_rfl) [0, 1, 2, 3, 4, 5, 6, 7, 8, 9, 10, 11, 12, 13] 14 [] trivial (by kernel_rfl) ?_ | refine Vc.drawt (id := 20) T0_ok GHM_ok (by kernel_rfl) [0, 1, 2, 3, 4, 5, 6, 7, 8, 9, 10, 11, 12, 13] 14 [] trivial (by kernel_rfl) ?_)); (try simp only [v8Y, Nat.beq, Nat.ble, Int.reduceToNat, Int.reduceLE, Int.reduceLT, Nat.reduceLT, Nat.reduceLeDiff, Nat.reduceAdd, Nat.reduceMul, Nat.reduceSub, Int.reduceAdd, Int.reduceSub, Int.reduceMul, v8S, IntKind.bits, tabs, GHM_set]); (try simp (disch := omega) only [v8W])) | ((with_reducible refine hN _ _ ?_); clear hN N; (try simp (disch := omega) only [v8W])))); (try ((with_reducible refine Fin.of ?_); (try with_reducible exact True.intro))))
     (refine hN2 _ _ ?_; (try clear hN N); clear hN2 N2)
     ((repeat (first | (with_reducible first | refine Vc.seq fun N hN => ?_ | refine Vc.block ?_) | ((with_reducible first | refine Vc.skip ?_ | refine Vc.exit ?_); dsimp only [thenK, blockK, Nat.beq]; (first | (refine hN _ _ ?_; clear hN N) | skip)) | (with_reducible intro _) | ((with_reducible refine And.intro ?_ ?_); (focus (first | ((repeat' with_reducible apply And.intro) <;> first | with_reducible exact True.intro | (rw [mulL_len]; omega) | omega) | exact sd0))) | ((first | ((with_reducible refine askT_of ?_ (fun hb => ?_)); (focus (first | ((repeat' with_reducible apply And.intro) <;> first | with_reducible exact True.intro | (rw [mulL_len]; omega) | omega) | exact sd0)); (try simp only [hb])) | ((with_reducible refine Vc.fin ?_); dsimp only [thenK, blockK, retK, resS, resOne, resAll]) | ((with_reducible refine Vc.hold ?_); first | refine Vc.regiont T0_ok GHM_ok ?_ | refine Vc.drawt (id := 11) T0_ok GHM_ok (by kernel_rfl) [0, 1, 2, 3, 4, 5, 6, 7, 8, 9, 10, 11, 12, 13] 14 [] trivial (by kernel_rfl) ?_ | refine Vc.drawt (id := 20) T0_ok GHM_ok (by kernel_rfl) [0, 1, 2, 3, 4, 5, 6, 7, 8, 9, 10, 11, 12, 13] 14 [] trivial (by kernel_rfl) ?_)); (try simp only [v8Y, Nat.beq, Nat.ble, Int.reduceToNat, Int.reduceLE, Int.reduceLT, Nat.reduceLT, Nat.reduceLeDiff, Nat.reduceAdd, Nat.reduceMul, Nat.reduceSub, Int.reduceAdd, Int.reduceSub, Int.reduceMul, v8S, IntKind.bits, tabs, GHM_set, h8]); (try simp (disch := omega) only [v8W])) | ((with_reducible refine hN _ _ ?_); clear hN N; (try simp (disch := omega) only [v8W])))); (try ((with_reducible refine Fin.of ?_); (try with_reducible exact True.intro))))
     refine ⟨i + 1, by omega, ?_, ?_, by omega⟩
     ·((try simp only [v8Y, Nat.beq, Nat.ble, Int.reduceToNat, Int.reduceLE, Int.reduceLT, Nat.reduceLT, Nat.reduceLeDiff, Nat.reduceAdd, Nat.reduceMul, Nat.reduceSub, Int.reduceAdd, Int.reduceSub, Int.reduceMul, v8S, IntKind.bits, tabs]); (repeat' with_reducible apply And.intro) <;> first | with_reducible exact True.intro | fail | with_reducible rfl | (congr 1 <;> omega) | trivial)
     ·((try simp only [v8Y, Nat.beq, Nat.ble, Int.reduceToNat, Int.reduceLE, Int.reduceLT, Nat.reduceLT, Nat.reduceLeDiff, Nat.reduceAdd, Nat.reduceMul, Nat.reduceSub, Int.reduceAdd, Int.reduceSub, Int.reduceMul, v8S, IntKind.bits, tabs]); (repeat' with_reducible apply And.intro) <;> first | with_reducible exact True.intro | rw [hn] | with_reducible rfl | (congr 1 <;> omega) | trivial)
  ·have hi' := of_decide_eq_false hb
   have hi2 : i = 8 := by omega
   subst hi2
   clear hb
   ((repeat (first | (with_reducible first | refine Vc.seq fun N hN => ?_ | refine Vc.block ?_) | ((with_reducible first | refine Vc.skip ?_ | refine Vc.exit ?_); dsimp only [thenK, blockK, Nat.beq]; (first | (refine hN _ _ ?_; clear hN N) | skip)) | (with_reducible intro _) | ((with_reducible refine And.intro ?_ ?_); (focus (exact sd0))) | ((first | ((with_reducible refine askT_of ?_ (fun hb => ?_)); (focus (exact sd0)); (try simp only [hb])) | ((with_reducible refine Vc.fin ?_); dsimp only [thenK, blockK, retK, resS, resOne, resAll]) | ((with_reducible refine Vc.hold ?_); first | refine Vc.regiont T0_ok GHM_ok ?_ | refine Vc.drawt (id := 11) T0_ok GHM_ok (by kernel_rfl) [0, 1, 2, 3, 4, 5, 6, 7, 8, 9, 10, 11, 12, 13] 14 [] trivial (by kernel_rfl) ?_ | refine Vc.drawt (id := 20) T0_ok GHM_ok (by kernel_rfl) [0, 1, 2, 3, 4, 5, 6, 7, 8, 9, 10, 11, 12, 13] 14 [] trivial (by kernel_rfl) ?_)); (try simp only [v8Y, Nat.beq, Nat.ble, Int.reduceToNat, Int.reduceLE, Int.reduceLT, Nat.reduceLT, Nat.reduceLeDiff, Nat.reduceAdd, Nat.reduceMul, Nat.reduceSub, Int.reduceAdd, Int.reduceSub, Int.reduceMul, v8S, IntKind.bits, tabs, GHM_set]); (try simp (disch := omega) only [v8W])) | ((with_reducible refine hN _ _ ?_); clear hN N; (try simp (disch := omega) only [v8W])))); (try ((with_reducible refine Fin.of ?_); (try with_reducible exact True.intro))))
   (refine hN1 _ _ ?_; (try clear hN N); clear hN1 N1)
   ((repeat (first | (with_reducible first | refine Vc.seq fun N hN => ?_ | refine Vc.block ?_) | ((with_reducible first | refine Vc.skip ?_ | refine Vc.exit ?_); dsimp only [thenK, blockK, Nat.beq]; (first | (refine hN _ _ ?_; clear hN N) | skip)) | (with_reducible intro _) | ((with_reducible refine And.intro ?_ ?_); (focus (exact sd0))) | ((first | ((with_reducible refine askT_of ?_ (fun hb => ?_)); (focus (exact sd0)); (try simp only [hb])) | ((with_reducible refine Vc.fin ?_); dsimp only [thenK, blockK, retK, resS, resOne, resAll]) | ((with_reducible refine Vc.hold ?_); first | refine Vc.regiont T0_ok GHM_ok ?_ | refine Vc.drawt (id := 11) T0_ok GHM_ok (by kernel_rfl) [0, 1, 2, 3, 4, 5, 6, 7, 8, 9, 10, 11, 12, 13] 14 [] trivial (by kernel_rfl) ?_ | refine Vc.drawt (id := 20) T0_ok GHM_ok (by kernel_rfl) [0, 1, 2, 3, 4, 5, 6, 7, 8, 9, 10, 11, 12, 13] 14 [] trivial (by kernel_rfl) ?_)); (try simp only [v8Y, Nat.beq, Nat.ble, Int.reduceToNat, Int.reduceLE, Int.reduceLT, Nat.reduceLT, Nat.reduceLeDiff, Nat.reduceAdd, Nat.reduceMul, Nat.reduceSub, Int.reduceAdd, Int.reduceSub, Int.reduceMul, v8S, IntKind.bits, tabs, GHM_set]); (try simp (disch := omega) only [v8W])) | ((with_reducible refine hN _ _ ?_); clear hN N; (try simp (disch := omega) only [v8W])))); (try ((with_reducible refine Fin.of ?_); (try with_reducible exact True.intro))))
   have hP := mX_8 b ha
   have hPW : a * b < W * W := Nat.mul_lt_mul_of_lt_of_lt ha hb0
   have hgd : ∀ j, j < 16 → (mulL a b 8 0).getD j 0 = ((dg (a * b) j : Nat) : Int) := fun j hj => by rw [mulL_dg a b 8 j hj, hP]
   generalize a * b = P at *
   (revert N; intro N3 hN3)
   rename_i b6
   refine Vc.recon 6 (.ints .u64 (lmI 0)) rfl (cc_lmI 0) ?_
   simp only [bset]
   refine Vc.loop 16 85 (fun k => [(14, .bool (gB P k)), (15, .int .i64 (k : Nat))])
    (fun k => [.blk b0 26 (.words [a]), .blk b1 26 (.words [b]), .blk b2 26 (.words [0]), .blk b3 99 (.ints .u64 (dg8 a)), .blk b4 99 (.ints .u64 (dg8 b)), .blk b5 101 (.ints .u64 (mulL a b 8 0)), .blk b6 26 (.ints .u64 (lmI (P % D ^ k)))])
    (fun k => k ≤ 8) (fun k => 8 - k) 0 ⟨Nat.zero_le _, ?_, ?_⟩ (fun k junk2 hk => ?_)
   ·((try simp only [v8Y, Nat.beq, Nat.ble, Int.reduceToNat, Int.reduceLE, Int.reduceLT, Nat.reduceLT, Nat.reduceLeDiff, Nat.reduceAdd, Nat.reduceMul, Nat.reduceSub, Int.reduceAdd, Int.reduceSub, Int.reduceMul, v8S, IntKind.bits, tabs]); (repeat' with_reducible apply And.intro) <;> first | with_reducible exact True.intro | rw [gB_0] | with_reducible rfl | (congr 1 <;> omega) | trivial)
   ·((try simp only [v8Y, Nat.beq, Nat.ble, Int.reduceToNat, Int.reduceLE, Int.reduceLT, Nat.reduceLT, Nat.reduceLeDiff, Nat.reduceAdd, Nat.reduceMul, Nat.reduceSub, Int.reduceAdd, Int.reduceSub, Int.reduceMul, v8S, IntKind.bits, tabs]); (repeat' with_reducible apply And.intro) <;> first | with_reducible exact True.intro | rw [Nat.pow_zero, Nat.mod_one] | rw [Nat.mod_one] | with_reducible rfl | (congr 1 <;> omega) | trivial)
   ·(simp only [v8Y, Nat.beq, Nat.ble, Int.reduceToNat, Int.reduceLE, Int.reduceLT, Nat.reduceLT, Nat.reduceLeDiff, Nat.reduceAdd, Nat.reduceMul, Nat.reduceSub, Int.reduceAdd, Int.reduceSub, Int.reduceMul, v8S, IntKind.bits, tabs])
    ((repeat (first | (with_reducible first | refine Vc.seq fun N hN => ?_ | refine Vc.block ?_) | ((with_reducible first | refine Vc.skip ?_ | refine Vc.exit ?_); dsimp only [thenK, blockK, Nat.beq]; (first | (refine hN _ _ ?_; clear hN N) | skip)) | (with_reducible intro _) | ((with_reducible refine And.intro ?_ ?_); (focus (exact sd0))) | ((first | ((with_reducible refine askT_of ?_ (fun hb => ?_)); (focus (exact sd0)); (try simp only [hb])) | ((with_reducible refine Vc.fin ?_); dsimp only [thenK, blockK, retK, resS, resOne, resAll]) | ((with_reducible refine Vc.hold ?_); first | refine Vc.regiont T0_ok GHM_ok ?_ | refine Vc.drawt (id := 11) T0_ok GHM_ok (by kernel_rfl) [0, 1, 2, 3, 4, 5, 6, 7, 8, 9, 10, 11, 12, 13] 14 [] trivial (by kernel_rfl) ?_ | refine Vc.drawt (id := 20) T0_ok GHM_ok (by kernel_rfl) [0, 1, 2, 3, 4, 5, 6, 7, 8, 9, 10, 11, 12, 13] 14 [] trivial (by kernel_rfl) ?_)); (try simp only [v8Y, Nat.beq, Nat.ble, Int.reduceToNat, Int.reduceLE, Int.reduceLT, Nat.reduceLT, Nat.reduceLeDiff, Nat.reduceAdd, Nat.reduceMul, Nat.reduceSub, Int.reduceAdd, Int.reduceSub, Int.reduceMul, v8S, IntKind.bits, tabs, GHM_set]); (try simp (disch := omega) only [v8W])) | ((with_reducible refine hN _ _ ?_); clear hN N; (try simp (disch := omega) only [v8W])))); (try ((with_reducible refine Fin.of ?_); (try with_reducible exact True.intro))))
    (refine Vc.cond T0_ok (by rfl) (fun hb => ?_) (fun hb => ?_))
    ·have hk' := of_decide_eq_true hb
     clear hb
     have k2 : ((k : Int) / 2).toNat = k / 2 := by omega
     have e32 : min ((k : Int) % 2 * 32).toNat 64 = k % 2 * 32 := by omega
     have k8 : ((k : Int) + 8).toNat = k + 8 := by omega
     have gl := hgd k (by omega)
     have gl8 := hgd (k + 8) (by omega)
     have go := lmI_get (P % D ^ k) (k / 2) (by omega)
     have hy : dg P k * 2 ^ (k % 2 * 32) < 18446744073709551616 := by
      have h1 := dg_lt P k
      have h2 : (2 : Nat) ^ (k % 2 * 32) ≤ 2 ^ 32 := Nat.pow_le_pow_right (by decide) (by omega)
      have h3 : dg P k * 2 ^ (k % 2 * 32) ≤ (D - 1) * 2 ^ 32 := Nat.mul_le_mul (by omega) h2
      exact Nat.lt_of_le_of_lt h3 (by decide)
     have hsh : IntKind.u64.wrap (((dg P k : Nat) : Int) * 2 ^ (k % 2 * 32)) = ((dg P k * 2 ^ (k % 2 * 32) : Nat) : Int) := by
      have e5 : ((dg P k : Nat) : Int) * 2 ^ (k % 2 * 32) = ((dg P k * 2 ^ (k % 2 * 32) : Nat) : Int) := by rw [Int.natCast_mul, Int.natCast_pow]; rfl
      rw [e5, wrap_u64 (by omega) (by omega)]
     have hor := bits_or_u64_nat _ _ (lm_lt (P % D ^ k) (k / 2)) hy
     have hs := lmD_set (P := P) (k := k) (by omega)
     cases hg : gB P k
     ·((repeat (first | (with_reducible first | refine Vc.seq fun N hN => ?_ | refine Vc.block ?_) | ((with_reducible first | refine Vc.skip ?_ | refine Vc.exit ?_); dsimp only [thenK, blockK, Nat.beq]; (first | (refine hN _ _ ?_; clear hN N) | skip)) | (with_reducible intro _) | ((with_reducible refine And.intro ?_ ?_); (focus (first | ((repeat' with_reducible apply And.intro) <;> first | with_reducible exact True.intro | (rw [mulL_len]; omega) | (rw [lmI_len]; omega) | omega) | exact sd0))) | ((first | ((with_reducible refine askT_of ?_ (fun hb => ?_)); (focus (first | ((repeat' with_reducible apply And.intro) <;> first | with_reducible exact True.intro | (rw [mulL_len]; omega) | (rw [lmI_len]; omega) | omega) | exact sd0)); (try simp only [hb])) | ((with_reducible refine Vc.fin ?_); dsimp only [thenK, blockK, retK, resS, resOne, resAll]) | ((with_reducible refine Vc.hold ?_); first | refine Vc.regiont T0_ok GHM_ok ?_ | refine Vc.drawt (id := 11) T0_ok GHM_ok (by kernel_rfl) [0, 1, 2, 3, 4, 5, 6, 7, 8, 9, 10, 11, 12, 13] 14 [] trivial (by kernel_rfl) ?_ | refine Vc.drawt (id := 20) T0_ok GHM_ok (by kernel_rfl) [0, 1, 2, 3, 4, 5, 6, 7, 8, 9, 10, 11, 12, 13] 14 [] trivial (by kernel_rfl) ?_)); (try simp only [v8Y, Nat.beq, Nat.ble, Int.reduceToNat, Int.reduceLE, Int.reduceLT, Nat.reduceLT, Nat.reduceLeDiff, Nat.reduceAdd, Nat.reduceMul, Nat.reduceSub, Int.reduceAdd, Int.reduceSub, Int.reduceMul, v8S, IntKind.bits, tabs, GHM_set, k2, e32, k8, gl, gl8, go, hsh, hor, hg]); (try simp (disch := omega) only [v8W])) | ((with_reducible refine hN _ _ ?_); clear hN N; (try simp (disch := omega) only [v8W])))); (try ((with_reducible refine Fin.of ?_); (try with_reducible exact True.intro))))
      refine ⟨k + 1, by omega, ?_, ?_, by omega⟩
      ·((try simp only [v8Y, Nat.beq, Nat.ble, Int.reduceToNat, Int.reduceLE, Int.reduceLT, Nat.reduceLT, Nat.reduceLeDiff, Nat.reduceAdd, Nat.reduceMul, Nat.reduceSub, Int.reduceAdd, Int.reduceSub, Int.reduceMul, v8S, IntKind.bits, tabs]); (repeat' with_reducible apply And.intro) <;> first | with_reducible exact True.intro | (rw [gB_succ, hg, Bool.false_or]; refine congrArg SV.bool ?_; by_cases h0 : dg P (k + 8) = 0 <;> simp [h0]) | with_reducible rfl | (congr 1 <;> omega) | trivial)
      ·((try simp only [v8Y, Nat.beq, Nat.ble, Int.reduceToNat, Int.reduceLE, Int.reduceLT, Nat.reduceLT, Nat.reduceLeDiff, Nat.reduceAdd, Nat.reduceMul, Nat.reduceSub, Int.reduceAdd, Int.reduceSub, Int.reduceMul, v8S, IntKind.bits, tabs]); (repeat' with_reducible apply And.intro) <;> first | with_reducible exact True.intro | rw [hs] | with_reducible rfl | (congr 1 <;> omega) | trivial)
     ·((repeat (first | (with_reducible first | refine Vc.seq fun N hN => ?_ | refine Vc.block ?_) | ((with_reducible first | refine Vc.skip ?_ | refine Vc.exit ?_); dsimp only [thenK, blockK, Nat.beq]; (first | (refine hN _ _ ?_; clear hN N) | skip)) | (with_reducible intro _) | ((with_reducible refine And.intro ?_ ?_); (focus (first | ((repeat' with_reducible apply And.intro) <;> first | with_reducible exact True.intro | (rw [mulL_len]; omega) | (rw [lmI_len]; omega) | omega) | exact sd0))) | ((first | ((with_reducible refine askT_of ?_ (fun hb => ?_)); (focus (first | ((repeat' with_reducible apply And.intro) <;> first | with_reducible exact True.intro | (rw [mulL_len]; omega) | (rw [lmI_len]; omega) | omega) | exact sd0)); (try simp only [hb])) | ((with_reducible refine Vc.fin ?_); dsimp only [thenK, blockK, retK, resS, resOne, resAll]) | ((with_reducible refine Vc.hold ?_); first | refine Vc.regiont T0_ok GHM_ok ?_ | refine Vc.drawt (id := 11) T0_ok GHM_ok (by kernel_rfl) [0, 1, 2, 3, 4, 5, 6, 7, 8, 9, 10, 11, 12, 13] 14 [] trivial (by kernel_rfl) ?_ | refine Vc.drawt (id := 20) T0_ok GHM_ok (by kernel_rfl) [0, 1, 2, 3, 4, 5, 6, 7, 8, 9, 10, 11, 12, 13] 14 [] trivial (by kernel_rfl) ?_)); (try simp only [v8Y, Nat.beq, Nat.ble, Int.reduceToNat, Int.reduceLE, Int.reduceLT, Nat.reduceLT, Nat.reduceLeDiff, Nat.reduceAdd, Nat.reduceMul, Nat.reduceSub, Int.reduceAdd, Int.reduceSub, Int.reduceMul, v8S, IntKind.bits, tabs, GHM_set, k2, e32, k8, gl, gl8, go, hsh, hor, hg]); (try simp (disch := omega) only [v8W])) | ((with_reducible refine hN _ _ ?_); clear hN N; (try simp (disch := omega) only [v8W])))); (try ((with_reducible refine Fin.of ?_); (try with_reducible exact True.intro))))
      refine ⟨k + 1, by omega, ?_, ?_, by omega⟩
      ·((try simp only [v8Y, Nat.beq, Nat.ble, Int.reduceToNat, Int.reduceLE, Int.reduceLT, Nat.reduceLT, Nat.reduceLeDiff, Nat.reduceAdd, Nat.reduceMul, Nat.reduceSub, Int.reduceAdd, Int.reduceSub, Int.reduceMul, v8S, IntKind.bits, tabs]); (repeat' with_reducible apply And.intro) <;> first | with_reducible exact True.intro | (rw [gB_succ, hg]; rfl) | with_reducible rfl | (congr 1 <;> omega) | trivial)
      ·((try simp only [v8Y, Nat.beq, Nat.ble, Int.reduceToNat, Int.reduceLE, Int.reduceLT, Nat.reduceLT, Nat.reduceLeDiff, Nat.reduceAdd, Nat.reduceMul, Nat.reduceSub, Int.reduceAdd, Int.reduceSub, Int.reduceMul, v8S, IntKind.bits, tabs]); (repeat' with_reducible apply And.intro) <;> first | with_reducible exact True.intro | rw [hs] | with_reducible rfl | (congr 1 <;> omega) | trivial)
    ·have hk' := of_decide_eq_false hb
     have hk2 : k = 8 := by omega
     subst hk2
     clear hb
     have h8 : D ^ 8 = W := by decide
     have hlt : P % W < W := Nat.mod_lt _ (by decide)
     rw [gB_8 hPW, h8]
     ((repeat (first | (with_reducible first | refine Vc.seq fun N hN => ?_ | refine Vc.block ?_) | ((with_reducible first | refine Vc.skip ?_ | refine Vc.exit ?_); dsimp only [thenK, blockK, Nat.beq]; (first | (refine hN _ _ ?_; clear hN N) | skip)) | (with_reducible intro _) | ((with_reducible refine And.intro ?_ ?_); (focus (exact sd0))) | ((first | ((with_reducible refine askT_of ?_ (fun hb => ?_)); (focus (exact sd0)); (try simp only [hb])) | ((with_reducible refine Vc.fin ?_); dsimp only [thenK, blockK, retK, resS, resOne, resAll]) | ((with_reducible refine Vc.hold ?_); first | refine Vc.regiont T0_ok GHM_ok ?_ | refine Vc.drawt (id := 11) T0_ok GHM_ok (by kernel_rfl) [0, 1, 2, 3, 4, 5, 6, 7, 8, 9, 10, 11, 12, 13] 14 [] trivial (by kernel_rfl) ?_ | refine Vc.drawt (id := 20) T0_ok GHM_ok (by kernel_rfl) [0, 1, 2, 3, 4, 5, 6, 7, 8, 9, 10, 11, 12, 13] 14 [] trivial (by kernel_rfl) ?_)); (try simp only [v8Y, Nat.beq, Nat.ble, Int.reduceToNat, Int.reduceLE, Int.reduceLT, Nat.reduceLT, Nat.reduceLeDiff, Nat.reduceAdd, Nat.reduceMul, Nat.reduceSub, Int.reduceAdd, Int.reduceSub, Int.reduceMul, v8S, IntKind.bits, tabs, GHM_set]); (try simp (disch := omega) only [v8W])) | ((with_reducible refine hN _ _ ?_); clear hN N; (try simp (disch := omega) only [v8W])))); (try ((with_reducible refine Fin.of ?_); (try with_reducible exact True.intro))))
     (refine hN3 _ _ ?_; (try clear hN N); clear hN3 N3)
     ((repeat (first | (with_reducible first | refine Vc.seq fun N hN => ?_ | refine Vc.block ?_) | ((with_reducible first | refine Vc.skip ?_ | refine Vc.exit ?_); dsimp only [thenK, blockK, Nat.beq]; (first | (refine hN _ _ ?_; clear hN N) | skip)) | (with_reducible intro _) | ((with_reducible refine And.intro ?_ ?_); (focus (first | ((repeat' with_reducible apply And.intro) <;> first | with_reducible exact True.intro | exact allU_lmI _ | exact lmI_len _) | exact sd0))) | ((first | ((with_reducible refine askT_of ?_ (fun hb => ?_)); (focus (first | ((repeat' with_reducible apply And.intro) <;> first | with_reducible exact True.intro | exact allU_lmI _ | exact lmI_len _) | exact sd0)); (try simp only [hb])) | ((with_reducible refine Vc.fin ?_); dsimp only [thenK, blockK, retK, resS, resOne, resAll]) | ((with_reducible refine Vc.hold ?_); first | refine Vc.regiont T0_ok GHM_ok ?_ | refine Vc.drawt (id := 11) T0_ok GHM_ok (by kernel_rfl) [0, 1, 2, 3, 4, 5, 6, 7, 8, 9, 10, 11, 12, 13] 14 [] trivial (by kernel_rfl) ?_ | refine Vc.drawt (id := 20) T0_ok GHM_ok (by kernel_rfl) [0, 1, 2, 3, 4, 5, 6, 7, 8, 9, 10, 11, 12, 13] 14 [] trivial (by kernel_rfl) ?_)); (try simp only [v8Y, Nat.beq, Nat.ble, Int.reduceToNat, Int.reduceLE, Int.reduceLT, Nat.reduceLT, Nat.reduceLeDiff, Nat.reduceAdd, Nat.reduceMul, Nat.reduceSub, Int.reduceAdd, Int.reduceSub, Int.reduceMul, v8S, IntKind.bits, tabs, GHM_set]); (try simp (disch := omega) only [v8W])) | ((with_reducible refine hN _ _ ?_); clear hN N; (try simp (disch := omega) only [v8W])))); (try ((with_reducible refine Fin.of ?_); (try with_reducible exact True.intro))))
     ((try simp only [v8Y, Nat.beq, Nat.ble, Int.reduceToNat, Int.reduceLE, Int.reduceLT, Nat.reduceLT, Nat.reduceLeDiff, Nat.reduceAdd, Nat.reduceMul, Nat.reduceSub, Int.reduceAdd, Int.reduceSub, Int.reduceMul, v8S, IntKind.bits, tabs]); (repeat' with_reducible apply And.intro) <;> first | with_reducible exact True.intro | rw [numI_lmI hlt] | with_reducible rfl | (congr 1 <;> omega) | trivial)
end Go.Proofs.YtjonbbmnjbnefaaDoor
