/-
 The document's answers for words (quaestorref01), walked: not, Neg, Cmp, Sub, Scmp, bit.
-/
import Derived.Test.YthdpgfdfgidokaaDoorX4
import Derived.Laws.Bits64
set_option maxRecDepth 10000
set_option maxHeartbeats 4000000
set_option linter.unusedVariables false
set_option linter.unusedSimpArgs false
namespace Go.Proofs.YthdpgfdfgidokaaDoor
open Go.RowKit
def cA (a b k : Nat) : Nat := (a % K ^ k + b % K ^ k) / K ^ k
theorem cmp_vc (a b : Nat) (ha : a < W) (hb : b < W) (w : World) : Calls Tryd.prog 41 (cvs [.word a, .word b]).toArray w (fun en w' => ∃ u, en = .returned u ∧ ∃ v m', u = cv v ∧ MemOk w [] m' w' ∧ v = .int .i64 (cmpI a b)) := by
 have hstep : ∀ c j, 0 < j → c / K ^ (j - 1) = c / K ^ j * K + lm c (j - 1) := fun c j hj => by
  have e : K ^ j = K ^ (j - 1) * K := by rw [← Nat.pow_succ]; congr 1; omega
  rw [e, ← Nat.div_div_eq_div_mul]
  show _ = _ + c / K ^ (j - 1) % K
  have := Nat.div_add_mod' (c / K ^ (j - 1)) K
  omega
 refine Vc.calls T0_ok Tryd.func41 rfl rfl (args := [.word a, .word b]) (k := 22) rfl (MemOk.start _) ?_; change Vc _ _ (c8 (.word a) (.word b) .undef .undef .undef .undef .undef .undef (c8 .undef .undef .undef .undef .undef .undef .undef .undef (c8 .undef .undef .undef .undef .undef .undef .undef .undef ([])))) _ _
 ((repeat (first | (with_reducible first | refine Vc.seq fun N hN => ?_ | refine Vc.block ?_) | ((with_reducible first | refine Vc.skip ?_ | refine Vc.exit ?_); dsimp only [thenK, blockK, Nat.beq]; (first | (refine hN _ _ ?_; clear hN N) | skip)) | (with_reducible intro _) | ((with_reducible refine And.intro ?_ ?_); (focus (exact sd0))) | ((first | ((with_reducible refine askT_of ?_ (fun hb => ?_)); (focus (exact sd0)); (try simp only [hb])) | ((with_reducible refine Vc.fin ?_); dsimp only [thenK, blockK, retK, resS, resOne, resAll]) | ((with_reducible refine Vc.hold ?_); first | refine Vc.regiont T0_ok G5_ok ?_ | refine Vc.drawt (id := 4) T0_ok G5_ok (by kernel_rfl) [0, 1, 2, 3, 4, 5] 6 [] trivial (by kernel_rfl) ?_ | refine Vc.drawt (id := 6) T0_ok G5_ok (by kernel_rfl) [0, 1, 2, 3, 4, 5] 6 [] trivial (by kernel_rfl) ?_)); (try simp only [v8Y, Nat.beq, Nat.ble, seval, v8S, IntKind.bits, tabs, G5_set]); (try simp (disch := omega) only [v8W])) | ((with_reducible refine hN _ _ ?_); clear hN N; (try simp (disch := omega) only [v8W])))); (try ((with_reducible refine Fin.of ?_); (try with_reducible exact True.intro))))
 (revert N; intro N1 hN1)
 rename_i b0 b1
 refine Vc.loop 6 24 (fun j => [(5, .int .i64 ((j : Nat) - 1 : Int))])
  (fun _ => [.blk b0 26 (.words [a]), .blk b1 26 (.words [b])])
  (fun j => j ≤ 4 ∧ a / K ^ j = b / K ^ j) (fun j => j) 4 ⟨⟨Nat.le_refl _, ?_⟩, ?_, ?_⟩ (fun j junk hj => ?_)
 ·rw [show K ^ 4 = W by decide, Nat.div_eq_of_lt ha, Nat.div_eq_of_lt hb]
 ·((try simp only [v8Y, Nat.beq, Nat.ble, seval, v8S, IntKind.bits, tabs]); (repeat' with_reducible apply And.intro) <;> first | with_reducible exact True.intro | fail | with_reducible rfl | (congr 1 <;> omega) | trivial)
 ·((try simp only [v8Y, Nat.beq, Nat.ble, seval, v8S, IntKind.bits, tabs]); (repeat' with_reducible apply And.intro) <;> first | with_reducible exact True.intro | fail | with_reducible rfl | (congr 1 <;> omega) | trivial)
 ·obtain ⟨hj, he⟩ := hj
  (simp only [v8Y, Nat.beq, Nat.ble, seval, v8S, IntKind.bits, tabs])
  ((repeat (first | (with_reducible first | refine Vc.seq fun N hN => ?_ | refine Vc.block ?_) | ((with_reducible first | refine Vc.skip ?_ | refine Vc.exit ?_); dsimp only [thenK, blockK, Nat.beq]; (first | (refine hN _ _ ?_; clear hN N) | skip)) | (with_reducible intro _) | ((with_reducible refine And.intro ?_ ?_); (focus (exact sd0))) | ((first | ((with_reducible refine askT_of ?_ (fun hb => ?_)); (focus (exact sd0)); (try simp only [hb])) | ((with_reducible refine Vc.fin ?_); dsimp only [thenK, blockK, retK, resS, resOne, resAll]) | ((with_reducible refine Vc.hold ?_); first | refine Vc.regiont T0_ok G5_ok ?_ | refine Vc.drawt (id := 4) T0_ok G5_ok (by kernel_rfl) [0, 1, 2, 3, 4, 5] 6 [] trivial (by kernel_rfl) ?_ | refine Vc.drawt (id := 6) T0_ok G5_ok (by kernel_rfl) [0, 1, 2, 3, 4, 5] 6 [] trivial (by kernel_rfl) ?_)); (try simp only [v8Y, Nat.beq, Nat.ble, seval, v8S, IntKind.bits, tabs, G5_set]); (try simp (disch := omega) only [v8W])) | ((with_reducible refine hN _ _ ?_); clear hN N; (try simp (disch := omega) only [v8W])))); (try ((with_reducible refine Fin.of ?_); (try with_reducible exact True.intro))))
  (refine Vc.cond T0_ok (by rfl) (fun hb => ?_) (fun hb => ?_))
  ·have hj0 := of_decide_eq_true hb
   have hj1 : 0 < j := by omega
   have hx : ((j : Int) - 1).toNat = j - 1 := by omega
   have sa := hstep a j hj1
   have sb := hstep b j hj1
   have la := lm_lt a (j - 1)
   have lb := lm_lt b (j - 1)
   have lt_of : ∀ c d, c / K ^ (j - 1) < d / K ^ (j - 1) → c < d := fun c d h => Nat.lt_of_not_le fun hle => Nat.not_le_of_lt h (Nat.div_le_div_right hle)
   ((repeat (first | (with_reducible first | refine Vc.seq fun N hN => ?_ | refine Vc.block ?_) | ((with_reducible first | refine Vc.skip ?_ | refine Vc.exit ?_); dsimp only [thenK, blockK, Nat.beq]; (first | (refine hN _ _ ?_; clear hN N) | skip)) | (with_reducible intro _) | ((with_reducible refine And.intro ?_ ?_); (focus (exact sd0))) | ((first | ((with_reducible refine askT_of ?_ (fun hb => ?_)); (focus (exact sd0)); (try simp only [hb])) | ((with_reducible refine Vc.fin ?_); dsimp only [thenK, blockK, retK, resS, resOne, resAll]) | ((with_reducible refine Vc.hold ?_); first | refine Vc.regiont T0_ok G5_ok ?_ | refine Vc.drawt (id := 4) T0_ok G5_ok (by kernel_rfl) [0, 1, 2, 3, 4, 5] 6 [] trivial (by kernel_rfl) ?_ | refine Vc.drawt (id := 6) T0_ok G5_ok (by kernel_rfl) [0, 1, 2, 3, 4, 5] 6 [] trivial (by kernel_rfl) ?_)); (try simp only [v8Y, Nat.beq, Nat.ble, seval, v8S, IntKind.bits, tabs, G5_set]); (try simp (disch := omega) only [v8W])) | ((with_reducible refine hN _ _ ?_); clear hN N; (try simp (disch := omega) only [v8W])))); (try ((with_reducible refine Fin.of ?_); (try with_reducible exact True.intro))))
   (refine Vc.cond T0_ok (by rfl) (fun hb => ?_) (fun hb => ?_))
   ·have hc := of_decide_eq_true hb
    rw [hx] at hc
    have : a < b := lt_of a b (by rw [sa, sb, he]; omega)
    have hr : cmpI a b = -1 := by unfold cmpI; rw [if_neg (by omega), if_pos this]
    ((repeat (first | (with_reducible first | refine Vc.seq fun N hN => ?_ | refine Vc.block ?_) | ((with_reducible first | refine Vc.skip ?_ | refine Vc.exit ?_); dsimp only [thenK, blockK, Nat.beq]; (first | (refine hN _ _ ?_; clear hN N) | skip)) | (with_reducible intro _) | ((with_reducible refine And.intro ?_ ?_); (focus (exact sd0))) | ((first | ((with_reducible refine askT_of ?_ (fun hb => ?_)); (focus (exact sd0)); (try simp only [hb])) | ((with_reducible refine Vc.fin ?_); dsimp only [thenK, blockK, retK, resS, resOne, resAll]) | ((with_reducible refine Vc.hold ?_); first | refine Vc.regiont T0_ok G5_ok ?_ | refine Vc.drawt (id := 4) T0_ok G5_ok (by kernel_rfl) [0, 1, 2, 3, 4, 5] 6 [] trivial (by kernel_rfl) ?_ | refine Vc.drawt (id := 6) T0_ok G5_ok (by kernel_rfl) [0, 1, 2, 3, 4, 5] 6 [] trivial (by kernel_rfl) ?_)); (try simp only [v8Y, Nat.beq, Nat.ble, seval, v8S, IntKind.bits, tabs, G5_set]); (try simp (disch := omega) only [v8W])) | ((with_reducible refine hN _ _ ?_); clear hN N; (try simp (disch := omega) only [v8W])))); (try ((with_reducible refine Fin.of ?_); (try with_reducible exact True.intro))))
    ((try simp only [v8Y, Nat.beq, Nat.ble, seval, v8S, IntKind.bits, tabs]); (repeat' with_reducible apply And.intro) <;> first | with_reducible exact True.intro | rw [hr] | with_reducible rfl | (congr 1 <;> omega) | trivial)
   ·have hc := of_decide_eq_false hb
    ((repeat (first | (with_reducible first | refine Vc.seq fun N hN => ?_ | refine Vc.block ?_) | ((with_reducible first | refine Vc.skip ?_ | refine Vc.exit ?_); dsimp only [thenK, blockK, Nat.beq]; (first | (refine hN _ _ ?_; clear hN N) | skip)) | (with_reducible intro _) | ((with_reducible refine And.intro ?_ ?_); (focus (exact sd0))) | ((first | ((with_reducible refine askT_of ?_ (fun hb => ?_)); (focus (exact sd0)); (try simp only [hb])) | ((with_reducible refine Vc.fin ?_); dsimp only [thenK, blockK, retK, resS, resOne, resAll]) | ((with_reducible refine Vc.hold ?_); first | refine Vc.regiont T0_ok G5_ok ?_ | refine Vc.drawt (id := 4) T0_ok G5_ok (by kernel_rfl) [0, 1, 2, 3, 4, 5] 6 [] trivial (by kernel_rfl) ?_ | refine Vc.drawt (id := 6) T0_ok G5_ok (by kernel_rfl) [0, 1, 2, 3, 4, 5] 6 [] trivial (by kernel_rfl) ?_)); (try simp only [v8Y, Nat.beq, Nat.ble, seval, v8S, IntKind.bits, tabs, G5_set]); (try simp (disch := omega) only [v8W])) | ((with_reducible refine hN _ _ ?_); clear hN N; (try simp (disch := omega) only [v8W])))); (try ((with_reducible refine Fin.of ?_); (try with_reducible exact True.intro))))
    (refine Vc.cond T0_ok (by rfl) (fun hb => ?_) (fun hb => ?_))
    ·have hd := of_decide_eq_true hb
     rw [hx] at hd
     have : b < a := lt_of b a (by rw [sa, sb, he]; omega)
     have hr : cmpI a b = 1 := by unfold cmpI; rw [if_neg (by omega), if_neg (by omega)]
     ((repeat (first | (with_reducible first | refine Vc.seq fun N hN => ?_ | refine Vc.block ?_) | ((with_reducible first | refine Vc.skip ?_ | refine Vc.exit ?_); dsimp only [thenK, blockK, Nat.beq]; (first | (refine hN _ _ ?_; clear hN N) | skip)) | (with_reducible intro _) | ((with_reducible refine And.intro ?_ ?_); (focus (exact sd0))) | ((first | ((with_reducible refine askT_of ?_ (fun hb => ?_)); (focus (exact sd0)); (try simp only [hb])) | ((with_reducible refine Vc.fin ?_); dsimp only [thenK, blockK, retK, resS, resOne, resAll]) | ((with_reducible refine Vc.hold ?_); first | refine Vc.regiont T0_ok G5_ok ?_ | refine Vc.drawt (id := 4) T0_ok G5_ok (by kernel_rfl) [0, 1, 2, 3, 4, 5] 6 [] trivial (by kernel_rfl) ?_ | refine Vc.drawt (id := 6) T0_ok G5_ok (by kernel_rfl) [0, 1, 2, 3, 4, 5] 6 [] trivial (by kernel_rfl) ?_)); (try simp only [v8Y, Nat.beq, Nat.ble, seval, v8S, IntKind.bits, tabs, G5_set]); (try simp (disch := omega) only [v8W])) | ((with_reducible refine hN _ _ ?_); clear hN N; (try simp (disch := omega) only [v8W])))); (try ((with_reducible refine Fin.of ?_); (try with_reducible exact True.intro))))
     ((try simp only [v8Y, Nat.beq, Nat.ble, seval, v8S, IntKind.bits, tabs]); (repeat' with_reducible apply And.intro) <;> first | with_reducible exact True.intro | rw [hr] | with_reducible rfl | (congr 1 <;> omega) | trivial)
    ·have hd := of_decide_eq_false hb
     rw [hx] at hc hd
     ((repeat (first | (with_reducible first | refine Vc.seq fun N hN => ?_ | refine Vc.block ?_) | ((with_reducible first | refine Vc.skip ?_ | refine Vc.exit ?_); dsimp only [thenK, blockK, Nat.beq]; (first | (refine hN _ _ ?_; clear hN N) | skip)) | (with_reducible intro _) | ((with_reducible refine And.intro ?_ ?_); (focus (exact sd0))) | ((first | ((with_reducible refine askT_of ?_ (fun hb => ?_)); (focus (exact sd0)); (try simp only [hb])) | ((with_reducible refine Vc.fin ?_); dsimp only [thenK, blockK, retK, resS, resOne, resAll]) | ((with_reducible refine Vc.hold ?_); first | refine Vc.regiont T0_ok G5_ok ?_ | refine Vc.drawt (id := 4) T0_ok G5_ok (by kernel_rfl) [0, 1, 2, 3, 4, 5] 6 [] trivial (by kernel_rfl) ?_ | refine Vc.drawt (id := 6) T0_ok G5_ok (by kernel_rfl) [0, 1, 2, 3, 4, 5] 6 [] trivial (by kernel_rfl) ?_)); (try simp only [v8Y, Nat.beq, Nat.ble, seval, v8S, IntKind.bits, tabs, G5_set]); (try simp (disch := omega) only [v8W])) | ((with_reducible refine hN _ _ ?_); clear hN N; (try simp (disch := omega) only [v8W])))); (try ((with_reducible refine Fin.of ?_); (try with_reducible exact True.intro))))
     refine ⟨j - 1, ⟨by omega, ?_⟩, ?_, ?_, by omega⟩
     ·rw [sa, sb, he]; omega
     ·((try simp only [v8Y, Nat.beq, Nat.ble, seval, v8S, IntKind.bits, tabs]); (repeat' with_reducible apply And.intro) <;> first | with_reducible exact True.intro | fail | with_reducible rfl | (congr 1 <;> omega) | trivial)
     ·((try simp only [v8Y, Nat.beq, Nat.ble, seval, v8S, IntKind.bits, tabs]); (repeat' with_reducible apply And.intro) <;> first | with_reducible exact True.intro | fail | with_reducible rfl | (congr 1 <;> omega) | trivial)
  ·have hj0 := of_decide_eq_false hb
   have hj1 : j = 0 := by omega
   subst hj1
   rw [Nat.pow_zero, Nat.div_one, Nat.div_one] at he
   have hr : cmpI a b = 0 := by unfold cmpI; rw [if_pos he]
   ((repeat (first | (with_reducible first | refine Vc.seq fun N hN => ?_ | refine Vc.block ?_) | ((with_reducible first | refine Vc.skip ?_ | refine Vc.exit ?_); dsimp only [thenK, blockK, Nat.beq]; (first | (refine hN _ _ ?_; clear hN N) | skip)) | (with_reducible intro _) | ((with_reducible refine And.intro ?_ ?_); (focus (exact sd0))) | ((first | ((with_reducible refine askT_of ?_ (fun hb => ?_)); (focus (exact sd0)); (try simp only [hb])) | ((with_reducible refine Vc.fin ?_); dsimp only [thenK, blockK, retK, resS, resOne, resAll]) | ((with_reducible refine Vc.hold ?_); first | refine Vc.regiont T0_ok G5_ok ?_ | refine Vc.drawt (id := 4) T0_ok G5_ok (by kernel_rfl) [0, 1, 2, 3, 4, 5] 6 [] trivial (by kernel_rfl) ?_ | refine Vc.drawt (id := 6) T0_ok G5_ok (by kernel_rfl) [0, 1, 2, 3, 4, 5] 6 [] trivial (by kernel_rfl) ?_)); (try simp only [v8Y, Nat.beq, Nat.ble, seval, v8S, IntKind.bits, tabs, G5_set]); (try simp (disch := omega) only [v8W])) | ((with_reducible refine hN _ _ ?_); clear hN N; (try simp (disch := omega) only [v8W])))); (try ((with_reducible refine Fin.of ?_); (try with_reducible exact True.intro))))
   (refine hN1 _ _ ?_; (try clear hN N); clear hN1 N1)
   ((repeat (first | (with_reducible first | refine Vc.seq fun N hN => ?_ | refine Vc.block ?_) | ((with_reducible first | refine Vc.skip ?_ | refine Vc.exit ?_); dsimp only [thenK, blockK, Nat.beq]; (first | (refine hN _ _ ?_; clear hN N) | skip)) | (with_reducible intro _) | ((with_reducible refine And.intro ?_ ?_); (focus (exact sd0))) | ((first | ((with_reducible refine askT_of ?_ (fun hb => ?_)); (focus (exact sd0)); (try simp only [hb])) | ((with_reducible refine Vc.fin ?_); dsimp only [thenK, blockK, retK, resS, resOne, resAll]) | ((with_reducible refine Vc.hold ?_); first | refine Vc.regiont T0_ok G5_ok ?_ | refine Vc.drawt (id := 4) T0_ok G5_ok (by kernel_rfl) [0, 1, 2, 3, 4, 5] 6 [] trivial (by kernel_rfl) ?_ | refine Vc.drawt (id := 6) T0_ok G5_ok (by kernel_rfl) [0, 1, 2, 3, 4, 5] 6 [] trivial (by kernel_rfl) ?_)); (try simp only [v8Y, Nat.beq, Nat.ble, seval, v8S, IntKind.bits, tabs, G5_set]); (try simp (disch := omega) only [v8W])) | ((with_reducible refine hN _ _ ?_); clear hN N; (try simp (disch := omega) only [v8W])))); (try ((with_reducible refine Fin.of ?_); (try with_reducible exact True.intro))))
   ((try simp only [v8Y, Nat.beq, Nat.ble, seval, v8S, IntKind.bits, tabs]); (repeat' with_reducible apply And.intro) <;> first | with_reducible exact True.intro | rw [hr] | with_reducible rfl | (congr 1 <;> omega) | trivial)
end Go.Proofs.YthdpgfdfgidokaaDoor
