/-
 The document's answers for words (quaestorref01), walked: not, Neg, Cmp, Sub, Scmp, bit.
-/
import Derived.Test.YthdpgfdfgidokaaDoorEO
import Derived.Laws.Bits64
set_option maxRecDepth 10000
set_option maxHeartbeats 4000000
set_option linter.unusedVariables false
set_option linter.unusedSimpArgs false
namespace Go.Proofs.YthdpgfdfgidokaaDoor
open Go.RowKit
theorem lmI_next {x k : Nat} (hk : k < 4) : (lmI (x % K ^ k)).set k ((lm x k : Nat) : Int) = lmI (x % K ^ (k + 1)) := by
 have key : ∀ j n, lm (x % K ^ n) j = if j < n then lm x j else 0 := by
  intro j n
  unfold lm
  have hKe : (18446744073709551616 : Nat) = K := rfl
  rw [hKe]
  by_cases h : j < n
  ·rw [if_pos h]
   have e : K ^ n = K ^ j * K ^ (n - j) := by rw [← Nat.pow_add]; congr 1; omega
   rw [e, Nat.mod_mul_right_div_self]
   exact Nat.mod_mod_of_dvd _ (by
    have : K ^ (n - j) = K * K ^ (n - j - 1) := by rw [← Nat.pow_succ']; congr 1; omega
    rw [this]; exact Nat.dvd_mul_right _ _)
  ·rw [if_neg h, Nat.div_eq_of_lt, Nat.zero_mod]
   exact Nat.lt_of_lt_of_le (Nat.mod_lt _ (Nat.pow_pos (by decide))) (Nat.pow_le_pow_right (by decide) (by omega))
 unfold lmI
 rw [key, key, key, key, key, key, key, key]
 have : k = 0 ∨ k = 1 ∨ k = 2 ∨ k = 3 := by omega
 rcases this with rfl | rfl | rfl | rfl <;> rfl
def cA (a b k : Nat) : Nat := (a % K ^ k + b % K ^ k) / K ^ k
theorem cA_0 (a b : Nat) : cA a b 0 = 0 := by unfold cA; rw [Nat.pow_zero, Nat.mod_one, Nat.mod_one]
theorem cA_le (a b k : Nat) : cA a b k ≤ 1 := by
 have hp : 0 < K ^ k := Nat.pow_pos (by decide)
 have h1 := Nat.mod_lt a hp
 have h2 := Nat.mod_lt b hp
 unfold cA
 have : (a % K ^ k + b % K ^ k) / K ^ k < 2 := by rw [Nat.div_lt_iff_lt_mul hp]; omega
 omega
theorem cA_step (a b k : Nat) : cA a b (k + 1) = (lm a k + lm b k + cA a b k) / K ∧ lm (a + b) k = (lm a k + lm b k + cA a b k) % K := by
 have hp : 0 < K ^ k := Nat.pow_pos (by decide)
 have hK : 0 < K := by decide
 have ha : a % K ^ (k + 1) = a % K ^ k + K ^ k * lm a k := by rw [Nat.pow_succ, Nat.mod_mul]; rfl
 have hb : b % K ^ (k + 1) = b % K ^ k + K ^ k * lm b k := by rw [Nat.pow_succ, Nat.mod_mul]; rfl
 have hc := Nat.div_add_mod (a % K ^ k + b % K ^ k) (K ^ k)
 have hr := Nat.mod_lt (a % K ^ k + b % K ^ k) hp
 constructor
 ·unfold cA
  rw [ha, hb]
  have e : a % K ^ k + K ^ k * lm a k + (b % K ^ k + K ^ k * lm b k) = (a % K ^ k + b % K ^ k) % K ^ k + K ^ k * (lm a k + lm b k + (a % K ^ k + b % K ^ k) / K ^ k) := by
   rw [Nat.mul_add, Nat.mul_add]; omega
  rw [e, Nat.pow_succ, ← Nat.div_div_eq_div_mul, Nat.add_mul_div_left _ _ hp, Nat.div_eq_of_lt hr, Nat.zero_add]
 ·have ea := Nat.div_add_mod a (K ^ k)
  have eb := Nat.div_add_mod b (K ^ k)
  have e : a + b = (a % K ^ k + b % K ^ k) % K ^ k + K ^ k * (a / K ^ k + b / K ^ k + (a % K ^ k + b % K ^ k) / K ^ k) := by
   rw [Nat.mul_add, Nat.mul_add]; omega
  have e2 : (a + b) / K ^ k = a / K ^ k + b / K ^ k + (a % K ^ k + b % K ^ k) / K ^ k := by
   conv => lhs; rw [e]
   rw [Nat.add_mul_div_left _ _ hp, Nat.div_eq_of_lt hr, Nat.zero_add]
  show (a + b) / K ^ k % K = (a / K ^ k % K + b / K ^ k % K + cA a b k) % K
  rw [e2]
  have key : ∀ A B C : Nat, (A + B + C) % K = (A % K + B % K + C) % K := by intro A B C; unfold K; omega
  exact key _ _ _
theorem cA_4 {a b : Nat} (ha : a < W) (hb : b < W) : cA a b 4 = if W ≤ a + b then 1 else 0 := by
 have hW : K ^ 4 = W := by decide
 unfold cA
 rw [hW, Nat.mod_eq_of_lt ha, Nat.mod_eq_of_lt hb]
 split
 ·rw [Nat.div_eq_iff W_pos]; omega
 ·exact Nat.div_eq_of_lt (by omega)
theorem sum4 (a b : Nat) : (a + b) % K ^ 4 = addN a b := rfl
theorem add_round {x y c : Nat} (hx : x < K) (hy : y < K) (hc : c ≤ 1) :
  (IntKind.u64.wrap (IntKind.u64.wrap ((x : Int) + y) + c) = (((x + y + c) % K : Nat) : Int)) ∧
  ((x + y + c) / K = if (IntKind.u64.wrap ((x : Int) + y) < x ∨ IntKind.u64.wrap (IntKind.u64.wrap ((x : Int) + y) + c) < IntKind.u64.wrap ((x : Int) + y)) then 1 else 0) := by
 unfold K at *
 rw [mod_u64, mod_u64]
 refine ⟨by omega, ?_⟩
 split <;> omega
set_option maxRecDepth 4000 in
theorem radd_vc (a b : Nat) (ha : a < W) (hb : b < W) (w : World) : Calls Tryd.prog 55 (cvs [.word a, .word b]).toArray w (fun en w' => ∃ u, en = .returned u ∧ ∃ v m', u = cv v ∧ MemOk w [] m' w' ∧ v = .tup [.word (addN a b), .bool (addB a b)]) := by
 refine Vc.calls T0_ok Tryd.func55 rfl rfl (args := [.word a, .word b]) (k := 39) rfl (MemOk.start _) ?_; change Vc _ _ (c8 (.word a) (.word b) .undef .undef .undef .undef .undef .undef (c8 .undef .undef .undef .undef .undef .undef .undef .undef (c8 .undef .undef .undef .undef .undef .undef .undef .undef (c8 .undef .undef .undef .undef .undef .undef .undef .undef (c8 .undef .undef .undef .undef .undef .undef .undef .undef ([.undef])))))) _ _
 ((repeat (first | (with_reducible first | refine Vc.seq fun N hN => ?_ | refine Vc.block ?_) | (with_reducible intro _) | ((with_reducible refine And.intro ?_ ?_); (focus (exact sd0))) | ((first | ((with_reducible refine Vc.hold ?_); first | refine Vc.regiont T0_ok G5_ok ?_)); (try simp only [v8Y, Nat.beq, Nat.ble, seval, tabs, G5_set])) | ((with_reducible refine hN _ _ ?_); clear hN N))))
 (revert N; intro N1 hN1)
 rename_i b0 b1 b2 b3
 refine Vc.recon 3 (.ints .u64 (lmI 0)) rfl (cc_lmI 0) ?_
 simp only [bset]
 refine Vc.loop 9 41 (fun k => [(7, .int .u64 (cA a b k : Nat)), (8, .int .i64 (k : Nat))])
  (fun k => [.blk b0 26 (.words [a]), .blk b1 26 (.words [b]), .blk b2 26 (.words [0]), .blk b3 26 (.ints .u64 (lmI ((a + b) % K ^ k)))])
  (fun k => k ≤ 4) (fun k => 4 - k) 0 ⟨Nat.zero_le _, ?_, ?_⟩ (fun k junk hk => ?_)
 ·((try simp only [v8Y, Nat.beq, Nat.ble, seval, tabs]); (repeat' with_reducible apply And.intro) <;> first | with_reducible exact True.intro | rw [cA_0]; rfl | with_reducible rfl | (congr 1 <;> omega) | trivial)
 ·((try simp only [v8Y, Nat.beq, Nat.ble, seval, tabs]); (repeat' with_reducible apply And.intro) <;> first | with_reducible exact True.intro | rw [Nat.pow_zero, Nat.mod_one] | rw [Nat.mod_one] | with_reducible rfl | (congr 1 <;> omega) | trivial)
 ·(simp only [v8Y, Nat.beq, Nat.ble, seval, tabs])
  ((repeat (first | (with_reducible refine Vc.seq fun N hN => ?_) | ((with_reducible refine And.intro ?_ ?_); (focus (exact sd0))) | ((first | ((with_reducible refine Vc.hold ?_); first | refine Vc.regiont T0_ok G5_ok ?_)); (try simp only [v8Y, Nat.beq, Nat.ble, seval, tabs, G5_set])) | ((with_reducible refine hN _ _ ?_); clear hN N))))
  (refine Vc.cond T0_ok (by rfl) (fun hb => ?_) (fun hb => ?_))
  ·have hk' := of_decide_eq_true hb
   have hc := cA_le a b k
   obtain ⟨s1, s2⟩ := cA_step a b k
   obtain ⟨r1, r2⟩ := add_round (lm_lt a k) (lm_lt b k) hc
   rw [← s2] at r1
   rw [← s1] at r2
   have hn := lmI_next (x := a + b) (k := k) (by omega)
   clear hb
   ((repeat (first | (with_reducible first | refine Vc.seq fun N hN => ?_ | refine Vc.block ?_) | ((with_reducible first | refine Vc.skip ?_ | refine Vc.exit ?_); dsimp only [thenK, blockK, Nat.beq]; (first | (refine hN _ _ ?_; clear hN N) | skip)) | ((with_reducible refine And.intro ?_ ?_); (focus (exact sd0))) | ((first | ((with_reducible refine Vc.hold ?_); first | refine Vc.regiont T0_ok G5_ok ?_ | refine Vc.drawt (id := 6) T0_ok G5_ok (by kernel_rfl) [0, 1, 2, 3, 4, 5] 6 [] trivial (by kernel_rfl) ?_)); (try simp only [v8Y, Nat.beq, Nat.ble, seval, tabs, G5_set])) | ((with_reducible refine hN _ _ ?_); clear hN N))))
   (refine Vc.cond T0_ok (by rfl) (fun hb => ?_) (fun hb => ?_))
   ·have h1 := of_decide_eq_true hb
    rw [if_pos (.inl h1)] at r2
    clear hb
    ((repeat (first | (with_reducible refine Vc.seq fun N hN => ?_) | ((first | with_reducible refine Vc.skip ?_); dsimp only [thenK, blockK, Nat.beq]; (first | (refine hN _ _ ?_; clear hN N))) | ((with_reducible refine And.intro ?_ ?_); (focus (exact sd0))) | ((first | ((with_reducible refine Vc.hold ?_); first | refine Vc.regiont T0_ok G5_ok ?_)); (try simp only [v8Y, Nat.beq, Nat.ble, seval, tabs, G5_set])) | ((with_reducible refine hN _ _ ?_); clear hN N))))
    (refine Vc.cond T0_ok (by rfl) (fun hb => ?_) (fun hb => ?_))
    ·clear hb
     ((repeat (first | (with_reducible refine Vc.seq fun N hN => ?_) | ((first | with_reducible refine Vc.skip ?_); dsimp only [thenK, blockK, Nat.beq]; (first | (refine hN _ _ ?_; clear hN N))) | ((with_reducible refine And.intro ?_ ?_); exact sX10) | ((first | ((with_reducible refine Vc.hold ?_); first | refine Vc.regiont T0_ok G5_ok ?_)); (try simp only [v8Y, Nat.beq, Nat.ble, seval, tabs, G5_set])) | ((with_reducible refine hN _ _ ?_); clear hN N))))
     refine ⟨k + 1, by omega, ?_, ?_, by omega⟩
     ·((try simp only [v8Y, Nat.beq, Nat.ble, seval, tabs]); (repeat' with_reducible apply And.intro) <;> first | with_reducible exact True.intro | rw [r2]; rfl | with_reducible rfl | (congr 1 <;> omega) | trivial)
     ·((try simp only [v8Y, Nat.beq, Nat.ble, seval, tabs]); (repeat' with_reducible apply And.intro) <;> first | with_reducible exact True.intro | rw [r1, hn] | with_reducible rfl | (congr 1 <;> omega) | trivial)
    ·clear hb
     ((repeat (first | (with_reducible refine Vc.seq fun N hN => ?_) | ((first | with_reducible refine Vc.skip ?_); dsimp only [thenK, blockK, Nat.beq]; (first | (refine hN _ _ ?_; clear hN N))) | ((with_reducible refine And.intro ?_ ?_); exact sX10) | ((first | ((with_reducible refine Vc.hold ?_); first | refine Vc.regiont T0_ok G5_ok ?_)); (try simp only [v8Y, Nat.beq, Nat.ble, seval, tabs, G5_set])) | ((with_reducible refine hN _ _ ?_); clear hN N))))
     refine ⟨k + 1, by omega, ?_, ?_, by omega⟩
     ·((try simp only [v8Y, Nat.beq, Nat.ble, seval, tabs]); (repeat' with_reducible apply And.intro) <;> first | with_reducible exact True.intro | rw [r2]; rfl | with_reducible rfl | (congr 1 <;> omega) | trivial)
     ·((try simp only [v8Y, Nat.beq, Nat.ble, seval, tabs]); (repeat' with_reducible apply And.intro) <;> first | with_reducible exact True.intro | rw [r1, hn] | with_reducible rfl | (congr 1 <;> omega) | trivial)
   ·have h1 := of_decide_eq_false hb
    clear hb
    ((repeat (first | (with_reducible refine Vc.seq fun N hN => ?_) | ((first | with_reducible refine Vc.skip ?_); dsimp only [thenK, blockK, Nat.beq]; (first | (refine hN _ _ ?_; clear hN N))) | ((with_reducible refine And.intro ?_ ?_); (focus (exact sd0))) | ((first | ((with_reducible refine Vc.hold ?_); first | refine Vc.regiont T0_ok G5_ok ?_)); (try simp only [v8Y, Nat.beq, Nat.ble, seval, tabs, G5_set])) | ((with_reducible refine hN _ _ ?_); clear hN N))))
    (refine Vc.cond T0_ok (by rfl) (fun hb => ?_) (fun hb => ?_))
    ·have h2 := of_decide_eq_true hb
     rw [if_pos (.inr h2)] at r2
     clear hb
     ((repeat (first | (with_reducible refine Vc.seq fun N hN => ?_) | ((first | with_reducible refine Vc.skip ?_); dsimp only [thenK, blockK, Nat.beq]; (first | (refine hN _ _ ?_; clear hN N))) | ((with_reducible refine And.intro ?_ ?_); exact sX10) | ((first | ((with_reducible refine Vc.hold ?_); first | refine Vc.regiont T0_ok G5_ok ?_)); (try simp only [v8Y, Nat.beq, Nat.ble, seval, tabs, G5_set])) | ((with_reducible refine hN _ _ ?_); clear hN N))))
     refine ⟨k + 1, by omega, ?_, ?_, by omega⟩
     ·((try simp only [v8Y, Nat.beq, Nat.ble, seval, tabs]); (repeat' with_reducible apply And.intro) <;> first | with_reducible exact True.intro | rw [r2]; rfl | with_reducible rfl | (congr 1 <;> omega) | trivial)
     ·((try simp only [v8Y, Nat.beq, Nat.ble, seval, tabs]); (repeat' with_reducible apply And.intro) <;> first | with_reducible exact True.intro | rw [r1, hn] | with_reducible rfl | (congr 1 <;> omega) | trivial)
    ·have h2 := of_decide_eq_false hb
     rw [if_neg (by intro h; exact h.elim h1 h2)] at r2
     clear hb
     ((repeat (first | (with_reducible refine Vc.seq fun N hN => ?_) | ((first | with_reducible refine Vc.skip ?_); dsimp only [thenK, blockK, Nat.beq]; (first | (refine hN _ _ ?_; clear hN N))) | ((with_reducible refine And.intro ?_ ?_); exact sX10) | ((first | ((with_reducible refine Vc.hold ?_); first | refine Vc.regiont T0_ok G5_ok ?_)); (try simp only [v8Y, Nat.beq, Nat.ble, seval, tabs, G5_set])) | ((with_reducible refine hN _ _ ?_); clear hN N))))
     refine ⟨k + 1, by omega, ?_, ?_, by omega⟩
     ·((try simp only [v8Y, Nat.beq, Nat.ble, seval, tabs]); (repeat' with_reducible apply And.intro) <;> first | with_reducible exact True.intro | rw [r2]; rfl | with_reducible rfl | (congr 1 <;> omega) | trivial)
     ·((try simp only [v8Y, Nat.beq, Nat.ble, seval, tabs]); (repeat' with_reducible apply And.intro) <;> first | with_reducible exact True.intro | rw [r1, hn] | with_reducible rfl | (congr 1 <;> omega) | trivial)
  ·have hk' := of_decide_eq_false hb
   have hk2 : k = 4 := by omega
   subst hk2
   rw [sum4]
   clear hb
   ((repeat (first | (with_reducible first | refine Vc.seq fun N hN => ?_ | refine Vc.block ?_) | ((with_reducible first | refine Vc.skip ?_ | refine Vc.exit ?_); dsimp only [thenK, blockK, Nat.beq]; (first | (refine hN _ _ ?_; clear hN N) | skip)) | ((with_reducible refine And.intro ?_ ?_); (focus (exact sd0))) | ((first | ((with_reducible refine Vc.hold ?_); first | refine Vc.regiont T0_ok G5_ok ?_ | refine Vc.drawt (id := 6) T0_ok G5_ok (by kernel_rfl) [0, 1, 2, 3, 4, 5] 6 [] trivial (by kernel_rfl) ?_)); (try simp only [v8Y, Nat.beq, Nat.ble, seval, tabs, G5_set])) | ((with_reducible refine hN _ _ ?_); clear hN N))))
   (refine hN1 _ _ ?_; (try clear hN N); clear hN1 N1)
   have hd : (decide (((cA a b 4 : Nat) : Int) = 1)) = addB a b := by
    rw [cA_4 ha hb]; unfold addB
    split <;> simp_all
   ((repeat (first | (with_reducible refine Vc.seq fun N hN => ?_) | ((with_reducible refine And.intro ?_ ?_); (focus (first | ((repeat' with_reducible apply And.intro) <;> first | with_reducible exact True.intro | exact allU_lmI _ | exact lmI_len _) | exact sd0))) | ((first | ((with_reducible refine Vc.fin ?_); dsimp only [thenK, blockK, retK, resS, resOne, resAll]) | ((with_reducible refine Vc.hold ?_); first | refine Vc.regiont T0_ok G5_ok ?_)); (try simp only [v8Y, Nat.beq, Nat.ble, seval, tabs, G5_set])) | ((with_reducible refine hN _ _ ?_); clear hN N))); (try ((with_reducible refine Fin.of ?_); (try with_reducible exact True.intro))))
   ((try simp only [v8Y, Nat.beq, Nat.ble, seval, tabs]); (repeat' with_reducible apply And.intro) <;> first | with_reducible exact True.intro | rw [numI_lmI (addN_lt _ _), hd] | with_reducible rfl | (congr 1 <;> omega) | trivial)
theorem cmp_vc (a b : Nat) (ha : a < W) (hb : b < W) (w : World) : Calls Tryd.prog 41 (cvs [.word a, .word b]).toArray w (fun en w' => ∃ u, en = .returned u ∧ ∃ v m', u = cv v ∧ MemOk w [] m' w' ∧ v = .int .i64 (cmpI a b)) := by
 have hstep : ∀ c j, 0 < j → c / K ^ (j - 1) = c / K ^ j * K + lm c (j - 1) := fun c j hj => by
  have e : K ^ j = K ^ (j - 1) * K := by rw [← Nat.pow_succ]; congr 1; omega
  rw [e, ← Nat.div_div_eq_div_mul]
  show _ = _ + c / K ^ (j - 1) % K
  have := Nat.div_add_mod' (c / K ^ (j - 1)) K
  omega
 refine Vc.calls T0_ok Tryd.func41 rfl rfl (args := [.word a, .word b]) (k := 22) rfl (MemOk.start _) ?_; change Vc _ _ (c8 (.word a) (.word b) .undef .undef .undef .undef .undef .undef (c8 .undef .undef .undef .undef .undef .undef .undef .undef (c8 .undef .undef .undef .undef .undef .undef .undef .undef ([])))) _ _
 ((repeat (first | (with_reducible first | refine Vc.seq fun N hN => ?_ | refine Vc.block ?_) | (with_reducible intro _) | ((with_reducible refine And.intro ?_ ?_); (focus (exact sd0))) | ((first | ((with_reducible refine Vc.hold ?_); first | refine Vc.regiont T0_ok G5_ok ?_)); (try simp only [v8Y, Nat.beq, Nat.ble, seval, tabs, G5_set])) | ((with_reducible refine hN _ _ ?_); clear hN N))))
 (revert N; intro N1 hN1)
 rename_i b0 b1
 refine Vc.loop 6 24 (fun j => [(5, .int .i64 ((j : Nat) - 1 : Int))])
  (fun _ => [.blk b0 26 (.words [a]), .blk b1 26 (.words [b])])
  (fun j => j ≤ 4 ∧ a / K ^ j = b / K ^ j) (fun j => j) 4 ⟨⟨Nat.le_refl _, ?_⟩, ?_, ?_⟩ (fun j junk hj => ?_)
 ·rw [show K ^ 4 = W by decide, Nat.div_eq_of_lt ha, Nat.div_eq_of_lt hb]
 ·((try simp only [v8Y, Nat.beq, Nat.ble, seval, tabs]); (repeat' with_reducible apply And.intro) <;> first | with_reducible exact True.intro | fail | with_reducible rfl | (congr 1 <;> omega) | trivial)
 ·((try simp only [v8Y, Nat.beq, Nat.ble, seval, tabs]); (repeat' with_reducible apply And.intro) <;> first | with_reducible exact True.intro | fail | with_reducible rfl | (congr 1 <;> omega) | trivial)
 ·obtain ⟨hj, he⟩ := hj
  (simp only [v8Y, Nat.beq, Nat.ble, seval, tabs])
  ((repeat (first | (with_reducible refine Vc.seq fun N hN => ?_) | ((with_reducible refine And.intro ?_ ?_); (focus (exact sd0))) | ((first | ((with_reducible refine Vc.hold ?_); first | refine Vc.regiont T0_ok G5_ok ?_)); (try simp only [v8Y, Nat.beq, Nat.ble, seval, tabs, G5_set])) | ((with_reducible refine hN _ _ ?_); clear hN N))))
  (refine Vc.cond T0_ok (by rfl) (fun hb => ?_) (fun hb => ?_))
  ·have hj0 := of_decide_eq_true hb
   have hj1 : 0 < j := by omega
   have hx : ((j : Int) - 1).toNat = j - 1 := by omega
   have sa := hstep a j hj1
   have sb := hstep b j hj1
   have la := lm_lt a (j - 1)
   have lb := lm_lt b (j - 1)
   have lt_of : ∀ c d, c / K ^ (j - 1) < d / K ^ (j - 1) → c < d := fun c d h => Nat.lt_of_not_le fun hle => Nat.not_le_of_lt h (Nat.div_le_div_right hle)
   ((repeat (first | (with_reducible first | refine Vc.seq fun N hN => ?_ | refine Vc.block ?_) | ((with_reducible first | refine Vc.skip ?_ | refine Vc.exit ?_); dsimp only [thenK, blockK, Nat.beq]; (first | (refine hN _ _ ?_; clear hN N) | skip)) | ((with_reducible refine And.intro ?_ ?_); (focus (exact sd0))) | ((first | ((with_reducible refine Vc.fin ?_); dsimp only [thenK, blockK, retK, resS, resOne, resAll]) | ((with_reducible refine Vc.hold ?_); first | refine Vc.regiont T0_ok G5_ok ?_ | refine Vc.drawt (id := 4) T0_ok G5_ok (by kernel_rfl) [0, 1, 2, 3, 4, 5] 6 [] trivial (by kernel_rfl) ?_)); (try simp only [v8Y, Nat.beq, Nat.ble, seval, tabs, G5_set])) | ((with_reducible refine hN _ _ ?_); clear hN N))); (try ((with_reducible refine Fin.of ?_); (try with_reducible exact True.intro))))
   (refine Vc.cond T0_ok (by rfl) (fun hb => ?_) (fun hb => ?_))
   ·have hc := of_decide_eq_true hb
    rw [hx] at hc
    have : a < b := lt_of a b (by rw [sa, sb, he]; omega)
    have hr : cmpI a b = -1 := by unfold cmpI; rw [if_neg (by omega), if_pos this]
    ((repeat (first | (with_reducible refine Vc.seq fun N hN => ?_) | ((first | with_reducible refine Vc.skip ?_); dsimp only [thenK, blockK, Nat.beq]; (first | (refine hN _ _ ?_; clear hN N))) | ((with_reducible refine And.intro ?_ ?_); (focus (exact sd0))) | ((first | ((with_reducible refine Vc.fin ?_); dsimp only [thenK, blockK, retK, resS, resOne, resAll]) | ((with_reducible refine Vc.hold ?_); first | refine Vc.regiont T0_ok G5_ok ?_ | refine Vc.drawt (id := 6) T0_ok G5_ok (by kernel_rfl) [0, 1, 2, 3, 4, 5] 6 [] trivial (by kernel_rfl) ?_)); (try simp only [v8Y, Nat.beq, Nat.ble, seval, tabs, G5_set])) | ((with_reducible refine hN _ _ ?_); clear hN N))); (try ((with_reducible refine Fin.of ?_); (try with_reducible exact True.intro))))
    ((try simp only [v8Y, Nat.beq, Nat.ble, seval, tabs]); (repeat' with_reducible apply And.intro) <;> first | with_reducible exact True.intro | rw [hr] | with_reducible rfl | (congr 1 <;> omega) | trivial)
   ·have hc := of_decide_eq_false hb
    ((repeat (first | (with_reducible refine Vc.seq fun N hN => ?_) | ((first | with_reducible refine Vc.skip ?_); dsimp only [thenK, blockK, Nat.beq]; (first | (refine hN _ _ ?_; clear hN N))) | ((with_reducible refine And.intro ?_ ?_); (focus (exact sd0))) | ((first | ((with_reducible refine Vc.fin ?_); dsimp only [thenK, blockK, retK, resS, resOne, resAll]) | ((with_reducible refine Vc.hold ?_); first | refine Vc.regiont T0_ok G5_ok ?_ | refine Vc.drawt (id := 6) T0_ok G5_ok (by kernel_rfl) [0, 1, 2, 3, 4, 5] 6 [] trivial (by kernel_rfl) ?_)); (try simp only [v8Y, Nat.beq, Nat.ble, seval, tabs, G5_set])) | ((with_reducible refine hN _ _ ?_); clear hN N))); (try ((with_reducible refine Fin.of ?_); (try with_reducible exact True.intro))))
    (refine Vc.cond T0_ok (by rfl) (fun hb => ?_) (fun hb => ?_))
    ·have hd := of_decide_eq_true hb
     rw [hx] at hd
     have : b < a := lt_of b a (by rw [sa, sb, he]; omega)
     have hr : cmpI a b = 1 := by unfold cmpI; rw [if_neg (by omega), if_neg (by omega)]
     ((repeat (first | (with_reducible refine Vc.seq fun N hN => ?_) | ((first | with_reducible refine Vc.skip ?_); dsimp only [thenK, blockK, Nat.beq]; (first | (refine hN _ _ ?_; clear hN N))) | ((with_reducible refine And.intro ?_ ?_); (focus (exact sd0))) | ((first | ((with_reducible refine Vc.fin ?_); dsimp only [thenK, blockK, retK, resS, resOne, resAll]) | ((with_reducible refine Vc.hold ?_); first | refine Vc.regiont T0_ok G5_ok ?_)); (try simp only [v8Y, Nat.beq, Nat.ble, seval, tabs, G5_set])) | ((with_reducible refine hN _ _ ?_); clear hN N))); (try ((with_reducible refine Fin.of ?_); (try with_reducible exact True.intro))))
     ((try simp only [v8Y, Nat.beq, Nat.ble, seval, tabs]); (repeat' with_reducible apply And.intro) <;> first | with_reducible exact True.intro | rw [hr] | with_reducible rfl | (congr 1 <;> omega) | trivial)
    ·have hd := of_decide_eq_false hb
     rw [hx] at hc hd
     ((repeat (first | (with_reducible refine Vc.seq fun N hN => ?_) | ((first | with_reducible refine Vc.skip ?_); dsimp only [thenK, blockK, Nat.beq]; (first | (refine hN _ _ ?_; clear hN N))) | ((with_reducible refine And.intro ?_ ?_); (focus (exact sd0))) | ((first | ((with_reducible refine Vc.fin ?_); dsimp only [thenK, blockK, retK, resS, resOne, resAll]) | ((with_reducible refine Vc.hold ?_); first | refine Vc.regiont T0_ok G5_ok ?_)); (try simp only [v8Y, Nat.beq, Nat.ble, seval, tabs, G5_set])) | ((with_reducible refine hN _ _ ?_); clear hN N))); (try ((with_reducible refine Fin.of ?_); (try with_reducible exact True.intro))))
     refine ⟨j - 1, ⟨by omega, ?_⟩, ?_, ?_, by omega⟩
     ·rw [sa, sb, he]; omega
     ·((try simp only [v8Y, Nat.beq, Nat.ble, seval, tabs]); (repeat' with_reducible apply And.intro) <;> first | with_reducible exact True.intro | fail | with_reducible rfl | (congr 1 <;> omega) | trivial)
     ·((try simp only [v8Y, Nat.beq, Nat.ble, seval, tabs]); (repeat' with_reducible apply And.intro) <;> first | with_reducible exact True.intro | fail | with_reducible rfl | (congr 1 <;> omega) | trivial)
  ·have hj0 := of_decide_eq_false hb
   have hj1 : j = 0 := by omega
   subst hj1
   rw [Nat.pow_zero, Nat.div_one, Nat.div_one] at he
   have hr : cmpI a b = 0 := by unfold cmpI; rw [if_pos he]
   ((repeat (first | (with_reducible first | refine Vc.seq fun N hN => ?_ | refine Vc.block ?_) | ((with_reducible first | refine Vc.skip ?_ | refine Vc.exit ?_); dsimp only [thenK, blockK, Nat.beq]; (first | (refine hN _ _ ?_; clear hN N) | skip)) | ((with_reducible refine And.intro ?_ ?_); (focus (exact sd0))) | ((first | ((with_reducible refine Vc.fin ?_); dsimp only [thenK, blockK, retK, resS, resOne, resAll]) | ((with_reducible refine Vc.hold ?_); first | refine Vc.regiont T0_ok G5_ok ?_ | refine Vc.drawt (id := 4) T0_ok G5_ok (by kernel_rfl) [0, 1, 2, 3, 4, 5] 6 [] trivial (by kernel_rfl) ?_)); (try simp only [v8Y, Nat.beq, Nat.ble, seval, tabs, G5_set])) | ((with_reducible refine hN _ _ ?_); clear hN N))); (try ((with_reducible refine Fin.of ?_); (try with_reducible exact True.intro))))
   (refine hN1 _ _ ?_; (try clear hN N); clear hN1 N1)
   ((repeat (first | (with_reducible first | refine Vc.seq fun N hN => ?_ | refine Vc.block ?_) | ((with_reducible first | refine Vc.skip ?_ | refine Vc.exit ?_); dsimp only [thenK, blockK, Nat.beq]; (first | (refine hN _ _ ?_; clear hN N) | skip)) | ((with_reducible refine And.intro ?_ ?_); (focus (exact sd0))) | ((first | ((with_reducible refine Vc.fin ?_); dsimp only [thenK, blockK, retK, resS, resOne, resAll]) | ((with_reducible refine Vc.hold ?_); first | refine Vc.regiont T0_ok G5_ok ?_ | refine Vc.drawt (id := 4) T0_ok G5_ok (by kernel_rfl) [0, 1, 2, 3, 4, 5] 6 [] trivial (by kernel_rfl) ?_)); (try simp only [v8Y, Nat.beq, Nat.ble, seval, tabs, G5_set])) | ((with_reducible refine hN _ _ ?_); clear hN N))); (try ((with_reducible refine Fin.of ?_); (try with_reducible exact True.intro))))
   ((try simp only [v8Y, Nat.beq, Nat.ble, seval, tabs]); (repeat' with_reducible apply And.intro) <;> first | with_reducible exact True.intro | rw [hr] | with_reducible rfl | (congr 1 <;> omega) | trivial)
end Go.Proofs.YthdpgfdfgidokaaDoor
