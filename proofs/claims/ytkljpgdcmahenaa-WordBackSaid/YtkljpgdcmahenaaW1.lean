/-
  Small functions of package word, walked: from and to a number, minus, negative, atMost, split, partAt, lowByte: each hands back the value that is named, for all words; the world is the same but for new memory.
-/
import Derived.Test.YtkljpgdcmahenaaBase
import Derived.Test.YtkljpgdcmahenaaBits
namespace Go.Proofs.Ytkljpgdcmahenaa
set_option linter.unusedSimpArgs false
set_option linter.unusedVariables false
open Go.RowKit

theorem lm_small {n : Nat} (h : n < 18446744073709551616) : lm n 0 = n ∧ lm n 1 = 0 ∧ lm n 2 = 0 ∧ lm n 3 = 0 := by
  rw [lm0, lm1, lm2, lm3]; omega
theorem WV_small {n : Nat} (h : n < 18446744073709551616) : WV n = .agg #[.int .u64 (n : Nat), .int .u64 0, .int .u64 0, .int .u64 0] := by
  obtain ⟨h0, h1, h2, h3⟩ := lm_small h
  unfold WV; rw [h0, h1, h2, h3]; rfl

set_option maxHeartbeats 400000 in
theorem from_any (n : Nat) (h : n < 18446744073709551616) (w : World) : Calls Try.prog 53 #[.int .u64 n] w (Ret w (WV n)) := by
  rw [WV_small h]
  go_enter Try.func53, Try.ntmps53
  go_wp2
  exact bodyPost_ret (v := .agg #[.int .u64 n, .int .u64 0, .int .u64 0, .int .u64 0]) (by simp [results, Try.results53, go_sem]) rfl (Ret.of' rfl (by (repeat (first | with_reducible exact Below.refl _ _ | refine below_gw ?_ (by first | exact Nat.le_refl _ | ((repeat (first | rw [World.size_alloc] | rw [World.size_setCell] | rw [World.size_drew] | rw [gw_size])); first | done | omega)) _ | refine Below.alloc ?_ (by first | exact Nat.le_refl _ | ((repeat (first | rw [World.size_alloc] | rw [World.size_setCell] | rw [World.size_drew] | rw [gw_size])); first | done | omega)) _ | refine Below.setCell ?_ (by first | exact Nat.le_refl _ | ((repeat (first | rw [World.size_alloc] | rw [World.size_setCell] | rw [World.size_drew] | rw [gw_size])); first | done | omega)) _ | refine Below.drew ?_))))
set_option maxHeartbeats 400000 in
theorem w_any (n : Nat) (h : n < 18446744073709551616) (w : World) : Calls Try.prog 54 #[.int .u64 n] w (Ret w (WV n)) := by
  rw [WV_small h]
  go_enter Try.func54, Try.ntmps54
  go_wp2
  exact bodyPost_ret (v := .agg #[.int .u64 n, .int .u64 0, .int .u64 0, .int .u64 0]) (by simp [results, Try.results54, go_sem]) rfl (Ret.of' rfl (by (repeat (first | with_reducible exact Below.refl _ _ | refine below_gw ?_ (by first | exact Nat.le_refl _ | ((repeat (first | rw [World.size_alloc] | rw [World.size_setCell] | rw [World.size_drew] | rw [gw_size])); first | done | omega)) _ | refine Below.alloc ?_ (by first | exact Nat.le_refl _ | ((repeat (first | rw [World.size_alloc] | rw [World.size_setCell] | rw [World.size_drew] | rw [gw_size])); first | done | omega)) _ | refine Below.setCell ?_ (by first | exact Nat.le_refl _ | ((repeat (first | rw [World.size_alloc] | rw [World.size_setCell] | rw [World.size_drew] | rw [gw_size])); first | done | omega)) _ | refine Below.drew ?_))))
set_option maxHeartbeats 400000 in
theorem rfrom_any (n : Nat) (h : n < 18446744073709551616) (w : World) : Calls Try.prog 75 #[.int .u64 n] w (Ret w (WV n)) := by
  rw [WV_small h]
  go_enter Try.func75, Try.ntmps75
  go_wp2
  exact bodyPost_ret (v := .agg #[.int .u64 n, .int .u64 0, .int .u64 0, .int .u64 0]) (by simp [results, Try.results75, go_sem]) rfl (Ret.of' rfl (by (repeat (first | with_reducible exact Below.refl _ _ | refine below_gw ?_ (by first | exact Nat.le_refl _ | ((repeat (first | rw [World.size_alloc] | rw [World.size_setCell] | rw [World.size_drew] | rw [gw_size])); first | done | omega)) _ | refine Below.alloc ?_ (by first | exact Nat.le_refl _ | ((repeat (first | rw [World.size_alloc] | rw [World.size_setCell] | rw [World.size_drew] | rw [gw_size])); first | done | omega)) _ | refine Below.setCell ?_ (by first | exact Nat.le_refl _ | ((repeat (first | rw [World.size_alloc] | rw [World.size_setCell] | rw [World.size_drew] | rw [gw_size])); first | done | omega)) _ | refine Below.drew ?_))))

theorem minus_val {n : Nat} (h0 : 0 < n) (h : n < 18446744073709551616) : lm (W - n) 0 = 18446744073709551616 - n ∧ lm (W - n) 1 = 18446744073709551615 ∧ lm (W - n) 2 = 18446744073709551615 ∧ lm (W - n) 3 = 18446744073709551615 := by
  rw [lm0, lm1, lm2, lm3]; unfold W; omega
set_option maxHeartbeats 400000 in
theorem minus_any (n : Nat) (h0 : 0 < n) (h : n < 18446744073709551616) (w : World) : Calls Try.prog 65 #[.int .u64 n] w (Ret w (WV (W - n))) := by
  obtain ⟨e0, e1, e2, e3⟩ := minus_val h0 h
  have e : (18446744073709551615 - (n : Int) + 1) = ((18446744073709551616 - n : Nat) : Int) := by omega
  unfold WV; rw [e0, e1, e2, e3, ← e]
  clear e0 e1 e2 e3 e
  go_enter Try.func65, Try.ntmps65
  go_wp2
  exact bodyPost_ret (v := .agg #[.int .u64 (18446744073709551615 - (n : Int) + 1), .int .u64 18446744073709551615, .int .u64 18446744073709551615, .int .u64 18446744073709551615]) (by simp [results, Try.results65, go_sem]) rfl (Ret.of' rfl (by (repeat (first | with_reducible exact Below.refl _ _ | refine below_gw ?_ (by first | exact Nat.le_refl _ | ((repeat (first | rw [World.size_alloc] | rw [World.size_setCell] | rw [World.size_drew] | rw [gw_size])); first | done | omega)) _ | refine Below.alloc ?_ (by first | exact Nat.le_refl _ | ((repeat (first | rw [World.size_alloc] | rw [World.size_setCell] | rw [World.size_drew] | rw [gw_size])); first | done | omega)) _ | refine Below.setCell ?_ (by first | exact Nat.le_refl _ | ((repeat (first | rw [World.size_alloc] | rw [World.size_setCell] | rw [World.size_drew] | rw [gw_size])); first | done | omega)) _ | refine Below.drew ?_))))
set_option maxHeartbeats 400000 in
theorem negative_any (a : Nat) (h : a < W) (w : World) : Calls Try.prog 66 #[WV a] w (Ret w (.bool (decide (W / 2 ≤ a)))) := by
  have e : (((lm a 3 : Nat) : Int) / 9223372036854775808 == 1) = decide (W / 2 ≤ a) := by
    rw [Bool.eq_iff_iff, beq_iff_eq, decide_eq_true_iff, lm3]; unfold W at *; omega
  rw [← e]; clear e
  go_enter Try.func66, Try.ntmps66
  go_wp2
  exact bodyPost_ret (v := .bool (((lm a 3 : Nat) : Int) / 9223372036854775808 == 1)) (by simp [results, Try.results66, go_sem]) rfl (Ret.of' rfl (by (repeat (first | with_reducible exact Below.refl _ _ | refine below_gw ?_ (by first | exact Nat.le_refl _ | ((repeat (first | rw [World.size_alloc] | rw [World.size_setCell] | rw [World.size_drew] | rw [gw_size])); first | done | omega)) _ | refine Below.alloc ?_ (by first | exact Nat.le_refl _ | ((repeat (first | rw [World.size_alloc] | rw [World.size_setCell] | rw [World.size_drew] | rw [gw_size])); first | done | omega)) _ | refine Below.setCell ?_ (by first | exact Nat.le_refl _ | ((repeat (first | rw [World.size_alloc] | rw [World.size_setCell] | rw [World.size_drew] | rw [gw_size])); first | done | omega)) _ | refine Below.drew ?_))))
set_option maxHeartbeats 400000 in
theorem rneg_any (a : Nat) (h : a < W) (w : World) : Calls Try.prog 67 #[WV a] w (Ret w (.bool (decide (W / 2 ≤ a)))) := by
  have e : (((lm a 3 : Nat) : Int) / 9223372036854775808 == 1) = decide (W / 2 ≤ a) := by
    rw [Bool.eq_iff_iff, beq_iff_eq, decide_eq_true_iff, lm3]; unfold W at *; omega
  rw [← e]; clear e
  go_enter Try.func67, Try.ntmps67
  go_wp2
  exact bodyPost_ret (v := .bool (((lm a 3 : Nat) : Int) / 9223372036854775808 == 1)) (by simp [results, Try.results67, go_sem]) rfl (Ret.of' rfl (by (repeat (first | with_reducible exact Below.refl _ _ | refine below_gw ?_ (by first | exact Nat.le_refl _ | ((repeat (first | rw [World.size_alloc] | rw [World.size_setCell] | rw [World.size_drew] | rw [gw_size])); first | done | omega)) _ | refine Below.alloc ?_ (by first | exact Nat.le_refl _ | ((repeat (first | rw [World.size_alloc] | rw [World.size_setCell] | rw [World.size_drew] | rw [gw_size])); first | done | omega)) _ | refine Below.setCell ?_ (by first | exact Nat.le_refl _ | ((repeat (first | rw [World.size_alloc] | rw [World.size_setCell] | rw [World.size_drew] | rw [gw_size])); first | done | omega)) _ | refine Below.drew ?_))))
/-- Small's two results. -/
def smN (a : Nat) : Nat := if a < 18446744073709551616 then a else 0
def smB (a : Nat) : Bool := decide (a < 18446744073709551616)
theorem sm_lt (a : Nat) : smN a < 18446744073709551616 := by unfold smN; split <;> omega
set_option maxHeartbeats 400000 in
theorem small_any (a : Nat) (h : a < W) (w : World) : Calls Try.prog 46 #[WV a] w (Ret w (.tuple #[.int .u64 (smN a : Nat), .bool (smB a)])) := by
  have e : decide (a % W = lm a 0 % W) = smB a := by
    unfold smB; rw [decide_eq_decide, lm0]; unfold W at *; omega
  cases hb : smB a
  · have hn : smN a = 0 := by unfold smB at hb; unfold smN; rw [if_neg (by simpa using hb)]
    rw [hb] at e; rw [hn]; clear hb hn
    go_enter Try.func46, Try.ntmps46
    go_wp2
    (refine wp_quiet (by kernel_rfl) (by kernel_rfl) ?_; (repeat (first | go_big_quiet_step ((go_at_call 53; first | (with_reducible refine quiet_ret (from_any (lm a 0) (lm_lt _ _) _)) | (with_reducible refine quiet_ret2 (from_any (lm a 0) (lm_lt _ _) _)))) | quiet_step ((go_at_call 53; first | (with_reducible refine quiet_ret (from_any (lm a 0) (lm_lt _ _) _)) | (with_reducible refine quiet_ret2 (from_any (lm a 0) (lm_lt _ _) _)))))); refine wpQuiet_nil ?_; intro p)
    go_wp2
    exact bodyPost_ret (v := .tuple #[.int .u64 0, .bool false]) (by simp [results, Try.results46, go_sem]) rfl (Ret.of' rfl (by (repeat (first | with_reducible exact Below.refl _ _ | refine below_gw ?_ (by first | exact Nat.le_refl _ | ((repeat (first | rw [World.size_alloc] | rw [World.size_setCell] | rw [World.size_drew] | rw [gw_size])); first | done | omega)) _ | refine Below.alloc ?_ (by first | exact Nat.le_refl _ | ((repeat (first | rw [World.size_alloc] | rw [World.size_setCell] | rw [World.size_drew] | rw [gw_size])); first | done | omega)) _ | refine Below.setCell ?_ (by first | exact Nat.le_refl _ | ((repeat (first | rw [World.size_alloc] | rw [World.size_setCell] | rw [World.size_drew] | rw [gw_size])); first | done | omega)) _ | refine Below.drew ?_))))
  · have hn : lm a 0 = smN a := by unfold smB at hb; simp only [decide_eq_true_iff] at hb; unfold smN; rw [if_pos hb, lm0]; omega
    rw [hb] at e; rw [← hn]; clear hb hn
    go_enter Try.func46, Try.ntmps46
    go_wp2
    (refine wp_quiet (by kernel_rfl) (by kernel_rfl) ?_; (repeat (first | go_big_quiet_step ((go_at_call 53; first | (with_reducible refine quiet_ret (from_any (lm a 0) (lm_lt _ _) _)) | (with_reducible refine quiet_ret2 (from_any (lm a 0) (lm_lt _ _) _)))) | quiet_step ((go_at_call 53; first | (with_reducible refine quiet_ret (from_any (lm a 0) (lm_lt _ _) _)) | (with_reducible refine quiet_ret2 (from_any (lm a 0) (lm_lt _ _) _)))))); refine wpQuiet_nil ?_; intro p)
    go_wp2
    exact bodyPost_ret (v := .tuple #[.int .u64 (lm a 0 : Nat), .bool true]) (by simp [results, Try.results46, go_sem]) rfl (Ret.of' rfl (by (repeat (first | with_reducible exact Below.refl _ _ | refine below_gw ?_ (by first | exact Nat.le_refl _ | ((repeat (first | rw [World.size_alloc] | rw [World.size_setCell] | rw [World.size_drew] | rw [gw_size])); first | done | omega)) _ | refine Below.alloc ?_ (by first | exact Nat.le_refl _ | ((repeat (first | rw [World.size_alloc] | rw [World.size_setCell] | rw [World.size_drew] | rw [gw_size])); first | done | omega)) _ | refine Below.setCell ?_ (by first | exact Nat.le_refl _ | ((repeat (first | rw [World.size_alloc] | rw [World.size_setCell] | rw [World.size_drew] | rw [gw_size])); first | done | omega)) _ | refine Below.drew ?_))))
set_option maxHeartbeats 400000 in
theorem atMost_any (a : Nat) (h : a < W) (n : Nat) (hn : n ≤ 256) (w : World) : Calls Try.prog 77 #[WV a, .int .i64 n] w (Ret w (.int .i64 (min a n : Nat))) := by
  cases hb : smB a
  · have hm : min a n = n := by unfold smB at hb; simp only [decide_eq_false_iff_not] at hb; omega
    rw [hm]; clear hm
    go_enter Try.func77, Try.ntmps77
    go_wp2_with (go_at_call 46; (with_reducible refine calls_ret (small_any a h _) ?_); intro p)
    exact bodyPost_ret (v := .int .i64 n) (by simp [results, Try.results77, go_sem]) rfl (Ret.of' rfl (by (repeat (first | with_reducible exact Below.refl _ _ | refine below_gw ?_ (by first | exact Nat.le_refl _ | ((repeat (first | rw [World.size_alloc] | rw [World.size_setCell] | rw [World.size_drew] | rw [gw_size])); first | done | omega)) _ | refine Below.alloc ?_ (by first | exact Nat.le_refl _ | ((repeat (first | rw [World.size_alloc] | rw [World.size_setCell] | rw [World.size_drew] | rw [gw_size])); first | done | omega)) _ | refine Below.setCell ?_ (by first | exact Nat.le_refl _ | ((repeat (first | rw [World.size_alloc] | rw [World.size_setCell] | rw [World.size_drew] | rw [gw_size])); first | done | omega)) _ | refine Below.drew ?_))))
  · have hm : smN a = a ∧ a < 18446744073709551616 := by unfold smB at hb; simp only [decide_eq_true_iff] at hb; exact ⟨by unfold smN; rw [if_pos hb], hb⟩
    obtain ⟨hm, hlt⟩ := hm
    by_cases hc : n < a
    · have hm2 : min a n = n := by omega
      rw [hm2]; clear hm2
      go_enter Try.func77, Try.ntmps77
      go_wp2_with (go_at_call 46; (with_reducible refine calls_ret (small_any a h _) ?_); intro p)
      exact bodyPost_ret (v := .int .i64 n) (by simp [results, Try.results77, go_sem]) rfl (Ret.of' rfl (by (repeat (first | with_reducible exact Below.refl _ _ | refine below_gw ?_ (by first | exact Nat.le_refl _ | ((repeat (first | rw [World.size_alloc] | rw [World.size_setCell] | rw [World.size_drew] | rw [gw_size])); first | done | omega)) _ | refine Below.alloc ?_ (by first | exact Nat.le_refl _ | ((repeat (first | rw [World.size_alloc] | rw [World.size_setCell] | rw [World.size_drew] | rw [gw_size])); first | done | omega)) _ | refine Below.setCell ?_ (by first | exact Nat.le_refl _ | ((repeat (first | rw [World.size_alloc] | rw [World.size_setCell] | rw [World.size_drew] | rw [gw_size])); first | done | omega)) _ | refine Below.drew ?_))))
    · have hm2 : min a n = a := by omega
      rw [hm2]; clear hm2
      go_enter Try.func77, Try.ntmps77
      go_wp2_with (go_at_call 46; (with_reducible refine calls_ret (small_any a h _) ?_); intro p)
      exact bodyPost_ret (v := .int .i64 a) (by simp [results, Try.results77, go_sem]) rfl (Ret.of' rfl (by (repeat (first | with_reducible exact Below.refl _ _ | refine below_gw ?_ (by first | exact Nat.le_refl _ | ((repeat (first | rw [World.size_alloc] | rw [World.size_setCell] | rw [World.size_drew] | rw [gw_size])); first | done | omega)) _ | refine Below.alloc ?_ (by first | exact Nat.le_refl _ | ((repeat (first | rw [World.size_alloc] | rw [World.size_setCell] | rw [World.size_drew] | rw [gw_size])); first | done | omega)) _ | refine Below.setCell ?_ (by first | exact Nat.le_refl _ | ((repeat (first | rw [World.size_alloc] | rw [World.size_setCell] | rw [World.size_drew] | rw [gw_size])); first | done | omega)) _ | refine Below.drew ?_))))
/-- A shift by whole parts, and by bits. -/
def spQ (a : Nat) : Nat := min a 256 / 64
def spR (a : Nat) : Nat := min a 256 % 64
set_option maxHeartbeats 400000 in
theorem split_any (a : Nat) (h : a < W) (w : World) : Calls Try.prog 79 #[WV a] w (Ret w (.tuple #[.int .i64 (spQ a : Nat), .int .i64 (spR a : Nat)])) := by
  unfold spQ spR
  have hm : min a 256 ≤ 256 := by omega
  have H := atMost_any a h 256 (by omega)
  revert H
  generalize min a 256 = m at *
  intro H
  have hq : (((m / 64 : Nat) : Int)) = (m : Int) / 64 := by omega
  have hr : (((m % 64 : Nat) : Int)) = (m : Int) % 64 := by omega
  rw [hq, hr]; clear hq hr
  have HH := Lib.hid H
  clear H
  go_enter Try.func79, Try.ntmps79
  go_wp2_with (go_at_call 77; (with_reducible refine calls_ret (HH.out _) ?_); intro p)
  exact bodyPost_ret (v := .tuple #[.int .i64 ((m : Int) / 64), .int .i64 ((m : Int) % 64)]) (by simp [results, Try.results79, go_sem]) rfl (Ret.of' rfl (by (repeat (first | with_reducible exact Below.refl _ _ | refine below_gw ?_ (by first | exact Nat.le_refl _ | ((repeat (first | rw [World.size_alloc] | rw [World.size_setCell] | rw [World.size_drew] | rw [gw_size])); first | done | omega)) _ | refine Below.alloc ?_ (by first | exact Nat.le_refl _ | ((repeat (first | rw [World.size_alloc] | rw [World.size_setCell] | rw [World.size_drew] | rw [gw_size])); first | done | omega)) _ | refine Below.setCell ?_ (by first | exact Nat.le_refl _ | ((repeat (first | rw [World.size_alloc] | rw [World.size_setCell] | rw [World.size_drew] | rw [gw_size])); first | done | omega)) _ | refine Below.drew ?_))))
set_option maxHeartbeats 400000 in
theorem partAt_any (a : Nat) (i : Int) (f : Nat) (w : World) : Calls Try.prog 82 #[WV a, .int .i64 i, .int .u64 f] w (Ret w (.int .u64 (ptN a i f : Nat))) := by
  by_cases h0 : i < 0
  · have e : ptN a i f = 0 := by unfold ptN; rw [if_pos h0]
    rw [e]; clear e
    go_enter Try.func82, Try.ntmps82
    go_wp2
    exact bodyPost_ret (v := .int .u64 0) (by simp [results, Try.results82, go_sem]) rfl (Ret.of' rfl (by (repeat (first | with_reducible exact Below.refl _ _ | refine below_gw ?_ (by first | exact Nat.le_refl _ | ((repeat (first | rw [World.size_alloc] | rw [World.size_setCell] | rw [World.size_drew] | rw [gw_size])); first | done | omega)) _ | refine Below.alloc ?_ (by first | exact Nat.le_refl _ | ((repeat (first | rw [World.size_alloc] | rw [World.size_setCell] | rw [World.size_drew] | rw [gw_size])); first | done | omega)) _ | refine Below.setCell ?_ (by first | exact Nat.le_refl _ | ((repeat (first | rw [World.size_alloc] | rw [World.size_setCell] | rw [World.size_drew] | rw [gw_size])); first | done | omega)) _ | refine Below.drew ?_))))
  · by_cases h4 : 4 ≤ i
    · have e : ptN a i f = f := by unfold ptN; rw [if_neg h0, if_pos h4]
      rw [e]; clear e
      go_enter Try.func82, Try.ntmps82
      go_wp2
      exact bodyPost_ret (v := .int .u64 f) (by simp [results, Try.results82, go_sem]) rfl (Ret.of' rfl (by (repeat (first | with_reducible exact Below.refl _ _ | refine below_gw ?_ (by first | exact Nat.le_refl _ | ((repeat (first | rw [World.size_alloc] | rw [World.size_setCell] | rw [World.size_drew] | rw [gw_size])); first | done | omega)) _ | refine Below.alloc ?_ (by first | exact Nat.le_refl _ | ((repeat (first | rw [World.size_alloc] | rw [World.size_setCell] | rw [World.size_drew] | rw [gw_size])); first | done | omega)) _ | refine Below.setCell ?_ (by first | exact Nat.le_refl _ | ((repeat (first | rw [World.size_alloc] | rw [World.size_setCell] | rw [World.size_drew] | rw [gw_size])); first | done | omega)) _ | refine Below.drew ?_))))
    · have e : ptN a i f = lm a i.toNat := by unfold ptN; rw [if_neg h0, if_neg h4]
      rw [e]; clear e
      have hc : i = 0 ∨ i = 1 ∨ i = 2 ∨ i = 3 := by omega
      clear h0 h4
      rcases hc with rfl | rfl | rfl | rfl
      · go_enter Try.func82, Try.ntmps82
        go_wp2
        exact bodyPost_ret (v := .int .u64 (lm a 0 : Nat)) (by simp [results, Try.results82, go_sem]) rfl (Ret.of' rfl (by (repeat (first | with_reducible exact Below.refl _ _ | refine below_gw ?_ (by first | exact Nat.le_refl _ | ((repeat (first | rw [World.size_alloc] | rw [World.size_setCell] | rw [World.size_drew] | rw [gw_size])); first | done | omega)) _ | refine Below.alloc ?_ (by first | exact Nat.le_refl _ | ((repeat (first | rw [World.size_alloc] | rw [World.size_setCell] | rw [World.size_drew] | rw [gw_size])); first | done | omega)) _ | refine Below.setCell ?_ (by first | exact Nat.le_refl _ | ((repeat (first | rw [World.size_alloc] | rw [World.size_setCell] | rw [World.size_drew] | rw [gw_size])); first | done | omega)) _ | refine Below.drew ?_))))
      · go_enter Try.func82, Try.ntmps82
        go_wp2
        exact bodyPost_ret (v := .int .u64 (lm a 1 : Nat)) (by simp [results, Try.results82, go_sem]) rfl (Ret.of' rfl (by (repeat (first | with_reducible exact Below.refl _ _ | refine below_gw ?_ (by first | exact Nat.le_refl _ | ((repeat (first | rw [World.size_alloc] | rw [World.size_setCell] | rw [World.size_drew] | rw [gw_size])); first | done | omega)) _ | refine Below.alloc ?_ (by first | exact Nat.le_refl _ | ((repeat (first | rw [World.size_alloc] | rw [World.size_setCell] | rw [World.size_drew] | rw [gw_size])); first | done | omega)) _ | refine Below.setCell ?_ (by first | exact Nat.le_refl _ | ((repeat (first | rw [World.size_alloc] | rw [World.size_setCell] | rw [World.size_drew] | rw [gw_size])); first | done | omega)) _ | refine Below.drew ?_))))
      · go_enter Try.func82, Try.ntmps82
        go_wp2
        exact bodyPost_ret (v := .int .u64 (lm a 2 : Nat)) (by simp [results, Try.results82, go_sem]) rfl (Ret.of' rfl (by (repeat (first | with_reducible exact Below.refl _ _ | refine below_gw ?_ (by first | exact Nat.le_refl _ | ((repeat (first | rw [World.size_alloc] | rw [World.size_setCell] | rw [World.size_drew] | rw [gw_size])); first | done | omega)) _ | refine Below.alloc ?_ (by first | exact Nat.le_refl _ | ((repeat (first | rw [World.size_alloc] | rw [World.size_setCell] | rw [World.size_drew] | rw [gw_size])); first | done | omega)) _ | refine Below.setCell ?_ (by first | exact Nat.le_refl _ | ((repeat (first | rw [World.size_alloc] | rw [World.size_setCell] | rw [World.size_drew] | rw [gw_size])); first | done | omega)) _ | refine Below.drew ?_))))
      · go_enter Try.func82, Try.ntmps82
        go_wp2
        exact bodyPost_ret (v := .int .u64 (lm a 3 : Nat)) (by simp [results, Try.results82, go_sem]) rfl (Ret.of' rfl (by (repeat (first | with_reducible exact Below.refl _ _ | refine below_gw ?_ (by first | exact Nat.le_refl _ | ((repeat (first | rw [World.size_alloc] | rw [World.size_setCell] | rw [World.size_drew] | rw [gw_size])); first | done | omega)) _ | refine Below.alloc ?_ (by first | exact Nat.le_refl _ | ((repeat (first | rw [World.size_alloc] | rw [World.size_setCell] | rw [World.size_drew] | rw [gw_size])); first | done | omega)) _ | refine Below.setCell ?_ (by first | exact Nat.le_refl _ | ((repeat (first | rw [World.size_alloc] | rw [World.size_setCell] | rw [World.size_drew] | rw [gw_size])); first | done | omega)) _ | refine Below.drew ?_))))
/-- Byte i of a word, from the lowest one on. -/
def byN (a i : Nat) : Nat := lm a (i / 8) / 2 ^ (i % 8 * 8) % 256
set_option maxHeartbeats 400000 in
theorem lowByte_any (a i : Nat) (h : i < 32) (w : World) : Calls Try.prog 86 #[WV a, .int .i64 i] w (Ret w (.int .u8 (byN a i : Nat))) := by
  have hc : i / 8 = 0 ∨ i / 8 = 1 ∨ i / 8 = 2 ∨ i / 8 = 3 := by omega
  have key : ∀ q, i / 8 = q → byN a i = lm a q / 2 ^ (i % 8 * 8) % 256 := fun q hq => by unfold byN; rw [hq]
  rcases hc with hq | hq | hq | hq <;> rw [key _ hq] <;> clear key
  all_goals
    have hq1 : ((i : Int) / 8) = ((i / 8 : Nat) : Int) := by omega
    have hr : ((i : Int) % 8) = ((i % 8 : Nat) : Int) := by omega
    rw [hq] at hq1
    have hr8 : i % 8 < 8 := by omega
    generalize i % 8 = r at *
    have h0 : (0 : Int) ≤ (r : Int) * 8 := by omega
    have h1 : (r : Int) * 8 ≤ 64 := by omega
    clear hq
    go_enter Try.func86, Try.ntmps86
    go_wp2
  · exact bodyPost_ret (v := .int .u8 (((lm a 0 : Nat) : Int) / 2 ^ (r * 8) % 256)) (by simp [results, Try.results86, go_sem]) rfl (Ret.of' rfl (by (repeat (first | with_reducible exact Below.refl _ _ | refine below_gw ?_ (by first | exact Nat.le_refl _ | ((repeat (first | rw [World.size_alloc] | rw [World.size_setCell] | rw [World.size_drew] | rw [gw_size])); first | done | omega)) _ | refine Below.alloc ?_ (by first | exact Nat.le_refl _ | ((repeat (first | rw [World.size_alloc] | rw [World.size_setCell] | rw [World.size_drew] | rw [gw_size])); first | done | omega)) _ | refine Below.setCell ?_ (by first | exact Nat.le_refl _ | ((repeat (first | rw [World.size_alloc] | rw [World.size_setCell] | rw [World.size_drew] | rw [gw_size])); first | done | omega)) _ | refine Below.drew ?_))))
  · exact bodyPost_ret (v := .int .u8 (((lm a 1 : Nat) : Int) / 2 ^ (r * 8) % 256)) (by simp [results, Try.results86, go_sem]) rfl (Ret.of' rfl (by (repeat (first | with_reducible exact Below.refl _ _ | refine below_gw ?_ (by first | exact Nat.le_refl _ | ((repeat (first | rw [World.size_alloc] | rw [World.size_setCell] | rw [World.size_drew] | rw [gw_size])); first | done | omega)) _ | refine Below.alloc ?_ (by first | exact Nat.le_refl _ | ((repeat (first | rw [World.size_alloc] | rw [World.size_setCell] | rw [World.size_drew] | rw [gw_size])); first | done | omega)) _ | refine Below.setCell ?_ (by first | exact Nat.le_refl _ | ((repeat (first | rw [World.size_alloc] | rw [World.size_setCell] | rw [World.size_drew] | rw [gw_size])); first | done | omega)) _ | refine Below.drew ?_))))
  · exact bodyPost_ret (v := .int .u8 (((lm a 2 : Nat) : Int) / 2 ^ (r * 8) % 256)) (by simp [results, Try.results86, go_sem]) rfl (Ret.of' rfl (by (repeat (first | with_reducible exact Below.refl _ _ | refine below_gw ?_ (by first | exact Nat.le_refl _ | ((repeat (first | rw [World.size_alloc] | rw [World.size_setCell] | rw [World.size_drew] | rw [gw_size])); first | done | omega)) _ | refine Below.alloc ?_ (by first | exact Nat.le_refl _ | ((repeat (first | rw [World.size_alloc] | rw [World.size_setCell] | rw [World.size_drew] | rw [gw_size])); first | done | omega)) _ | refine Below.setCell ?_ (by first | exact Nat.le_refl _ | ((repeat (first | rw [World.size_alloc] | rw [World.size_setCell] | rw [World.size_drew] | rw [gw_size])); first | done | omega)) _ | refine Below.drew ?_))))
  · exact bodyPost_ret (v := .int .u8 (((lm a 3 : Nat) : Int) / 2 ^ (r * 8) % 256)) (by simp [results, Try.results86, go_sem]) rfl (Ret.of' rfl (by (repeat (first | with_reducible exact Below.refl _ _ | refine below_gw ?_ (by first | exact Nat.le_refl _ | ((repeat (first | rw [World.size_alloc] | rw [World.size_setCell] | rw [World.size_drew] | rw [gw_size])); first | done | omega)) _ | refine Below.alloc ?_ (by first | exact Nat.le_refl _ | ((repeat (first | rw [World.size_alloc] | rw [World.size_setCell] | rw [World.size_drew] | rw [gw_size])); first | done | omega)) _ | refine Below.setCell ?_ (by first | exact Nat.le_refl _ | ((repeat (first | rw [World.size_alloc] | rw [World.size_setCell] | rw [World.size_drew] | rw [gw_size])); first | done | omega)) _ | refine Below.drew ?_))))
end Go.Proofs.Ytkljpgdcmahenaa
