/-
  Cmp, Scmp, Mul, Div and Sdiv, walked, for all words.
-/
import Derived.Test.YtkljpgdcmahenaaWB
import Derived.Test.YtkljpgdcmahenaaGrow
namespace Go.Proofs.Ytkljpgdcmahenaa
set_option linter.unusedSimpArgs false
set_option linter.unusedVariables false
open Go.RowKit
/-- -1, 0, 1. -/
def cmpI (a b : Nat) : Int := if a = b then 0 else if a < b then -1 else 1
def scmpI (a b : Nat) : Int := if negB a = negB b then cmpI a b else cmpI b a
set_option maxHeartbeats 1000000 in
theorem cmp_any (a b : Nat) (ha : a < W) (hb : b < W) (w : World) : Calls Try.prog 22 #[WV a, WV b] w (Ret w (.int .i64 (cmpI a b))) := by
  by_cases he : a = b
  · have hd : decide (a % W = b % W) = true := by subst he; simp
    have hc : cmpI a b = 0 := by unfold cmpI; rw [if_pos he]
    rw [hc]; clear hc he
    go_enter Try.func22, Try.ntmps22
    go_wp2
    exact bodyPost_ret (v := .int .i64 0) (by simp [results, Try.results22, go_sem]) rfl (Ret.of' rfl (by (repeat (first | with_reducible exact Below.refl _ _ | refine below_gw ?_ (by first | exact Nat.le_refl _ | ((repeat (first | rw [World.size_alloc] | rw [World.size_setCell] | rw [World.size_drew] | rw [gw_size])); first | done | omega)) _ | refine Below.alloc ?_ (by first | exact Nat.le_refl _ | ((repeat (first | rw [World.size_alloc] | rw [World.size_setCell] | rw [World.size_drew] | rw [gw_size])); first | done | omega)) _ | refine Below.setCell ?_ (by first | exact Nat.le_refl _ | ((repeat (first | rw [World.size_alloc] | rw [World.size_setCell] | rw [World.size_drew] | rw [gw_size])); first | done | omega)) _ | refine Below.drew ?_))))
  · have hd : decide (a % W = b % W) = false := by simp [Nat.mod_eq_of_lt ha, Nat.mod_eq_of_lt hb, he]
    by_cases hl : a < b
    · have hs : subB a b = true := by unfold subB; simpa using hl
      have hc : cmpI a b = -1 := by unfold cmpI; rw [if_neg he, if_pos hl]
      rw [hc]; clear hc he hl
      go_enter Try.func22, Try.ntmps22
      go_wp2_with (go_at_call 17; (with_reducible refine calls_ret (sub_any a b ha hb _) ?_); intro p)
      exact bodyPost_ret (v := .int .i64 (-1)) (by simp [results, Try.results22, go_sem]) rfl (Ret.of' rfl (by (repeat (first | with_reducible exact Below.refl _ _ | refine below_gw ?_ (by first | exact Nat.le_refl _ | ((repeat (first | rw [World.size_alloc] | rw [World.size_setCell] | rw [World.size_drew] | rw [gw_size])); first | done | omega)) _ | refine Below.alloc ?_ (by first | exact Nat.le_refl _ | ((repeat (first | rw [World.size_alloc] | rw [World.size_setCell] | rw [World.size_drew] | rw [gw_size])); first | done | omega)) _ | refine Below.setCell ?_ (by first | exact Nat.le_refl _ | ((repeat (first | rw [World.size_alloc] | rw [World.size_setCell] | rw [World.size_drew] | rw [gw_size])); first | done | omega)) _ | refine Below.drew ?_))))
    · have hs : subB a b = false := by unfold subB; simpa using hl
      have hc : cmpI a b = 1 := by unfold cmpI; rw [if_neg he, if_neg hl]
      rw [hc]; clear hc he hl
      go_enter Try.func22, Try.ntmps22
      go_wp2_with (go_at_call 17; (with_reducible refine calls_ret (sub_any a b ha hb _) ?_); intro p)
      exact bodyPost_ret (v := .int .i64 1) (by simp [results, Try.results22, go_sem]) rfl (Ret.of' rfl (by (repeat (first | with_reducible exact Below.refl _ _ | refine below_gw ?_ (by first | exact Nat.le_refl _ | ((repeat (first | rw [World.size_alloc] | rw [World.size_setCell] | rw [World.size_drew] | rw [gw_size])); first | done | omega)) _ | refine Below.alloc ?_ (by first | exact Nat.le_refl _ | ((repeat (first | rw [World.size_alloc] | rw [World.size_setCell] | rw [World.size_drew] | rw [gw_size])); first | done | omega)) _ | refine Below.setCell ?_ (by first | exact Nat.le_refl _ | ((repeat (first | rw [World.size_alloc] | rw [World.size_setCell] | rw [World.size_drew] | rw [gw_size])); first | done | omega)) _ | refine Below.drew ?_))))
theorem neg_any (a : Nat) (h : a < W) (w : World) : Calls Try.prog 66 #[WV a] w (Ret w (.bool (negB a))) := negative_any a h w
set_option maxHeartbeats 1000000 in
theorem scmp_any (a b : Nat) (ha : a < W) (hb : b < W) (w : World) : Calls Try.prog 24 #[WV a, WV b] w (Ret w (.int .i64 (scmpI a b))) := by
  have NA := Lib.hid (fun w => neg_any a ha w)
  have NB := Lib.hid (fun w => neg_any b hb w)
  have hS : scmpI a b = if negB a = negB b then cmpI a b else cmpI b a := rfl
  cases hna : negB a <;> cases hnb : negB b <;> rw [hna, hnb] at hS <;> simp at hS <;> rw [hS] <;> rw [hna] at NA <;> rw [hnb] at NB <;> clear hna hnb hS
  · go_enter Try.func24, Try.ntmps24
    go_wp2
    (refine wp_quiet (by kernel_rfl) (by kernel_rfl) ?_; (repeat (first | go_big_quiet_step (first | (go_at_call 66; first | (with_reducible refine quiet_ret (NA.out _)) | (with_reducible refine quiet_ret2 (NA.out _))) | (go_at_call 66; first | (with_reducible refine quiet_ret (NB.out _)) | (with_reducible refine quiet_ret2 (NB.out _)))) | quiet_step (first | (go_at_call 66; first | (with_reducible refine quiet_ret (NA.out _)) | (with_reducible refine quiet_ret2 (NA.out _))) | (go_at_call 66; first | (with_reducible refine quiet_ret (NB.out _)) | (with_reducible refine quiet_ret2 (NB.out _)))))); refine wpQuiet_nil ?_; intro p)
    go_wp2_with (go_at_call 22; (with_reducible refine calls_ret (cmp_any a b ha hb _) ?_); intro p)
    exact bodyPost_ret (v := .int .i64 (cmpI a b)) (by simp [results, Try.results24, go_sem]) rfl (Ret.of' rfl (by (repeat (first | with_reducible exact Below.refl _ _ | refine below_gw ?_ (by first | exact Nat.le_refl _ | ((repeat (first | rw [World.size_alloc] | rw [World.size_setCell] | rw [World.size_drew] | rw [gw_size])); first | done | omega)) _ | refine Below.alloc ?_ (by first | exact Nat.le_refl _ | ((repeat (first | rw [World.size_alloc] | rw [World.size_setCell] | rw [World.size_drew] | rw [gw_size])); first | done | omega)) _ | refine Below.setCell ?_ (by first | exact Nat.le_refl _ | ((repeat (first | rw [World.size_alloc] | rw [World.size_setCell] | rw [World.size_drew] | rw [gw_size])); first | done | omega)) _ | refine Below.drew ?_))))
  · go_enter Try.func24, Try.ntmps24
    go_wp2
    (refine wp_quiet (by kernel_rfl) (by kernel_rfl) ?_; (repeat (first | go_big_quiet_step (first | (go_at_call 66; first | (with_reducible refine quiet_ret (NA.out _)) | (with_reducible refine quiet_ret2 (NA.out _))) | (go_at_call 66; first | (with_reducible refine quiet_ret (NB.out _)) | (with_reducible refine quiet_ret2 (NB.out _)))) | quiet_step (first | (go_at_call 66; first | (with_reducible refine quiet_ret (NA.out _)) | (with_reducible refine quiet_ret2 (NA.out _))) | (go_at_call 66; first | (with_reducible refine quiet_ret (NB.out _)) | (with_reducible refine quiet_ret2 (NB.out _)))))); refine wpQuiet_nil ?_; intro p)
    go_wp2_with (go_at_call 22; (with_reducible refine calls_ret (cmp_any b a hb ha _) ?_); intro p)
    exact bodyPost_ret (v := .int .i64 (cmpI b a)) (by simp [results, Try.results24, go_sem]) rfl (Ret.of' rfl (by (repeat (first | with_reducible exact Below.refl _ _ | refine below_gw ?_ (by first | exact Nat.le_refl _ | ((repeat (first | rw [World.size_alloc] | rw [World.size_setCell] | rw [World.size_drew] | rw [gw_size])); first | done | omega)) _ | refine Below.alloc ?_ (by first | exact Nat.le_refl _ | ((repeat (first | rw [World.size_alloc] | rw [World.size_setCell] | rw [World.size_drew] | rw [gw_size])); first | done | omega)) _ | refine Below.setCell ?_ (by first | exact Nat.le_refl _ | ((repeat (first | rw [World.size_alloc] | rw [World.size_setCell] | rw [World.size_drew] | rw [gw_size])); first | done | omega)) _ | refine Below.drew ?_))))
  · go_enter Try.func24, Try.ntmps24
    go_wp2
    (refine wp_quiet (by kernel_rfl) (by kernel_rfl) ?_; (repeat (first | go_big_quiet_step (first | (go_at_call 66; first | (with_reducible refine quiet_ret (NA.out _)) | (with_reducible refine quiet_ret2 (NA.out _))) | (go_at_call 66; first | (with_reducible refine quiet_ret (NB.out _)) | (with_reducible refine quiet_ret2 (NB.out _)))) | quiet_step (first | (go_at_call 66; first | (with_reducible refine quiet_ret (NA.out _)) | (with_reducible refine quiet_ret2 (NA.out _))) | (go_at_call 66; first | (with_reducible refine quiet_ret (NB.out _)) | (with_reducible refine quiet_ret2 (NB.out _)))))); refine wpQuiet_nil ?_; intro p)
    go_wp2_with (go_at_call 22; (with_reducible refine calls_ret (cmp_any b a hb ha _) ?_); intro p)
    exact bodyPost_ret (v := .int .i64 (cmpI b a)) (by simp [results, Try.results24, go_sem]) rfl (Ret.of' rfl (by (repeat (first | with_reducible exact Below.refl _ _ | refine below_gw ?_ (by first | exact Nat.le_refl _ | ((repeat (first | rw [World.size_alloc] | rw [World.size_setCell] | rw [World.size_drew] | rw [gw_size])); first | done | omega)) _ | refine Below.alloc ?_ (by first | exact Nat.le_refl _ | ((repeat (first | rw [World.size_alloc] | rw [World.size_setCell] | rw [World.size_drew] | rw [gw_size])); first | done | omega)) _ | refine Below.setCell ?_ (by first | exact Nat.le_refl _ | ((repeat (first | rw [World.size_alloc] | rw [World.size_setCell] | rw [World.size_drew] | rw [gw_size])); first | done | omega)) _ | refine Below.drew ?_))))
  · go_enter Try.func24, Try.ntmps24
    go_wp2
    (refine wp_quiet (by kernel_rfl) (by kernel_rfl) ?_; (repeat (first | go_big_quiet_step (first | (go_at_call 66; first | (with_reducible refine quiet_ret (NA.out _)) | (with_reducible refine quiet_ret2 (NA.out _))) | (go_at_call 66; first | (with_reducible refine quiet_ret (NB.out _)) | (with_reducible refine quiet_ret2 (NB.out _)))) | quiet_step (first | (go_at_call 66; first | (with_reducible refine quiet_ret (NA.out _)) | (with_reducible refine quiet_ret2 (NA.out _))) | (go_at_call 66; first | (with_reducible refine quiet_ret (NB.out _)) | (with_reducible refine quiet_ret2 (NB.out _)))))); refine wpQuiet_nil ?_; intro p)
    go_wp2_with (go_at_call 22; (with_reducible refine calls_ret (cmp_any a b ha hb _) ?_); intro p)
    exact bodyPost_ret (v := .int .i64 (cmpI a b)) (by simp [results, Try.results24, go_sem]) rfl (Ret.of' rfl (by (repeat (first | with_reducible exact Below.refl _ _ | refine below_gw ?_ (by first | exact Nat.le_refl _ | ((repeat (first | rw [World.size_alloc] | rw [World.size_setCell] | rw [World.size_drew] | rw [gw_size])); first | done | omega)) _ | refine Below.alloc ?_ (by first | exact Nat.le_refl _ | ((repeat (first | rw [World.size_alloc] | rw [World.size_setCell] | rw [World.size_drew] | rw [gw_size])); first | done | omega)) _ | refine Below.setCell ?_ (by first | exact Nat.le_refl _ | ((repeat (first | rw [World.size_alloc] | rw [World.size_setCell] | rw [World.size_drew] | rw [gw_size])); first | done | omega)) _ | refine Below.drew ?_))))
theorem mul_lt {a b : Nat} (ha : a < W) (hb : b < W) : a * b < Bp 8 := by
  rw [show Bp 8 = W * W from rfl]
  exact Nat.mul_lt_mul_of_lt_of_le ha (Nat.le_of_lt hb) W_pos
attribute [local go_sem] arrayAt4
set_option maxHeartbeats 1000000 in
theorem mul_any (a b : Nat) (ha : a < W) (hb : b < W) (w : World) :
    Calls Try.prog 19 #[WV a, WV b] w (Ret w (.tuple #[WV (mulN a b), .bool (mulB a b)])) := by
  have hT : decide ((4 : Int) < (topN (U8 (a * b)) 8 : Nat)) = mulB a b := by
    unfold mulB
    have hv := val_limbs (a * b)
    rw [Nat.mod_eq_of_lt (mul_lt ha hb)] at hv
    have h8 := topN_val (Ok_U8 (a * b)) (n := topN (U8 (a * b)) 8) rfl
    rw [show val (U8 (a * b)) = a * b from hv] at h8
    have h9 := topN_top (U8 (a * b)) 8
    have hle := topN_le (U8 (a * b)) 8
    rw [decide_eq_decide]
    constructor
    · intro h
      generalize topN (U8 (a * b)) 8 = t at *
      have h10 := h9 (by omega)
      rw [show W = Bp 4 from rfl]
      have h11 : lm (a * b) (t - 1) ≠ 0 := by rw [← getD_U8 _ _ (by omega)]; exact h10
      apply Nat.le_of_not_lt
      intro hlt
      exact h11 (by
        rw [lm_eq_mod, Nat.div_eq_of_lt, Nat.zero_mod]
        exact Nat.lt_of_lt_of_le hlt (by unfold Bp; exact Nat.pow_le_pow_right (by decide) (by omega)))
    · intro h
      generalize topN (U8 (a * b)) 8 = t at *
      apply Classical.byContradiction
      intro hn
      have : Bp t ≤ Bp 4 := by unfold Bp; exact Nat.pow_le_pow_right (by decide) (by omega)
      rw [show W = Bp 4 from rfl] at h
      omega
  have HL8 := Lib.hid (show ∀ b' c t w, Arr w b' (U8 (a * b)) t → Calls Try.prog 63 #[SlV b' 0 8 c] w (Ret w (.int .i64 (topN (U8 (a * b)) 8 : Nat))) from fun b' c t w hA => length_any (U8 (a * b)) b' c t w hA (by simp))
  have HP := Lib.hid (product_any a b ha hb)
  unfold mulN; rw [WV_mod]
  clear ha hb
  generalize mulB a b = mb at *
  generalize a * b = ab at *
  go_enter Try.func19, Try.ntmps19
  go_wp2_with (go_at_call 62; (with_reducible refine calls_ret (HP.out _) ?_); intro p)
  (refine wp_quiet_tail 6 (by kernel_rfl) (by kernel_rfl) (by intro c a d u w h; cases d <;> exact h) ?_; simp only [List.take_succ_cons, List.take_zero, List.drop_succ_cons, List.drop_zero]; (repeat (first | go_big_quiet_step ((go_at_call 63; first | (refine quiet_ret (HL8.out _ _ 55 _ ?_); (repeat (first | (refine arr_at _ _ _ _ ?_ rfl; first | rfl | (simp only [World.size_alloc, World.size_setCell, gw_size]; done)) | refine arr_past ?_ _ | refine gw_arr ?_ _))) | (refine quiet_ret2 (HL8.out _ _ 55 _ ?_); (repeat (first | (refine arr_at _ _ _ _ ?_ rfl; first | rfl | (simp only [World.size_alloc, World.size_setCell, gw_size]; done)) | refine arr_past ?_ _ | refine gw_arr ?_ _))))) | quiet_step ((go_at_call 63; first | (refine quiet_ret (HL8.out _ _ 55 _ ?_); (repeat (first | (refine arr_at _ _ _ _ ?_ rfl; first | rfl | (simp only [World.size_alloc, World.size_setCell, gw_size]; done)) | refine arr_past ?_ _ | refine gw_arr ?_ _))) | (refine quiet_ret2 (HL8.out _ _ 55 _ ?_); (repeat (first | (refine arr_at _ _ _ _ ?_ rfl; first | rfl | (simp only [World.size_alloc, World.size_setCell, gw_size]; done)) | refine arr_past ?_ _ | refine gw_arr ?_ _))))))); refine wpQuiet_nil ?_; intro p)
  go_wp2
  exact bodyPost_ret (v := .tuple #[WV ab, .bool mb]) (by simp [results, Try.results19, go_sem]) rfl (Ret.of' rfl (by (repeat (first | with_reducible exact Below.refl _ _ | refine below_gw ?_ (by first | exact Nat.le_refl _ | ((repeat (first | rw [World.size_alloc] | rw [World.size_setCell] | rw [World.size_drew] | rw [gw_size])); first | done | omega)) _ | refine Below.alloc ?_ (by first | exact Nat.le_refl _ | ((repeat (first | rw [World.size_alloc] | rw [World.size_setCell] | rw [World.size_drew] | rw [gw_size])); first | done | omega)) _ | refine Below.setCell ?_ (by first | exact Nat.le_refl _ | ((repeat (first | rw [World.size_alloc] | rw [World.size_setCell] | rw [World.size_drew] | rw [gw_size])); first | done | omega)) _ | refine Below.drew ?_))))
set_option maxHeartbeats 1000000 in
theorem div_any (a b : Nat) (ha : a < W) (hb : b < W) (w : World) :
    Calls Try.prog 26 #[WV a, WV b] w (Ret w (.tuple #[WV (a / b), WV (rstN a b)])) := by
  have h8 : a < Bp 8 := Nat.lt_of_lt_of_le ha (by rw [show W = Bp 4 from rfl]; unfold Bp; exact Nat.pow_le_pow_right (by decide) (by decide))
  go_enter Try.func26, Try.ntmps26
  go_wp2
  (refine wp_quiet_tail 6 (by kernel_rfl) (by kernel_rfl) (by intro c a d u w h; cases d <;> exact h) ?_; simp only [List.take_succ_cons, List.take_zero, List.drop_succ_cons, List.drop_zero]; (repeat (first | go_big_quiet_step (first | (go_at_call 69; first | (with_reducible refine quiet_ret (widen_any a ha _)) | (with_reducible refine quiet_ret2 (widen_any a ha _))) | (go_at_call 68; first | (with_reducible refine quiet_ret (divide_all a b h8 hb _)) | (with_reducible refine quiet_ret2 (divide_all a b h8 hb _)))) | quiet_step (first | (go_at_call 69; first | (with_reducible refine quiet_ret (widen_any a ha _)) | (with_reducible refine quiet_ret2 (widen_any a ha _))) | (go_at_call 68; first | (with_reducible refine quiet_ret (divide_all a b h8 hb _)) | (with_reducible refine quiet_ret2 (divide_all a b h8 hb _)))))); refine wpQuiet_nil ?_; intro p)
  go_wp2
  exact bodyPost_ret (v := .tuple #[WV (a / b), WV (rstN a b)]) (by simp [results, Try.results26, go_sem]) rfl (Ret.of' rfl (by (repeat (first | with_reducible exact Below.refl _ _ | refine below_gw ?_ (by first | exact Nat.le_refl _ | ((repeat (first | rw [World.size_alloc] | rw [World.size_setCell] | rw [World.size_drew] | rw [gw_size])); first | done | omega)) _ | refine Below.alloc ?_ (by first | exact Nat.le_refl _ | ((repeat (first | rw [World.size_alloc] | rw [World.size_setCell] | rw [World.size_drew] | rw [gw_size])); first | done | omega)) _ | refine Below.setCell ?_ (by first | exact Nat.le_refl _ | ((repeat (first | rw [World.size_alloc] | rw [World.size_setCell] | rw [World.size_drew] | rw [gw_size])); first | done | omega)) _ | refine Below.drew ?_))))
/-- Turned about, if it is below 0. -/
def flipN (a : Nat) (n : Bool) : Nat := if n = true then subN 0 a else a
theorem flipN_lt {a : Nat} (n : Bool) (h : a < W) : flipN a n < W := by unfold flipN; split; exact subN_lt _ _; exact h
theorem WV_zero : WV 0 = .agg #[.int .u64 0, .int .u64 0, .int .u64 0, .int .u64 0] := WV_small (n := 0) (by decide)
set_option maxHeartbeats 1000000 in
theorem flip_any (a : Nat) (n : Bool) (ha : a < W) (w : World) : Calls Try.prog 72 #[WV a, .bool n] w (Ret w (WV (flipN a n))) := by
  have hs := Lib.hid (fun w => sub_any 0 a W_pos ha w)
  rw [WV_zero] at hs
  cases n
  · have e : flipN a false = a := rfl
    rw [e]
    go_enter Try.func72, Try.ntmps72
    go_wp2
    exact bodyPost_ret (v := WV a) (by simp [results, Try.results72, go_sem]) rfl (Ret.of' rfl (by (repeat (first | with_reducible exact Below.refl _ _ | refine below_gw ?_ (by first | exact Nat.le_refl _ | ((repeat (first | rw [World.size_alloc] | rw [World.size_setCell] | rw [World.size_drew] | rw [gw_size])); first | done | omega)) _ | refine Below.alloc ?_ (by first | exact Nat.le_refl _ | ((repeat (first | rw [World.size_alloc] | rw [World.size_setCell] | rw [World.size_drew] | rw [gw_size])); first | done | omega)) _ | refine Below.setCell ?_ (by first | exact Nat.le_refl _ | ((repeat (first | rw [World.size_alloc] | rw [World.size_setCell] | rw [World.size_drew] | rw [gw_size])); first | done | omega)) _ | refine Below.drew ?_))))
  · have e : flipN a true = subN 0 a := rfl
    rw [e]
    go_enter Try.func72, Try.ntmps72
    go_wp2_with (go_at_call 17; (with_reducible refine calls_ret (hs.out _) ?_); intro p)
    exact bodyPost_ret (v := WV (subN 0 a)) (by simp [results, Try.results72, go_sem]) rfl (Ret.of' rfl (by (repeat (first | with_reducible exact Below.refl _ _ | refine below_gw ?_ (by first | exact Nat.le_refl _ | ((repeat (first | rw [World.size_alloc] | rw [World.size_setCell] | rw [World.size_drew] | rw [gw_size])); first | done | omega)) _ | refine Below.alloc ?_ (by first | exact Nat.le_refl _ | ((repeat (first | rw [World.size_alloc] | rw [World.size_setCell] | rw [World.size_drew] | rw [gw_size])); first | done | omega)) _ | refine Below.setCell ?_ (by first | exact Nat.le_refl _ | ((repeat (first | rw [World.size_alloc] | rw [World.size_setCell] | rw [World.size_drew] | rw [gw_size])); first | done | omega)) _ | refine Below.drew ?_))))
def sdQ (a b : Nat) : Nat := flipN (flipN a (negB a) / flipN b (negB b)) (!negB a == negB b)
def sdR (a b : Nat) : Nat := flipN (rstN (flipN a (negB a)) (flipN b (negB b))) (negB a)
theorem rstN_lt {a : Nat} (b : Nat) (h : a < W) : rstN a b < W := by unfold rstN; split; exact W_pos; exact Nat.lt_of_le_of_lt (Nat.mod_le _ _) h
theorem divN_lt {a : Nat} (b : Nat) (h : a < W) : a / b < W := Nat.lt_of_le_of_lt (Nat.div_le_self _ _) h
set_option maxHeartbeats 1000000 in
theorem sdiv_any (a b : Nat) (ha : a < W) (hb : b < W) (w : World) :
    Calls Try.prog 28 #[WV a, WV b] w (Ret w (.tuple #[WV (sdQ a b), WV (sdR a b)])) := by
  have d1 := flipN_lt (negB a) ha
  have d2 := flipN_lt (negB b) hb
  have NA := Lib.hid (fun w => neg_any a ha w)
  have NB := Lib.hid (fun w => neg_any b hb w)
  have FA := Lib.hid (fun w => flip_any a (negB a) ha w)
  have FB := Lib.hid (fun w => flip_any b (negB b) hb w)
  have DV := Lib.hid (fun w => div_any _ _ d1 d2 w)
  unfold sdQ sdR
  have FQ := Lib.hid (fun w => flip_any (flipN a (negB a) / flipN b (negB b)) (!negB a == negB b) (divN_lt _ d1) w)
  have FR := Lib.hid (fun w => flip_any (rstN (flipN a (negB a)) (flipN b (negB b))) (negB a) (rstN_lt _ d1) w)
  generalize flipN a (negB a) = a' at *
  generalize flipN b (negB b) = b' at *
  generalize negB a = na at *
  generalize negB b = nb at *
  generalize a' / b' = q at *
  generalize rstN a' b' = r at *
  clear d1 d2
  go_enter Try.func28, Try.ntmps28
  go_wp2
  (refine wp_grow 14 16 (fun _ => .cells #[.int .u64 0, .int .u64 0, .int .u64 0, .int .u64 0] 24) (by kernel_rfl) (by kernel_rfl) (by intro c a d u w h; cases d <;> exact h) (by intro j h1 h2; obtain rfl | rfl : j = 14 ∨ j = 15 := (by omega) <;> exact ⟨_, rfl, rfl, rfl, rfl, fun _ _ => by first | go_simp | (simp only [go_sem]; go_simp)⟩) ?_; simp only [List.take_succ_cons, List.take_zero, List.drop_succ_cons, List.drop_zero]; (repeat (refine wpExt_step (fun K hK => ?_); go_simp; first | (refine hK _ ?_; clear hK K) | (apply Exists.intro; refine ⟨fun _ => ?_, hK _ ?_⟩; (first | (go_at_call 66; with_reducible exact NA.out _) | (go_at_call 66; with_reducible exact NB.out _) | (go_at_call 72; with_reducible exact FA.out _) | (go_at_call 72; with_reducible exact FB.out _) | (go_at_call 26; with_reducible exact DV.out _)); clear hK K))); refine wpExt_nil ?_; go_simp; refine wpAl_two ?_ ?_ <;> (intros; go_simp))
  all_goals
    go_wp2
    (refine wp_quiet_tail 13 (by kernel_rfl) (by kernel_rfl) (by intro c a d u w h; cases d <;> exact h) ?_; simp only [List.take_succ_cons, List.take_zero, List.drop_succ_cons, List.drop_zero]; (repeat (first | go_big_quiet_step (first | (go_at_call 66; first | (with_reducible refine quiet_ret (NA.out _)) | (with_reducible refine quiet_ret2 (NA.out _))) | (go_at_call 66; first | (with_reducible refine quiet_ret (NB.out _)) | (with_reducible refine quiet_ret2 (NB.out _))) | (go_at_call 72; first | (with_reducible refine quiet_ret (FQ.out _)) | (with_reducible refine quiet_ret2 (FQ.out _))) | (go_at_call 72; first | (with_reducible refine quiet_ret (FR.out _)) | (with_reducible refine quiet_ret2 (FR.out _)))) | quiet_step (first | (go_at_call 66; first | (with_reducible refine quiet_ret (NA.out _)) | (with_reducible refine quiet_ret2 (NA.out _))) | (go_at_call 66; first | (with_reducible refine quiet_ret (NB.out _)) | (with_reducible refine quiet_ret2 (NB.out _))) | (go_at_call 72; first | (with_reducible refine quiet_ret (FQ.out _)) | (with_reducible refine quiet_ret2 (FQ.out _))) | (go_at_call 72; first | (with_reducible refine quiet_ret (FR.out _)) | (with_reducible refine quiet_ret2 (FR.out _)))))); refine wpQuiet_nil ?_; intro p)
    go_wp2
    exact bodyPost_ret (v := .tuple #[WV (flipN q (!na == nb)), WV (flipN r na)]) (by simp [results, Try.results28, go_sem]) rfl (Ret.of' rfl (by (repeat (first | with_reducible exact Below.refl _ _ | refine below_gw ?_ (by first | exact Nat.le_refl _ | ((repeat (first | rw [World.size_alloc] | rw [World.size_setCell] | rw [World.size_drew] | rw [gw_size])); first | done | omega)) _ | refine Below.alloc ?_ (by first | exact Nat.le_refl _ | ((repeat (first | rw [World.size_alloc] | rw [World.size_setCell] | rw [World.size_drew] | rw [gw_size])); first | done | omega)) _ | refine Below.setCell ?_ (by first | exact Nat.le_refl _ | ((repeat (first | rw [World.size_alloc] | rw [World.size_setCell] | rw [World.size_drew] | rw [gw_size])); first | done | omega)) _ | refine Below.drew ?_))))
end Go.Proofs.Ytkljpgdcmahenaa
