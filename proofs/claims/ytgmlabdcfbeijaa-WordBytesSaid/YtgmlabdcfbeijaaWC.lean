/-
  Cmp, Scmp, Mul, Div and Sdiv, walked, for all words.
-/
import Derived.Test.YtgmlabdcfbeijaaWA
import Derived.Test.YtgmlabdcfbeijaaGrow
namespace Go.Proofs.Ytgmlabdcfbeijaa
set_option linter.unusedSimpArgs false
set_option linter.unusedVariables false
open Go.RowKit
/-- -1, 0, 1. -/
def cmpI (a b : Nat) : Int := if a = b then 0 else if a < b then -1 else 1
def scmpI (a b : Nat) : Int := if negB a = negB b then cmpI a b else cmpI b a
theorem neg_any (a : Nat) (h : a < W) (w : World) : Calls Try.prog 50 #[WV a] w (Ret w (.bool (negB a))) := negative_any a h w
theorem mul_lt {a b : Nat} (ha : a < W) (hb : b < W) : a * b < Bp 8 := by
  rw [show Bp 8 = W * W from rfl]
  exact Nat.mul_lt_mul_of_lt_of_le ha (Nat.le_of_lt hb) W_pos
attribute [local go_sem] arrayAt4
set_option maxHeartbeats 1000000 in
theorem mul_any (a b : Nat) (ha : a < W) (hb : b < W) (w : World) :
    Calls Try.prog 59 #[WV a, WV b] w (Ret w (.tuple #[WV (mulN a b), .bool (mulB a b)])) := by
  have hT : decide ((4 : Int) < (topN (U8 (a * b)) 8 : Nat)) = mulB a b := by
    unfold mulB
    have hv := val_limbs (a * b)
    rw [Nat.mod_eq_of_lt (mul_lt ha hb)] at hv
    have h8 := topN_val (Ok_U8 (a * b)) (n := topN (U8 (a * b)) 8) rfl
    rw [show val (U8 (a * b)) = a * b from hv] at h8
    have h9 := topN_top (U8 (a * b)) 8
    have hle := topN_le (U8 (a * b)) 8
    rw [decide_eq_decide]
    constructor
    · intro h
      generalize topN (U8 (a * b)) 8 = t at *
      have h10 := h9 (by omega)
      rw [show W = Bp 4 from rfl]
      have h11 : lm (a * b) (t - 1) ≠ 0 := by rw [← getD_U8 _ _ (by omega)]; exact h10
      apply Nat.le_of_not_lt
      intro hlt
      exact h11 (by
        rw [lm_eq_mod, Nat.div_eq_of_lt, Nat.zero_mod]
        exact Nat.lt_of_lt_of_le hlt (by unfold Bp; exact Nat.pow_le_pow_right (by decide) (by omega)))
    · intro h
      generalize topN (U8 (a * b)) 8 = t at *
      apply Classical.byContradiction
      intro hn
      have : Bp t ≤ Bp 4 := by unfold Bp; exact Nat.pow_le_pow_right (by decide) (by omega)
      rw [show W = Bp 4 from rfl] at h
      omega
  have HL8 := Lib.hid (show ∀ b' c t w, Arr w b' (U8 (a * b)) t → Calls Try.prog 58 #[SlV b' 0 8 c] w (Ret w (.int .i64 (topN (U8 (a * b)) 8 : Nat))) from fun b' c t w hA => length_any (U8 (a * b)) b' c t w hA (by simp))
  have HP := Lib.hid (product_any a b ha hb)
  unfold mulN; rw [WV_mod]
  clear ha hb
  generalize mulB a b = mb at *
  generalize a * b = ab at *
  go_enter Try.func59, Try.ntmps59
  go_wp2_with (go_at_call 57; (with_reducible refine calls_ret (HP.out _) ?_); intro p)
  (refine wp_quiet_tail 6 (by kernel_rfl) (by kernel_rfl) (by intro c a d u w h; cases d <;> exact h) ?_; simp only [List.take_succ_cons, List.take_zero, List.drop_succ_cons, List.drop_zero]; (repeat (first | go_big_quiet_step ((go_at_call 58; first | (refine quiet_ret (HL8.out _ _ 46 _ ?_); (repeat (first | (refine arr_at _ _ _ _ ?_ rfl; first | rfl | (simp only [World.size_alloc, World.size_setCell, gw_size]; done)) | refine arr_past ?_ _ | refine gw_arr ?_ _))) | (refine quiet_ret2 (HL8.out _ _ 46 _ ?_); (repeat (first | (refine arr_at _ _ _ _ ?_ rfl; first | rfl | (simp only [World.size_alloc, World.size_setCell, gw_size]; done)) | refine arr_past ?_ _ | refine gw_arr ?_ _))))) | quiet_step ((go_at_call 58; first | (refine quiet_ret (HL8.out _ _ 46 _ ?_); (repeat (first | (refine arr_at _ _ _ _ ?_ rfl; first | rfl | (simp only [World.size_alloc, World.size_setCell, gw_size]; done)) | refine arr_past ?_ _ | refine gw_arr ?_ _))) | (refine quiet_ret2 (HL8.out _ _ 46 _ ?_); (repeat (first | (refine arr_at _ _ _ _ ?_ rfl; first | rfl | (simp only [World.size_alloc, World.size_setCell, gw_size]; done)) | refine arr_past ?_ _ | refine gw_arr ?_ _))))))); refine wpQuiet_nil ?_; intro p)
  go_wp2
  exact bodyPost_ret (v := .tuple #[WV ab, .bool mb]) (by simp [results, Try.results59, go_sem]) rfl (Ret.of' rfl (by (repeat (first | with_reducible exact Below.refl _ _ | refine below_gw ?_ (by first | exact Nat.le_refl _ | ((repeat (first | rw [World.size_alloc] | rw [World.size_setCell] | rw [World.size_drew] | rw [gw_size])); first | done | omega)) _ | refine Below.alloc ?_ (by first | exact Nat.le_refl _ | ((repeat (first | rw [World.size_alloc] | rw [World.size_setCell] | rw [World.size_drew] | rw [gw_size])); first | done | omega)) _ | refine Below.setCell ?_ (by first | exact Nat.le_refl _ | ((repeat (first | rw [World.size_alloc] | rw [World.size_setCell] | rw [World.size_drew] | rw [gw_size])); first | done | omega)) _ | refine Below.drew ?_))))
set_option maxHeartbeats 1000000 in
theorem div_any (a b : Nat) (ha : a < W) (hb : b < W) (w : World) :
    Calls Try.prog 8 #[WV a, WV b] w (Ret w (.tuple #[WV (a / b), WV (rstN a b)])) := by
  have h8 : a < Bp 8 := Nat.lt_of_lt_of_le ha (by rw [show W = Bp 4 from rfl]; unfold Bp; exact Nat.pow_le_pow_right (by decide) (by decide))
  go_enter Try.func8, Try.ntmps8
  go_wp2
  (refine wp_quiet_tail 6 (by kernel_rfl) (by kernel_rfl) (by intro c a d u w h; cases d <;> exact h) ?_; simp only [List.take_succ_cons, List.take_zero, List.drop_succ_cons, List.drop_zero]; (repeat (first | go_big_quiet_step (first | (go_at_call 43; first | (with_reducible refine quiet_ret (widen_any a ha _)) | (with_reducible refine quiet_ret2 (widen_any a ha _))) | (go_at_call 42; first | (with_reducible refine quiet_ret (divide_all a b h8 hb _)) | (with_reducible refine quiet_ret2 (divide_all a b h8 hb _)))) | quiet_step (first | (go_at_call 43; first | (with_reducible refine quiet_ret (widen_any a ha _)) | (with_reducible refine quiet_ret2 (widen_any a ha _))) | (go_at_call 42; first | (with_reducible refine quiet_ret (divide_all a b h8 hb _)) | (with_reducible refine quiet_ret2 (divide_all a b h8 hb _)))))); refine wpQuiet_nil ?_; intro p)
  go_wp2
  exact bodyPost_ret (v := .tuple #[WV (a / b), WV (rstN a b)]) (by simp [results, Try.results8, go_sem]) rfl (Ret.of' rfl (by (repeat (first | with_reducible exact Below.refl _ _ | refine below_gw ?_ (by first | exact Nat.le_refl _ | ((repeat (first | rw [World.size_alloc] | rw [World.size_setCell] | rw [World.size_drew] | rw [gw_size])); first | done | omega)) _ | refine Below.alloc ?_ (by first | exact Nat.le_refl _ | ((repeat (first | rw [World.size_alloc] | rw [World.size_setCell] | rw [World.size_drew] | rw [gw_size])); first | done | omega)) _ | refine Below.setCell ?_ (by first | exact Nat.le_refl _ | ((repeat (first | rw [World.size_alloc] | rw [World.size_setCell] | rw [World.size_drew] | rw [gw_size])); first | done | omega)) _ | refine Below.drew ?_))))
/-- Turned about, if it is below 0. -/
def flipN (a : Nat) (n : Bool) : Nat := if n = true then subN 0 a else a
theorem flipN_lt {a : Nat} (n : Bool) (h : a < W) : flipN a n < W := by unfold flipN; split; exact subN_lt _ _; exact h
theorem WV_zero : WV 0 = .agg #[.int .u64 0, .int .u64 0, .int .u64 0, .int .u64 0] := WV_small (n := 0) (by decide)
set_option maxHeartbeats 1000000 in
theorem flip_any (a : Nat) (n : Bool) (ha : a < W) (w : World) : Calls Try.prog 48 #[WV a, .bool n] w (Ret w (WV (flipN a n))) := by
  have hs := Lib.hid (fun w => sub_any 0 a W_pos ha w)
  rw [WV_zero] at hs
  cases n
  · have e : flipN a false = a := rfl
    rw [e]
    go_enter Try.func48, Try.ntmps48
    go_wp2
    exact bodyPost_ret (v := WV a) (by simp [results, Try.results48, go_sem]) rfl (Ret.of' rfl (by (repeat (first | with_reducible exact Below.refl _ _ | refine below_gw ?_ (by first | exact Nat.le_refl _ | ((repeat (first | rw [World.size_alloc] | rw [World.size_setCell] | rw [World.size_drew] | rw [gw_size])); first | done | omega)) _ | refine Below.alloc ?_ (by first | exact Nat.le_refl _ | ((repeat (first | rw [World.size_alloc] | rw [World.size_setCell] | rw [World.size_drew] | rw [gw_size])); first | done | omega)) _ | refine Below.setCell ?_ (by first | exact Nat.le_refl _ | ((repeat (first | rw [World.size_alloc] | rw [World.size_setCell] | rw [World.size_drew] | rw [gw_size])); first | done | omega)) _ | refine Below.drew ?_))))
  · have e : flipN a true = subN 0 a := rfl
    rw [e]
    go_enter Try.func48, Try.ntmps48
    go_wp2_with (go_at_call 49; (with_reducible refine calls_ret (hs.out _) ?_); intro p)
    exact bodyPost_ret (v := WV (subN 0 a)) (by simp [results, Try.results48, go_sem]) rfl (Ret.of' rfl (by (repeat (first | with_reducible exact Below.refl _ _ | refine below_gw ?_ (by first | exact Nat.le_refl _ | ((repeat (first | rw [World.size_alloc] | rw [World.size_setCell] | rw [World.size_drew] | rw [gw_size])); first | done | omega)) _ | refine Below.alloc ?_ (by first | exact Nat.le_refl _ | ((repeat (first | rw [World.size_alloc] | rw [World.size_setCell] | rw [World.size_drew] | rw [gw_size])); first | done | omega)) _ | refine Below.setCell ?_ (by first | exact Nat.le_refl _ | ((repeat (first | rw [World.size_alloc] | rw [World.size_setCell] | rw [World.size_drew] | rw [gw_size])); first | done | omega)) _ | refine Below.drew ?_))))
def sdQ (a b : Nat) : Nat := flipN (flipN a (negB a) / flipN b (negB b)) (!negB a == negB b)
def sdR (a b : Nat) : Nat := flipN (rstN (flipN a (negB a)) (flipN b (negB b))) (negB a)
theorem rstN_lt {a : Nat} (b : Nat) (h : a < W) : rstN a b < W := by unfold rstN; split; exact W_pos; exact Nat.lt_of_le_of_lt (Nat.mod_le _ _) h
theorem divN_lt {a : Nat} (b : Nat) (h : a < W) : a / b < W := Nat.lt_of_le_of_lt (Nat.div_le_self _ _) h
set_option maxHeartbeats 1000000 in
theorem sdiv_any (a b : Nat) (ha : a < W) (hb : b < W) (w : World) :
    Calls Try.prog 10 #[WV a, WV b] w (Ret w (.tuple #[WV (sdQ a b), WV (sdR a b)])) := by
  have d1 := flipN_lt (negB a) ha
  have d2 := flipN_lt (negB b) hb
  have NA := Lib.hid (fun w => neg_any a ha w)
  have NB := Lib.hid (fun w => neg_any b hb w)
  have FA := Lib.hid (fun w => flip_any a (negB a) ha w)
  have FB := Lib.hid (fun w => flip_any b (negB b) hb w)
  have DV := Lib.hid (fun w => div_any _ _ d1 d2 w)
  unfold sdQ sdR
  have FQ := Lib.hid (fun w => flip_any (flipN a (negB a) / flipN b (negB b)) (!negB a == negB b) (divN_lt _ d1) w)
  have FR := Lib.hid (fun w => flip_any (rstN (flipN a (negB a)) (flipN b (negB b))) (negB a) (rstN_lt _ d1) w)
  generalize flipN a (negB a) = a' at *
  generalize flipN b (negB b) = b' at *
  generalize negB a = na at *
  generalize negB b = nb at *
  generalize a' / b' = q at *
  generalize rstN a' b' = r at *
  clear d1 d2
  go_enter Try.func10, Try.ntmps10
  go_wp2
  (refine wp_grow 14 16 (fun _ => .cells #[.int .u64 0, .int .u64 0, .int .u64 0, .int .u64 0] 24) (by kernel_rfl) (by kernel_rfl) (by intro c a d u w h; cases d <;> exact h) (by intro j h1 h2; obtain rfl | rfl : j = 14 ∨ j = 15 := (by omega) <;> exact ⟨_, rfl, rfl, rfl, rfl, fun _ _ => by first | go_simp | (simp only [go_sem]; go_simp)⟩) ?_; simp only [List.take_succ_cons, List.take_zero, List.drop_succ_cons, List.drop_zero]; (repeat (refine wpExt_step (fun K hK => ?_); go_simp; first | (refine hK _ ?_; clear hK K) | (apply Exists.intro; refine ⟨fun _ => ?_, hK _ ?_⟩; (first | (go_at_call 50; with_reducible exact NA.out _) | (go_at_call 50; with_reducible exact NB.out _) | (go_at_call 48; with_reducible exact FA.out _) | (go_at_call 48; with_reducible exact FB.out _) | (go_at_call 8; with_reducible exact DV.out _)); clear hK K))); refine wpExt_nil ?_; go_simp; refine wpAl_two ?_ ?_ <;> (intros; go_simp))
  all_goals
    go_wp2
    (refine wp_quiet_tail 13 (by kernel_rfl) (by kernel_rfl) (by intro c a d u w h; cases d <;> exact h) ?_; simp only [List.take_succ_cons, List.take_zero, List.drop_succ_cons, List.drop_zero]; (repeat (first | go_big_quiet_step (first | (go_at_call 50; first | (with_reducible refine quiet_ret (NA.out _)) | (with_reducible refine quiet_ret2 (NA.out _))) | (go_at_call 50; first | (with_reducible refine quiet_ret (NB.out _)) | (with_reducible refine quiet_ret2 (NB.out _))) | (go_at_call 48; first | (with_reducible refine quiet_ret (FQ.out _)) | (with_reducible refine quiet_ret2 (FQ.out _))) | (go_at_call 48; first | (with_reducible refine quiet_ret (FR.out _)) | (with_reducible refine quiet_ret2 (FR.out _)))) | quiet_step (first | (go_at_call 50; first | (with_reducible refine quiet_ret (NA.out _)) | (with_reducible refine quiet_ret2 (NA.out _))) | (go_at_call 50; first | (with_reducible refine quiet_ret (NB.out _)) | (with_reducible refine quiet_ret2 (NB.out _))) | (go_at_call 48; first | (with_reducible refine quiet_ret (FQ.out _)) | (with_reducible refine quiet_ret2 (FQ.out _))) | (go_at_call 48; first | (with_reducible refine quiet_ret (FR.out _)) | (with_reducible refine quiet_ret2 (FR.out _)))))); refine wpQuiet_nil ?_; intro p)
    go_wp2
    exact bodyPost_ret (v := .tuple #[WV (flipN q (!na == nb)), WV (flipN r na)]) (by simp [results, Try.results10, go_sem]) rfl (Ret.of' rfl (by (repeat (first | with_reducible exact Below.refl _ _ | refine below_gw ?_ (by first | exact Nat.le_refl _ | ((repeat (first | rw [World.size_alloc] | rw [World.size_setCell] | rw [World.size_drew] | rw [gw_size])); first | done | omega)) _ | refine Below.alloc ?_ (by first | exact Nat.le_refl _ | ((repeat (first | rw [World.size_alloc] | rw [World.size_setCell] | rw [World.size_drew] | rw [gw_size])); first | done | omega)) _ | refine Below.setCell ?_ (by first | exact Nat.le_refl _ | ((repeat (first | rw [World.size_alloc] | rw [World.size_setCell] | rw [World.size_drew] | rw [gw_size])); first | done | omega)) _ | refine Below.drew ?_))))
end Go.Proofs.Ytgmlabdcfbeijaa

/-
  MulMod, AddMod, Byte and Extend, walked, for all words.
-/
namespace Go.Proofs.Ytgmlabdcfbeijaa
set_option linter.unusedSimpArgs false
set_option linter.unusedVariables false
open Go.RowKit
attribute [local go_sem] arrayAt4
set_option maxHeartbeats 1000000 in
theorem mulMod_any (a b m : Nat) (ha : a < W) (hb : b < W) (hm : m < W) (w : World) :
    Calls Try.prog 15 #[WV a, WV b, WV m] w (Ret w (WV (rstN (a * b) m))) := by
  have HP := Lib.hid (product_any a b ha hb)
  have DV := Lib.hid (fun w => divide_all (a * b) m (mul_lt ha hb) hm w)
  generalize a * b / m = q at *
  generalize rstN (a * b) m = r at *
  generalize a * b = ab at *
  go_enter Try.func15, Try.ntmps15
  go_wp2
  (refine wp_grow 8 10 (fun _ => .cells #[.int .u64 0, .int .u64 0, .int .u64 0, .int .u64 0] 24) (by kernel_rfl) (by kernel_rfl) (by intro c a d u w h; cases d <;> exact h) (by intro j h1 h2; obtain rfl | rfl : j = 8 ∨ j = 9 := (by omega) <;> exact ⟨_, rfl, rfl, rfl, rfl, fun _ _ => by first | go_simp | (simp only [go_sem]; go_simp)⟩) ?_; simp only [List.take_succ_cons, List.take_zero, List.drop_succ_cons, List.drop_zero]; (repeat (refine wpExt_step (fun K hK => ?_); go_simp; first | (refine hK _ ?_; clear hK K) | (apply Exists.intro; refine ⟨fun _ => ?_, hK _ ?_⟩; (first | (go_at_call 57; with_reducible exact HP.out _) | (go_at_call 42; with_reducible exact DV.out _)); clear hK K))); refine wpExt_nil ?_; go_simp; refine wpAl_two ?_ ?_ <;> (intros; go_simp))
  all_goals
    go_wp2
    exact bodyPost_ret (v := WV r) (by simp [results, Try.results15, go_sem]) rfl (Ret.of' rfl (by (repeat (first | with_reducible exact Below.refl _ _ | refine below_gw ?_ (by first | exact Nat.le_refl _ | ((repeat (first | rw [World.size_alloc] | rw [World.size_setCell] | rw [World.size_drew] | rw [gw_size])); first | done | omega)) _ | refine Below.alloc ?_ (by first | exact Nat.le_refl _ | ((repeat (first | rw [World.size_alloc] | rw [World.size_setCell] | rw [World.size_drew] | rw [gw_size])); first | done | omega)) _ | refine Below.setCell ?_ (by first | exact Nat.le_refl _ | ((repeat (first | rw [World.size_alloc] | rw [World.size_setCell] | rw [World.size_drew] | rw [gw_size])); first | done | omega)) _ | refine Below.drew ?_))))
/-- A word's byte, from the top; 0 beyond. -/
def byteN (n a : Nat) : Nat := if 32 ≤ n then 0 else byN a (31 - n)
set_option maxHeartbeats 1000000 in
theorem byte_any (n a : Nat) (hn : n < W) (w : World) : Calls Try.prog 27 #[WV n, WV a] w (Ret w (WV (byteN n a))) := by
  by_cases h : 32 ≤ n
  · have e : byteN n a = 0 := by unfold byteN; rw [if_pos h]
    have hm : min n 32 = 32 := by omega
    have HA := Lib.hid (fun w => atMost_any n hn 32 (by decide) w)
    rw [hm] at HA
    rw [e, WV_zero]
    go_enter Try.func27, Try.ntmps27
    go_wp2_with (go_at_call 63; (with_reducible refine calls_ret (HA.out _) ?_); intro p)
    exact bodyPost_ret (v := .agg #[.int .u64 0, .int .u64 0, .int .u64 0, .int .u64 0]) (by simp [results, Try.results27, go_sem]) rfl (Ret.of' rfl (by (repeat (first | with_reducible exact Below.refl _ _ | refine below_gw ?_ (by first | exact Nat.le_refl _ | ((repeat (first | rw [World.size_alloc] | rw [World.size_setCell] | rw [World.size_drew] | rw [gw_size])); first | done | omega)) _ | refine Below.alloc ?_ (by first | exact Nat.le_refl _ | ((repeat (first | rw [World.size_alloc] | rw [World.size_setCell] | rw [World.size_drew] | rw [gw_size])); first | done | omega)) _ | refine Below.setCell ?_ (by first | exact Nat.le_refl _ | ((repeat (first | rw [World.size_alloc] | rw [World.size_setCell] | rw [World.size_drew] | rw [gw_size])); first | done | omega)) _ | refine Below.drew ?_))))
  · have e : byteN n a = byN a (31 - n) := by unfold byteN; rw [if_neg h]
    have hm : min n 32 = n := by omega
    have HA := Lib.hid (fun w => atMost_any n hn 32 (by decide) w)
    rw [hm] at HA
    have hb : byN a (31 - n) < 256 := by unfold byN; omega
    have HL := Lib.hid (fun w => lowByte_any a (31 - n) (by omega) w)
    have HF := Lib.hid (fun w => from_any (byN a (31 - n)) (by omega) w)
    rw [show ((31 - n : Nat) : Int) = 31 - (n : Int) by omega] at HL
    rw [e]
    have h32 : ¬ ((n : Int) = 32) := by omega
    have h32n : ¬ (n = 32) := by omega
    have h32b : ((n : Int) == 32) = false := by rw [beq_eq_false_iff_ne]; exact h32
    have h31 : (0 : Int) ≤ 31 - (n : Int) := by omega
    have h31' : (31 - (n : Int)) < 9223372036854775808 := by omega
    clear e hm
    generalize byN a (31 - n) = by' at *
    have hb0 : (0 : Int) ≤ (by' : Int) := by omega
    have hb1 : (by' : Int) < 18446744073709551616 := by omega
    go_enter Try.func27, Try.ntmps27
    go_wp2_with first | (go_at_call 63; (with_reducible refine calls_ret (HA.out _) ?_); intro p) | (go_at_call 72; (with_reducible refine calls_ret (HL.out _) ?_); intro p) | (go_at_call 36; (with_reducible refine calls_ret (HF.out _) ?_); intro p)
    exact bodyPost_ret (v := WV by') (by simp [results, Try.results27, go_sem]) rfl (Ret.of' rfl (by (repeat (first | with_reducible exact Below.refl _ _ | refine below_gw ?_ (by first | exact Nat.le_refl _ | ((repeat (first | rw [World.size_alloc] | rw [World.size_setCell] | rw [World.size_drew] | rw [gw_size])); first | done | omega)) _ | refine Below.alloc ?_ (by first | exact Nat.le_refl _ | ((repeat (first | rw [World.size_alloc] | rw [World.size_setCell] | rw [World.size_drew] | rw [gw_size])); first | done | omega)) _ | refine Below.setCell ?_ (by first | exact Nat.le_refl _ | ((repeat (first | rw [World.size_alloc] | rw [World.size_setCell] | rw [World.size_drew] | rw [gw_size])); first | done | omega)) _ | refine Below.drew ?_))))
/-- Bytes behind the n-th from below are its sign. -/
def upN (n : Nat) : Nat := 8 * (31 - min n 31)
def exN (n a : Nat) : Nat := shdM (upN n) (shlM (upN n) a) (sgF (shlM (upN n) a))
theorem upN_lt (n : Nat) : upN n < 18446744073709551616 := by unfold upN; omega
theorem shlM_lt' (n a : Nat) : shlM n a < W := by unfold shlM; exact Nat.mod_lt _ W_pos
set_option maxHeartbeats 1000000 in
theorem extend_any (n a : Nat) (hn : n < W) (ha : a < W) (w : World) : Calls Try.prog 19 #[WV n, WV a] w (Ret w (WV (exN n a))) := by
  have hW : (18446744073709551616 : Nat) < W := by unfold W; decide
  have hu := upN_lt n
  have HA := Lib.hid (fun w => atMost_any n hn 31 (by decide) w)
  have HF := Lib.hid (fun w => from_any (upN n) hu w)
  have HL := Lib.hid (fun w => shlm_any (upN n) a (by omega) ha w)
  have HS := Lib.hid (fun w => sarm_any (upN n) (shlM (upN n) a) (by omega) (shlM_lt' _ _) w)
  unfold exN
  have hm : min n 31 ≤ 31 := by omega
  have hU : ((upN n : Nat) : Int) = 8 * (31 - ((min n 31 : Nat) : Int)) := by unfold upN; omega
  rw [hU] at HF
  generalize shdM (upN n) (shlM (upN n) a) (sgF (shlM (upN n) a)) = out at *
  generalize shlM (upN n) a = sh' at *
  generalize upN n = u at *
  generalize min n 31 = m at *
  have m0 : (0 : Int) ≤ 31 - (m : Int) := by omega
  have m1 : (31 : Int) - (m : Int) < 9223372036854775808 := by omega
  have m2 : (0 : Int) ≤ 8 * (31 - (m : Int)) := by omega
  have m3 : (8 : Int) * (31 - (m : Int)) < 9223372036854775808 := by omega
  have m4 : (8 : Int) * (31 - (m : Int)) < 18446744073709551616 := by omega
  have m5 : (-9223372036854775808 : Int) ≤ 31 - (m : Int) := by omega
  have m6 : (-9223372036854775808 : Int) ≤ 8 * (31 - (m : Int)) := by omega
  clear hW hu hm hn ha
  go_enter Try.func19, Try.ntmps19
  go_wp2_with first | (go_at_call 63; (with_reducible refine calls_ret (HA.out _) ?_); intro p) | (go_at_call 36; (with_reducible refine calls_ret (HF.out _) ?_); intro p)
  (refine wp_quiet_tail 5 (by kernel_rfl) (by kernel_rfl) (by intro c a d u w h; cases d <;> exact h) ?_; simp only [List.take_succ_cons, List.take_zero, List.drop_succ_cons, List.drop_zero]; (repeat (first | go_big_quiet_step (first | (go_at_call 21; first | (with_reducible refine quiet_ret (HL.out _)) | (with_reducible refine quiet_ret2 (HL.out _))) | (go_at_call 25; first | (with_reducible refine quiet_ret (HS.out _)) | (with_reducible refine quiet_ret2 (HS.out _)))) | quiet_step (first | (go_at_call 21; first | (with_reducible refine quiet_ret (HL.out _)) | (with_reducible refine quiet_ret2 (HL.out _))) | (go_at_call 25; first | (with_reducible refine quiet_ret (HS.out _)) | (with_reducible refine quiet_ret2 (HS.out _)))))); refine wpQuiet_nil ?_; intro p)
  go_wp2
  exact bodyPost_ret (v := WV out) (by simp [results, Try.results19, go_sem]) rfl (Ret.of' rfl (by (repeat (first | with_reducible exact Below.refl _ _ | refine below_gw ?_ (by first | exact Nat.le_refl _ | ((repeat (first | rw [World.size_alloc] | rw [World.size_setCell] | rw [World.size_drew] | rw [gw_size])); first | done | omega)) _ | refine Below.alloc ?_ (by first | exact Nat.le_refl _ | ((repeat (first | rw [World.size_alloc] | rw [World.size_setCell] | rw [World.size_drew] | rw [gw_size])); first | done | omega)) _ | refine Below.setCell ?_ (by first | exact Nat.le_refl _ | ((repeat (first | rw [World.size_alloc] | rw [World.size_setCell] | rw [World.size_drew] | rw [gw_size])); first | done | omega)) _ | refine Below.drew ?_))))
theorem WX_over {a b : Nat} (ha : a < W) (hb : b < W) (h : addB a b = true) :
    WX (a + b) = .agg #[.int .u64 (lm (addN a b) 0 : Nat), .int .u64 (lm (addN a b) 1 : Nat), .int .u64 (lm (addN a b) 2 : Nat), .int .u64 (lm (addN a b) 3 : Nat), .int .u64 1, .int .u64 (lm (addN a b) 5 : Nat), .int .u64 (lm (addN a b) 6 : Nat), .int .u64 (lm (addN a b) 7 : Nat)] := by
  have hW : W ≤ a + b := by unfold addB at h; simpa using h
  have h2 : a + b < 2 * W := by omega
  have hi : ∀ i, i < 4 → lm (addN a b) i = lm (a + b) i := fun i hi => by unfold addN; exact lm_mod _ _ hi
  have h4 : lm (a + b) 4 = 1 := by
    rw [lm_eq_mod]
    have : (a + b) / Bp 4 = 1 := by
      rw [show Bp 4 = W from rfl]
      rw [show a + b = W * 1 + (a + b - W) by omega, Nat.mul_add_div W_pos, Nat.div_eq_of_lt (by omega)]
    rw [this]
  have hh : ∀ i, 5 ≤ i → lm (a + b) i = lm (addN a b) i := fun i hi => by
    rw [lm_high (addN_lt a b) i (by omega), lm_eq_mod, Nat.div_eq_of_lt]
    refine Nat.lt_of_lt_of_le h2 ?_
    have h5 : 2 * W ≤ Bp 5 := by rw [show Bp 5 = 18446744073709551616 * W from rfl]; exact Nat.mul_le_mul_right _ (by decide)
    have h6 : Bp 5 ≤ Bp i := by unfold Bp; exact Nat.pow_le_pow_right (by decide) hi
    omega
  unfold WX
  rw [h4, hh 5 (by omega), hh 6 (by omega), hh 7 (by omega), hi 0 (by omega), hi 1 (by omega), hi 2 (by omega), hi 3 (by omega)]
  rfl
theorem addN_plain {a b : Nat} (h : addB a b = false) : addN a b = a + b := by
  unfold addB at h; unfold addN
  simp only [decide_eq_false_iff_not] at h
  exact Nat.mod_eq_of_lt (by omega)
theorem two_lt {a b : Nat} (ha : a < W) (hb : b < W) : a + b < Bp 8 := by
  have : 2 * W ≤ Bp 8 := by rw [show Bp 8 = W * W from rfl]; exact Nat.mul_le_mul_right _ (by unfold W; decide)
  omega
set_option maxHeartbeats 1000000 in
theorem addMod_any (a b m : Nat) (ha : a < W) (hb : b < W) (hm : m < W) (w : World) :
    Calls Try.prog 13 #[WV a, WV b, WV m] w (Ret w (WV (rstN (a + b) m))) := by
  have HA := Lib.hid (fun w => add_any a b ha hb w)
  have HX := Lib.hid (fun w => widen_any (addN a b) (addN_lt a b) w)
  have DV := Lib.hid (fun w => divide_all (a + b) m (two_lt ha hb) hm w)
  cases hc : addB a b
  · rw [hc] at HA
    rw [addN_plain hc] at HA HX
    generalize (a + b) / m = q at *
    generalize rstN (a + b) m = r at *
    generalize a + b = s at *
    clear hc
    go_enter Try.func13, Try.ntmps13
    go_wp2_with first | (go_at_call 55; (with_reducible refine calls_ret (HA.out _) ?_); intro p) | (go_at_call 43; (with_reducible refine calls_ret (HX.out _) ?_); intro p) | (go_at_call 42; (with_reducible refine calls_ret (DV.out _) ?_); intro p)
    exact bodyPost_ret (v := WV r) (by simp [results, Try.results13, go_sem]) rfl (Ret.of' rfl (by (repeat (first | with_reducible exact Below.refl _ _ | refine below_gw ?_ (by first | exact Nat.le_refl _ | ((repeat (first | rw [World.size_alloc] | rw [World.size_setCell] | rw [World.size_drew] | rw [gw_size])); first | done | omega)) _ | refine Below.alloc ?_ (by first | exact Nat.le_refl _ | ((repeat (first | rw [World.size_alloc] | rw [World.size_setCell] | rw [World.size_drew] | rw [gw_size])); first | done | omega)) _ | refine Below.setCell ?_ (by first | exact Nat.le_refl _ | ((repeat (first | rw [World.size_alloc] | rw [World.size_setCell] | rw [World.size_drew] | rw [gw_size])); first | done | omega)) _ | refine Below.drew ?_))))
  · rw [hc] at HA
    rw [WX_over ha hb hc] at DV
    generalize (a + b) / m = q at *
    generalize rstN (a + b) m = r at *
    generalize addN a b = s at *
    clear hc
    go_enter Try.func13, Try.ntmps13
    go_wp2_with first | (go_at_call 55; (with_reducible refine calls_ret (HA.out _) ?_); intro p) | (go_at_call 43; (with_reducible refine calls_ret (HX.out _) ?_); intro p) | (go_at_call 42; (with_reducible refine calls_ret (DV.out _) ?_); intro p)
    exact bodyPost_ret (v := WV r) (by simp [results, Try.results13, go_sem]) rfl (Ret.of' rfl (by (repeat (first | with_reducible exact Below.refl _ _ | refine below_gw ?_ (by first | exact Nat.le_refl _ | ((repeat (first | rw [World.size_alloc] | rw [World.size_setCell] | rw [World.size_drew] | rw [gw_size])); first | done | omega)) _ | refine Below.alloc ?_ (by first | exact Nat.le_refl _ | ((repeat (first | rw [World.size_alloc] | rw [World.size_setCell] | rw [World.size_drew] | rw [gw_size])); first | done | omega)) _ | refine Below.setCell ?_ (by first | exact Nat.le_refl _ | ((repeat (first | rw [World.size_alloc] | rw [World.size_setCell] | rw [World.size_drew] | rw [gw_size])); first | done | omega)) _ | refine Below.drew ?_))))
end Go.Proofs.Ytgmlabdcfbeijaa
