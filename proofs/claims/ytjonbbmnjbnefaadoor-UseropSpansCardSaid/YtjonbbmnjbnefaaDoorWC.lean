/-
 Cmp, Scmp, Mul, Div and Sdiv, walked, for all words.
-/
import Derived.Test.YtjonbbmnjbnefaaDoorWA
import Derived.Test.YtjonbbmnjbnefaaDoorShelf
set_option maxRecDepth 10000
set_option linter.unusedVariables false
set_option linter.unusedSimpArgs false
namespace Go.Proofs.YtjonbbmnjbnefaaDoor
open Go.RowKit
def cmpI (a b : Nat) : Int := if a = b then 0 else if a < b then -1 else 1
set_option maxHeartbeats 1000000 in
theorem cmp_any (a b : Nat) (ha : a < W) (hb : b < W) (w : World) : Calls Tryd.prog 54 #[WV a, WV b] w (Ret w (.int .i64 (cmpI a b))) := by
 by_cases he : a = b
 ·have hd : decide (a % W = b % W) = true := by subst he; simp
  have hc : cmpI a b = 0 := by unfold cmpI; rw [if_pos he]
  rw [hc]; clear hc he
  go_enter Tryd.func54, Tryd.ntmps54
  go_wp2
  exact bodyPost_ret (v := .int .i64 0) (by simp [results, Tryd.results54, go_sem]) rfl (Ret.of' rfl (by (repeat (first | with_reducible exact Below.refl _ _ | refine below_gw ?_ (by first | exact Nat.le_refl _ | ((repeat (first | rw [World.size_alloc] | rw [World.size_setCell] | rw [World.size_drew] | rw [gw_size])); first | done | omega)) _ | refine Below.alloc ?_ (by first | exact Nat.le_refl _ | ((repeat (first | rw [World.size_alloc] | rw [World.size_setCell] | rw [World.size_drew] | rw [gw_size])); first | done | omega)) _ | refine Below.setCell ?_ (by first | exact Nat.le_refl _ | ((repeat (first | rw [World.size_alloc] | rw [World.size_setCell] | rw [World.size_drew] | rw [gw_size])); first | done | omega)) _ | refine Below.drew ?_))))
 ·have hd : decide (a % W = b % W) = false := by simp [Nat.mod_eq_of_lt ha, Nat.mod_eq_of_lt hb, he]
  by_cases hl : a < b
  ·have hs : subB a b = true := by unfold subB; simpa using hl
   have hc : cmpI a b = -1 := by unfold cmpI; rw [if_neg he, if_pos hl]
   rw [hc]; clear hc he hl
   go_enter Tryd.func54, Tryd.ntmps54
   go_wp2_with (go_at_call 95; (with_reducible refine calls_ret (sub_any a b ha hb _) ?_); intro p)
   exact bodyPost_ret (v := .int .i64 (-1)) (by simp [results, Tryd.results54, go_sem]) rfl (Ret.of' rfl (by (repeat (first | with_reducible exact Below.refl _ _ | refine below_gw ?_ (by first | exact Nat.le_refl _ | ((repeat (first | rw [World.size_alloc] | rw [World.size_setCell] | rw [World.size_drew] | rw [gw_size])); first | done | omega)) _ | refine Below.alloc ?_ (by first | exact Nat.le_refl _ | ((repeat (first | rw [World.size_alloc] | rw [World.size_setCell] | rw [World.size_drew] | rw [gw_size])); first | done | omega)) _ | refine Below.setCell ?_ (by first | exact Nat.le_refl _ | ((repeat (first | rw [World.size_alloc] | rw [World.size_setCell] | rw [World.size_drew] | rw [gw_size])); first | done | omega)) _ | refine Below.drew ?_))))
  ·have hs : subB a b = false := by unfold subB; simpa using hl
   have hc : cmpI a b = 1 := by unfold cmpI; rw [if_neg he, if_neg hl]
   rw [hc]; clear hc he hl
   go_enter Tryd.func54, Tryd.ntmps54
   go_wp2_with (go_at_call 95; (with_reducible refine calls_ret (sub_any a b ha hb _) ?_); intro p)
   exact bodyPost_ret (v := .int .i64 1) (by simp [results, Tryd.results54, go_sem]) rfl (Ret.of' rfl (by (repeat (first | with_reducible exact Below.refl _ _ | refine below_gw ?_ (by first | exact Nat.le_refl _ | ((repeat (first | rw [World.size_alloc] | rw [World.size_setCell] | rw [World.size_drew] | rw [gw_size])); first | done | omega)) _ | refine Below.alloc ?_ (by first | exact Nat.le_refl _ | ((repeat (first | rw [World.size_alloc] | rw [World.size_setCell] | rw [World.size_drew] | rw [gw_size])); first | done | omega)) _ | refine Below.setCell ?_ (by first | exact Nat.le_refl _ | ((repeat (first | rw [World.size_alloc] | rw [World.size_setCell] | rw [World.size_drew] | rw [gw_size])); first | done | omega)) _ | refine Below.drew ?_))))
theorem mul_lt {a b : Nat} (ha : a < W) (hb : b < W) : a * b < Bp 8 := by
 rw [show Bp 8 = W * W from rfl]
 exact Nat.mul_lt_mul_of_lt_of_le ha (Nat.le_of_lt hb) W_pos
attribute [local go_sem] arrayAt4
set_option maxHeartbeats 1000000 in
theorem mul_any (a b : Nat) (ha : a < W) (hb : b < W) (w : World) :
  Calls Tryd.prog 51 #[WV a, WV b] w (Ret w (.tuple #[WV (mulN a b), .bool (mulB a b)])) := by
 have hT : decide ((4 : Int) < (topN (U8 (a * b)) 8 : Nat)) = mulB a b := by
  unfold mulB
  have hv := val_limbs (a * b)
  rw [Nat.mod_eq_of_lt (mul_lt ha hb)] at hv
  have h8 := topN_val (Ok_U8 (a * b)) (n := topN (U8 (a * b)) 8) rfl
  rw [show val (U8 (a * b)) = a * b from hv] at h8
  have h9 := topN_top (U8 (a * b)) 8
  have hle := topN_le (U8 (a * b)) 8
  rw [decide_eq_decide]
  constructor
  ·intro h
   generalize topN (U8 (a * b)) 8 = t at *
   have h10 := h9 (by omega)
   rw [show W = Bp 4 from rfl]
   have h11 : lm (a * b) (t - 1) ≠ 0 := by rw [← getD_U8 _ _ (by omega)]; exact h10
   apply Nat.le_of_not_lt
   intro hlt
   exact h11 (by
    rw [lm_eq_mod, Nat.div_eq_of_lt, Nat.zero_mod]
    exact Nat.lt_of_lt_of_le hlt (by unfold Bp; exact Nat.pow_le_pow_right (by decide) (by omega)))
  ·intro h
   generalize topN (U8 (a * b)) 8 = t at *
   apply Classical.byContradiction
   intro hn
   have : Bp t ≤ Bp 4 := by unfold Bp; exact Nat.pow_le_pow_right (by decide) (by omega)
   rw [show W = Bp 4 from rfl] at h
   omega
 have HL8 := Lib.hid (show ∀ b' c t w, Arr w b' (U8 (a * b)) t → Calls Tryd.prog 93 #[SlV b' 0 8 c] w (Ret w (.int .i64 (topN (U8 (a * b)) 8 : Nat))) from fun b' c t w hA => length_any (U8 (a * b)) b' c t w hA (by simp))
 have HP := Lib.hid (product_any a b ha hb)
 unfold mulN; rw [WV_mod]
 clear ha hb
 generalize mulB a b = mb at *
 generalize a * b = ab at *
 go_enter Tryd.func51, Tryd.ntmps51
 go_wp2_with (go_at_call 92; (with_reducible refine calls_ret (HP.out _) ?_); intro p)
 (refine wp_quiet_tail 6 (by kernel_rfl) (by kernel_rfl) (by intro c a d u w h; cases d <;> exact h) ?_; simp only [List.take_succ_cons, List.take_zero, List.drop_succ_cons, List.drop_zero]; (repeat (first | go_big_quiet_step ((go_at_call 93; first | (refine quiet_ret (HL8.out _ _ 107 _ ?_); (repeat (first | (refine arr_at _ _ _ _ ?_ rfl; first | rfl | (simp only [World.size_alloc, World.size_setCell, gw_size]; done)) | refine arr_past ?_ _ | refine gw_arr ?_ _))) | (refine quiet_ret2 (HL8.out _ _ 107 _ ?_); (repeat (first | (refine arr_at _ _ _ _ ?_ rfl; first | rfl | (simp only [World.size_alloc, World.size_setCell, gw_size]; done)) | refine arr_past ?_ _ | refine gw_arr ?_ _))))) | quiet_step ((go_at_call 93; first | (refine quiet_ret (HL8.out _ _ 107 _ ?_); (repeat (first | (refine arr_at _ _ _ _ ?_ rfl; first | rfl | (simp only [World.size_alloc, World.size_setCell, gw_size]; done)) | refine arr_past ?_ _ | refine gw_arr ?_ _))) | (refine quiet_ret2 (HL8.out _ _ 107 _ ?_); (repeat (first | (refine arr_at _ _ _ _ ?_ rfl; first | rfl | (simp only [World.size_alloc, World.size_setCell, gw_size]; done)) | refine arr_past ?_ _ | refine gw_arr ?_ _))))))); refine wpQuiet_nil ?_; intro p)
 go_wp2
 exact bodyPost_ret (v := .tuple #[WV ab, .bool mb]) (by simp [results, Tryd.results51, go_sem]) rfl (Ret.of' rfl (by (repeat (first | with_reducible exact Below.refl _ _ | refine below_gw ?_ (by first | exact Nat.le_refl _ | ((repeat (first | rw [World.size_alloc] | rw [World.size_setCell] | rw [World.size_drew] | rw [gw_size])); first | done | omega)) _ | refine Below.alloc ?_ (by first | exact Nat.le_refl _ | ((repeat (first | rw [World.size_alloc] | rw [World.size_setCell] | rw [World.size_drew] | rw [gw_size])); first | done | omega)) _ | refine Below.setCell ?_ (by first | exact Nat.le_refl _ | ((repeat (first | rw [World.size_alloc] | rw [World.size_setCell] | rw [World.size_drew] | rw [gw_size])); first | done | omega)) _ | refine Below.drew ?_))))
end Go.Proofs.YtjonbbmnjbnefaaDoor

/-
 MulMod, AddMod, Byte and Extend, walked, for all words.
-/
namespace Go.Proofs.YtjonbbmnjbnefaaDoor
open Go.RowKit
attribute [local go_sem] arrayAt4
end Go.Proofs.YtjonbbmnjbnefaaDoor
