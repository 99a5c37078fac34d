/-
  Cmp, Scmp, Mul, Div and Sdiv, walked, for all words.
-/
import Derived.Test.YtbdigomddnpllaaWA
import Derived.Test.YtbdigomddnpllaaGrow
namespace Go.Proofs.Ytbdigomddnpllaa
set_option linter.unusedSimpArgs false
set_option linter.unusedVariables false
open Go.RowKit
/-- -1, 0, 1. -/
def cmpI (a b : Nat) : Int := if a = b then 0 else if a < b then -1 else 1
def scmpI (a b : Nat) : Int := if negB a = negB b then cmpI a b else cmpI b a
set_option maxHeartbeats 1000000 in
theorem cmp_any (a b : Nat) (ha : a < W) (hb : b < W) (w : World) : Calls Try.prog 28 #[WV a, WV b] w (Ret w (.int .i64 (cmpI a b))) := by
  by_cases he : a = b
  · have hd : decide (a % W = b % W) = true := by subst he; simp
    have hc : cmpI a b = 0 := by unfold cmpI; rw [if_pos he]
    rw [hc]; clear hc he
    go_enter Try.func28, Try.ntmps28
    go_wp2
    exact bodyPost_ret (v := .int .i64 0) (by simp [results, Try.results28, go_sem]) rfl (Ret.of' rfl (by (repeat (first | with_reducible exact Below.refl _ _ | refine below_gw ?_ (by first | exact Nat.le_refl _ | ((repeat (first | rw [World.size_alloc] | rw [World.size_setCell] | rw [World.size_drew] | rw [gw_size])); first | done | omega)) _ | refine Below.alloc ?_ (by first | exact Nat.le_refl _ | ((repeat (first | rw [World.size_alloc] | rw [World.size_setCell] | rw [World.size_drew] | rw [gw_size])); first | done | omega)) _ | refine Below.setCell ?_ (by first | exact Nat.le_refl _ | ((repeat (first | rw [World.size_alloc] | rw [World.size_setCell] | rw [World.size_drew] | rw [gw_size])); first | done | omega)) _ | refine Below.drew ?_))))
  · have hd : decide (a % W = b % W) = false := by simp [Nat.mod_eq_of_lt ha, Nat.mod_eq_of_lt hb, he]
    by_cases hl : a < b
    · have hs : subB a b = true := by unfold subB; simpa using hl
      have hc : cmpI a b = -1 := by unfold cmpI; rw [if_neg he, if_pos hl]
      rw [hc]; clear hc he hl
      go_enter Try.func28, Try.ntmps28
      go_wp2_with (go_at_call 27; (with_reducible refine calls_ret (sub_any a b ha hb _) ?_); intro p)
      exact bodyPost_ret (v := .int .i64 (-1)) (by simp [results, Try.results28, go_sem]) rfl (Ret.of' rfl (by (repeat (first | with_reducible exact Below.refl _ _ | refine below_gw ?_ (by first | exact Nat.le_refl _ | ((repeat (first | rw [World.size_alloc] | rw [World.size_setCell] | rw [World.size_drew] | rw [gw_size])); first | done | omega)) _ | refine Below.alloc ?_ (by first | exact Nat.le_refl _ | ((repeat (first | rw [World.size_alloc] | rw [World.size_setCell] | rw [World.size_drew] | rw [gw_size])); first | done | omega)) _ | refine Below.setCell ?_ (by first | exact Nat.le_refl _ | ((repeat (first | rw [World.size_alloc] | rw [World.size_setCell] | rw [World.size_drew] | rw [gw_size])); first | done | omega)) _ | refine Below.drew ?_))))
    · have hs : subB a b = false := by unfold subB; simpa using hl
      have hc : cmpI a b = 1 := by unfold cmpI; rw [if_neg he, if_neg hl]
      rw [hc]; clear hc he hl
      go_enter Try.func28, Try.ntmps28
      go_wp2_with (go_at_call 27; (with_reducible refine calls_ret (sub_any a b ha hb _) ?_); intro p)
      exact bodyPost_ret (v := .int .i64 1) (by simp [results, Try.results28, go_sem]) rfl (Ret.of' rfl (by (repeat (first | with_reducible exact Below.refl _ _ | refine below_gw ?_ (by first | exact Nat.le_refl _ | ((repeat (first | rw [World.size_alloc] | rw [World.size_setCell] | rw [World.size_drew] | rw [gw_size])); first | done | omega)) _ | refine Below.alloc ?_ (by first | exact Nat.le_refl _ | ((repeat (first | rw [World.size_alloc] | rw [World.size_setCell] | rw [World.size_drew] | rw [gw_size])); first | done | omega)) _ | refine Below.setCell ?_ (by first | exact Nat.le_refl _ | ((repeat (first | rw [World.size_alloc] | rw [World.size_setCell] | rw [World.size_drew] | rw [gw_size])); first | done | omega)) _ | refine Below.drew ?_))))
theorem mul_lt {a b : Nat} (ha : a < W) (hb : b < W) : a * b < Bp 8 := by
  rw [show Bp 8 = W * W from rfl]
  exact Nat.mul_lt_mul_of_lt_of_le ha (Nat.le_of_lt hb) W_pos
/-- Turned about, if it is below 0. -/
def flipN (a : Nat) (n : Bool) : Nat := if n = true then subN 0 a else a
theorem flipN_lt {a : Nat} (n : Bool) (h : a < W) : flipN a n < W := by unfold flipN; split; exact subN_lt _ _; exact h
theorem WV_zero : WV 0 = .agg #[.int .u64 0, .int .u64 0, .int .u64 0, .int .u64 0] := WV_small (n := 0) (by decide)
def sdQ (a b : Nat) : Nat := flipN (flipN a (negB a) / flipN b (negB b)) (!negB a == negB b)
def sdR (a b : Nat) : Nat := flipN (rstN (flipN a (negB a)) (flipN b (negB b))) (negB a)
theorem rstN_lt {a : Nat} (b : Nat) (h : a < W) : rstN a b < W := by unfold rstN; split; exact W_pos; exact Nat.lt_of_le_of_lt (Nat.mod_le _ _) h
theorem divN_lt {a : Nat} (b : Nat) (h : a < W) : a / b < W := Nat.lt_of_le_of_lt (Nat.div_le_self _ _) h
end Go.Proofs.Ytbdigomddnpllaa

/-
  MulMod, AddMod, Byte and Extend, walked, for all words.
-/
namespace Go.Proofs.Ytbdigomddnpllaa
set_option linter.unusedSimpArgs false
set_option linter.unusedVariables false
open Go.RowKit
/-- A word's byte, from the top; 0 beyond. -/
def byteN (n a : Nat) : Nat := if 32 ≤ n then 0 else byN a (31 - n)
/-- Bytes behind the n-th from below are its sign. -/
def upN (n : Nat) : Nat := 8 * (31 - min n 31)
def exN (n a : Nat) : Nat := shdM (upN n) (shlM (upN n) a) (sgF (shlM (upN n) a))
theorem upN_lt (n : Nat) : upN n < 18446744073709551616 := by unfold upN; omega
theorem shlM_lt' (n a : Nat) : shlM n a < W := by unfold shlM; exact Nat.mod_lt _ W_pos
theorem WX_over {a b : Nat} (ha : a < W) (hb : b < W) (h : addB a b = true) :
    WX (a + b) = .agg #[.int .u64 (lm (addN a b) 0 : Nat), .int .u64 (lm (addN a b) 1 : Nat), .int .u64 (lm (addN a b) 2 : Nat), .int .u64 (lm (addN a b) 3 : Nat), .int .u64 1, .int .u64 (lm (addN a b) 5 : Nat), .int .u64 (lm (addN a b) 6 : Nat), .int .u64 (lm (addN a b) 7 : Nat)] := by
  have hW : W ≤ a + b := by unfold addB at h; simpa using h
  have h2 : a + b < 2 * W := by omega
  have hi : ∀ i, i < 4 → lm (addN a b) i = lm (a + b) i := fun i hi => by unfold addN; exact lm_mod _ _ hi
  have h4 : lm (a + b) 4 = 1 := by
    rw [lm_eq_mod]
    have : (a + b) / Bp 4 = 1 := by
      rw [show Bp 4 = W from rfl]
      rw [show a + b = W * 1 + (a + b - W) by omega, Nat.mul_add_div W_pos, Nat.div_eq_of_lt (by omega)]
    rw [this]
  have hh : ∀ i, 5 ≤ i → lm (a + b) i = lm (addN a b) i := fun i hi => by
    rw [lm_high (addN_lt a b) i (by omega), lm_eq_mod, Nat.div_eq_of_lt]
    refine Nat.lt_of_lt_of_le h2 ?_
    have h5 : 2 * W ≤ Bp 5 := by rw [show Bp 5 = 18446744073709551616 * W from rfl]; exact Nat.mul_le_mul_right _ (by decide)
    have h6 : Bp 5 ≤ Bp i := by unfold Bp; exact Nat.pow_le_pow_right (by decide) hi
    omega
  unfold WX
  rw [h4, hh 5 (by omega), hh 6 (by omega), hh 7 (by omega), hi 0 (by omega), hi 1 (by omega), hi 2 (by omega), hi 3 (by omega)]
  rfl
theorem addN_plain {a b : Nat} (h : addB a b = false) : addN a b = a + b := by
  unfold addB at h; unfold addN
  simp only [decide_eq_false_iff_not] at h
  exact Nat.mod_eq_of_lt (by omega)
theorem two_lt {a b : Nat} (ha : a < W) (hb : b < W) : a + b < Bp 8 := by
  have : 2 * W ≤ Bp 8 := by rw [show Bp 8 = W * W from rfl]; exact Nat.mul_le_mul_right _ (by unfold W; decide)
  omega
end Go.Proofs.Ytbdigomddnpllaa
