/-
  Cmp, Scmp, Mul, Div and Sdiv, walked, for all words.
-/
import Derived.Test.YtdanlclhnehieaaWA
import Derived.Test.YtdanlclhnehieaaGrow
namespace Go.Proofs.Ytdanlclhnehieaa
set_option linter.unusedSimpArgs false
set_option linter.unusedVariables false
open Go.RowKit
def cmpI (a b : Nat) : Int := if a = b then 0 else if a < b then -1 else 1
set_option maxHeartbeats 1000000 in
theorem cmp_any (a b : Nat) (ha : a < W) (hb : b < W) (w : World) : Calls Try.prog 28 #[WV a, WV b] w (Ret w (.int .i64 (cmpI a b))) := by
  by_cases he : a = b
  · have hd : decide (a % W = b % W) = true := by subst he; simp
    have hc : cmpI a b = 0 := by unfold cmpI; rw [if_pos he]
    rw [hc]; clear hc he
    go_enter Try.func28, Try.ntmps28
    go_wp2
    exact bodyPost_ret (v := .int .i64 0) (by simp [results, Try.results28, go_sem]) rfl (Ret.of' rfl (by (repeat (first | with_reducible exact Below.refl _ _ | refine below_gw ?_ (by first | exact Nat.le_refl _ | ((repeat (first | rw [World.size_alloc] | rw [World.size_setCell] | rw [World.size_drew] | rw [gw_size])); first | done | omega)) _ | refine Below.alloc ?_ (by first | exact Nat.le_refl _ | ((repeat (first | rw [World.size_alloc] | rw [World.size_setCell] | rw [World.size_drew] | rw [gw_size])); first | done | omega)) _ | refine Below.setCell ?_ (by first | exact Nat.le_refl _ | ((repeat (first | rw [World.size_alloc] | rw [World.size_setCell] | rw [World.size_drew] | rw [gw_size])); first | done | omega)) _ | refine Below.drew ?_))))
  · have hd : decide (a % W = b % W) = false := by simp [Nat.mod_eq_of_lt ha, Nat.mod_eq_of_lt hb, he]
    by_cases hl : a < b
    · have hs : subB a b = true := by unfold subB; simpa using hl
      have hc : cmpI a b = -1 := by unfold cmpI; rw [if_neg he, if_pos hl]
      rw [hc]; clear hc he hl
      go_enter Try.func28, Try.ntmps28
      go_wp2_with (go_at_call 35; (with_reducible refine calls_ret (sub_any a b ha hb _) ?_); intro p)
      exact bodyPost_ret (v := .int .i64 (-1)) (by simp [results, Try.results28, go_sem]) rfl (Ret.of' rfl (by (repeat (first | with_reducible exact Below.refl _ _ | refine below_gw ?_ (by first | exact Nat.le_refl _ | ((repeat (first | rw [World.size_alloc] | rw [World.size_setCell] | rw [World.size_drew] | rw [gw_size])); first | done | omega)) _ | refine Below.alloc ?_ (by first | exact Nat.le_refl _ | ((repeat (first | rw [World.size_alloc] | rw [World.size_setCell] | rw [World.size_drew] | rw [gw_size])); first | done | omega)) _ | refine Below.setCell ?_ (by first | exact Nat.le_refl _ | ((repeat (first | rw [World.size_alloc] | rw [World.size_setCell] | rw [World.size_drew] | rw [gw_size])); first | done | omega)) _ | refine Below.drew ?_))))
    · have hs : subB a b = false := by unfold subB; simpa using hl
      have hc : cmpI a b = 1 := by unfold cmpI; rw [if_neg he, if_neg hl]
      rw [hc]; clear hc he hl
      go_enter Try.func28, Try.ntmps28
      go_wp2_with (go_at_call 35; (with_reducible refine calls_ret (sub_any a b ha hb _) ?_); intro p)
      exact bodyPost_ret (v := .int .i64 1) (by simp [results, Try.results28, go_sem]) rfl (Ret.of' rfl (by (repeat (first | with_reducible exact Below.refl _ _ | refine below_gw ?_ (by first | exact Nat.le_refl _ | ((repeat (first | rw [World.size_alloc] | rw [World.size_setCell] | rw [World.size_drew] | rw [gw_size])); first | done | omega)) _ | refine Below.alloc ?_ (by first | exact Nat.le_refl _ | ((repeat (first | rw [World.size_alloc] | rw [World.size_setCell] | rw [World.size_drew] | rw [gw_size])); first | done | omega)) _ | refine Below.setCell ?_ (by first | exact Nat.le_refl _ | ((repeat (first | rw [World.size_alloc] | rw [World.size_setCell] | rw [World.size_drew] | rw [gw_size])); first | done | omega)) _ | refine Below.drew ?_))))
end Go.Proofs.Ytdanlclhnehieaa

/-
  MulMod, AddMod, Byte and Extend, walked, for all words.
-/
namespace Go.Proofs.Ytdanlclhnehieaa
set_option linter.unusedSimpArgs false
set_option linter.unusedVariables false
open Go.RowKit
end Go.Proofs.Ytdanlclhnehieaa
