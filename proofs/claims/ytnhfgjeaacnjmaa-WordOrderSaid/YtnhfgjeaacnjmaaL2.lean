/-
  The law WordOrder, walked: for words a, b, c (each below 2^256) it answers true; the world is the same but for new memory.
-/
import Derived.Test.YtnhfgjeaacnjmaaLB
namespace Go.Proofs.Ytnhfgjeaacnjmaa
open Go.RowKit
/-- A word's place in the order of signed ones. -/
def skN (a : Nat) : Nat := (a + W / 2) % W
theorem scmp_sk {a b : Nat} (ha : a < W) (hb : b < W) : scmpI a b = cmpI (skN a) (skN b) := by
  have hW : W = 2 * (W / 2) := by decide
  generalize hh : W / 2 = h at *
  have hs : ∀ x, x < W → skN x = if h ≤ x then x - h else x + h := by
    intro x hx
    unfold skN
    rw [hh]
    split
    · rw [show x + h = (x - h) + W by omega, Nat.add_mod_right, Nat.mod_eq_of_lt (by omega)]
    · rw [Nat.mod_eq_of_lt (by omega)]
  rw [hs a ha, hs b hb]
  unfold scmpI negB
  rw [hh]
  by_cases h1 : h ≤ a <;> by_cases h2 : h ≤ b <;> simp only [h1, h2, decide_true, decide_false, if_true, if_false] <;> unfold cmpI <;> (try simp) <;> (repeat' split) <;> omega
theorem cmp_trans {a b c : Nat} (h : cmpI a b = -1) (h' : cmpI b c = -1) : cmpI a c = -1 := by
  unfold cmpI at *
  (repeat' split at h) <;> (repeat' split at h') <;> (repeat' split) <;> omega
theorem cmp_chain (a b c : Nat) (h : cmpI a b = -1) : 0 ≤ cmpI b c ∨ (cmpI b c = -1 ∧ cmpI a c = -1) := by
  have : 0 ≤ cmpI b c ∨ cmpI b c = -1 := by unfold cmpI; (repeat' split) <;> omega
  rcases this with h1 | h1
  · exact .inl h1
  · exact .inr ⟨h1, cmp_trans h h1⟩
theorem scmp_chain (a b c : Nat) (ha : a < W) (hb : b < W) (hc : c < W) (h : scmpI a b = -1) : 0 ≤ scmpI b c ∨ (scmpI b c = -1 ∧ scmpI a c = -1) := by
  rw [scmp_sk ha hb] at h
  rw [scmp_sk hb hc, scmp_sk ha hc]
  exact cmp_chain _ _ _ h
theorem top_eq {a : Nat} (ha : a < W) : ((lm a 3 : Nat) : Int) / 9223372036854775808 = if negB a = true then 1 else 0 := by
  unfold negB
  rw [lm3]
  by_cases h : W / 2 ≤ a
  · rw [if_pos (by simpa using h)]; unfold W at *; omega
  · rw [if_neg (by simpa using h)]; unfold W at *; omega
/-- Two words: equal; or in order, as signed ones too; or not as signed ones, one of them being negative. -/
theorem order_cases (a b : Nat) (ha : a < W) (hb : b < W) :
    (a = b) ∨
    (cmpI a b = -1 ∧ cmpI b a = 1 ∧ scmpI a b = -1 ∧ scmpI b a = 1 ∧ decide (a % W = b % W) = false ∧ ((lm a 3 : Nat) : Int) / 9223372036854775808 = ((lm b 3 : Nat) : Int) / 9223372036854775808) ∨
    (cmpI a b = 1 ∧ cmpI b a = -1 ∧ scmpI a b = 1 ∧ scmpI b a = -1 ∧ decide (a % W = b % W) = false ∧ ((lm a 3 : Nat) : Int) / 9223372036854775808 = ((lm b 3 : Nat) : Int) / 9223372036854775808) ∨
    (cmpI a b = -1 ∧ cmpI b a = 1 ∧ scmpI a b = 1 ∧ scmpI b a = -1 ∧ decide (a % W = b % W) = false ∧ ((lm a 3 : Nat) : Int) / 9223372036854775808 = 0 ∧ ((lm b 3 : Nat) : Int) / 9223372036854775808 = 1) ∨
    (cmpI a b = 1 ∧ cmpI b a = -1 ∧ scmpI a b = -1 ∧ scmpI b a = 1 ∧ decide (a % W = b % W) = false ∧ ((lm a 3 : Nat) : Int) / 9223372036854775808 = 1 ∧ ((lm b 3 : Nat) : Int) / 9223372036854775808 = 0) := by
  by_cases he : a = b
  · exact .inl he
  · right
    rw [top_eq ha, top_eq hb]
    have hd : decide (a % W = b % W) = false := by simp [Nat.mod_eq_of_lt ha, Nat.mod_eq_of_lt hb, he]
    rw [hd]
    have he' : ¬ b = a := fun h => he h.symm
    unfold scmpI cmpI negB
    by_cases h1 : W / 2 ≤ a <;> by_cases h2 : W / 2 ≤ b <;> by_cases h3 : a < b <;> by_cases h4 : b < a <;> simp [h1, h2, h3, h4, he, he'] <;> omega
theorem cmp_self (a : Nat) : cmpI a a = 0 := by unfold cmpI; rw [if_pos rfl]
theorem scmp_self (a : Nat) : scmpI a a = 0 := by unfold scmpI; rw [if_pos rfl, cmp_self]
theorem wp_regen {P : Program} {c : Code} {Q : Exit → Act → World → Prop} {a : Act} {w : World} {p : Gro} (h : ∀ q, Code.wp P c Q a (gw w q)) : Code.wp P c Q a (gw w p) := h p
set_option maxHeartbeats 8000000 in
theorem order_any (a b c : Nat) (ha : a < W) (hb : b < W) (hc : c < W) (w : World) : Calls Try.prog 14 #[WV a, WV b, WV c] w (Ret w (.bool true)) := by
  have hK := Lib.hid (fun w => known_any w)
  have hC1 := Lib.hid (fun w => cmp_any a b ha hb w)
  have hC2 := Lib.hid (fun w => cmp_any b a hb ha w)
  have hC3 := Lib.hid (fun w => cmp_any b c hb hc w)
  have hC4 := Lib.hid (fun w => cmp_any a c ha hc w)
  have hS1 := Lib.hid (fun w => scmp_any a b ha hb w)
  have hS2 := Lib.hid (fun w => scmp_any b a hb ha w)
  have hS3 := Lib.hid (fun w => scmp_any b c hb hc w)
  have hS4 := Lib.hid (fun w => scmp_any a c ha hc w)
  rcases order_cases a b ha hb with rfl | ⟨e1, e2, e3, e4, e5, e6⟩ | ⟨e1, e2, e3, e4, e5, e6⟩ | ⟨e1, e2, e3, e4, e5, e6, e7⟩ | ⟨e1, e2, e3, e4, e5, e6, e7⟩
  · rw [cmp_self] at hC1
    rw [scmp_self] at hS1
    clear hC2 hC3 hC4 hS2 hS3 hS4 ha hb hc
    go_enter Try.func14, Try.ntmps14
    go_wp2
    (refine wp_quiet (by kernel_rfl) (by kernel_rfl) ?_; (repeat (first | go_big_quiet_step (first | (go_at_call 22; first | (with_reducible refine quiet_ret (hC1.out _)) | (with_reducible refine quiet_ret2 (hC1.out _))) | (go_at_call 24; first | (with_reducible refine quiet_ret (hS1.out _)) | (with_reducible refine quiet_ret2 (hS1.out _)))) | quiet_step (first | (go_at_call 22; first | (with_reducible refine quiet_ret (hC1.out _)) | (with_reducible refine quiet_ret2 (hC1.out _))) | (go_at_call 24; first | (with_reducible refine quiet_ret (hS1.out _)) | (with_reducible refine quiet_ret2 (hS1.out _)))))); refine wpQuiet_nil ?_; intro p)
    go_wp2_with (first | (go_at_call 22; (with_reducible refine calls_ret (hC1.out _) ?_); intro p) | (go_at_call 24; (with_reducible refine calls_ret (hS1.out _) ?_); intro p))
    refine wp_regen (fun q => ?_)
    (refine wp_quiet (by kernel_rfl) (by kernel_rfl) ?_; (repeat (first | go_big_quiet_step (first | (go_at_call 22; first | (with_reducible refine quiet_ret (hC1.out _)) | (with_reducible refine quiet_ret2 (hC1.out _))) | (go_at_call 24; first | (with_reducible refine quiet_ret (hS1.out _)) | (with_reducible refine quiet_ret2 (hS1.out _))) | (go_at_call 21; first | (with_reducible refine quiet_ret (hK.out _)) | (with_reducible refine quiet_ret2 (hK.out _)))) | quiet_step (first | (go_at_call 22; first | (with_reducible refine quiet_ret (hC1.out _)) | (with_reducible refine quiet_ret2 (hC1.out _))) | (go_at_call 24; first | (with_reducible refine quiet_ret (hS1.out _)) | (with_reducible refine quiet_ret2 (hS1.out _))) | (go_at_call 21; first | (with_reducible refine quiet_ret (hK.out _)) | (with_reducible refine quiet_ret2 (hK.out _)))))); refine wpQuiet_nil ?_; intro p)
    go_wp2
    exact bodyPost_ret (v := .bool true) (by simp [results, Try.results14, go_sem]) rfl (Ret.of' rfl (by (repeat (first | with_reducible exact Below.refl _ _ | refine below_gw ?_ (by first | exact Nat.le_refl _ | ((repeat (first | rw [World.size_alloc] | rw [World.size_setCell] | rw [World.size_drew] | rw [gw_size])); first | done | omega)) _ | refine Below.alloc ?_ (by first | exact Nat.le_refl _ | ((repeat (first | rw [World.size_alloc] | rw [World.size_setCell] | rw [World.size_drew] | rw [gw_size])); first | done | omega)) _ | refine Below.setCell ?_ (by first | exact Nat.le_refl _ | ((repeat (first | rw [World.size_alloc] | rw [World.size_setCell] | rw [World.size_drew] | rw [gw_size])); first | done | omega)) _ | refine Below.drew ?_))))
  · rw [e1] at hC1
    rw [e2] at hC2
    rw [e3] at hS1
    rw [e4] at hS2
    rcases cmp_chain a b c e1 with g1 | ⟨g1, g2⟩ <;> rcases scmp_chain a b c ha hb hc e3 with f1 | ⟨f1, f2⟩ <;> clear e1 e2 e3 e4 ha hb hc
    · generalize cmpI b c = x3 at *
      generalize scmpI b c = y3 at *
      go_enter Try.func14, Try.ntmps14
      go_wp2
      (refine wp_quiet (by kernel_rfl) (by kernel_rfl) ?_; (repeat (first | go_big_quiet_step (first | (go_at_call 22; first | (with_reducible refine quiet_ret (hC1.out _)) | (with_reducible refine quiet_ret2 (hC1.out _))) | (go_at_call 22; first | (with_reducible refine quiet_ret (hC2.out _)) | (with_reducible refine quiet_ret2 (hC2.out _))) | (go_at_call 24; first | (with_reducible refine quiet_ret (hS1.out _)) | (with_reducible refine quiet_ret2 (hS1.out _))) | (go_at_call 24; first | (with_reducible refine quiet_ret (hS2.out _)) | (with_reducible refine quiet_ret2 (hS2.out _)))) | quiet_step (first | (go_at_call 22; first | (with_reducible refine quiet_ret (hC1.out _)) | (with_reducible refine quiet_ret2 (hC1.out _))) | (go_at_call 22; first | (with_reducible refine quiet_ret (hC2.out _)) | (with_reducible refine quiet_ret2 (hC2.out _))) | (go_at_call 24; first | (with_reducible refine quiet_ret (hS1.out _)) | (with_reducible refine quiet_ret2 (hS1.out _))) | (go_at_call 24; first | (with_reducible refine quiet_ret (hS2.out _)) | (with_reducible refine quiet_ret2 (hS2.out _)))))); refine wpQuiet_nil ?_; intro p)
      go_wp2_with (first | (go_at_call 22; (with_reducible refine calls_ret (hC1.out _) ?_); intro p) | (go_at_call 24; (with_reducible refine calls_ret (hS1.out _) ?_); intro p) | (go_at_call 22; (with_reducible refine calls_ret (hC3.out _) ?_); intro p) | (go_at_call 24; (with_reducible refine calls_ret (hS3.out _) ?_); intro p))
      refine wp_regen (fun q => ?_)
      (refine wp_quiet (by kernel_rfl) (by kernel_rfl) ?_; (repeat (first | go_big_quiet_step (first | (go_at_call 22; first | (with_reducible refine quiet_ret (hC1.out _)) | (with_reducible refine quiet_ret2 (hC1.out _))) | (go_at_call 24; first | (with_reducible refine quiet_ret (hS1.out _)) | (with_reducible refine quiet_ret2 (hS1.out _))) | (go_at_call 21; first | (with_reducible refine quiet_ret (hK.out _)) | (with_reducible refine quiet_ret2 (hK.out _)))) | quiet_step (first | (go_at_call 22; first | (with_reducible refine quiet_ret (hC1.out _)) | (with_reducible refine quiet_ret2 (hC1.out _))) | (go_at_call 24; first | (with_reducible refine quiet_ret (hS1.out _)) | (with_reducible refine quiet_ret2 (hS1.out _))) | (go_at_call 21; first | (with_reducible refine quiet_ret (hK.out _)) | (with_reducible refine quiet_ret2 (hK.out _)))))); refine wpQuiet_nil ?_; intro p)
      go_wp2
      exact bodyPost_ret (v := .bool true) (by simp [results, Try.results14, go_sem]) rfl (Ret.of' rfl (by (repeat (first | with_reducible exact Below.refl _ _ | refine below_gw ?_ (by first | exact Nat.le_refl _ | ((repeat (first | rw [World.size_alloc] | rw [World.size_setCell] | rw [World.size_drew] | rw [gw_size])); first | done | omega)) _ | refine Below.alloc ?_ (by first | exact Nat.le_refl _ | ((repeat (first | rw [World.size_alloc] | rw [World.size_setCell] | rw [World.size_drew] | rw [gw_size])); first | done | omega)) _ | refine Below.setCell ?_ (by first | exact Nat.le_refl _ | ((repeat (first | rw [World.size_alloc] | rw [World.size_setCell] | rw [World.size_drew] | rw [gw_size])); first | done | omega)) _ | refine Below.drew ?_))))
    · generalize cmpI b c = x3 at *
      rw [f1] at hS3
      rw [f2] at hS4
      go_enter Try.func14, Try.ntmps14
      go_wp2
      (refine wp_quiet (by kernel_rfl) (by kernel_rfl) ?_; (repeat (first | go_big_quiet_step (first | (go_at_call 22; first | (with_reducible refine quiet_ret (hC1.out _)) | (with_reducible refine quiet_ret2 (hC1.out _))) | (go_at_call 22; first | (with_reducible refine quiet_ret (hC2.out _)) | (with_reducible refine quiet_ret2 (hC2.out _))) | (go_at_call 24; first | (with_reducible refine quiet_ret (hS1.out _)) | (with_reducible refine quiet_ret2 (hS1.out _))) | (go_at_call 24; first | (with_reducible refine quiet_ret (hS2.out _)) | (with_reducible refine quiet_ret2 (hS2.out _)))) | quiet_step (first | (go_at_call 22; first | (with_reducible refine quiet_ret (hC1.out _)) | (with_reducible refine quiet_ret2 (hC1.out _))) | (go_at_call 22; first | (with_reducible refine quiet_ret (hC2.out _)) | (with_reducible refine quiet_ret2 (hC2.out _))) | (go_at_call 24; first | (with_reducible refine quiet_ret (hS1.out _)) | (with_reducible refine quiet_ret2 (hS1.out _))) | (go_at_call 24; first | (with_reducible refine quiet_ret (hS2.out _)) | (with_reducible refine quiet_ret2 (hS2.out _)))))); refine wpQuiet_nil ?_; intro p)
      go_wp2_with (first | (go_at_call 22; (with_reducible refine calls_ret (hC1.out _) ?_); intro p) | (go_at_call 24; (with_reducible refine calls_ret (hS1.out _) ?_); intro p) | (go_at_call 22; (with_reducible refine calls_ret (hC3.out _) ?_); intro p) | (go_at_call 24; (with_reducible refine calls_ret (hS3.out _) ?_); intro p) | (go_at_call 24; (with_reducible refine calls_ret (hS4.out _) ?_); intro p))
      refine wp_regen (fun q => ?_)
      (refine wp_quiet (by kernel_rfl) (by kernel_rfl) ?_; (repeat (first | go_big_quiet_step (first | (go_at_call 22; first | (with_reducible refine quiet_ret (hC1.out _)) | (with_reducible refine quiet_ret2 (hC1.out _))) | (go_at_call 24; first | (with_reducible refine quiet_ret (hS1.out _)) | (with_reducible refine quiet_ret2 (hS1.out _))) | (go_at_call 21; first | (with_reducible refine quiet_ret (hK.out _)) | (with_reducible refine quiet_ret2 (hK.out _)))) | quiet_step (first | (go_at_call 22; first | (with_reducible refine quiet_ret (hC1.out _)) | (with_reducible refine quiet_ret2 (hC1.out _))) | (go_at_call 24; first | (with_reducible refine quiet_ret (hS1.out _)) | (with_reducible refine quiet_ret2 (hS1.out _))) | (go_at_call 21; first | (with_reducible refine quiet_ret (hK.out _)) | (with_reducible refine quiet_ret2 (hK.out _)))))); refine wpQuiet_nil ?_; intro p)
      go_wp2
      exact bodyPost_ret (v := .bool true) (by simp [results, Try.results14, go_sem]) rfl (Ret.of' rfl (by (repeat (first | with_reducible exact Below.refl _ _ | refine below_gw ?_ (by first | exact Nat.le_refl _ | ((repeat (first | rw [World.size_alloc] | rw [World.size_setCell] | rw [World.size_drew] | rw [gw_size])); first | done | omega)) _ | refine Below.alloc ?_ (by first | exact Nat.le_refl _ | ((repeat (first | rw [World.size_alloc] | rw [World.size_setCell] | rw [World.size_drew] | rw [gw_size])); first | done | omega)) _ | refine Below.setCell ?_ (by first | exact Nat.le_refl _ | ((repeat (first | rw [World.size_alloc] | rw [World.size_setCell] | rw [World.size_drew] | rw [gw_size])); first | done | omega)) _ | refine Below.drew ?_))))
    · rw [g1] at hC3
      rw [g2] at hC4
      generalize scmpI b c = y3 at *
      go_enter Try.func14, Try.ntmps14
      go_wp2
      (refine wp_quiet (by kernel_rfl) (by kernel_rfl) ?_; (repeat (first | go_big_quiet_step (first | (go_at_call 22; first | (with_reducible refine quiet_ret (hC1.out _)) | (with_reducible refine quiet_ret2 (hC1.out _))) | (go_at_call 22; first | (with_reducible refine quiet_ret (hC2.out _)) | (with_reducible refine quiet_ret2 (hC2.out _))) | (go_at_call 24; first | (with_reducible refine quiet_ret (hS1.out _)) | (with_reducible refine quiet_ret2 (hS1.out _))) | (go_at_call 24; first | (with_reducible refine quiet_ret (hS2.out _)) | (with_reducible refine quiet_ret2 (hS2.out _)))) | quiet_step (first | (go_at_call 22; first | (with_reducible refine quiet_ret (hC1.out _)) | (with_reducible refine quiet_ret2 (hC1.out _))) | (go_at_call 22; first | (with_reducible refine quiet_ret (hC2.out _)) | (with_reducible refine quiet_ret2 (hC2.out _))) | (go_at_call 24; first | (with_reducible refine quiet_ret (hS1.out _)) | (with_reducible refine quiet_ret2 (hS1.out _))) | (go_at_call 24; first | (with_reducible refine quiet_ret (hS2.out _)) | (with_reducible refine quiet_ret2 (hS2.out _)))))); refine wpQuiet_nil ?_; intro p)
      go_wp2_with (first | (go_at_call 22; (with_reducible refine calls_ret (hC1.out _) ?_); intro p) | (go_at_call 24; (with_reducible refine calls_ret (hS1.out _) ?_); intro p) | (go_at_call 22; (with_reducible refine calls_ret (hC3.out _) ?_); intro p) | (go_at_call 22; (with_reducible refine calls_ret (hC4.out _) ?_); intro p) | (go_at_call 24; (with_reducible refine calls_ret (hS3.out _) ?_); intro p))
      refine wp_regen (fun q => ?_)
      (refine wp_quiet (by kernel_rfl) (by kernel_rfl) ?_; (repeat (first | go_big_quiet_step (first | (go_at_call 22; first | (with_reducible refine quiet_ret (hC1.out _)) | (with_reducible refine quiet_ret2 (hC1.out _))) | (go_at_call 24; first | (with_reducible refine quiet_ret (hS1.out _)) | (with_reducible refine quiet_ret2 (hS1.out _))) | (go_at_call 21; first | (with_reducible refine quiet_ret (hK.out _)) | (with_reducible refine quiet_ret2 (hK.out _)))) | quiet_step (first | (go_at_call 22; first | (with_reducible refine quiet_ret (hC1.out _)) | (with_reducible refine quiet_ret2 (hC1.out _))) | (go_at_call 24; first | (with_reducible refine quiet_ret (hS1.out _)) | (with_reducible refine quiet_ret2 (hS1.out _))) | (go_at_call 21; first | (with_reducible refine quiet_ret (hK.out _)) | (with_reducible refine quiet_ret2 (hK.out _)))))); refine wpQuiet_nil ?_; intro p)
      go_wp2
      exact bodyPost_ret (v := .bool true) (by simp [results, Try.results14, go_sem]) rfl (Ret.of' rfl (by (repeat (first | with_reducible exact Below.refl _ _ | refine below_gw ?_ (by first | exact Nat.le_refl _ | ((repeat (first | rw [World.size_alloc] | rw [World.size_setCell] | rw [World.size_drew] | rw [gw_size])); first | done | omega)) _ | refine Below.alloc ?_ (by first | exact Nat.le_refl _ | ((repeat (first | rw [World.size_alloc] | rw [World.size_setCell] | rw [World.size_drew] | rw [gw_size])); first | done | omega)) _ | refine Below.setCell ?_ (by first | exact Nat.le_refl _ | ((repeat (first | rw [World.size_alloc] | rw [World.size_setCell] | rw [World.size_drew] | rw [gw_size])); first | done | omega)) _ | refine Below.drew ?_))))
    · rw [g1] at hC3
      rw [g2] at hC4
      rw [f1] at hS3
      rw [f2] at hS4
      go_enter Try.func14, Try.ntmps14
      go_wp2
      (refine wp_quiet (by kernel_rfl) (by kernel_rfl) ?_; (repeat (first | go_big_quiet_step (first | (go_at_call 22; first | (with_reducible refine quiet_ret (hC1.out _)) | (with_reducible refine quiet_ret2 (hC1.out _))) | (go_at_call 22; first | (with_reducible refine quiet_ret (hC2.out _)) | (with_reducible refine quiet_ret2 (hC2.out _))) | (go_at_call 24; first | (with_reducible refine quiet_ret (hS1.out _)) | (with_reducible refine quiet_ret2 (hS1.out _))) | (go_at_call 24; first | (with_reducible refine quiet_ret (hS2.out _)) | (with_reducible refine quiet_ret2 (hS2.out _)))) | quiet_step (first | (go_at_call 22; first | (with_reducible refine quiet_ret (hC1.out _)) | (with_reducible refine quiet_ret2 (hC1.out _))) | (go_at_call 22; first | (with_reducible refine quiet_ret (hC2.out _)) | (with_reducible refine quiet_ret2 (hC2.out _))) | (go_at_call 24; first | (with_reducible refine quiet_ret (hS1.out _)) | (with_reducible refine quiet_ret2 (hS1.out _))) | (go_at_call 24; first | (with_reducible refine quiet_ret (hS2.out _)) | (with_reducible refine quiet_ret2 (hS2.out _)))))); refine wpQuiet_nil ?_; intro p)
      go_wp2_with (first | (go_at_call 22; (with_reducible refine calls_ret (hC1.out _) ?_); intro p) | (go_at_call 24; (with_reducible refine calls_ret (hS1.out _) ?_); intro p) | (go_at_call 22; (with_reducible refine calls_ret (hC3.out _) ?_); intro p) | (go_at_call 22; (with_reducible refine calls_ret (hC4.out _) ?_); intro p) | (go_at_call 24; (with_reducible refine calls_ret (hS3.out _) ?_); intro p) | (go_at_call 24; (with_reducible refine calls_ret (hS4.out _) ?_); intro p))
      refine wp_regen (fun q => ?_)
      (refine wp_quiet (by kernel_rfl) (by kernel_rfl) ?_; (repeat (first | go_big_quiet_step (first | (go_at_call 22; first | (with_reducible refine quiet_ret (hC1.out _)) | (with_reducible refine quiet_ret2 (hC1.out _))) | (go_at_call 24; first | (with_reducible refine quiet_ret (hS1.out _)) | (with_reducible refine quiet_ret2 (hS1.out _))) | (go_at_call 21; first | (with_reducible refine quiet_ret (hK.out _)) | (with_reducible refine quiet_ret2 (hK.out _)))) | quiet_step (first | (go_at_call 22; first | (with_reducible refine quiet_ret (hC1.out _)) | (with_reducible refine quiet_ret2 (hC1.out _))) | (go_at_call 24; first | (with_reducible refine quiet_ret (hS1.out _)) | (with_reducible refine quiet_ret2 (hS1.out _))) | (go_at_call 21; first | (with_reducible refine quiet_ret (hK.out _)) | (with_reducible refine quiet_ret2 (hK.out _)))))); refine wpQuiet_nil ?_; intro p)
      go_wp2
      exact bodyPost_ret (v := .bool true) (by simp [results, Try.results14, go_sem]) rfl (Ret.of' rfl (by (repeat (first | with_reducible exact Below.refl _ _ | refine below_gw ?_ (by first | exact Nat.le_refl _ | ((repeat (first | rw [World.size_alloc] | rw [World.size_setCell] | rw [World.size_drew] | rw [gw_size])); first | done | omega)) _ | refine Below.alloc ?_ (by first | exact Nat.le_refl _ | ((repeat (first | rw [World.size_alloc] | rw [World.size_setCell] | rw [World.size_drew] | rw [gw_size])); first | done | omega)) _ | refine Below.setCell ?_ (by first | exact Nat.le_refl _ | ((repeat (first | rw [World.size_alloc] | rw [World.size_setCell] | rw [World.size_drew] | rw [gw_size])); first | done | omega)) _ | refine Below.drew ?_))))
  · rw [e1] at hC1
    rw [e2] at hC2
    rw [e3] at hS1
    rw [e4] at hS2
    clear e1 e2 e3 e4 hC3 hC4 hS3 hS4 ha hb hc
    go_enter Try.func14, Try.ntmps14
    go_wp2
    (refine wp_quiet (by kernel_rfl) (by kernel_rfl) ?_; (repeat (first | go_big_quiet_step (first | (go_at_call 22; first | (with_reducible refine quiet_ret (hC1.out _)) | (with_reducible refine quiet_ret2 (hC1.out _))) | (go_at_call 22; first | (with_reducible refine quiet_ret (hC2.out _)) | (with_reducible refine quiet_ret2 (hC2.out _))) | (go_at_call 24; first | (with_reducible refine quiet_ret (hS1.out _)) | (with_reducible refine quiet_ret2 (hS1.out _))) | (go_at_call 24; first | (with_reducible refine quiet_ret (hS2.out _)) | (with_reducible refine quiet_ret2 (hS2.out _)))) | quiet_step (first | (go_at_call 22; first | (with_reducible refine quiet_ret (hC1.out _)) | (with_reducible refine quiet_ret2 (hC1.out _))) | (go_at_call 22; first | (with_reducible refine quiet_ret (hC2.out _)) | (with_reducible refine quiet_ret2 (hC2.out _))) | (go_at_call 24; first | (with_reducible refine quiet_ret (hS1.out _)) | (with_reducible refine quiet_ret2 (hS1.out _))) | (go_at_call 24; first | (with_reducible refine quiet_ret (hS2.out _)) | (with_reducible refine quiet_ret2 (hS2.out _)))))); refine wpQuiet_nil ?_; intro p)
    go_wp2_with (first | (go_at_call 22; (with_reducible refine calls_ret (hC1.out _) ?_); intro p) | (go_at_call 24; (with_reducible refine calls_ret (hS1.out _) ?_); intro p))
    refine wp_regen (fun q => ?_)
    (refine wp_quiet (by kernel_rfl) (by kernel_rfl) ?_; (repeat (first | go_big_quiet_step (first | (go_at_call 22; first | (with_reducible refine quiet_ret (hC1.out _)) | (with_reducible refine quiet_ret2 (hC1.out _))) | (go_at_call 24; first | (with_reducible refine quiet_ret (hS1.out _)) | (with_reducible refine quiet_ret2 (hS1.out _))) | (go_at_call 21; first | (with_reducible refine quiet_ret (hK.out _)) | (with_reducible refine quiet_ret2 (hK.out _)))) | quiet_step (first | (go_at_call 22; first | (with_reducible refine quiet_ret (hC1.out _)) | (with_reducible refine quiet_ret2 (hC1.out _))) | (go_at_call 24; first | (with_reducible refine quiet_ret (hS1.out _)) | (with_reducible refine quiet_ret2 (hS1.out _))) | (go_at_call 21; first | (with_reducible refine quiet_ret (hK.out _)) | (with_reducible refine quiet_ret2 (hK.out _)))))); refine wpQuiet_nil ?_; intro p)
    go_wp2
    exact bodyPost_ret (v := .bool true) (by simp [results, Try.results14, go_sem]) rfl (Ret.of' rfl (by (repeat (first | with_reducible exact Below.refl _ _ | refine below_gw ?_ (by first | exact Nat.le_refl _ | ((repeat (first | rw [World.size_alloc] | rw [World.size_setCell] | rw [World.size_drew] | rw [gw_size])); first | done | omega)) _ | refine Below.alloc ?_ (by first | exact Nat.le_refl _ | ((repeat (first | rw [World.size_alloc] | rw [World.size_setCell] | rw [World.size_drew] | rw [gw_size])); first | done | omega)) _ | refine Below.setCell ?_ (by first | exact Nat.le_refl _ | ((repeat (first | rw [World.size_alloc] | rw [World.size_setCell] | rw [World.size_drew] | rw [gw_size])); first | done | omega)) _ | refine Below.drew ?_))))
  · rw [e1] at hC1
    rw [e2] at hC2
    rw [e3] at hS1
    rw [e4] at hS2
    rcases cmp_chain a b c e1 with g1 | ⟨g1, g2⟩ <;> clear e1 e2 e3 e4 hS3 hS4 ha hb hc
    · generalize cmpI b c = x3 at *
      go_enter Try.func14, Try.ntmps14
      go_wp2
      (refine wp_quiet (by kernel_rfl) (by kernel_rfl) ?_; (repeat (first | go_big_quiet_step (first | (go_at_call 22; first | (with_reducible refine quiet_ret (hC1.out _)) | (with_reducible refine quiet_ret2 (hC1.out _))) | (go_at_call 22; first | (with_reducible refine quiet_ret (hC2.out _)) | (with_reducible refine quiet_ret2 (hC2.out _))) | (go_at_call 24; first | (with_reducible refine quiet_ret (hS1.out _)) | (with_reducible refine quiet_ret2 (hS1.out _))) | (go_at_call 24; first | (with_reducible refine quiet_ret (hS2.out _)) | (with_reducible refine quiet_ret2 (hS2.out _)))) | quiet_step (first | (go_at_call 22; first | (with_reducible refine quiet_ret (hC1.out _)) | (with_reducible refine quiet_ret2 (hC1.out _))) | (go_at_call 22; first | (with_reducible refine quiet_ret (hC2.out _)) | (with_reducible refine quiet_ret2 (hC2.out _))) | (go_at_call 24; first | (with_reducible refine quiet_ret (hS1.out _)) | (with_reducible refine quiet_ret2 (hS1.out _))) | (go_at_call 24; first | (with_reducible refine quiet_ret (hS2.out _)) | (with_reducible refine quiet_ret2 (hS2.out _)))))); refine wpQuiet_nil ?_; intro p)
      go_wp2_with (first | (go_at_call 22; (with_reducible refine calls_ret (hC1.out _) ?_); intro p) | (go_at_call 24; (with_reducible refine calls_ret (hS1.out _) ?_); intro p) | (go_at_call 22; (with_reducible refine calls_ret (hC3.out _) ?_); intro p))
      refine wp_regen (fun q => ?_)
      (refine wp_quiet (by kernel_rfl) (by kernel_rfl) ?_; (repeat (first | go_big_quiet_step (first | (go_at_call 22; first | (with_reducible refine quiet_ret (hC1.out _)) | (with_reducible refine quiet_ret2 (hC1.out _))) | (go_at_call 24; first | (with_reducible refine quiet_ret (hS1.out _)) | (with_reducible refine quiet_ret2 (hS1.out _))) | (go_at_call 21; first | (with_reducible refine quiet_ret (hK.out _)) | (with_reducible refine quiet_ret2 (hK.out _)))) | quiet_step (first | (go_at_call 22; first | (with_reducible refine quiet_ret (hC1.out _)) | (with_reducible refine quiet_ret2 (hC1.out _))) | (go_at_call 24; first | (with_reducible refine quiet_ret (hS1.out _)) | (with_reducible refine quiet_ret2 (hS1.out _))) | (go_at_call 21; first | (with_reducible refine quiet_ret (hK.out _)) | (with_reducible refine quiet_ret2 (hK.out _)))))); refine wpQuiet_nil ?_; intro p)
      go_wp2
      exact bodyPost_ret (v := .bool true) (by simp [results, Try.results14, go_sem]) rfl (Ret.of' rfl (by (repeat (first | with_reducible exact Below.refl _ _ | refine below_gw ?_ (by first | exact Nat.le_refl _ | ((repeat (first | rw [World.size_alloc] | rw [World.size_setCell] | rw [World.size_drew] | rw [gw_size])); first | done | omega)) _ | refine Below.alloc ?_ (by first | exact Nat.le_refl _ | ((repeat (first | rw [World.size_alloc] | rw [World.size_setCell] | rw [World.size_drew] | rw [gw_size])); first | done | omega)) _ | refine Below.setCell ?_ (by first | exact Nat.le_refl _ | ((repeat (first | rw [World.size_alloc] | rw [World.size_setCell] | rw [World.size_drew] | rw [gw_size])); first | done | omega)) _ | refine Below.drew ?_))))
    · rw [g1] at hC3
      rw [g2] at hC4
      go_enter Try.func14, Try.ntmps14
      go_wp2
      (refine wp_quiet (by kernel_rfl) (by kernel_rfl) ?_; (repeat (first | go_big_quiet_step (first | (go_at_call 22; first | (with_reducible refine quiet_ret (hC1.out _)) | (with_reducible refine quiet_ret2 (hC1.out _))) | (go_at_call 22; first | (with_reducible refine quiet_ret (hC2.out _)) | (with_reducible refine quiet_ret2 (hC2.out _))) | (go_at_call 24; first | (with_reducible refine quiet_ret (hS1.out _)) | (with_reducible refine quiet_ret2 (hS1.out _))) | (go_at_call 24; first | (with_reducible refine quiet_ret (hS2.out _)) | (with_reducible refine quiet_ret2 (hS2.out _)))) | quiet_step (first | (go_at_call 22; first | (with_reducible refine quiet_ret (hC1.out _)) | (with_reducible refine quiet_ret2 (hC1.out _))) | (go_at_call 22; first | (with_reducible refine quiet_ret (hC2.out _)) | (with_reducible refine quiet_ret2 (hC2.out _))) | (go_at_call 24; first | (with_reducible refine quiet_ret (hS1.out _)) | (with_reducible refine quiet_ret2 (hS1.out _))) | (go_at_call 24; first | (with_reducible refine quiet_ret (hS2.out _)) | (with_reducible refine quiet_ret2 (hS2.out _)))))); refine wpQuiet_nil ?_; intro p)
      go_wp2_with (first | (go_at_call 22; (with_reducible refine calls_ret (hC1.out _) ?_); intro p) | (go_at_call 24; (with_reducible refine calls_ret (hS1.out _) ?_); intro p) | (go_at_call 22; (with_reducible refine calls_ret (hC3.out _) ?_); intro p) | (go_at_call 22; (with_reducible refine calls_ret (hC4.out _) ?_); intro p))
      refine wp_regen (fun q => ?_)
      (refine wp_quiet (by kernel_rfl) (by kernel_rfl) ?_; (repeat (first | go_big_quiet_step (first | (go_at_call 22; first | (with_reducible refine quiet_ret (hC1.out _)) | (with_reducible refine quiet_ret2 (hC1.out _))) | (go_at_call 24; first | (with_reducible refine quiet_ret (hS1.out _)) | (with_reducible refine quiet_ret2 (hS1.out _))) | (go_at_call 21; first | (with_reducible refine quiet_ret (hK.out _)) | (with_reducible refine quiet_ret2 (hK.out _)))) | quiet_step (first | (go_at_call 22; first | (with_reducible refine quiet_ret (hC1.out _)) | (with_reducible refine quiet_ret2 (hC1.out _))) | (go_at_call 24; first | (with_reducible refine quiet_ret (hS1.out _)) | (with_reducible refine quiet_ret2 (hS1.out _))) | (go_at_call 21; first | (with_reducible refine quiet_ret (hK.out _)) | (with_reducible refine quiet_ret2 (hK.out _)))))); refine wpQuiet_nil ?_; intro p)
      go_wp2
      exact bodyPost_ret (v := .bool true) (by simp [results, Try.results14, go_sem]) rfl (Ret.of' rfl (by (repeat (first | with_reducible exact Below.refl _ _ | refine below_gw ?_ (by first | exact Nat.le_refl _ | ((repeat (first | rw [World.size_alloc] | rw [World.size_setCell] | rw [World.size_drew] | rw [gw_size])); first | done | omega)) _ | refine Below.alloc ?_ (by first | exact Nat.le_refl _ | ((repeat (first | rw [World.size_alloc] | rw [World.size_setCell] | rw [World.size_drew] | rw [gw_size])); first | done | omega)) _ | refine Below.setCell ?_ (by first | exact Nat.le_refl _ | ((repeat (first | rw [World.size_alloc] | rw [World.size_setCell] | rw [World.size_drew] | rw [gw_size])); first | done | omega)) _ | refine Below.drew ?_))))
  · rw [e1] at hC1
    rw [e2] at hC2
    rw [e3] at hS1
    rw [e4] at hS2
    rcases scmp_chain a b c ha hb hc e3 with f1 | ⟨f1, f2⟩ <;> clear e1 e2 e3 e4 hC3 hC4 ha hb hc
    · generalize scmpI b c = y3 at *
      go_enter Try.func14, Try.ntmps14
      go_wp2
      (refine wp_quiet (by kernel_rfl) (by kernel_rfl) ?_; (repeat (first | go_big_quiet_step (first | (go_at_call 22; first | (with_reducible refine quiet_ret (hC1.out _)) | (with_reducible refine quiet_ret2 (hC1.out _))) | (go_at_call 22; first | (with_reducible refine quiet_ret (hC2.out _)) | (with_reducible refine quiet_ret2 (hC2.out _))) | (go_at_call 24; first | (with_reducible refine quiet_ret (hS1.out _)) | (with_reducible refine quiet_ret2 (hS1.out _))) | (go_at_call 24; first | (with_reducible refine quiet_ret (hS2.out _)) | (with_reducible refine quiet_ret2 (hS2.out _)))) | quiet_step (first | (go_at_call 22; first | (with_reducible refine quiet_ret (hC1.out _)) | (with_reducible refine quiet_ret2 (hC1.out _))) | (go_at_call 22; first | (with_reducible refine quiet_ret (hC2.out _)) | (with_reducible refine quiet_ret2 (hC2.out _))) | (go_at_call 24; first | (with_reducible refine quiet_ret (hS1.out _)) | (with_reducible refine quiet_ret2 (hS1.out _))) | (go_at_call 24; first | (with_reducible refine quiet_ret (hS2.out _)) | (with_reducible refine quiet_ret2 (hS2.out _)))))); refine wpQuiet_nil ?_; intro p)
      go_wp2_with (first | (go_at_call 22; (with_reducible refine calls_ret (hC1.out _) ?_); intro p) | (go_at_call 24; (with_reducible refine calls_ret (hS1.out _) ?_); intro p) | (go_at_call 24; (with_reducible refine calls_ret (hS3.out _) ?_); intro p))
      refine wp_regen (fun q => ?_)
      (refine wp_quiet (by kernel_rfl) (by kernel_rfl) ?_; (repeat (first | go_big_quiet_step (first | (go_at_call 22; first | (with_reducible refine quiet_ret (hC1.out _)) | (with_reducible refine quiet_ret2 (hC1.out _))) | (go_at_call 24; first | (with_reducible refine quiet_ret (hS1.out _)) | (with_reducible refine quiet_ret2 (hS1.out _))) | (go_at_call 21; first | (with_reducible refine quiet_ret (hK.out _)) | (with_reducible refine quiet_ret2 (hK.out _)))) | quiet_step (first | (go_at_call 22; first | (with_reducible refine quiet_ret (hC1.out _)) | (with_reducible refine quiet_ret2 (hC1.out _))) | (go_at_call 24; first | (with_reducible refine quiet_ret (hS1.out _)) | (with_reducible refine quiet_ret2 (hS1.out _))) | (go_at_call 21; first | (with_reducible refine quiet_ret (hK.out _)) | (with_reducible refine quiet_ret2 (hK.out _)))))); refine wpQuiet_nil ?_; intro p)
      go_wp2
      exact bodyPost_ret (v := .bool true) (by simp [results, Try.results14, go_sem]) rfl (Ret.of' rfl (by (repeat (first | with_reducible exact Below.refl _ _ | refine below_gw ?_ (by first | exact Nat.le_refl _ | ((repeat (first | rw [World.size_alloc] | rw [World.size_setCell] | rw [World.size_drew] | rw [gw_size])); first | done | omega)) _ | refine Below.alloc ?_ (by first | exact Nat.le_refl _ | ((repeat (first | rw [World.size_alloc] | rw [World.size_setCell] | rw [World.size_drew] | rw [gw_size])); first | done | omega)) _ | refine Below.setCell ?_ (by first | exact Nat.le_refl _ | ((repeat (first | rw [World.size_alloc] | rw [World.size_setCell] | rw [World.size_drew] | rw [gw_size])); first | done | omega)) _ | refine Below.drew ?_))))
    · rw [f1] at hS3
      rw [f2] at hS4
      go_enter Try.func14, Try.ntmps14
      go_wp2
      (refine wp_quiet (by kernel_rfl) (by kernel_rfl) ?_; (repeat (first | go_big_quiet_step (first | (go_at_call 22; first | (with_reducible refine quiet_ret (hC1.out _)) | (with_reducible refine quiet_ret2 (hC1.out _))) | (go_at_call 22; first | (with_reducible refine quiet_ret (hC2.out _)) | (with_reducible refine quiet_ret2 (hC2.out _))) | (go_at_call 24; first | (with_reducible refine quiet_ret (hS1.out _)) | (with_reducible refine quiet_ret2 (hS1.out _))) | (go_at_call 24; first | (with_reducible refine quiet_ret (hS2.out _)) | (with_reducible refine quiet_ret2 (hS2.out _)))) | quiet_step (first | (go_at_call 22; first | (with_reducible refine quiet_ret (hC1.out _)) | (with_reducible refine quiet_ret2 (hC1.out _))) | (go_at_call 22; first | (with_reducible refine quiet_ret (hC2.out _)) | (with_reducible refine quiet_ret2 (hC2.out _))) | (go_at_call 24; first | (with_reducible refine quiet_ret (hS1.out _)) | (with_reducible refine quiet_ret2 (hS1.out _))) | (go_at_call 24; first | (with_reducible refine quiet_ret (hS2.out _)) | (with_reducible refine quiet_ret2 (hS2.out _)))))); refine wpQuiet_nil ?_; intro p)
      go_wp2_with (first | (go_at_call 22; (with_reducible refine calls_ret (hC1.out _) ?_); intro p) | (go_at_call 24; (with_reducible refine calls_ret (hS1.out _) ?_); intro p) | (go_at_call 24; (with_reducible refine calls_ret (hS3.out _) ?_); intro p) | (go_at_call 24; (with_reducible refine calls_ret (hS4.out _) ?_); intro p))
      refine wp_regen (fun q => ?_)
      (refine wp_quiet (by kernel_rfl) (by kernel_rfl) ?_; (repeat (first | go_big_quiet_step (first | (go_at_call 22; first | (with_reducible refine quiet_ret (hC1.out _)) | (with_reducible refine quiet_ret2 (hC1.out _))) | (go_at_call 24; first | (with_reducible refine quiet_ret (hS1.out _)) | (with_reducible refine quiet_ret2 (hS1.out _))) | (go_at_call 21; first | (with_reducible refine quiet_ret (hK.out _)) | (with_reducible refine quiet_ret2 (hK.out _)))) | quiet_step (first | (go_at_call 22; first | (with_reducible refine quiet_ret (hC1.out _)) | (with_reducible refine quiet_ret2 (hC1.out _))) | (go_at_call 24; first | (with_reducible refine quiet_ret (hS1.out _)) | (with_reducible refine quiet_ret2 (hS1.out _))) | (go_at_call 21; first | (with_reducible refine quiet_ret (hK.out _)) | (with_reducible refine quiet_ret2 (hK.out _)))))); refine wpQuiet_nil ?_; intro p)
      go_wp2
      exact bodyPost_ret (v := .bool true) (by simp [results, Try.results14, go_sem]) rfl (Ret.of' rfl (by (repeat (first | with_reducible exact Below.refl _ _ | refine below_gw ?_ (by first | exact Nat.le_refl _ | ((repeat (first | rw [World.size_alloc] | rw [World.size_setCell] | rw [World.size_drew] | rw [gw_size])); first | done | omega)) _ | refine Below.alloc ?_ (by first | exact Nat.le_refl _ | ((repeat (first | rw [World.size_alloc] | rw [World.size_setCell] | rw [World.size_drew] | rw [gw_size])); first | done | omega)) _ | refine Below.setCell ?_ (by first | exact Nat.le_refl _ | ((repeat (first | rw [World.size_alloc] | rw [World.size_setCell] | rw [World.size_drew] | rw [gw_size])); first | done | omega)) _ | refine Below.drew ?_))))
end Go.Proofs.Ytnhfgjeaacnjmaa
