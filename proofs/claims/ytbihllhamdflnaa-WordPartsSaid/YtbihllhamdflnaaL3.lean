/-
  The law WordParts, walked: for words a, b (each below 2^256) it answers true; the world is the same but for new memory.
-/
import Derived.Test.YtbihllhamdflnaaLB
namespace Go.Proofs.Ytbihllhamdflnaa
open Go.RowKit
theorem parts_plain {a b : Nat} (ha : a < W) (h : b ≠ 0) : rstN a b = a % b ∧ mulB (a / b) b = false ∧ addN (mulN (a / b) b) (a % b) = a ∧ addB (mulN (a / b) b) (a % b) = false ∧ cmpI (a % b) b = -1 := by
  have h1 : a / b * b ≤ a := Nat.div_mul_le_self a b
  have h2 : a / b * b + a % b = a := Nat.div_add_mod' a b
  have h3 : a % b < b := Nat.mod_lt _ (by omega)
  have hm : mulN (a / b) b = a / b * b := by unfold mulN; exact Nat.mod_eq_of_lt (by omega)
  refine ⟨by unfold rstN; rw [if_neg h], by unfold mulB; simp; omega, ?_, ?_, ?_⟩
  · rw [hm]; unfold addN; rw [h2]; exact Nat.mod_eq_of_lt ha
  · rw [hm]; unfold addB; rw [h2]; simp; omega
  · unfold cmpI; rw [if_neg (by omega), if_pos h3]
def sg (n : Bool) : Int := if n = true then -1 else 1
theorem flip_cong {v : Nat} (n : Bool) (h : v < W) : ∃ k : Int, (flipN v n : Int) = sg n * v + W * k := by
  cases n
  · exact ⟨0, by simp [flipN, sg]⟩
  · by_cases h0 : v = 0
    · subst h0; exact ⟨0, by simp [flipN, sg, subN]⟩
    · refine ⟨1, ?_⟩
      have : flipN v true = W - v := by unfold flipN subN; rw [if_pos rfl, Nat.zero_add]; exact Nat.mod_eq_of_lt (by omega)
      rw [this]; unfold sg; simp; omega
theorem sg_sq (n : Bool) : sg n * sg n = 1 := by cases n <;> rfl
theorem sg_ne (m n : Bool) : sg (!m == n) = sg m * sg n := by cases m <;> cases n <;> rfl
theorem lin (s t q r A B x y a b w ka kb kq kr : Int) (hA : A = q * B + r) (s1 : s * s = 1)
    (eq : x = s * t * q + w * kq) (er : y = s * r + w * kr) (ea : A = s * a + w * ka) (eb : B = t * b + w * kb) :
    x * b + y = a + w * (kq * b + kr + s * ka - s * q * kb) := by
  subst eq er
  have h1 : a = s * A - w * (s * ka) := by
    rw [ea, Int.mul_add, ← Int.mul_assoc s s a, s1, Int.one_mul, ← Int.mul_assoc s w ka, Int.mul_comm s w, Int.mul_assoc w s ka]; omega
  rw [h1, hA]
  have h2 : t * b = B - w * kb := by omega
  have h3 : s * t * q * b = s * q * (t * b) := by ac_rfl
  rw [Int.add_mul, h3, h2]
  simp only [Int.mul_add, Int.mul_sub, Int.add_mul, Int.sub_mul]
  have g1 : s * (q * B) = s * q * B := by ac_rfl
  have g2 : w * (s * q * kb) = s * q * (w * kb) := by ac_rfl
  have g3 : w * kq * b = w * (kq * b) := by ac_rfl
  rw [g1, g2, g3]
  omega
theorem parts_signed {a b : Nat} (ha : a < W) (hb : b < W) (h : b ≠ 0) : addN (mulN (sdQ a b) b) (sdR a b) = a := by
  have la := flipN_lt (negB a) ha
  have lb := flipN_lt (negB b) hb
  have hb0 : flipN b (negB b) ≠ 0 := by
    unfold flipN; split
    · unfold subN; rw [Nat.zero_add, Nat.mod_eq_of_lt (by omega)]; omega
    · exact h
  obtain ⟨ka, ea⟩ := flip_cong (negB a) ha
  obtain ⟨kb, eb⟩ := flip_cong (negB b) hb
  have hr : rstN (flipN a (negB a)) (flipN b (negB b)) = flipN a (negB a) % flipN b (negB b) := by unfold rstN; rw [if_neg hb0]
  unfold sdQ sdR
  rw [hr]
  generalize hA : flipN a (negB a) = A at *
  generalize hB : flipN b (negB b) = B at *
  have hq : A / B < W := Nat.lt_of_le_of_lt (Nat.div_le_self _ _) la
  have hR : A % B < W := Nat.lt_of_le_of_lt (Nat.mod_le _ _) la
  obtain ⟨kq, eq⟩ := flip_cong (!negB a == negB b) hq
  obtain ⟨kr, er⟩ := flip_cong (negB a) hR
  rw [sg_ne] at eq
  generalize flipN (A / B) (!negB a == negB b) = x at *
  generalize flipN (A % B) (negB a) = y at *
  have hAB : (A : Int) = A / B * B + A % B := by
    have := Nat.div_add_mod' A B
    exact_mod_cast this.symm
  have s1 := sg_sq (negB a)
  have s2 := sg_sq (negB b)
  generalize sg (negB a) = s at *
  generalize sg (negB b) = t at *
  unfold addN mulN
  rw [Nat.mod_add_mod]
  have hK : ((x * b + y : Nat) : Int) = a + W * (kq * b + kr + s * ka - s * (A / B : Nat) * kb) := by
    have e1 : ((x * b + y : Nat) : Int) = x * b + y := by simp
    rw [e1]
    exact lin _ _ _ _ _ _ _ _ _ _ _ _ _ _ _ (by rw [hAB]; simp) s1 eq er ea eb
  have := congrArg (· % (W : Int)) hK
  simp only [Int.add_mul_emod_self_left] at this
  have h9 : ((x * b + y : Nat) : Int) % (W : Int) = ((x * b + y) % W : Nat) := by simp
  rw [h9] at this
  have h10 : (a : Int) % (W : Int) = a := Int.emod_eq_of_lt (by omega) (by omega)
  rw [h10] at this
  exact_mod_cast this
theorem parts_sign {a b : Nat} (ha : a < W) (hb : b < W) (h : b ≠ 0) (hy : sdR a b ≠ 0) :
    (scmpI (sdR a b) 0 = -1 ∧ scmpI a 0 = -1) ∨ (scmpI (sdR a b) 0 = 1 ∧ scmpI a 0 = 1) := by
  have hW : W = 2 * (W / 2) := by decide
  have h0 : negB 0 = false := by decide
  have key : ∀ v, v < W → v ≠ 0 → scmpI v 0 = if negB v = true then -1 else 1 := by
    intro v hv hv0
    unfold scmpI cmpI
    rw [h0]
    cases negB v <;> simp [hv0] <;> omega
  have hlt : sdR a b < W := by
    unfold sdR
    refine flipN_lt _ ?_
    unfold rstN
    split
    · exact W_pos
    · exact Nat.lt_of_le_of_lt (Nat.mod_le _ _) (flipN_lt _ ha)
  have hle : rstN (flipN a (negB a)) (flipN b (negB b)) ≤ flipN a (negB a) := by
    unfold rstN; split
    · exact Nat.zero_le _
    · exact Nat.mod_le _ _
  have ha0 : a ≠ 0 := by
    rintro rfl
    apply hy
    unfold sdR
    rw [h0]
    have : rstN (flipN 0 false) (flipN b (negB b)) = 0 := by
      unfold rstN flipN; simp
    rw [this]; rfl
  have hs : negB (sdR a b) = negB a := by
    revert hy
    unfold sdR
    generalize rstN (flipN a (negB a)) (flipN b (negB b)) = r at *
    cases hn : negB a
    · rw [hn] at hle
      unfold negB at hn ⊢
      simp only [decide_eq_false_iff_not] at hn
      intro _
      simp only [flipN, Bool.false_eq_true, if_false] at hle ⊢
      simp; omega
    · rw [hn] at hle
      unfold negB at hn ⊢
      simp only [decide_eq_true_eq] at hn
      simp only [flipN, if_true] at hle ⊢
      have e1 : subN 0 a = W - a := by unfold subN; rw [Nat.zero_add]; exact Nat.mod_eq_of_lt (by omega)
      rw [e1] at hle
      intro hr
      have hr0 : r ≠ 0 := by rintro rfl; exact hr (by simp [subN])
      have e2 : subN 0 r = W - r := by unfold subN; rw [Nat.zero_add]; exact Nat.mod_eq_of_lt (by omega)
      rw [e2]; simp; omega
  rw [key _ hlt hy, key _ ha ha0, hs]
  cases negB a <;> simp

theorem sdR_lt (a b : Nat) (ha : a < W) : sdR a b < W := by
  unfold sdR
  exact flipN_lt _ (rstN_lt _ (flipN_lt _ ha))
theorem sdQ_lt (a b : Nat) (ha : a < W) : sdQ a b < W := by
  unfold sdQ
  exact flipN_lt _ (divN_lt _ (flipN_lt _ ha))
theorem parts_zero {a b : Nat} (h : b = 0) : a / b = b ∧ rstN a b = b ∧ sdQ a b = b ∧ sdR a b = b := by
  subst h
  have h0 : negB 0 = false := by decide
  have hf : ∀ n, flipN 0 n = 0 := by intro n; cases n <;> simp [flipN, subN]
  have hr : ∀ x, rstN x 0 = 0 := by intro x; unfold rstN; rw [if_pos rfl]
  refine ⟨Nat.div_zero _, hr _, ?_, ?_⟩
  · unfold sdQ; rw [hf (negB 0), Nat.div_zero]; exact hf _
  · unfold sdR; rw [hf (negB 0), hr]; exact hf _
@[local go_sem] theorem eqlW0 (b : Nat) (w : World) : (Op.equalIn 10000 24 (WV b) (.agg #[.int .u64 0, .int .u64 0, .int .u64 0, .int .u64 0])).run Try.prog w = .ok (decide (b % W = 0)) w := by
  have h := eqlWV b 0 w
  rw [WV_zero, Nat.zero_mod] at h
  exact h
set_option maxHeartbeats 8000000 in
theorem parts_any (a b : Nat) (ha : a < W) (hb : b < W) (w : World) : Calls Try.prog 11 #[WV a, WV b] w (Ret w (.bool true)) := by
  have hK := Lib.hid (fun w => known_any w)
  have hD := Lib.hid (fun w => div_any a b ha hb w)
  have hS := Lib.hid (fun w => sdiv_any a b ha hb w)
  by_cases h : b = 0
  · obtain ⟨e1, e2, e3, e4⟩ := parts_zero (a := a) h
    rw [e1, e2] at hD
    rw [e3, e4] at hS
    have hz : decide (b % W = 0) = true := by subst h; rfl
    clear e1 e2 e3 e4 ha hb h
    go_enter Try.func11, Try.ntmps11
    go_wp2_with (first | (go_at_call 26; (with_reducible refine calls_ret (hD.out _) ?_); intro p) | (go_at_call 28; (with_reducible refine calls_ret (hS.out _) ?_); intro p) | (go_at_call 21; (with_reducible refine calls_ret (hK.out _) ?_); intro p))
    exact bodyPost_ret (v := .bool true) (by simp [results, Try.results11, go_sem]) rfl (Ret.of' rfl (by (repeat (first | with_reducible exact Below.refl _ _ | refine below_gw ?_ (by first | exact Nat.le_refl _ | (simp only [World.size_alloc, World.size_setCell, World.size_drew, gw_size]; omega)) _ | refine Below.alloc ?_ (by first | exact Nat.le_refl _ | (simp only [World.size_alloc, World.size_setCell, World.size_drew, gw_size]; omega)) _ | refine Below.setCell ?_ (by first | exact Nat.le_refl _ | (simp only [World.size_alloc, World.size_setCell, World.size_drew, gw_size]; omega)) _ | refine Below.drew ?_))))
  · obtain ⟨e1, e2, e3, e4, e5⟩ := parts_plain ha h
    have e6 := parts_signed ha hb h
    have e7 : sdR a b ≠ 0 → _ := parts_sign ha hb h
    have hz : decide (b % W = 0) = false := by rw [Nat.mod_eq_of_lt hb]; simpa using h
    rw [e1] at hD
    have hr : a % b < W := Nat.lt_of_le_of_lt (Nat.mod_le _ _) ha
    have hM := Lib.hid (fun w => mul_any (a / b) b (divN_lt _ ha) hb w)
    have hA := Lib.hid (fun w => add_any (mulN (a / b) b) (a % b) (mulN_lt _ _) hr w)
    have hN := Lib.hid (fun w => mul_any (sdQ a b) b (sdQ_lt _ _ ha) hb w)
    have hB := Lib.hid (fun w => add_any (mulN (sdQ a b) b) (sdR a b) (mulN_lt _ _) (sdR_lt _ _ ha) w)
    have hC := Lib.hid (fun w => cmp_any (a % b) b hr hb w)
    have hY := Lib.hid (fun w => scmp_any (sdR a b) 0 (sdR_lt _ _ ha) W_pos w)
    have hX := Lib.hid (fun w => scmp_any a 0 ha W_pos w)
    have hy := sdR_lt a b ha
    rw [WV_zero] at hY hX
    rw [e2] at hM
    rw [e3, e4] at hA
    rw [e5] at hC
    rw [e6] at hB
    clear e1 e2 e3 e4 e5 e6 hr
    generalize mulN (a / b) b = p at *
    generalize a % b = r at *
    generalize a / b = q at *
    generalize mulN (sdQ a b) b = m at *
    generalize mulB (sdQ a b) b = o1 at *
    generalize addB m (sdR a b) = o2 at *
    generalize sdQ a b = x at *
    generalize sdR a b = y at *
    by_cases hy0 : y = 0
    · have hyz : decide (y % W = 0) = true := by subst hy0; rfl
      clear e7 hy hy0 ha hb h hY hX
      go_enter Try.func11, Try.ntmps11
      go_wp2_with (first | (go_at_call 26; (with_reducible refine calls_ret (hD.out _) ?_); intro p) | (go_at_call 28; (with_reducible refine calls_ret (hS.out _) ?_); intro p))
      go_wp2_with (first | (go_at_call 19; (with_reducible refine calls_ret (hM.out _) ?_); intro p) | (go_at_call 15; (with_reducible refine calls_ret (hA.out _) ?_); intro p))
      go_wp2_with (first | (go_at_call 19; (with_reducible refine calls_ret (hN.out _) ?_); intro p) | (go_at_call 15; (with_reducible refine calls_ret (hB.out _) ?_); intro p))
      (refine wp_quiet (by kernel_rfl) (by kernel_rfl) ?_; (repeat (first | go_big_quiet_step (fail) | quiet_step (fail))); refine wpQuiet_nil ?_; intro p)
      go_wp2_with (first | (go_at_call 22; (with_reducible refine calls_ret (hC.out _) ?_); intro p) | (go_at_call 21; (with_reducible refine calls_ret (hK.out _) ?_); intro p))
      exact bodyPost_ret (v := .bool true) (by simp [results, Try.results11, go_sem]) rfl (Ret.of' rfl (by (repeat (first | with_reducible exact Below.refl _ _ | refine below_gw ?_ (by first | exact Nat.le_refl _ | (simp only [World.size_alloc, World.size_setCell, World.size_drew, gw_size]; omega)) _ | refine Below.alloc ?_ (by first | exact Nat.le_refl _ | (simp only [World.size_alloc, World.size_setCell, World.size_drew, gw_size]; omega)) _ | refine Below.setCell ?_ (by first | exact Nat.le_refl _ | (simp only [World.size_alloc, World.size_setCell, World.size_drew, gw_size]; omega)) _ | refine Below.drew ?_))))
    · have hyz : decide (y % W = 0) = false := by rw [Nat.mod_eq_of_lt hy]; simpa using hy0
      rcases e7 hy0 with ⟨f1, f2⟩ | ⟨f1, f2⟩ <;> rw [f1] at hY <;> rw [f2] at hX <;> clear f1 f2 e7 hy hy0 ha hb h
      all_goals
        go_enter Try.func11, Try.ntmps11
        go_wp2_with (first | (go_at_call 26; (with_reducible refine calls_ret (hD.out _) ?_); intro p) | (go_at_call 28; (with_reducible refine calls_ret (hS.out _) ?_); intro p))
        go_wp2_with (first | (go_at_call 19; (with_reducible refine calls_ret (hM.out _) ?_); intro p) | (go_at_call 15; (with_reducible refine calls_ret (hA.out _) ?_); intro p))
        go_wp2_with (first | (go_at_call 19; (with_reducible refine calls_ret (hN.out _) ?_); intro p) | (go_at_call 15; (with_reducible refine calls_ret (hB.out _) ?_); intro p))
        (refine wp_quiet (by kernel_rfl) (by kernel_rfl) ?_; (repeat (first | go_big_quiet_step (first | (go_at_call 24; first | (with_reducible refine quiet_ret (hY.out _)) | (with_reducible refine quiet_ret2 (hY.out _))) | (go_at_call 24; first | (with_reducible refine quiet_ret (hX.out _)) | (with_reducible refine quiet_ret2 (hX.out _)))) | quiet_step (first | (go_at_call 24; first | (with_reducible refine quiet_ret (hY.out _)) | (with_reducible refine quiet_ret2 (hY.out _))) | (go_at_call 24; first | (with_reducible refine quiet_ret (hX.out _)) | (with_reducible refine quiet_ret2 (hX.out _)))))); refine wpQuiet_nil ?_; intro p)
        go_wp2_with (first | (go_at_call 22; (with_reducible refine calls_ret (hC.out _) ?_); intro p) | (go_at_call 21; (with_reducible refine calls_ret (hK.out _) ?_); intro p))
        exact bodyPost_ret (v := .bool true) (by simp [results, Try.results11, go_sem]) rfl (Ret.of' rfl (by (repeat (first | with_reducible exact Below.refl _ _ | refine below_gw ?_ (by first | exact Nat.le_refl _ | (simp only [World.size_alloc, World.size_setCell, World.size_drew, gw_size]; omega)) _ | refine Below.alloc ?_ (by first | exact Nat.le_refl _ | (simp only [World.size_alloc, World.size_setCell, World.size_drew, gw_size]; omega)) _ | refine Below.setCell ?_ (by first | exact Nat.le_refl _ | (simp only [World.size_alloc, World.size_setCell, World.size_drew, gw_size]; omega)) _ | refine Below.drew ?_))))
end Go.Proofs.Ytbihllhamdflnaa
