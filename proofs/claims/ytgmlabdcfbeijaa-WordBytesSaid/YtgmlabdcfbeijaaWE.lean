/-
  What the laws ask first (known) answers true, walked.
-/
import Derived.Test.YtgmlabdcfbeijaaWC
namespace Go.Proofs.Ytgmlabdcfbeijaa
set_option linter.unusedSimpArgs false
set_option linter.unusedVariables false
open Go.RowKit
theorem known_mul : WV 57896044618658097711785492504343953926634992332820282019728792003956564819968 = .agg #[.int .u64 0, .int .u64 0, .int .u64 0, .int .u64 9223372036854775808] := by
  have h0 : lm 57896044618658097711785492504343953926634992332820282019728792003956564819968 0 = 0 := by decide
  have h1 : lm 57896044618658097711785492504343953926634992332820282019728792003956564819968 1 = 0 := by decide
  have h2 : lm 57896044618658097711785492504343953926634992332820282019728792003956564819968 2 = 0 := by decide
  have h3 : lm 57896044618658097711785492504343953926634992332820282019728792003956564819968 3 = 9223372036854775808 := by decide
  unfold WV
  rw [h0, h1, h2, h3]
  rfl
theorem k_sub : (subN 0 1, subB 0 1) = (W - 1, true) := by kernel_rfl
theorem k_div : (sdQ (W - 7) 2, sdR (W - 7) 2) = (W - 3, W - 1) := by kernel_rfl
theorem k_mul : rstN (57896044618658097711785492504343953926634992332820282019728792003956564819968 * 2) 3 = 1 := by kernel_rfl
theorem k_ext : exN 0 255 = W - 1 := by kernel_rfl
theorem k_sar : shdM 1 (W - 3) (sgF (W - 3)) = W - 2 := by kernel_rfl
theorem k_byte : byteN 31 43981 = 205 := by kernel_rfl
theorem ltW {n : Nat} (h : n < 18446744073709551616) : n < W := Nat.lt_trans h (by unfold W; decide)
theorem subW (n : Nat) (h : 0 < n) : W - n < W := Nat.sub_lt W_pos h
set_option maxHeartbeats 4000000 in
theorem known_any (w : World) : Calls Try.prog 12 #[] w (Ret w (.bool true)) := by
  have hs := Lib.hid (fun w => sub_any 0 1 (ltW (by decide)) (ltW (by decide)) w)
  rw [show subN 0 1 = W - 1 from congrArg Prod.fst k_sub, show subB 0 1 = true from congrArg Prod.snd k_sub] at hs
  have hd := Lib.hid (fun w => sdiv_any (W - 7) 2 (subW _ (by decide)) (ltW (by decide)) w)
  rw [show sdQ (W - 7) 2 = W - 3 from congrArg Prod.fst k_div, show sdR (W - 7) 2 = W - 1 from congrArg Prod.snd k_div] at hd
  have hm := Lib.hid (fun w => mulMod_any 57896044618658097711785492504343953926634992332820282019728792003956564819968 2 3 (by unfold W; decide) (ltW (by decide)) (ltW (by decide)) w)
  rw [k_mul, known_mul] at hm
  have he := Lib.hid (fun w => extend_any 0 255 (ltW (by decide)) (ltW (by decide)) w)
  rw [k_ext] at he
  have ha := Lib.hid (fun w => sarm_any 1 (W - 3) (ltW (by decide)) (subW _ (by decide)) w)
  rw [k_sar] at ha
  have hb := Lib.hid (fun w => byte_any 31 43981 (ltW (by decide)) w)
  rw [k_byte] at hb
  have w0 : Hid (∀ w, Calls Try.prog 37 #[.int .u64 0] w (Ret w (WV 0))) := Lib.hid (fun w => w_any 0 (by decide) w)
  have w1 : Hid (∀ w, Calls Try.prog 37 #[.int .u64 1] w (Ret w (WV 1))) := Lib.hid (fun w => w_any 1 (by decide) w)
  have w2 : Hid (∀ w, Calls Try.prog 37 #[.int .u64 2] w (Ret w (WV 2))) := Lib.hid (fun w => w_any 2 (by decide) w)
  have w3 : Hid (∀ w, Calls Try.prog 37 #[.int .u64 3] w (Ret w (WV 3))) := Lib.hid (fun w => w_any 3 (by decide) w)
  have w31 : Hid (∀ w, Calls Try.prog 37 #[.int .u64 31] w (Ret w (WV 31))) := Lib.hid (fun w => w_any 31 (by decide) w)
  have wff : Hid (∀ w, Calls Try.prog 37 #[.int .u64 255] w (Ret w (WV 255))) := Lib.hid (fun w => w_any 255 (by decide) w)
  have wab : Hid (∀ w, Calls Try.prog 37 #[.int .u64 43981] w (Ret w (WV 43981))) := Lib.hid (fun w => w_any 43981 (by decide) w)
  have wcd : Hid (∀ w, Calls Try.prog 37 #[.int .u64 205] w (Ret w (WV 205))) := Lib.hid (fun w => w_any 205 (by decide) w)
  have m1 : Hid (∀ w, Calls Try.prog 54 #[.int .u64 1] w (Ret w (WV (W - 1)))) := Lib.hid (fun w => minus_any 1 (by decide) (by decide) w)
  have m2 : Hid (∀ w, Calls Try.prog 54 #[.int .u64 2] w (Ret w (WV (W - 2)))) := Lib.hid (fun w => minus_any 2 (by decide) (by decide) w)
  have m3 : Hid (∀ w, Calls Try.prog 54 #[.int .u64 3] w (Ret w (WV (W - 3)))) := Lib.hid (fun w => minus_any 3 (by decide) (by decide) w)
  have m7 : Hid (∀ w, Calls Try.prog 54 #[.int .u64 7] w (Ret w (WV (W - 7)))) := Lib.hid (fun w => minus_any 7 (by decide) (by decide) w)
  generalize W - 1 = x1 at *
  generalize W - 2 = x2 at *
  generalize W - 3 = x3 at *
  generalize W - 7 = x7 at *
  generalize (0 : Nat) = y0 at w0 hs he
  generalize (1 : Nat) = y1 at w1 hs hm ha
  generalize (2 : Nat) = y2 at w2 hd hm
  generalize (3 : Nat) = y3 at w3 hm
  generalize (31 : Nat) = y31 at w31 hb
  generalize (255 : Nat) = yff at wff he
  generalize (43981 : Nat) = yab at wab hb
  generalize (205 : Nat) = ycd at wcd hb
  go_enter Try.func12, Try.ntmps12
  go_wp2_with first | (go_at_call 37; (with_reducible refine calls_ret (w0.out _) ?_); intro p) | (go_at_call 37; (with_reducible refine calls_ret (w1.out _) ?_); intro p) | (go_at_call 37; (with_reducible refine calls_ret (w2.out _) ?_); intro p) | (go_at_call 54; (with_reducible refine calls_ret (m7.out _) ?_); intro p) | (go_at_call 49; (with_reducible refine calls_ret (hs.out _) ?_); intro p) | (go_at_call 10; (with_reducible refine calls_ret (hd.out _) ?_); intro p)
  (refine wp_quiet (by kernel_rfl) (by kernel_rfl) ?_; (repeat (first | go_big_quiet_step (first | (go_at_call 54; first | (with_reducible refine quiet_ret (m1.out _)) | (with_reducible refine quiet_ret2 (m1.out _))) | (go_at_call 54; first | (with_reducible refine quiet_ret (m3.out _)) | (with_reducible refine quiet_ret2 (m3.out _))) | (go_at_call 37; first | (with_reducible refine quiet_ret (w1.out _)) | (with_reducible refine quiet_ret2 (w1.out _))) | (go_at_call 37; first | (with_reducible refine quiet_ret (w2.out _)) | (with_reducible refine quiet_ret2 (w2.out _))) | (go_at_call 37; first | (with_reducible refine quiet_ret (w3.out _)) | (with_reducible refine quiet_ret2 (w3.out _))) | (go_at_call 15; first | (with_reducible refine quiet_ret (hm.out _)) | (with_reducible refine quiet_ret2 (hm.out _)))) | quiet_step (first | (go_at_call 54; first | (with_reducible refine quiet_ret (m1.out _)) | (with_reducible refine quiet_ret2 (m1.out _))) | (go_at_call 54; first | (with_reducible refine quiet_ret (m3.out _)) | (with_reducible refine quiet_ret2 (m3.out _))) | (go_at_call 37; first | (with_reducible refine quiet_ret (w1.out _)) | (with_reducible refine quiet_ret2 (w1.out _))) | (go_at_call 37; first | (with_reducible refine quiet_ret (w2.out _)) | (with_reducible refine quiet_ret2 (w2.out _))) | (go_at_call 37; first | (with_reducible refine quiet_ret (w3.out _)) | (with_reducible refine quiet_ret2 (w3.out _))) | (go_at_call 15; first | (with_reducible refine quiet_ret (hm.out _)) | (with_reducible refine quiet_ret2 (hm.out _)))))); refine wpQuiet_nil ?_; intro p)
  go_wp2_with (first | (go_at_call 37; (with_reducible refine calls_ret (w0.out _) ?_); intro p) | (go_at_call 37; (with_reducible refine calls_ret (wff.out _) ?_); intro p) | (go_at_call 19; (with_reducible refine calls_ret (he.out _) ?_); intro p) | (go_at_call 54; (with_reducible refine calls_ret (m1.out _) ?_); intro p))
  go_wp2_with (first | (go_at_call 37; (with_reducible refine calls_ret (w1.out _) ?_); intro p) | (go_at_call 54; (with_reducible refine calls_ret (m3.out _) ?_); intro p) | (go_at_call 25; (with_reducible refine calls_ret (ha.out _) ?_); intro p))
  go_wp2_with ((go_at_call 54; (with_reducible refine calls_ret (m2.out _) ?_); intro p))
  go_wp2_with ((go_at_call 37; (with_reducible refine calls_ret (w31.out _) ?_); intro p))
  go_wp2_with (first | (go_at_call 37; (with_reducible refine calls_ret (wab.out _) ?_); intro p) | (go_at_call 27; (with_reducible refine calls_ret (hb.out _) ?_); intro p))
  go_wp2_with ((go_at_call 37; (with_reducible refine calls_ret (wcd.out _) ?_); intro p))
  exact bodyPost_ret (v := .bool true) (by simp [results, Try.results12, go_sem]) rfl (Ret.of' rfl (by (repeat (first | with_reducible exact Below.refl _ _ | refine below_gw ?_ (by first | exact Nat.le_refl _ | ((repeat (first | rw [World.size_alloc] | rw [World.size_setCell] | rw [World.size_drew] | rw [gw_size])); first | done | omega)) _ | refine Below.alloc ?_ (by first | exact Nat.le_refl _ | ((repeat (first | rw [World.size_alloc] | rw [World.size_setCell] | rw [World.size_drew] | rw [gw_size])); first | done | omega)) _ | refine Below.setCell ?_ (by first | exact Nat.le_refl _ | ((repeat (first | rw [World.size_alloc] | rw [World.size_setCell] | rw [World.size_drew] | rw [gw_size])); first | done | omega)) _ | refine Below.drew ?_))))
end Go.Proofs.Ytgmlabdcfbeijaa
