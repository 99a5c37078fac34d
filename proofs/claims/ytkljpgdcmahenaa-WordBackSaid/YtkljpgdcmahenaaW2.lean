/-
  Shl, Shr and Sar, walked, for all words.
-/
import Derived.Test.YtkljpgdcmahenaaW1
namespace Go.Proofs.Ytkljpgdcmahenaa
set_option linter.unusedSimpArgs false
set_option linter.unusedVariables false
open Go.RowKit

theorem or_u64 {x y : Nat} (hx : x < 18446744073709551616) (hy : y < 18446744073709551616) : bits .or .u64 (x : Int) (y : Int) = ((x ||| y : Nat) : Int) := bits_or_u64_nat x y hx hy
theorem shl_cell {a : Nat} (h : a < W) (s r i : Nat) (hr : r < 64) (hi : i < 4) :
    bits .or .u64 (IntKind.u64.wrap ((ptN a ((i : Int) - s) 0 : Nat) * 2 ^ r)) (((ptN a ((i : Int) - s - 1) 0 : Nat) : Int) / 2 ^ (64 - r)) = ((lm (a * 2 ^ (64 * s + r)) i : Nat) : Int) := by
  rw [← shl_limb h s r i hr hi, ← or_u64 (Nat.mod_lt _ (by decide)) (Nat.lt_of_le_of_lt (Nat.div_le_self _ _) (ptN_lt a _ (by decide))), IntKind.wrap_u64]
  congr 1
theorem shr_cell {a f : Nat} (h : a < W) (hf : f = 0 ∨ f = 18446744073709551615) (s r i : Nat) (hr : r < 64) (hs : s ≤ 4) (hi : i < 4) :
    bits .or .u64 (((ptN a ((i : Int) + s) f : Nat) : Int) / 2 ^ r) (IntKind.u64.wrap ((ptN a ((i : Int) + s + 1) f : Nat) * 2 ^ (64 - r))) = ((lm (extN a f / 2 ^ (64 * s + r)) i : Nat) : Int) := by
  have hfl : f < 18446744073709551616 := by rcases hf with rfl | rfl <;> decide
  rw [← shr_limb h hf s r i hr hs hi, ← or_u64 (Nat.lt_of_le_of_lt (Nat.div_le_self _ _) (ptN_lt a _ hfl)) (Nat.mod_lt _ (by decide)), IntKind.wrap_u64]
  congr 1

set_option maxHeartbeats 1000000 in
theorem shlC_any (a s r i : Nat) (ha : a < W) (hi : i < 4) (hs : s ≤ 4) (hr : r < 64) (A S R : Nat) (w : World)
    (c0 : w.cell? ⟨A, 0, none⟩ = some (.int .u64 (lm a 0 : Nat))) (c1 : w.cell? ⟨A, 1, none⟩ = some (.int .u64 (lm a 1 : Nat)))
    (c2 : w.cell? ⟨A, 2, none⟩ = some (.int .u64 (lm a 2 : Nat))) (c3 : w.cell? ⟨A, 3, none⟩ = some (.int .u64 (lm a 3 : Nat)))
    (cs : w.cell? ⟨S, 0, none⟩ = some (.int .i64 s)) (cr : w.cell? ⟨R, 0, none⟩ = some (.int .i64 r)) :
    Calls Try.prog 81 #[.int .i64 i, .pointer (some ⟨A, 0, none⟩), .pointer (some ⟨S, 0, none⟩), .pointer (some ⟨R, 0, none⟩)] w (Ret w (.int .u64 (lm (a * 2 ^ (64 * s + r)) i : Nat))) := by
  have lA := World.block_lt_of_cell? w _ c0
  have lS := World.block_lt_of_cell? w _ cs
  have lR := World.block_lt_of_cell? w _ cr
  have H := Lib.hid (shl_cell ha s r i hr hi)
  go_enter Try.func81, Try.ntmps81
  go_wp2
  (refine wp_quiet (by kernel_rfl) (by kernel_rfl) ?_; (repeat (first | go_big_quiet_step ((go_at_call 82; first | (with_reducible refine quiet_ret (partAt_any a _ 0 _)) | (with_reducible refine quiet_ret2 (partAt_any a _ 0 _)))) | quiet_step ((go_at_call 82; first | (with_reducible refine quiet_ret (partAt_any a _ 0 _)) | (with_reducible refine quiet_ret2 (partAt_any a _ 0 _)))))); refine wpQuiet_nil ?_; intro p)
  go_wp2
  rw [← H.out]
  exact bodyPost_ret (v := .int .u64 (bits .or .u64 (IntKind.u64.wrap ((ptN a ((i : Int) - s) 0 : Nat) * 2 ^ r)) (((ptN a ((i : Int) - s - 1) 0 : Nat) : Int) / 2 ^ (64 - r)))) (by simp [results, Try.results81, go_sem]) rfl (Ret.of' rfl (by (repeat (first | with_reducible exact Below.refl _ _ | refine below_gw ?_ (by first | exact Nat.le_refl _ | ((repeat (first | rw [World.size_alloc] | rw [World.size_setCell] | rw [World.size_drew] | rw [gw_size])); first | done | omega)) _ | refine Below.alloc ?_ (by first | exact Nat.le_refl _ | ((repeat (first | rw [World.size_alloc] | rw [World.size_setCell] | rw [World.size_drew] | rw [gw_size])); first | done | omega)) _ | refine Below.setCell ?_ (by first | exact Nat.le_refl _ | ((repeat (first | rw [World.size_alloc] | rw [World.size_setCell] | rw [World.size_drew] | rw [gw_size])); first | done | omega)) _ | refine Below.drew ?_))))
set_option maxHeartbeats 1000000 in
theorem shrC_any (a f s r i : Nat) (ha : a < W) (hf : f = 0 ∨ f = 18446744073709551615) (hi : i < 4) (hs : s ≤ 4) (hr : r < 64) (A S F R : Nat) (w : World)
    (c0 : w.cell? ⟨A, 0, none⟩ = some (.int .u64 (lm a 0 : Nat))) (c1 : w.cell? ⟨A, 1, none⟩ = some (.int .u64 (lm a 1 : Nat)))
    (c2 : w.cell? ⟨A, 2, none⟩ = some (.int .u64 (lm a 2 : Nat))) (c3 : w.cell? ⟨A, 3, none⟩ = some (.int .u64 (lm a 3 : Nat)))
    (cs : w.cell? ⟨S, 0, none⟩ = some (.int .i64 s)) (cf : w.cell? ⟨F, 0, none⟩ = some (.int .u64 f)) (cr : w.cell? ⟨R, 0, none⟩ = some (.int .i64 r)) :
    Calls Try.prog 91 #[.int .i64 i, .pointer (some ⟨A, 0, none⟩), .pointer (some ⟨S, 0, none⟩), .pointer (some ⟨F, 0, none⟩), .pointer (some ⟨R, 0, none⟩)] w (Ret w (.int .u64 (lm (extN a f / 2 ^ (64 * s + r)) i : Nat))) := by
  have lA := World.block_lt_of_cell? w _ c0
  have lS := World.block_lt_of_cell? w _ cs
  have lF := World.block_lt_of_cell? w _ cf
  have lR := World.block_lt_of_cell? w _ cr
  have H := Lib.hid (shr_cell ha hf s r i hr hs hi)
  clear hf
  go_enter Try.func91, Try.ntmps91
  go_wp2
  (refine wp_quiet (by kernel_rfl) (by kernel_rfl) ?_; (repeat (first | go_big_quiet_step ((go_at_call 82; first | (with_reducible refine quiet_ret (partAt_any a _ f _)) | (with_reducible refine quiet_ret2 (partAt_any a _ f _)))) | quiet_step ((go_at_call 82; first | (with_reducible refine quiet_ret (partAt_any a _ f _)) | (with_reducible refine quiet_ret2 (partAt_any a _ f _)))))); refine wpQuiet_nil ?_; intro p)
  go_wp2
  rw [← H.out]
  exact bodyPost_ret (v := .int .u64 (bits .or .u64 (((ptN a ((i : Int) + s) f : Nat) : Int) / 2 ^ r) (IntKind.u64.wrap ((ptN a ((i : Int) + s + 1) f : Nat) * 2 ^ (64 - r))))) (by simp [results, Try.results91, go_sem]) rfl (Ret.of' rfl (by (repeat (first | with_reducible exact Below.refl _ _ | refine below_gw ?_ (by first | exact Nat.le_refl _ | ((repeat (first | rw [World.size_alloc] | rw [World.size_setCell] | rw [World.size_drew] | rw [gw_size])); first | done | omega)) _ | refine Below.alloc ?_ (by first | exact Nat.le_refl _ | ((repeat (first | rw [World.size_alloc] | rw [World.size_setCell] | rw [World.size_drew] | rw [gw_size])); first | done | omega)) _ | refine Below.setCell ?_ (by first | exact Nat.le_refl _ | ((repeat (first | rw [World.size_alloc] | rw [World.size_setCell] | rw [World.size_drew] | rw [gw_size])); first | done | omega)) _ | refine Below.drew ?_))))

theorem sp_eq (n : Nat) : 64 * spQ n + spR n = min n 256 := by unfold spQ spR; omega
theorem spQ_le (n : Nat) : spQ n ≤ 4 := by unfold spQ; omega
theorem spR_lt (n : Nat) : spR n < 64 := by unfold spR; omega
/-- Shl's, shiftDown's value. -/
def shlN (n a : Nat) : Nat := a * 2 ^ (64 * spQ n + spR n)
def shdN (n a f : Nat) : Nat := extN a f / 2 ^ (64 * spQ n + spR n)
set_option maxHeartbeats 2000000 in
theorem shl_any (n a : Nat) (hn : n < W) (ha : a < W) (w : World) : Calls Try.prog 38 #[WV n, WV a] w (Ret w (WV (shlN n a))) := by
  have h0 := Lib.hid (fun A S R w => shlC_any a (spQ n) (spR n) 0 ha (by omega) (spQ_le n) (spR_lt n) A S R w)
  have h1 := Lib.hid (fun A S R w => shlC_any a (spQ n) (spR n) 1 ha (by omega) (spQ_le n) (spR_lt n) A S R w)
  have h2 := Lib.hid (fun A S R w => shlC_any a (spQ n) (spR n) 2 ha (by omega) (spQ_le n) (spR_lt n) A S R w)
  have h3 := Lib.hid (fun A S R w => shlC_any a (spQ n) (spR n) 3 ha (by omega) (spQ_le n) (spR_lt n) A S R w)
  go_enter Try.func38, Try.ntmps38
  go_wp2_with (first | (go_at_call 79; (with_reducible refine calls_ret (split_any n hn _) ?_); intro p) | (go_at_call 80; go_in))
  refine wp_loop_rounds 5 ?_
  simp only [Code.rounds]
  go_wp2_with fail
  refine calls_ret (h0.out _ _ _ _ ?_ ?_ ?_ ?_ ?_ ?_) ?_
  · simp [go_sem]
  · simp [go_sem]
  · simp [go_sem]
  · simp [go_sem]
  · simp [go_sem]
  · simp [go_sem]
  intro p0
  go_wp2_with fail
  refine calls_ret (h1.out _ _ _ _ ?_ ?_ ?_ ?_ ?_ ?_) ?_
  · simp [go_sem]
  · simp [go_sem]
  · simp [go_sem]
  · simp [go_sem]
  · simp [go_sem]
  · simp [go_sem]
  intro p1
  go_wp2_with fail
  refine calls_ret (h2.out _ _ _ _ ?_ ?_ ?_ ?_ ?_ ?_) ?_
  · simp [go_sem]
  · simp [go_sem]
  · simp [go_sem]
  · simp [go_sem]
  · simp [go_sem]
  · simp [go_sem]
  intro p2
  go_wp2_with fail
  refine calls_ret (h3.out _ _ _ _ ?_ ?_ ?_ ?_ ?_ ?_) ?_
  · simp [go_sem]
  · simp [go_sem]
  · simp [go_sem]
  · simp [go_sem]
  · simp [go_sem]
  · simp [go_sem]
  intro p3
  go_wp2_with fail
  (refine bodyPost_ret (v := WV (a * 2 ^ (64 * spQ n + spR n))) (by simp [results, Try.results80, go_sem]) rfl ?_; simp only [])
  go_wp2_with fail
  exact bodyPost_ret (v := WV (a * 2 ^ (64 * spQ n + spR n))) (by simp [results, Try.results38, go_sem]) rfl (Ret.of' rfl (by (repeat (first | with_reducible exact Below.refl _ _ | refine below_gw ?_ (by first | exact Nat.le_refl _ | ((repeat (first | rw [World.size_alloc] | rw [World.size_setCell] | rw [World.size_drew] | rw [gw_size])); first | done | omega)) _ | refine Below.alloc ?_ (by first | exact Nat.le_refl _ | ((repeat (first | rw [World.size_alloc] | rw [World.size_setCell] | rw [World.size_drew] | rw [gw_size])); first | done | omega)) _ | refine Below.setCell ?_ (by first | exact Nat.le_refl _ | ((repeat (first | rw [World.size_alloc] | rw [World.size_setCell] | rw [World.size_drew] | rw [gw_size])); first | done | omega)) _ | refine Below.drew ?_))))
set_option maxHeartbeats 2000000 in
theorem shiftDown_any (n a f : Nat) (hn : n < W) (ha : a < W) (hf : f = 0 ∨ f = 18446744073709551615) (w : World) : Calls Try.prog 85 #[WV n, WV a, .int .u64 f] w (Ret w (WV (shdN n a f))) := by
  have h0 := Lib.hid (fun A S F R w => shrC_any a f (spQ n) (spR n) 0 ha hf (by omega) (spQ_le n) (spR_lt n) A S F R w)
  have h1 := Lib.hid (fun A S F R w => shrC_any a f (spQ n) (spR n) 1 ha hf (by omega) (spQ_le n) (spR_lt n) A S F R w)
  have h2 := Lib.hid (fun A S F R w => shrC_any a f (spQ n) (spR n) 2 ha hf (by omega) (spQ_le n) (spR_lt n) A S F R w)
  have h3 := Lib.hid (fun A S F R w => shrC_any a f (spQ n) (spR n) 3 ha hf (by omega) (spQ_le n) (spR_lt n) A S F R w)
  clear hf
  go_enter Try.func85, Try.ntmps85
  go_wp2_with (first | (go_at_call 79; (with_reducible refine calls_ret (split_any n hn _) ?_); intro p) | (go_at_call 80; go_in))
  refine wp_loop_rounds 5 ?_
  simp only [Code.rounds]
  go_wp2_with fail
  refine calls_ret (h0.out _ _ _ _ _ ?_ ?_ ?_ ?_ ?_ ?_ ?_) ?_
  · simp [go_sem]
  · simp [go_sem]
  · simp [go_sem]
  · simp [go_sem]
  · simp [go_sem]
  · simp [go_sem]
  · simp [go_sem]
  intro p0
  go_wp2_with fail
  refine calls_ret (h1.out _ _ _ _ _ ?_ ?_ ?_ ?_ ?_ ?_ ?_) ?_
  · simp [go_sem]
  · simp [go_sem]
  · simp [go_sem]
  · simp [go_sem]
  · simp [go_sem]
  · simp [go_sem]
  · simp [go_sem]
  intro p1
  go_wp2_with fail
  refine calls_ret (h2.out _ _ _ _ _ ?_ ?_ ?_ ?_ ?_ ?_ ?_) ?_
  · simp [go_sem]
  · simp [go_sem]
  · simp [go_sem]
  · simp [go_sem]
  · simp [go_sem]
  · simp [go_sem]
  · simp [go_sem]
  intro p2
  go_wp2_with fail
  refine calls_ret (h3.out _ _ _ _ _ ?_ ?_ ?_ ?_ ?_ ?_ ?_) ?_
  · simp [go_sem]
  · simp [go_sem]
  · simp [go_sem]
  · simp [go_sem]
  · simp [go_sem]
  · simp [go_sem]
  · simp [go_sem]
  intro p3
  go_wp2_with fail
  (refine bodyPost_ret (v := WV (extN a f / 2 ^ (64 * spQ n + spR n))) (by simp [results, Try.results80, go_sem]) rfl ?_; simp only [])
  go_wp2_with fail
  exact bodyPost_ret (v := WV (extN a f / 2 ^ (64 * spQ n + spR n))) (by simp [results, Try.results85, go_sem]) rfl (Ret.of' rfl (by (repeat (first | with_reducible exact Below.refl _ _ | refine below_gw ?_ (by first | exact Nat.le_refl _ | ((repeat (first | rw [World.size_alloc] | rw [World.size_setCell] | rw [World.size_drew] | rw [gw_size])); first | done | omega)) _ | refine Below.alloc ?_ (by first | exact Nat.le_refl _ | ((repeat (first | rw [World.size_alloc] | rw [World.size_setCell] | rw [World.size_drew] | rw [gw_size])); first | done | omega)) _ | refine Below.setCell ?_ (by first | exact Nat.le_refl _ | ((repeat (first | rw [World.size_alloc] | rw [World.size_setCell] | rw [World.size_drew] | rw [gw_size])); first | done | omega)) _ | refine Below.drew ?_))))
set_option maxHeartbeats 400000 in
theorem shr_any (n a : Nat) (hn : n < W) (ha : a < W) (w : World) : Calls Try.prog 40 #[WV n, WV a] w (Ret w (WV (shdN n a 0))) := by
  go_enter Try.func40, Try.ntmps40
  go_wp2_with (go_at_call 85; (with_reducible refine calls_ret (shiftDown_any n a 0 hn ha (.inl rfl) _) ?_); intro p)
  exact bodyPost_ret (v := WV (shdN n a 0)) (by simp [results, Try.results40, go_sem]) rfl (Ret.of' rfl (by (repeat (first | with_reducible exact Below.refl _ _ | refine below_gw ?_ (by first | exact Nat.le_refl _ | ((repeat (first | rw [World.size_alloc] | rw [World.size_setCell] | rw [World.size_drew] | rw [gw_size])); first | done | omega)) _ | refine Below.alloc ?_ (by first | exact Nat.le_refl _ | ((repeat (first | rw [World.size_alloc] | rw [World.size_setCell] | rw [World.size_drew] | rw [gw_size])); first | done | omega)) _ | refine Below.setCell ?_ (by first | exact Nat.le_refl _ | ((repeat (first | rw [World.size_alloc] | rw [World.size_setCell] | rw [World.size_drew] | rw [gw_size])); first | done | omega)) _ | refine Below.drew ?_))))
/-- Sar's fill. -/
def sgF (a : Nat) : Nat := if W / 2 ≤ a then 18446744073709551615 else 0
theorem sgF_or (a : Nat) : sgF a = 0 ∨ sgF a = 18446744073709551615 := by unfold sgF; split <;> simp
set_option maxHeartbeats 400000 in
theorem sar_any (n a : Nat) (hn : n < W) (ha : a < W) (w : World) : Calls Try.prog 42 #[WV n, WV a] w (Ret w (WV (shdN n a (sgF a)))) := by
  by_cases hs : W / 2 ≤ a
  · have e : sgF a = 18446744073709551615 := by unfold sgF; rw [if_pos hs]
    have hd : decide (W / 2 ≤ a) = true := by simpa using hs
    rw [e]; clear e hs
    go_enter Try.func42, Try.ntmps42
    go_wp2_with (first | (go_at_call 66; (with_reducible refine calls_ret (negative_any a ha _) ?_); intro p) | (go_at_call 85; (with_reducible refine calls_ret (shiftDown_any n a 18446744073709551615 hn ha (.inr rfl) _) ?_); intro p))
    exact bodyPost_ret (v := WV (shdN n a 18446744073709551615)) (by simp [results, Try.results42, go_sem]) rfl (Ret.of' rfl (by (repeat (first | with_reducible exact Below.refl _ _ | refine below_gw ?_ (by first | exact Nat.le_refl _ | ((repeat (first | rw [World.size_alloc] | rw [World.size_setCell] | rw [World.size_drew] | rw [gw_size])); first | done | omega)) _ | refine Below.alloc ?_ (by first | exact Nat.le_refl _ | ((repeat (first | rw [World.size_alloc] | rw [World.size_setCell] | rw [World.size_drew] | rw [gw_size])); first | done | omega)) _ | refine Below.setCell ?_ (by first | exact Nat.le_refl _ | ((repeat (first | rw [World.size_alloc] | rw [World.size_setCell] | rw [World.size_drew] | rw [gw_size])); first | done | omega)) _ | refine Below.drew ?_))))
  · have e : sgF a = 0 := by unfold sgF; rw [if_neg hs]
    have hd : decide (W / 2 ≤ a) = false := by simpa using hs
    rw [e]; clear e hs
    go_enter Try.func42, Try.ntmps42
    go_wp2_with (first | (go_at_call 66; (with_reducible refine calls_ret (negative_any a ha _) ?_); intro p) | (go_at_call 85; (with_reducible refine calls_ret (shiftDown_any n a 0 hn ha (.inl rfl) _) ?_); intro p))
    exact bodyPost_ret (v := WV (shdN n a 0)) (by simp [results, Try.results42, go_sem]) rfl (Ret.of' rfl (by (repeat (first | with_reducible exact Below.refl _ _ | refine below_gw ?_ (by first | exact Nat.le_refl _ | ((repeat (first | rw [World.size_alloc] | rw [World.size_setCell] | rw [World.size_drew] | rw [gw_size])); first | done | omega)) _ | refine Below.alloc ?_ (by first | exact Nat.le_refl _ | ((repeat (first | rw [World.size_alloc] | rw [World.size_setCell] | rw [World.size_drew] | rw [gw_size])); first | done | omega)) _ | refine Below.setCell ?_ (by first | exact Nat.le_refl _ | ((repeat (first | rw [World.size_alloc] | rw [World.size_setCell] | rw [World.size_drew] | rw [gw_size])); first | done | omega)) _ | refine Below.drew ?_))))
end Go.Proofs.Ytkljpgdcmahenaa
