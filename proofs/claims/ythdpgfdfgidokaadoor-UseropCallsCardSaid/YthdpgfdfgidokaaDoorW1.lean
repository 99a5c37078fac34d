/-
 Small functions of package word, walked: from and to a number, minus, negative, atMost, split, partAt, lowByte: each hands back the value that is named, for all words; the world is the same but for new memory.
-/
import Derived.Test.YthdpgfdfgidokaaDoorBase
import Derived.Test.YthdpgfdfgidokaaDoorA1
set_option maxRecDepth 10000
set_option linter.unusedVariables false
set_option linter.unusedSimpArgs false
namespace Go.Proofs.YthdpgfdfgidokaaDoor
open Go.RowKit
theorem bXW10 {p : Prop} (h : p := by (repeat (first | with_reducible exact Below.refl _ _ | refine below_gw ?_ (by first | exact Nat.le_refl _ | ((repeat (first | rw [World.size_alloc] | rw [World.size_setCell] | rw [World.size_drew] | rw [gw_size])); first | done | omega)) _ | refine Below.alloc ?_ (by first | exact Nat.le_refl _ | ((repeat (first | rw [World.size_alloc] | rw [World.size_setCell] | rw [World.size_drew] | rw [gw_size])); first | done | omega)) _ | refine Below.setCell ?_ (by first | exact Nat.le_refl _ | ((repeat (first | rw [World.size_alloc] | rw [World.size_setCell] | rw [World.size_drew] | rw [gw_size])); first | done | omega)) _ | refine Below.drew ?_))) : p := h

theorem lm_small {n : Nat} (h : n < 18446744073709551616) : lm n 0 = n ∧ lm n 1 = 0 ∧ lm n 2 = 0 ∧ lm n 3 = 0 := by
 rw [lm0, lm1, lm2, lm3]; omega
theorem WV_small {n : Nat} (h : n < 18446744073709551616) : WV n = .agg #[.int .u64 (n : Nat), .int .u64 0, .int .u64 0, .int .u64 0] := by
 obtain ⟨h0, h1, h2, h3⟩ := lm_small h
 unfold WV; rw [h0, h1, h2, h3]; rfl

set_option maxHeartbeats 400000 in
theorem from_any (n : Nat) (h : n < 18446744073709551616) (w : World) : Calls Tryd.prog 52 #[.int .u64 n] w (Ret w (WV n)) := by
 rw [WV_small h]
 go_enter Tryd.func52, Tryd.ntmps52
 go_wp2
 exact bodyPost_ret (v := .agg #[.int .u64 n, .int .u64 0, .int .u64 0, .int .u64 0]) (by simp [results, Tryd.results52, go_sem]) rfl (Ret.of' rfl bXW10)
set_option maxHeartbeats 400000 in
theorem rfrom_any (n : Nat) (h : n < 18446744073709551616) (w : World) : Calls Tryd.prog 43 #[.int .u64 n] w (Ret w (WV n)) := by
 rw [WV_small h]
 go_enter Tryd.func43, Tryd.ntmps43
 go_wp2
 exact bodyPost_ret (v := .agg #[.int .u64 n, .int .u64 0, .int .u64 0, .int .u64 0]) (by simp [results, Tryd.results43, go_sem]) rfl (Ret.of' rfl bXW10)

def smN (a : Nat) : Nat := if a < 18446744073709551616 then a else 0
def smB (a : Nat) : Bool := decide (a < 18446744073709551616)
theorem sm_lt (a : Nat) : smN a < 18446744073709551616 := by unfold smN; split <;> omega
set_option maxHeartbeats 400000 in
theorem small_any (a : Nat) (h : a < W) (w : World) : Calls Tryd.prog 141 #[WV a] w (Ret w (.tuple #[.int .u64 (smN a : Nat), .bool (smB a)])) := by
 have e : decide (a % W = lm a 0 % W) = smB a := by
  unfold smB; rw [decide_eq_decide, lm0]; unfold W at *; omega
 cases hb : smB a
 ·have hn : smN a = 0 := by unfold smB at hb; unfold smN; rw [if_neg (by simpa using hb)]
  rw [hb] at e; rw [hn]; clear hb hn
  go_enter Tryd.func141, Tryd.ntmps141
  go_wp2
  (refine wp_quiet (by kernel_rfl) (by kernel_rfl) ?_; (repeat (first | go_big_quiet_step ((go_at_call 52; first | (with_reducible refine quiet_ret (from_any (lm a 0) (lm_lt _ _) _)) | (with_reducible refine quiet_ret2 (from_any (lm a 0) (lm_lt _ _) _)))) | quiet_step ((go_at_call 52; first | (with_reducible refine quiet_ret (from_any (lm a 0) (lm_lt _ _) _)) | (with_reducible refine quiet_ret2 (from_any (lm a 0) (lm_lt _ _) _)))))); refine wpQuiet_nil ?_; intro p)
  go_wp2
  exact bodyPost_ret (v := .tuple #[.int .u64 0, .bool false]) (by simp [results, Tryd.results141, go_sem]) rfl (Ret.of' rfl bXW10)
 ·have hn : lm a 0 = smN a := by unfold smB at hb; simp only [decide_eq_true_iff] at hb; unfold smN; rw [if_pos hb, lm0]; omega
  rw [hb] at e; rw [← hn]; clear hb hn
  go_enter Tryd.func141, Tryd.ntmps141
  go_wp2
  (refine wp_quiet (by kernel_rfl) (by kernel_rfl) ?_; (repeat (first | go_big_quiet_step ((go_at_call 52; first | (with_reducible refine quiet_ret (from_any (lm a 0) (lm_lt _ _) _)) | (with_reducible refine quiet_ret2 (from_any (lm a 0) (lm_lt _ _) _)))) | quiet_step ((go_at_call 52; first | (with_reducible refine quiet_ret (from_any (lm a 0) (lm_lt _ _) _)) | (with_reducible refine quiet_ret2 (from_any (lm a 0) (lm_lt _ _) _)))))); refine wpQuiet_nil ?_; intro p)
  go_wp2
  exact bodyPost_ret (v := .tuple #[.int .u64 (lm a 0 : Nat), .bool true]) (by simp [results, Tryd.results141, go_sem]) rfl (Ret.of' rfl bXW10)
set_option maxHeartbeats 400000 in
theorem atMost_any (a : Nat) (h : a < W) (n : Nat) (hn : n ≤ 256) (w : World) : Calls Tryd.prog 137 #[WV a, .int .i64 n] w (Ret w (.int .i64 (min a n : Nat))) := by
 cases hb : smB a
 ·have hm : min a n = n := by unfold smB at hb; simp only [decide_eq_false_iff_not] at hb; omega
  rw [hm]; clear hm
  go_enter Tryd.func137, Tryd.ntmps137
  go_wp2_with (go_at_call 141; (with_reducible refine calls_ret (small_any a h _) ?_); intro p)
  exact bodyPost_ret (v := .int .i64 n) (by simp [results, Tryd.results137, go_sem]) rfl (Ret.of' rfl bXW10)
 ·have hm : smN a = a ∧ a < 18446744073709551616 := by unfold smB at hb; simp only [decide_eq_true_iff] at hb; exact ⟨by unfold smN; rw [if_pos hb], hb⟩
  obtain ⟨hm, hlt⟩ := hm
  by_cases hc : n < a
  ·have hm2 : min a n = n := by omega
   rw [hm2]; clear hm2
   go_enter Tryd.func137, Tryd.ntmps137
   go_wp2_with (go_at_call 141; (with_reducible refine calls_ret (small_any a h _) ?_); intro p)
   exact bodyPost_ret (v := .int .i64 n) (by simp [results, Tryd.results137, go_sem]) rfl (Ret.of' rfl bXW10)
  ·have hm2 : min a n = a := by omega
   rw [hm2]; clear hm2
   go_enter Tryd.func137, Tryd.ntmps137
   go_wp2_with (go_at_call 141; (with_reducible refine calls_ret (small_any a h _) ?_); intro p)
   exact bodyPost_ret (v := .int .i64 a) (by simp [results, Tryd.results137, go_sem]) rfl (Ret.of' rfl bXW10)
def spQ (a : Nat) : Nat := min a 256 / 64
def spR (a : Nat) : Nat := min a 256 % 64
set_option maxHeartbeats 400000 in
theorem split_any (a : Nat) (h : a < W) (w : World) : Calls Tryd.prog 129 #[WV a] w (Ret w (.tuple #[.int .i64 (spQ a : Nat), .int .i64 (spR a : Nat)])) := by
 unfold spQ spR
 have hm : min a 256 ≤ 256 := by omega
 have H := atMost_any a h 256 (by omega)
 revert H
 generalize min a 256 = m at *
 intro H
 have hq : (((m / 64 : Nat) : Int)) = (m : Int) / 64 := by omega
 have hr : (((m % 64 : Nat) : Int)) = (m : Int) % 64 := by omega
 rw [hq, hr]; clear hq hr
 have HH := Lib.hid H
 clear H
 go_enter Tryd.func129, Tryd.ntmps129
 go_wp2_with (go_at_call 137; (with_reducible refine calls_ret (HH.out _) ?_); intro p)
 exact bodyPost_ret (v := .tuple #[.int .i64 ((m : Int) / 64), .int .i64 ((m : Int) % 64)]) (by simp [results, Tryd.results129, go_sem]) rfl (Ret.of' rfl bXW10)
set_option maxHeartbeats 400000 in
theorem partAt_any (a : Nat) (i : Int) (f : Nat) (w : World) : Calls Tryd.prog 132 #[WV a, .int .i64 i, .int .u64 f] w (Ret w (.int .u64 (ptN a i f : Nat))) := by
 by_cases h0 : i < 0
 ·have e : ptN a i f = 0 := by unfold ptN; rw [if_pos h0]
  rw [e]; clear e
  go_enter Tryd.func132, Tryd.ntmps132
  go_wp2
  exact bodyPost_ret (v := .int .u64 0) (by simp [results, Tryd.results132, go_sem]) rfl (Ret.of' rfl bXW10)
 ·by_cases h4 : 4 ≤ i
  ·have e : ptN a i f = f := by unfold ptN; rw [if_neg h0, if_pos h4]
   rw [e]; clear e
   go_enter Tryd.func132, Tryd.ntmps132
   go_wp2
   exact bodyPost_ret (v := .int .u64 f) (by simp [results, Tryd.results132, go_sem]) rfl (Ret.of' rfl bXW10)
  ·have e : ptN a i f = lm a i.toNat := by unfold ptN; rw [if_neg h0, if_neg h4]
   rw [e]; clear e
   have hc : i = 0 ∨ i = 1 ∨ i = 2 ∨ i = 3 := by omega
   clear h0 h4
   rcases hc with rfl | rfl | rfl | rfl
   ·go_enter Tryd.func132, Tryd.ntmps132
    go_wp2
    exact bodyPost_ret (v := .int .u64 (lm a 0 : Nat)) (by simp [results, Tryd.results132, go_sem]) rfl (Ret.of' rfl bXW10)
   ·go_enter Tryd.func132, Tryd.ntmps132
    go_wp2
    exact bodyPost_ret (v := .int .u64 (lm a 1 : Nat)) (by simp [results, Tryd.results132, go_sem]) rfl (Ret.of' rfl bXW10)
   ·go_enter Tryd.func132, Tryd.ntmps132
    go_wp2
    exact bodyPost_ret (v := .int .u64 (lm a 2 : Nat)) (by simp [results, Tryd.results132, go_sem]) rfl (Ret.of' rfl bXW10)
   ·go_enter Tryd.func132, Tryd.ntmps132
    go_wp2
    exact bodyPost_ret (v := .int .u64 (lm a 3 : Nat)) (by simp [results, Tryd.results132, go_sem]) rfl (Ret.of' rfl bXW10)
def byN (a i : Nat) : Nat := lm a (i / 8) / 2 ^ (i % 8 * 8) % 256
set_option maxHeartbeats 400000 in
theorem lowByte_any (a i : Nat) (h : i < 32) (w : World) : Calls Tryd.prog 109 #[WV a, .int .i64 i] w (Ret w (.int .u8 (byN a i : Nat))) := by
 have hc : i / 8 = 0 ∨ i / 8 = 1 ∨ i / 8 = 2 ∨ i / 8 = 3 := by omega
 have key : ∀ q, i / 8 = q → byN a i = lm a q / 2 ^ (i % 8 * 8) % 256 := fun q hq => by unfold byN; rw [hq]
 rcases hc with hq | hq | hq | hq <;> rw [key _ hq] <;> clear key
 all_goals
  have hq1 : ((i : Int) / 8) = ((i / 8 : Nat) : Int) := by omega
  have hr : ((i : Int) % 8) = ((i % 8 : Nat) : Int) := by omega
  rw [hq] at hq1
  have hr8 : i % 8 < 8 := by omega
  generalize i % 8 = r at *
  have h0 : (0 : Int) ≤ (r : Int) * 8 := by omega
  have h1 : (r : Int) * 8 ≤ 64 := by omega
  clear hq
  go_enter Tryd.func109, Tryd.ntmps109
  go_wp2
 ·exact bodyPost_ret (v := .int .u8 (((lm a 0 : Nat) : Int) / 2 ^ (r * 8) % 256)) (by simp [results, Tryd.results109, go_sem]) rfl (Ret.of' rfl bXW10)
 ·exact bodyPost_ret (v := .int .u8 (((lm a 1 : Nat) : Int) / 2 ^ (r * 8) % 256)) (by simp [results, Tryd.results109, go_sem]) rfl (Ret.of' rfl bXW10)
 ·exact bodyPost_ret (v := .int .u8 (((lm a 2 : Nat) : Int) / 2 ^ (r * 8) % 256)) (by simp [results, Tryd.results109, go_sem]) rfl (Ret.of' rfl bXW10)
 ·exact bodyPost_ret (v := .int .u8 (((lm a 3 : Nat) : Int) / 2 ^ (r * 8) % 256)) (by simp [results, Tryd.results109, go_sem]) rfl (Ret.of' rfl bXW10)
end Go.Proofs.YthdpgfdfgidokaaDoor

/-
 Shl, Shr and Sar, walked, for all words.
-/
namespace Go.Proofs.YthdpgfdfgidokaaDoor
open Go.RowKit

theorem or_u64 {x y : Nat} (hx : x < 18446744073709551616) (hy : y < 18446744073709551616) : bits .or .u64 (x : Int) (y : Int) = ((x ||| y : Nat) : Int) := bits_or_u64_nat x y hx hy
theorem shl_cell {a : Nat} (h : a < W) (s r i : Nat) (hr : r < 64) (hi : i < 4) :
  bits .or .u64 (IntKind.u64.wrap ((ptN a ((i : Int) - s) 0 : Nat) * 2 ^ r)) (((ptN a ((i : Int) - s - 1) 0 : Nat) : Int) / 2 ^ (64 - r)) = ((lm (a * 2 ^ (64 * s + r)) i : Nat) : Int) := by
 rw [← shl_limb h s r i hr hi, ← or_u64 (Nat.mod_lt _ (by decide)) (Nat.lt_of_le_of_lt (Nat.div_le_self _ _) (ptN_lt a _ (by decide))), IntKind.wrap_u64]
 congr 1
theorem shr_cell {a f : Nat} (h : a < W) (hf : f = 0 ∨ f = 18446744073709551615) (s r i : Nat) (hr : r < 64) (hs : s ≤ 4) (hi : i < 4) :
  bits .or .u64 (((ptN a ((i : Int) + s) f : Nat) : Int) / 2 ^ r) (IntKind.u64.wrap ((ptN a ((i : Int) + s + 1) f : Nat) * 2 ^ (64 - r))) = ((lm (extN a f / 2 ^ (64 * s + r)) i : Nat) : Int) := by
 have hfl : f < 18446744073709551616 := by rcases hf with rfl | rfl <;> decide
 rw [← shr_limb h hf s r i hr hs hi, ← or_u64 (Nat.lt_of_le_of_lt (Nat.div_le_self _ _) (ptN_lt a _ hfl)) (Nat.mod_lt _ (by decide)), IntKind.wrap_u64]
 congr 1

set_option maxHeartbeats 1000000 in
theorem shlC_any (a s r i : Nat) (ha : a < W) (hi : i < 4) (hs : s ≤ 4) (hr : r < 64) (A S R : Nat) (w : World)
  (c0 : w.cell? ⟨A, 0, none⟩ = some (.int .u64 (lm a 0 : Nat))) (c1 : w.cell? ⟨A, 1, none⟩ = some (.int .u64 (lm a 1 : Nat)))
  (c2 : w.cell? ⟨A, 2, none⟩ = some (.int .u64 (lm a 2 : Nat))) (c3 : w.cell? ⟨A, 3, none⟩ = some (.int .u64 (lm a 3 : Nat)))
  (cs : w.cell? ⟨S, 0, none⟩ = some (.int .i64 s)) (cr : w.cell? ⟨R, 0, none⟩ = some (.int .i64 r)) :
  Calls Tryd.prog 134 #[.int .i64 i, .pointer (some ⟨A, 0, none⟩), .pointer (some ⟨S, 0, none⟩), .pointer (some ⟨R, 0, none⟩)] w (Ret w (.int .u64 (lm (a * 2 ^ (64 * s + r)) i : Nat))) := by
 have lA := World.block_lt_of_cell? w _ c0
 have lS := World.block_lt_of_cell? w _ cs
 have lR := World.block_lt_of_cell? w _ cr
 have H := Lib.hid (shl_cell ha s r i hr hi)
 go_enter Tryd.func134, Tryd.ntmps134
 go_wp2
 (refine wp_quiet (by kernel_rfl) (by kernel_rfl) ?_; (repeat (first | go_big_quiet_step ((go_at_call 132; first | (with_reducible refine quiet_ret (partAt_any a _ 0 _)) | (with_reducible refine quiet_ret2 (partAt_any a _ 0 _)))) | quiet_step ((go_at_call 132; first | (with_reducible refine quiet_ret (partAt_any a _ 0 _)) | (with_reducible refine quiet_ret2 (partAt_any a _ 0 _)))))); refine wpQuiet_nil ?_; intro p)
 go_wp2
 rw [← H.out]
 exact bodyPost_ret (v := .int .u64 (bits .or .u64 (IntKind.u64.wrap ((ptN a ((i : Int) - s) 0 : Nat) * 2 ^ r)) (((ptN a ((i : Int) - s - 1) 0 : Nat) : Int) / 2 ^ (64 - r)))) (by simp [results, Tryd.results134, go_sem]) rfl (Ret.of' rfl bXW10)
set_option maxHeartbeats 1000000 in
theorem shrC_any (a f s r i : Nat) (ha : a < W) (hf : f = 0 ∨ f = 18446744073709551615) (hi : i < 4) (hs : s ≤ 4) (hr : r < 64) (A S F R : Nat) (w : World)
  (c0 : w.cell? ⟨A, 0, none⟩ = some (.int .u64 (lm a 0 : Nat))) (c1 : w.cell? ⟨A, 1, none⟩ = some (.int .u64 (lm a 1 : Nat)))
  (c2 : w.cell? ⟨A, 2, none⟩ = some (.int .u64 (lm a 2 : Nat))) (c3 : w.cell? ⟨A, 3, none⟩ = some (.int .u64 (lm a 3 : Nat)))
  (cs : w.cell? ⟨S, 0, none⟩ = some (.int .i64 s)) (cf : w.cell? ⟨F, 0, none⟩ = some (.int .u64 f)) (cr : w.cell? ⟨R, 0, none⟩ = some (.int .i64 r)) :
  Calls Tryd.prog 131 #[.int .i64 i, .pointer (some ⟨A, 0, none⟩), .pointer (some ⟨S, 0, none⟩), .pointer (some ⟨F, 0, none⟩), .pointer (some ⟨R, 0, none⟩)] w (Ret w (.int .u64 (lm (extN a f / 2 ^ (64 * s + r)) i : Nat))) := by
 have lA := World.block_lt_of_cell? w _ c0
 have lS := World.block_lt_of_cell? w _ cs
 have lF := World.block_lt_of_cell? w _ cf
 have lR := World.block_lt_of_cell? w _ cr
 have H := Lib.hid (shr_cell ha hf s r i hr hs hi)
 clear hf
 go_enter Tryd.func131, Tryd.ntmps131
 go_wp2
 (refine wp_quiet (by kernel_rfl) (by kernel_rfl) ?_; (repeat (first | go_big_quiet_step ((go_at_call 132; first | (with_reducible refine quiet_ret (partAt_any a _ f _)) | (with_reducible refine quiet_ret2 (partAt_any a _ f _)))) | quiet_step ((go_at_call 132; first | (with_reducible refine quiet_ret (partAt_any a _ f _)) | (with_reducible refine quiet_ret2 (partAt_any a _ f _)))))); refine wpQuiet_nil ?_; intro p)
 go_wp2
 rw [← H.out]
 exact bodyPost_ret (v := .int .u64 (bits .or .u64 (((ptN a ((i : Int) + s) f : Nat) : Int) / 2 ^ r) (IntKind.u64.wrap ((ptN a ((i : Int) + s + 1) f : Nat) * 2 ^ (64 - r))))) (by simp [results, Tryd.results131, go_sem]) rfl (Ret.of' rfl bXW10)

theorem sp_eq (n : Nat) : 64 * spQ n + spR n = min n 256 := by unfold spQ spR; omega
theorem spQ_le (n : Nat) : spQ n ≤ 4 := by unfold spQ; omega
theorem spR_lt (n : Nat) : spR n < 64 := by unfold spR; omega
def shlN (n a : Nat) : Nat := a * 2 ^ (64 * spQ n + spR n)
def shdN (n a f : Nat) : Nat := extN a f / 2 ^ (64 * spQ n + spR n)
set_option maxHeartbeats 2000000 in
theorem shl_any (n a : Nat) (hn : n < W) (ha : a < W) (w : World) : Calls Tryd.prog 120 #[WV n, WV a] w (Ret w (WV (shlN n a))) := by
 have h0 := Lib.hid (fun A S R w => shlC_any a (spQ n) (spR n) 0 ha (by omega) (spQ_le n) (spR_lt n) A S R w)
 have h1 := Lib.hid (fun A S R w => shlC_any a (spQ n) (spR n) 1 ha (by omega) (spQ_le n) (spR_lt n) A S R w)
 have h2 := Lib.hid (fun A S R w => shlC_any a (spQ n) (spR n) 2 ha (by omega) (spQ_le n) (spR_lt n) A S R w)
 have h3 := Lib.hid (fun A S R w => shlC_any a (spQ n) (spR n) 3 ha (by omega) (spQ_le n) (spR_lt n) A S R w)
 go_enter Tryd.func120, Tryd.ntmps120
 go_wp2_with (first | (go_at_call 129; (with_reducible refine calls_ret (split_any n hn _) ?_); intro p) | (go_at_call 130; go_in))
 refine wp_loop_rounds 5 ?_
 simp only [Code.rounds]
 go_wp2_with fail
 refine calls_ret (h0.out _ _ _ _ ?_ ?_ ?_ ?_ ?_ ?_) ?_
 ·simp [go_sem]
 ·simp [go_sem]
 ·simp [go_sem]
 ·simp [go_sem]
 ·simp [go_sem]
 ·simp [go_sem]
 intro p0
 go_wp2_with fail
 refine calls_ret (h1.out _ _ _ _ ?_ ?_ ?_ ?_ ?_ ?_) ?_
 ·simp [go_sem]
 ·simp [go_sem]
 ·simp [go_sem]
 ·simp [go_sem]
 ·simp [go_sem]
 ·simp [go_sem]
 intro p1
 go_wp2_with fail
 refine calls_ret (h2.out _ _ _ _ ?_ ?_ ?_ ?_ ?_ ?_) ?_
 ·simp [go_sem]
 ·simp [go_sem]
 ·simp [go_sem]
 ·simp [go_sem]
 ·simp [go_sem]
 ·simp [go_sem]
 intro p2
 go_wp2_with fail
 refine calls_ret (h3.out _ _ _ _ ?_ ?_ ?_ ?_ ?_ ?_) ?_
 ·simp [go_sem]
 ·simp [go_sem]
 ·simp [go_sem]
 ·simp [go_sem]
 ·simp [go_sem]
 ·simp [go_sem]
 intro p3
 go_wp2_with fail
 (refine bodyPost_ret (v := WV (a * 2 ^ (64 * spQ n + spR n))) (by simp [results, Tryd.results130, go_sem]) rfl ?_; simp only [])
 go_wp2_with fail
 exact bodyPost_ret (v := WV (a * 2 ^ (64 * spQ n + spR n))) (by simp [results, Tryd.results120, go_sem]) rfl (Ret.of' rfl bXW10)
set_option maxHeartbeats 2000000 in
theorem shiftDown_any (n a f : Nat) (hn : n < W) (ha : a < W) (hf : f = 0 ∨ f = 18446744073709551615) (w : World) : Calls Tryd.prog 115 #[WV n, WV a, .int .u64 f] w (Ret w (WV (shdN n a f))) := by
 have h0 := Lib.hid (fun A S F R w => shrC_any a f (spQ n) (spR n) 0 ha hf (by omega) (spQ_le n) (spR_lt n) A S F R w)
 have h1 := Lib.hid (fun A S F R w => shrC_any a f (spQ n) (spR n) 1 ha hf (by omega) (spQ_le n) (spR_lt n) A S F R w)
 have h2 := Lib.hid (fun A S F R w => shrC_any a f (spQ n) (spR n) 2 ha hf (by omega) (spQ_le n) (spR_lt n) A S F R w)
 have h3 := Lib.hid (fun A S F R w => shrC_any a f (spQ n) (spR n) 3 ha hf (by omega) (spQ_le n) (spR_lt n) A S F R w)
 clear hf
 go_enter Tryd.func115, Tryd.ntmps115
 go_wp2_with (first | (go_at_call 129; (with_reducible refine calls_ret (split_any n hn _) ?_); intro p) | (go_at_call 130; go_in))
 refine wp_loop_rounds 5 ?_
 simp only [Code.rounds]
 go_wp2_with fail
 refine calls_ret (h0.out _ _ _ _ _ ?_ ?_ ?_ ?_ ?_ ?_ ?_) ?_
 ·simp [go_sem]
 ·simp [go_sem]
 ·simp [go_sem]
 ·simp [go_sem]
 ·simp [go_sem]
 ·simp [go_sem]
 ·simp [go_sem]
 intro p0
 go_wp2_with fail
 refine calls_ret (h1.out _ _ _ _ _ ?_ ?_ ?_ ?_ ?_ ?_ ?_) ?_
 ·simp [go_sem]
 ·simp [go_sem]
 ·simp [go_sem]
 ·simp [go_sem]
 ·simp [go_sem]
 ·simp [go_sem]
 ·simp [go_sem]
 intro p1
 go_wp2_with fail
 refine calls_ret (h2.out _ _ _ _ _ ?_ ?_ ?_ ?_ ?_ ?_ ?_) ?_
 ·simp [go_sem]
 ·simp [go_sem]
 ·simp [go_sem]
 ·simp [go_sem]
 ·simp [go_sem]
 ·simp [go_sem]
 ·simp [go_sem]
 intro p2
 go_wp2_with fail
 refine calls_ret (h3.out _ _ _ _ _ ?_ ?_ ?_ ?_ ?_ ?_ ?_) ?_
 ·simp [go_sem]
 ·simp [go_sem]
 ·simp [go_sem]
 ·simp [go_sem]
 ·simp [go_sem]
 ·simp [go_sem]
 ·simp [go_sem]
 intro p3
 go_wp2_with fail
 (refine bodyPost_ret (v := WV (extN a f / 2 ^ (64 * spQ n + spR n))) (by simp [results, Tryd.results130, go_sem]) rfl ?_; simp only [])
 go_wp2_with fail
 exact bodyPost_ret (v := WV (extN a f / 2 ^ (64 * spQ n + spR n))) (by simp [results, Tryd.results115, go_sem]) rfl (Ret.of' rfl bXW10)
set_option maxHeartbeats 400000 in
theorem shr_any (n a : Nat) (hn : n < W) (ha : a < W) (w : World) : Calls Tryd.prog 89 #[WV n, WV a] w (Ret w (WV (shdN n a 0))) := by
 go_enter Tryd.func89, Tryd.ntmps89
 go_wp2_with (go_at_call 115; (with_reducible refine calls_ret (shiftDown_any n a 0 hn ha (.inl rfl) _) ?_); intro p)
 exact bodyPost_ret (v := WV (shdN n a 0)) (by simp [results, Tryd.results89, go_sem]) rfl (Ret.of' rfl bXW10)
end Go.Proofs.YthdpgfdfgidokaaDoor
