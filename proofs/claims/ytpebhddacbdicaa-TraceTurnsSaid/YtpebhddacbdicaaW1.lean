/-
 Small functions of package word, walked: from and to a number, minus, negative, atMost, split, partAt, lowByte: each hands back the value that is named, for all words; the world is the same but for new memory.
-/
import Derived.Test.YtpebhddacbdicaaBase
import Derived.Test.YtpebhddacbdicaaA1
set_option linter.unusedVariables false
set_option linter.unusedSimpArgs false
namespace Go.Proofs.Ytpebhddacbdicaa
open Go.RowKit
theorem bXW10 {p : Prop} (h : p := by (repeat (first | with_reducible exact Below.refl _ _ | refine below_gw ?_ (by first | exact Nat.le_refl _ | ((repeat (first | rw [World.size_alloc] | rw [World.size_setCell] | rw [World.size_drew] | rw [gw_size])); first | done | omega)) _ | refine Below.alloc ?_ (by first | exact Nat.le_refl _ | ((repeat (first | rw [World.size_alloc] | rw [World.size_setCell] | rw [World.size_drew] | rw [gw_size])); first | done | omega)) _ | refine Below.setCell ?_ (by first | exact Nat.le_refl _ | ((repeat (first | rw [World.size_alloc] | rw [World.size_setCell] | rw [World.size_drew] | rw [gw_size])); first | done | omega)) _ | refine Below.drew ?_))) : p := h

theorem lm_small {n : Nat} (h : n < 18446744073709551616) : lm n 0 = n ∧ lm n 1 = 0 ∧ lm n 2 = 0 ∧ lm n 3 = 0 := by
 rw [lm0, lm1, lm2, lm3]; omega
theorem WV_small {n : Nat} (h : n < 18446744073709551616) : WV n = .agg #[.int .u64 (n : Nat), .int .u64 0, .int .u64 0, .int .u64 0] := by
 obtain ⟨h0, h1, h2, h3⟩ := lm_small h
 unfold WV; rw [h0, h1, h2, h3]; rfl

set_option maxHeartbeats 400000 in
theorem from_any (n : Nat) (h : n < 18446744073709551616) (w : World) : Calls Try.prog 29 #[.int .u64 n] w (Ret w (WV n)) := by
 rw [WV_small h]
 go_enter Try.func29, Try.ntmps29
 go_wp2
 exact bodyPost_ret (v := .agg #[.int .u64 n, .int .u64 0, .int .u64 0, .int .u64 0]) (by simp [results, Try.results29, go_sem]) rfl (Ret.of' rfl bXW10)
set_option maxHeartbeats 400000 in
theorem rfrom_any (n : Nat) (h : n < 18446744073709551616) (w : World) : Calls Try.prog 63 #[.int .u64 n] w (Ret w (WV n)) := by
 rw [WV_small h]
 go_enter Try.func63, Try.ntmps63
 go_wp2
 exact bodyPost_ret (v := .agg #[.int .u64 n, .int .u64 0, .int .u64 0, .int .u64 0]) (by simp [results, Try.results63, go_sem]) rfl (Ret.of' rfl bXW10)

def smN (a : Nat) : Nat := if a < 18446744073709551616 then a else 0
def smB (a : Nat) : Bool := decide (a < 18446744073709551616)
def byN (a i : Nat) : Nat := lm a (i / 8) / 2 ^ (i % 8 * 8) % 256
set_option maxHeartbeats 400000 in
theorem lowByte_any (a i : Nat) (h : i < 32) (w : World) : Calls Try.prog 45 #[WV a, .int .i64 i] w (Ret w (.int .u8 (byN a i : Nat))) := by
 have hc : i / 8 = 0 ∨ i / 8 = 1 ∨ i / 8 = 2 ∨ i / 8 = 3 := by omega
 have key : ∀ q, i / 8 = q → byN a i = lm a q / 2 ^ (i % 8 * 8) % 256 := fun q hq => by unfold byN; rw [hq]
 rcases hc with hq | hq | hq | hq <;> rw [key _ hq] <;> clear key
 all_goals
  have hq1 : ((i : Int) / 8) = ((i / 8 : Nat) : Int) := by omega
  have hr : ((i : Int) % 8) = ((i % 8 : Nat) : Int) := by omega
  rw [hq] at hq1
  have hr8 : i % 8 < 8 := by omega
  generalize i % 8 = r at *
  have h0 : (0 : Int) ≤ (r : Int) * 8 := by omega
  have h1 : (r : Int) * 8 ≤ 64 := by omega
  clear hq
  go_enter Try.func45, Try.ntmps45
  go_wp2
 ·exact bodyPost_ret (v := .int .u8 (((lm a 0 : Nat) : Int) / 2 ^ (r * 8) % 256)) (by simp [results, Try.results45, go_sem]) rfl (Ret.of' rfl bXW10)
 ·exact bodyPost_ret (v := .int .u8 (((lm a 1 : Nat) : Int) / 2 ^ (r * 8) % 256)) (by simp [results, Try.results45, go_sem]) rfl (Ret.of' rfl bXW10)
 ·exact bodyPost_ret (v := .int .u8 (((lm a 2 : Nat) : Int) / 2 ^ (r * 8) % 256)) (by simp [results, Try.results45, go_sem]) rfl (Ret.of' rfl bXW10)
 ·exact bodyPost_ret (v := .int .u8 (((lm a 3 : Nat) : Int) / 2 ^ (r * 8) % 256)) (by simp [results, Try.results45, go_sem]) rfl (Ret.of' rfl bXW10)
end Go.Proofs.Ytpebhddacbdicaa

/-
 Shl, Shr and Sar, walked, for all words.
-/
namespace Go.Proofs.Ytpebhddacbdicaa
open Go.RowKit

end Go.Proofs.Ytpebhddacbdicaa
