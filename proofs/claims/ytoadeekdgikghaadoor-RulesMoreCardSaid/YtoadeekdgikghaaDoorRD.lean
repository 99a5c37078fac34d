/-
 Bytes and numbers: plain arithmetic, no program.
-/
import Derived.Test.YtoadeekdgikghaaDoorBase
import Derived.Test.YtoadeekdgikghaaDoorA1
set_option maxRecDepth 10000
set_option linter.unusedVariables false
set_option linter.unusedSimpArgs false
namespace Go.Proofs.YtoadeekdgikghaaDoor
open Go.RowKit
theorem bXRD0 {p : Prop} (h : p := by (repeat (first | with_reducible exact Below.refl _ _ | refine below_gw ?_ (by first | exact Nat.le_refl _ | ((repeat (first | rw [World.size_alloc] | rw [World.size_setCell] | rw [World.size_drew] | rw [gw_size])); first | done | omega)) _ | refine Below.alloc ?_ (by first | exact Nat.le_refl _ | ((repeat (first | rw [World.size_alloc] | rw [World.size_setCell] | rw [World.size_drew] | rw [gw_size])); first | done | omega)) _ | refine Below.setCell ?_ (by first | exact Nat.le_refl _ | ((repeat (first | rw [World.size_alloc] | rw [World.size_setCell] | rw [World.size_drew] | rw [gw_size])); first | done | omega)) _ | refine Below.drew ?_))) : p := h

theorem lm_small {n : Nat} (h : n < 18446744073709551616) : lm n 0 = n ∧ lm n 1 = 0 ∧ lm n 2 = 0 ∧ lm n 3 = 0 := by
 rw [lm0, lm1, lm2, lm3]; omega
theorem WV_small {n : Nat} (h : n < 18446744073709551616) : WV n = .agg #[.int .u64 (n : Nat), .int .u64 0, .int .u64 0, .int .u64 0] := by
 obtain ⟨h0, h1, h2, h3⟩ := lm_small h
 unfold WV; rw [h0, h1, h2, h3]; rfl

set_option maxHeartbeats 400000 in
theorem from_any (n : Nat) (h : n < 18446744073709551616) (w : World) : Calls Tryd.prog 43 #[.int .u64 n] w (Ret w (WV n)) := by
 rw [WV_small h]
 go_enter Tryd.func43, Tryd.ntmps43
 go_wp2
 exact bodyPost_ret (v := .agg #[.int .u64 n, .int .u64 0, .int .u64 0, .int .u64 0]) (by simp [results, Tryd.results43, go_sem]) rfl (Ret.of' rfl bXRD0)
def smN (a : Nat) : Nat := if a < 18446744073709551616 then a else 0
def smB (a : Nat) : Bool := decide (a < 18446744073709551616)
def byN (a i : Nat) : Nat := lm a (i / 8) / 2 ^ (i % 8 * 8) % 256
set_option maxHeartbeats 400000 in
theorem lowByte_any (a i : Nat) (h : i < 32) (w : World) : Calls Tryd.prog 54 #[WV a, .int .i64 i] w (Ret w (.int .u8 (byN a i : Nat))) := by
 have hc : i / 8 = 0 ∨ i / 8 = 1 ∨ i / 8 = 2 ∨ i / 8 = 3 := by omega
 have key : ∀ q, i / 8 = q → byN a i = lm a q / 2 ^ (i % 8 * 8) % 256 := fun q hq => by unfold byN; rw [hq]
 rcases hc with hq | hq | hq | hq <;> rw [key _ hq] <;> clear key
 all_goals
  have hq1 : ((i : Int) / 8) = ((i / 8 : Nat) : Int) := by omega
  have hr : ((i : Int) % 8) = ((i % 8 : Nat) : Int) := by omega
  rw [hq] at hq1
  have hr8 : i % 8 < 8 := by omega
  generalize i % 8 = r at *
  have h0 : (0 : Int) ≤ (r : Int) * 8 := by omega
  have h1 : (r : Int) * 8 ≤ 64 := by omega
  clear hq
  go_enter Tryd.func54, Tryd.ntmps54
  go_wp2
 ·exact bodyPost_ret (v := .int .u8 (((lm a 0 : Nat) : Int) / 2 ^ (r * 8) % 256)) (by simp [results, Tryd.results54, go_sem]) rfl (Ret.of' rfl bXRD0)
 ·exact bodyPost_ret (v := .int .u8 (((lm a 1 : Nat) : Int) / 2 ^ (r * 8) % 256)) (by simp [results, Tryd.results54, go_sem]) rfl (Ret.of' rfl bXRD0)
 ·exact bodyPost_ret (v := .int .u8 (((lm a 2 : Nat) : Int) / 2 ^ (r * 8) % 256)) (by simp [results, Tryd.results54, go_sem]) rfl (Ret.of' rfl bXRD0)
 ·exact bodyPost_ret (v := .int .u8 (((lm a 3 : Nat) : Int) / 2 ^ (r * 8) % 256)) (by simp [results, Tryd.results54, go_sem]) rfl (Ret.of' rfl bXRD0)
end Go.Proofs.YtoadeekdgikghaaDoor

/-
 Shl, Shr and Sar, walked, for all words.
-/
namespace Go.Proofs.YtoadeekdgikghaaDoor
open Go.RowKit

end Go.Proofs.YtoadeekdgikghaaDoor
namespace Go.Proofs.YtoadeekdgikghaaDoor
def bytI (a n : Nat) : List Int := (List.range n).map fun i => ((byN a (n - 1 - i) : Nat) : Int)
def rdI : List Int → Nat
 | [] => 0
 | y :: l => y.toNat * 256 ^ l.length + rdI l
theorem rdI_lt : ∀ {l : List Int}, allB l → rdI l < 256 ^ l.length
 | [], _ => by simp [rdI]
 | y :: l, h => by
  have h1 := rdI_lt (l := l) (fun x hx => h x (List.mem_cons_of_mem _ hx))
  have h2 := h y List.mem_cons_self
  have h3 : y.toNat ≤ 255 := by omega
  simp only [rdI, List.length_cons, Nat.pow_succ]
  have h4 : y.toNat * 256 ^ l.length ≤ 255 * 256 ^ l.length := Nat.mul_le_mul_right _ h3
  omega
theorem pow256 (k : Nat) : (256 : Nat) ^ k = 2 ^ (8 * k) := by rw [show (256 : Nat) = 2 ^ 8 from rfl, ← Nat.pow_mul]
theorem pow64 (k : Nat) : (18446744073709551616 : Nat) ^ k = 2 ^ (64 * k) := by rw [show (18446744073709551616 : Nat) = 2 ^ 64 from rfl, ← Nat.pow_mul]
theorem byN_eq (a i : Nat) : byN a i = a / 256 ^ i % 256 := by
 unfold byN lm
 rw [pow64, show (18446744073709551616 : Nat) = 2 ^ 64 from rfl]
 have h1 : i % 8 < 8 := Nat.mod_lt _ (by decide)
 have h2 : (2 : Nat) ^ 64 = 2 ^ (i % 8 * 8) * 2 ^ (64 - i % 8 * 8) := by rw [← Nat.pow_add]; congr 1; omega
 rw [h2, Nat.mod_mul_right_div_self, Nat.div_div_eq_div_mul, ← Nat.pow_add, pow256]
 have h3 : 64 * (i / 8) + i % 8 * 8 = 8 * i := by omega
 rw [h3]
 exact Nat.mod_mod_of_dvd _ (by
  have : (2 : Nat) ^ (64 - i % 8 * 8) = 256 * 2 ^ (64 - i % 8 * 8 - 8) := by rw [show (256 : Nat) = 2 ^ 8 from rfl, ← Nat.pow_add]; congr 1; omega
  rw [this]; exact Nat.dvd_mul_right _ _)
theorem byN_lt (a i : Nat) : byN a i < 256 := Nat.mod_lt _ (by decide)
theorem bytI_succ (a n : Nat) : bytI a (n + 1) = ((byN a n : Nat) : Int) :: bytI a n := by
 unfold bytI
 rw [List.range_succ_eq_map, List.map_cons, List.map_map]
 congr 1
 apply List.map_congr_left
 intro i _
 simp only [Function.comp]
 rw [show n + 1 - 1 - (i + 1) = n - 1 - i by omega]
theorem bytI_len (a n : Nat) : (bytI a n).length = n := by simp [bytI]
theorem bytI_all (a n : Nat) : allB (bytI a n) := by
 intro x hx
 obtain ⟨i, _, rfl⟩ := List.mem_map.1 hx
 have := byN_lt a (n - 1 - i)
 omega
theorem rdI_bytI (a : Nat) : ∀ n, rdI (bytI a n) = a % 256 ^ n
 | 0 => by simp [bytI, rdI, Nat.mod_one]
 | n + 1 => by
  rw [bytI_succ, rdI, bytI_len, rdI_bytI a n, Int.toNat_natCast, byN_eq, Nat.pow_succ, Nat.mod_mul, Nat.add_comm, Nat.mul_comm]
theorem bytI_low {a b n : Nat} (h : a % 256 ^ n = b % 256 ^ n) : bytI a n = bytI b n := by
 unfold bytI
 apply List.map_congr_left
 intro i hi
 have hi' : i < n := List.mem_range.1 hi
 have key : ∀ c, c / 256 ^ (n - 1 - i) % 256 = c % 256 ^ n / 256 ^ (n - 1 - i) % 256 := by
  intro c
  have e : (256 : Nat) ^ n = 256 ^ (n - 1 - i) * 256 ^ (i + 1) := by rw [← Nat.pow_add]; congr 1; omega
  rw [e, Nat.mod_mul_right_div_self]
  exact (Nat.mod_mod_of_dvd _ (by rw [Nat.pow_succ]; exact Nat.dvd_mul_left _ _)).symm
 rw [byN_eq, byN_eq, key a, key b, h]
theorem bytI_rdI : ∀ {l : List Int}, allB l → bytI (rdI l) l.length = l
 | [], _ => rfl
 | y :: l, h => by
  have hl : allB l := fun x hx => h x (List.mem_cons_of_mem _ hx)
  have h1 := rdI_lt hl
  have h2 := h y List.mem_cons_self
  have hp : 0 < 256 ^ l.length := Nat.pow_pos (by decide)
  rw [List.length_cons, bytI_succ, rdI, byN_eq]
  have e1 : (y.toNat * 256 ^ l.length + rdI l) / 256 ^ l.length = y.toNat := by
   rw [Nat.add_comm, Nat.add_mul_div_right _ _ hp, Nat.div_eq_of_lt h1, Nat.zero_add]
  have e2 : y.toNat % 256 = y.toNat := Nat.mod_eq_of_lt (by omega)
  have e3 : (y.toNat * 256 ^ l.length + rdI l) % 256 ^ l.length = rdI l % 256 ^ l.length := by
   rw [Nat.add_comm, Nat.add_mul_mod_self_right]
  rw [e1, e2, bytI_low e3, bytI_rdI hl]
  congr 1; omega
def lmI (x : Nat) : List Int := [((lm x 0 : Nat) : Int), ((lm x 1 : Nat) : Int), ((lm x 2 : Nat) : Int), ((lm x 3 : Nat) : Int)]
theorem lmI_get (x j : Nat) (h : j < 4) : (lmI x).getD j 0 = ((lm x j : Nat) : Int) := by
 have : j = 0 ∨ j = 1 ∨ j = 2 ∨ j = 3 := by omega
 rcases this with rfl | rfl | rfl | rfl <;> rfl
theorem lm_below {x k j : Nat} (hx : x < 256 ^ k) (h : k ≤ 8 * j) : lm x j = 0 := by
 unfold lm
 rw [pow64, Nat.div_eq_of_lt, Nat.zero_mod]
 rw [pow256] at hx
 exact Nat.lt_of_lt_of_le hx (Nat.pow_le_pow_right (by decide) (by omega))
theorem lm_cut {x k : Nat} (hx : x < 256 ^ k) : lm x (k / 8) < 2 ^ (k % 8 * 8) := by
 have h1 : lm x (k / 8) = x / 2 ^ (64 * (k / 8)) % 2 ^ 64 := by unfold lm; rw [pow64]
 have h2 : x / 2 ^ (64 * (k / 8)) < 2 ^ (k % 8 * 8) := by
  rw [Nat.div_lt_iff_lt_mul (Nat.two_pow_pos _), ← Nat.pow_add]
  rw [pow256] at hx
  rwa [show k % 8 * 8 + 64 * (k / 8) = 8 * k by omega]
 rw [h1]
 exact Nat.lt_of_le_of_lt (Nat.mod_le _ _) h2
theorem lm_put {x k y j : Nat} (hx : x < 256 ^ k) (hy : y < 256) : lm (y * 256 ^ k + x) j = if j = k / 8 then lm x j + y * 2 ^ (k % 8 * 8) else lm x j := by
 have hk : (256 : Nat) ^ k = 2 ^ (64 * (k / 8)) * 2 ^ (k % 8 * 8) := by rw [pow256, ← Nat.pow_add]; congr 1; omega
 have hm : k % 8 * 8 ≤ 56 := by have := Nat.mod_lt k (show 8 > 0 by decide); omega
 have hy64 : y * 2 ^ (k % 8 * 8) < 2 ^ (k % 8 * 8 + 8) := by
  rw [Nat.pow_add, Nat.mul_comm]; exact Nat.mul_lt_mul_of_pos_left hy (Nat.two_pow_pos _)
 by_cases hj : j = k / 8
 ·rw [if_pos hj]; subst hj
  have hc := lm_cut hx
  have e1 : lm x (k / 8) = x / 2 ^ (64 * (k / 8)) := by
   unfold lm at hc ⊢
   rw [pow64] at hc ⊢
   have h2 : x / 2 ^ (64 * (k / 8)) < 2 ^ (k % 8 * 8) := by
    rw [Nat.div_lt_iff_lt_mul (Nat.two_pow_pos _), ← Nat.pow_add]
    rw [pow256] at hx
    rwa [show k % 8 * 8 + 64 * (k / 8) = 8 * k by omega]
   have h3 : (2 : Nat) ^ (k % 8 * 8) ≤ 2 ^ 64 := Nat.pow_le_pow_right (by decide) (by omega)
   have h4 : (2 : Nat) ^ 64 = 18446744073709551616 := rfl
   exact Nat.mod_eq_of_lt (by omega)
  rw [e1] at hc ⊢
  unfold lm
  rw [pow64, hk]
  have e2 : y * (2 ^ (64 * (k / 8)) * 2 ^ (k % 8 * 8)) + x = x + y * 2 ^ (k % 8 * 8) * 2 ^ (64 * (k / 8)) := by
   rw [Nat.add_comm, Nat.mul_comm (2 ^ (64 * (k / 8))), Nat.mul_assoc]
  rw [e2, Nat.add_mul_div_right _ _ (Nat.two_pow_pos _)]
  apply Nat.mod_eq_of_lt
  have h5 : x / 2 ^ (64 * (k / 8)) + y * 2 ^ (k % 8 * 8) < 2 ^ (k % 8 * 8 + 8) := by
   have : (y + 1) * 2 ^ (k % 8 * 8) ≤ 256 * 2 ^ (k % 8 * 8) := Nat.mul_le_mul_right _ hy
   rw [Nat.add_mul] at this
   rw [Nat.pow_add, Nat.mul_comm (2 ^ (k % 8 * 8)) (2 ^ 8)]
   omega
  exact Nat.lt_of_lt_of_le h5 (by
   have : (2 : Nat) ^ (k % 8 * 8 + 8) ≤ 2 ^ 64 := Nat.pow_le_pow_right (by decide) (by omega)
   exact this)
 ·rw [if_neg hj]
  rcases Nat.lt_or_gt_of_ne hj with h | h
  ·-- a part further down: a multiple of it goes
   unfold lm
   rw [pow64]
   have e : y * 256 ^ k + x = x + 2 ^ (64 * j) * (2 ^ 64 * (y * 2 ^ (8 * k - 64 * (j + 1)))) := by
    rw [pow256, Nat.add_comm]
    congr 1
    rw [← Nat.mul_assoc, ← Nat.pow_add, Nat.mul_left_comm, ← Nat.pow_add]
    congr 2
    omega
   rw [e, Nat.add_mul_div_left _ _ (Nat.two_pow_pos _), show (18446744073709551616 : Nat) = 2 ^ 64 from rfl, Nat.add_mul_mod_self_left]
  ·have hlt : y * 256 ^ k + x < 256 ^ (k + 1) := by
    have : (y + 1) * 256 ^ k ≤ 256 * 256 ^ k := Nat.mul_le_mul_right _ hy
    rw [Nat.add_mul] at this
    rw [Nat.pow_succ]; omega
   rw [lm_below hlt (by omega), lm_below hx (by omega)]
theorem or_put {x y k : Nat} (h : x < 2 ^ k) : x ||| y * 2 ^ k = x + y * 2 ^ k := by
 rw [Nat.or_comm, Nat.mul_comm, ← Nat.two_pow_add_eq_or_of_lt h, Nat.add_comm]
theorem lmI_put {x k y : Nat} (hk : k < 32) (hx : x < 256 ^ k) (hy : y < 256) : (lmI x).set (k / 8) (((lm x (k / 8) ||| y * 2 ^ (k % 8 * 8) : Nat)) : Int) = lmI (y * 256 ^ k + x) := by
 rw [or_put (lm_cut hx)]
 have h0 := lm_put (j := 0) hx hy
 have h1 := lm_put (j := 1) hx hy
 have h2 := lm_put (j := 2) hx hy
 have h3 := lm_put (j := 3) hx hy
 unfold lmI
 rw [h0, h1, h2, h3]
 have : k / 8 = 0 ∨ k / 8 = 1 ∨ k / 8 = 2 ∨ k / 8 = 3 := by omega
 rcases this with h | h | h | h <;> rw [h] <;> rfl
end Go.Proofs.YtoadeekdgikghaaDoor
