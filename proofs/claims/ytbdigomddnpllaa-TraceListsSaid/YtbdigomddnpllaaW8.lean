/-
  The long division where the divisor has more than one part, or one; walked.
-/
import Derived.Test.YtbdigomddnpllaaW5
import Derived.Test.YtbdigomddnpllaaA1
namespace Go.Proofs.Ytbdigomddnpllaa
set_option linter.unusedSimpArgs false
set_option linter.unusedVariables false
open Go.RowKit
abbrev V4 (v : Nat) : List Nat := [lm v 0, lm v 1, lm v 2, lm v 3]
abbrev U8 (u : Nat) : List Nat := [lm u 0, lm u 1, lm u 2, lm u 3, lm u 4, lm u 5, lm u 6, lm u 7]
theorem arr_at (w : World) (c : Array Value) (t : TypeId) (b : Nat) {xs : List Nat} (hb : b = w.heap.size) (hc : c = U64s xs) : Arr (w.alloc (.cells c t)) b xs t := by
  subst hc; exact block_at _ _ _ hb
theorem arr_past {w : World} {b : Nat} {xs : List Nat} {t : TypeId} (h : Arr w b xs t) (o : Obj) : Arr (w.alloc o) b xs t := by
  unfold Arr; rw [block_past w o b h.lt]; exact h
theorem U64s_set (xs : List Nat) (i y : Nat) : (U64s xs).setIfInBounds i (.int .u64 (y : Int)) = U64s (xs.set i y) := by simp [U64s, List.map_set]
theorem U64s_get {xs : List Nat} {i : Nat} (h : i < xs.length) : (U64s xs)[i]? = some (.int .u64 (xs.getD i 0 : Nat)) := by simp [U64s, h]
theorem putA_at (w : World) (c : Array Value) (xs : List Nat) (t : TypeId) (n : Nat) (h : n = w.heap.size) : putA (w.alloc (.cells c t)) n xs t = w.alloc (.cells (U64s xs) t) := by
  subst h
  simp only [World.alloc, putA]
  congr 1
  apply Array.ext_getElem?
  intro k
  simp only [Array.getElem?_setIfInBounds, Array.getElem?_push, Array.size_push]
  by_cases hk : w.heap.size = k
  · subst hk; simp
  · rw [if_neg hk, if_neg (Ne.symm hk), if_neg (Ne.symm hk)]
theorem putA_past (w : World) (o : Obj) (xs : List Nat) (t : TypeId) (n : Nat) (h : n < w.heap.size) : putA (w.alloc o) n xs t = (putA w n xs t).alloc o := by
  simp only [World.alloc, putA]
  congr 1
  apply Array.ext_getElem?
  intro k
  simp only [Array.getElem?_setIfInBounds, Array.getElem?_push, Array.size_push, Array.size_setIfInBounds]
  by_cases hk : n = k
  · subst hk
    rw [if_pos rfl, if_pos (by omega), if_neg (by omega), if_pos rfl, if_pos h]
  · rw [if_neg hk, if_neg hk]
theorem putA_deep (B : World) (c : Array Value) (p1 p3 : Gro) (o : Obj) (xs : List Nat) (t : TypeId) :
    putA (gw ((gw (B.alloc (.cells c t)) p1).alloc o) p3) B.heap.size xs t = gw ((gw (B.alloc (.cells (U64s xs) t)) p1).alloc o) p3 := by
  rw [gw_putA _ _ (by simp only [World.size_alloc, gw_size]; omega), putA_past _ _ _ _ _ (by simp only [World.size_alloc, gw_size]; omega), gw_putA _ _ (by simp only [World.size_alloc]; omega), putA_at _ _ _ _ _ rfl]
attribute [local go_sem] U64s_set
end Go.Proofs.Ytbdigomddnpllaa

/-
  divide, walked, for every wide number and every word.
-/
namespace Go.Proofs.Ytbdigomddnpllaa
set_option linter.unusedSimpArgs false
set_option linter.unusedVariables false
open Go.RowKit
theorem val_zeros {xs : List Nat} (h : ∀ i, xs.getD i 0 = 0) : val xs = 0 := by
  induction xs with
  | nil => rfl
  | cons x xs ih =>
    have h0 := h 0
    have h1 := ih fun i => by have := h (i + 1); simpa using this
    simp at h0
    simp [val, h0, h1]
theorem val_drop_zero {xs : List Nat} {n : Nat} (h : ∀ k, n ≤ k → xs.getD k 0 = 0) : val (xs.drop n) = 0 := by
  refine val_zeros fun i => ?_
  have h1 := h (n + i) (by omega)
  rw [List.getD_eq_getElem?_getD] at h1 ⊢
  rw [List.getElem?_drop]; exact h1
theorem topN_val {xs : List Nat} (hx : Ok xs) {n : Nat} (hn : topN xs xs.length = n) : val xs = val (seg xs 0 n) ∧ val xs < Bp n := by
  have hle := topN_le xs xs.length
  rw [hn] at hle
  have hz : ∀ k, n ≤ k → xs.getD k 0 = 0 := fun k hk => by
    by_cases hl : k < xs.length
    · exact topN_zero xs xs.length k (by omega) hl
    · rw [List.getD_eq_getElem?_getD, List.getElem?_eq_none (by omega)]; rfl
  have hs := val_split xs n hle
  rw [val_drop_zero hz, Nat.mul_zero, Nat.add_zero] at hs
  exact ⟨hs, by rw [hs]; exact val_seg_lt hx 0 n⟩
theorem div_norm {v m up : Nat} (hv : v < W) (hn : topN (V4 v) 4 = m + 1) (hup : up = 64 - Lib.bitLen ((V4 v).getD m 0)) :
    up < 64 ∧ val (seg (V4 (v * 2 ^ up)) 0 (m + 1)) = v * 2 ^ up ∧ 9223372036854775808 ≤ (V4 (v * 2 ^ up)).getD m 0 ∧ v * 2 ^ up < Bp (m + 1) ∧ Bp m ≤ v := by
  have hm : m < 4 := by have := topN_le (V4 v) 4; omega
  have htop : (V4 v).getD m 0 ≠ 0 := by
    have := topN_top (V4 v) 4 (by omega)
    rw [hn] at this; exact this
  have hok := Ok_V4 v
  have htl := hok.getD m
  obtain ⟨t1, t2⟩ := topN_val hok (n := m + 1) hn
  rw [val_V4 hv] at t1 t2
  have t3 : val (seg (V4 v) 0 (m + 1)) = val (seg (V4 v) 0 m) + Bp m * (V4 v).getD m 0 := val_take_succ (by simp; omega)
  rw [← t1] at t3
  have t4 := val_seg_lt hok 0 m
  obtain ⟨b1, b2⟩ := bitLen_spec htl
  have b3 := b2 htop
  have b4 := Lib.bitLen_le ((V4 v).getD m 0) 64 (by omega) htl
  generalize (V4 v).getD m 0 = top at *
  generalize val (seg (V4 v) 0 m) = r at *
  have b5 : 1 ≤ Lib.bitLen top := by
    rcases Nat.eq_zero_or_pos (Lib.bitLen top) with h5 | h5
    · rw [h5] at b1; simp at b1; exact absurd b1 htop
    · exact h5
  generalize Lib.bitLen top = bl at *
  have hup64 : up < 64 := by omega
  have e64 : 2 ^ bl * 2 ^ up = 18446744073709551616 := by rw [← Nat.pow_add, show bl + up = 64 by omega]
  have e63 : 2 ^ (bl - 1) * 2 ^ up = 9223372036854775808 := by rw [← Nat.pow_add, show bl - 1 + up = 63 by omega]
  have c1 : 9223372036854775808 ≤ top * 2 ^ up := by rw [← e63]; exact Nat.mul_le_mul_right _ b3
  have c2 : (top + 1) * 2 ^ up ≤ 18446744073709551616 := by rw [← e64]; exact Nat.mul_le_mul_right _ b1
  have hv2 : v * 2 ^ up < Bp (m + 1) := by
    have h1 : v < Bp m * (top + 1) := by rw [Nat.mul_add]; omega
    have h2 : v * 2 ^ up < Bp m * (top + 1) * 2 ^ up := Nat.mul_lt_mul_of_pos_right h1 (Nat.pow_pos (by decide))
    have h3 : Bp m * ((top + 1) * 2 ^ up) ≤ Bp m * 18446744073709551616 := Nat.mul_le_mul_left _ c2
    rw [Bp_succ, Nat.mul_comm 18446744073709551616]
    rw [Nat.mul_assoc] at h2
    omega
  have hvW : v * 2 ^ up < W := Nat.lt_of_lt_of_le hv2 (by rw [show W = Bp 4 from rfl]; unfold Bp; exact Nat.pow_le_pow_right (by decide) (by omega))
  refine ⟨hup64, ?_, ?_, hv2, ?_⟩
  · have hs := val_split (V4 (v * 2 ^ up)) (m + 1) (by simp; omega)
    rw [val_V4 hvW] at hs
    have hz : val ((V4 (v * 2 ^ up)).drop (m + 1)) = 0 := by
      apply Nat.eq_zero_of_not_pos
      intro hp
      have h6 : Bp (m + 1) * 1 ≤ Bp (m + 1) * val ((V4 (v * 2 ^ up)).drop (m + 1)) := Nat.mul_le_mul_left _ hp
      omega
    rw [hz] at hs
    omega
  · rw [getD_V4 _ _ hm, lm_eq_mod]
    have h7 : v * 2 ^ up / Bp m < 18446744073709551616 := (Nat.div_lt_iff_lt_mul (Bp_pos m)).2 (by rw [Bp_succ] at hv2; exact hv2)
    rw [Nat.mod_eq_of_lt h7]
    refine (Nat.le_div_iff_mul_le (Bp_pos m)).2 ?_
    have h8 : Bp m * 9223372036854775808 ≤ Bp m * (top * 2 ^ up) := Nat.mul_le_mul_left _ c1
    rw [t3, Nat.add_mul, Nat.mul_assoc]
    rw [Nat.mul_comm]
    omega
  · rw [t3]
    have h9 : Bp m * 1 ≤ Bp m * top := Nat.mul_le_mul_left _ (Nat.pos_of_ne_zero htop)
    omega
theorem div_room {u v m up : Nat} (hm : Bp m ≤ v) (hu : u < Bp 8) : u * 2 ^ up < v * 2 ^ up * Bp ((topN (U8 u) 8 : Int) - (m + 1) + 1).toNat := by
  have hu8 : val (U8 u) = u := by rw [show val (U8 u) = u % Bp 8 from val_limbs u, Nat.mod_eq_of_lt hu]
  obtain ⟨_, t2⟩ := topN_val (Ok_U8 u) (n := topN (U8 u) 8) rfl
  rw [hu8] at t2
  generalize topN (U8 u) 8 = t8 at *
  have hp : 0 < 2 ^ up := Nat.pow_pos (by decide)
  by_cases h : m + 1 ≤ t8
  · rw [show ((t8 : Int) - (m + 1) + 1).toNat = t8 - m by omega]
    have h1 : Bp t8 ≤ v * Bp (t8 - m) := by
      rw [show t8 = m + (t8 - m) by omega, Bp_add, show m + (t8 - m) - m = t8 - m by omega]
      exact Nat.mul_le_mul_right _ hm
    have h2 : u * 2 ^ up < v * Bp (t8 - m) * 2 ^ up := Nat.mul_lt_mul_of_pos_right (Nat.lt_of_lt_of_le t2 h1) hp
    rw [Nat.mul_assoc, Nat.mul_comm (2 ^ up), ← Nat.mul_assoc]
    exact h2
  · rw [show ((t8 : Int) - (m + 1) + 1).toNat = 0 by omega, Bp_zero, Nat.mul_one]
    have h1 : Bp t8 ≤ Bp m := by unfold Bp; exact Nat.pow_le_pow_right (by decide) (by omega)
    exact Nat.mul_lt_mul_of_pos_right (by omega) hp
theorem shlN_small {n a : Nat} (h : n < 64) : shlN n a = a * 2 ^ n := by unfold shlN; rw [sp_eq, Nat.min_eq_left (by omega)]
theorem shdN_small {n a : Nat} (h : n < 64) : shdN n a 0 = a / 2 ^ n := by unfold shdN; rw [sp_eq, Nat.min_eq_left (by omega)]; simp [extN]
/-- The rest; 0, if the divisor is. -/
def rstN (u v : Nat) : Nat := if v = 0 then 0 else u % v
end Go.Proofs.Ytbdigomddnpllaa
