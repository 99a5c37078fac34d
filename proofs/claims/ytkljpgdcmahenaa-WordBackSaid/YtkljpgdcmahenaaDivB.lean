/-
  A long division, a part of the quotient at a time: plain arithmetic, no program.
-/
import Derived.Test.YtkljpgdcmahenaaDiv
namespace Go.Proofs.Ytkljpgdcmahenaa
set_option linter.unusedSimpArgs false
set_option linter.unusedVariables false

theorem val_set {xs : List Nat} {k : Nat} (h : k < xs.length) (v : Nat) : val (xs.set k v) + Bp k * xs.getD k 0 = val xs + Bp k * v := by
  induction xs generalizing k with
  | nil => exact absurd h (Nat.not_lt_zero _)
  | cons x xs ih =>
    cases k with
    | zero => simp [val, Bp_zero]; omega
    | succ k =>
      have h1 := ih (k := k) (by simpa using h)
      simp only [List.set_cons_succ, List.getD_cons_succ, val, Bp_succ]
      grind
theorem lm_val {xs : List Nat} (h : Ok xs) (k : Nat) : lm (val xs) k = xs.getD k 0 := by
  induction xs generalizing k with
  | nil => simp [val, lm]
  | cons x xs ih =>
    have hx : x < 18446744073709551616 := h x (by simp)
    have ho : Ok xs := fun y hy => h y (by simp [hy])
    cases k with
    | zero => rw [lm0]; simp only [val, List.getD_cons_zero]; omega
    | succ k =>
      rw [lm_succ, List.getD_cons_succ, ← ih ho k]
      congr 1
      unfold sh
      simp only [val]
      omega
theorem Bp_four : Bp 4 = W := rfl
theorem val_V4 {v : Nat} (h : v < W) : val [lm v 0, lm v 1, lm v 2, lm v 3] = v := by
  have h1 := num_lm h
  unfold num at h1
  simp only [val]
  omega
theorem ok_list {xs : List Nat} (_f : Nat → Nat) (v : Nat) (h : ∀ x, x ∈ xs → ∃ i, x = lm v i) : Ok xs := fun x hx => by
  obtain ⟨i, rfl⟩ := h x hx
  exact lm_lt v i
theorem Ok_V4 (v : Nat) : Ok [lm v 0, lm v 1, lm v 2, lm v 3] := fun x hx => by
  simp at hx; rcases hx with rfl | rfl | rfl | rfl <;> exact lm_lt _ _
theorem Ok_U8 (v : Nat) : Ok [lm v 0, lm v 1, lm v 2, lm v 3, lm v 4, lm v 5, lm v 6, lm v 7] := fun x hx => by
  simp at hx; rcases hx with rfl | rfl | rfl | rfl | rfl | rfl | rfl | rfl <;> exact lm_lt _ _
theorem lm_eq_mod (u i : Nat) : lm u i = u / Bp i % 18446744073709551616 := rfl
theorem mod_succ (u i : Nat) : u % Bp (i + 1) = u % Bp i + Bp i * lm u i := by
  rw [Bp_succ, Nat.mul_comm, Nat.mod_mul]; rfl
theorem val_limbs (u : Nat) : val [lm u 0, lm u 1, lm u 2, lm u 3, lm u 4, lm u 5, lm u 6, lm u 7] = u % Bp 8 := by
  have e : ∀ k, u % Bp (k + 1) = u % Bp k + Bp k * lm u k := mod_succ u
  rw [e 7, e 6, e 5, e 4, e 3, e 2, e 1, e 0]
  simp only [val, Bp_succ, Bp_zero]
  omega
theorem getD_U8 (u k : Nat) (h : k < 8) : [lm u 0, lm u 1, lm u 2, lm u 3, lm u 4, lm u 5, lm u 6, lm u 7].getD k 0 = lm u k := by
  have h4 : k = 0 ∨ k = 1 ∨ k = 2 ∨ k = 3 ∨ k = 4 ∨ k = 5 ∨ k = 6 ∨ k = 7 := by omega
  rcases h4 with rfl | rfl | rfl | rfl | rfl | rfl | rfl | rfl <;> rfl
theorem getD_V4 (u k : Nat) (h : k < 4) : [lm u 0, lm u 1, lm u 2, lm u 3].getD k 0 = lm u k := by
  have h4 : k = 0 ∨ k = 1 ∨ k = 2 ∨ k = 3 := by omega
  rcases h4 with rfl | rfl | rfl | rfl <;> rfl

/-! ### The dividend, shifted up -/
structure LInv (u up i : Nat) (xs : List Nat) : Prop where
  len : xs.length = 9
  ok : Ok xs
  eq : val xs = (u % Bp i) * 2 ^ up
  zero : ∀ k, i < k → xs.getD k 0 = 0
  lt : xs.getD i 0 < 2 ^ up
theorem LInv.start (u up : Nat) : LInv u up 0 [0, 0, 0, 0, 0, 0, 0, 0, 0] :=
  ⟨rfl, fun x hx => by simp at hx; subst hx; decide, by simp [val, Bp_zero, Nat.mod_one], fun k _ => by
    rw [List.getD_eq_getElem?_getD]
    cases h : ([0, 0, 0, 0, 0, 0, 0, 0, 0] : List Nat)[k]? with
    | none => rfl
    | some x => have := List.mem_of_getElem? h; simp at this; simpa using this, by simpa using Nat.pow_pos (by decide)⟩
theorem shl_parts {x up : Nat} (hup : up < 64) : x * 2 ^ up % 18446744073709551616 = 2 ^ up * (x % 2 ^ (64 - up)) ∧
    x * 2 ^ up % 18446744073709551616 + 18446744073709551616 * (x / 2 ^ (64 - up)) = x * 2 ^ up := by
  have e : (18446744073709551616 : Nat) = 2 ^ up * 2 ^ (64 - up) := by
    rw [← Nat.pow_add, show up + (64 - up) = 64 by omega]
  have h1 : x * 2 ^ up % 18446744073709551616 = 2 ^ up * (x % 2 ^ (64 - up)) := by
    rw [e, Nat.mul_comm x, Nat.mul_mod_mul_left]
  refine ⟨h1, ?_⟩
  rw [h1, e, Nat.mul_assoc, ← Nat.mul_add, Nat.mod_add_div, Nat.mul_comm]
theorem or_parts {a x up : Nat} (hup : up < 64) (ha : a < 2 ^ up) : a ||| (x * 2 ^ up % 18446744073709551616) = a + x * 2 ^ up % 18446744073709551616 := by
  rw [(shl_parts hup).1, Nat.or_comm, ← Nat.two_pow_add_eq_or_of_lt ha, Nat.add_comm]
theorem LInv.step {u up i : Nat} {xs : List Nat} (h : LInv u up i xs) (hi : i < 8) (hup : up < 64) :
    LInv u up (i + 1) ((xs.set i (xs.getD i 0 ||| (lm u i * 2 ^ up % 18446744073709551616))).set (i + 1) (lm u i / 2 ^ (64 - up))) := by
  have hl := h.len
  have hx := lm_lt u i
  obtain ⟨p1, p2⟩ := shl_parts (x := lm u i) hup
  have hor := or_parts (x := lm u i) hup h.lt
  have hz : lm u i / 2 ^ (64 - up) < 2 ^ up := by
    refine (Nat.div_lt_iff_lt_mul (Nat.pow_pos (by decide))).2 ?_
    rw [← Nat.pow_add, show up + (64 - up) = 64 by omega]
    exact hx
  have hzb : lm u i / 2 ^ (64 - up) < 18446744073709551616 := Nat.lt_of_le_of_lt (Nat.div_le_self _ _) hx
  have hyb : xs.getD i 0 ||| (lm u i * 2 ^ up % 18446744073709551616) < 18446744073709551616 := Nat.or_lt_two_pow (n := 64) (h.ok.getD i) (Nat.mod_lt _ (by decide))
  have v1 := val_set (xs := xs) (k := i) (by omega) (xs.getD i 0 ||| (lm u i * 2 ^ up % 18446744073709551616))
  have v2 := val_set (xs := xs.set i (xs.getD i 0 ||| (lm u i * 2 ^ up % 18446744073709551616))) (k := i + 1) (by simp; omega) (lm u i / 2 ^ (64 - up))
  rw [getD_set_off (by omega), h.zero (i + 1) (by omega), Nat.mul_zero, Nat.add_zero] at v2
  refine ⟨by simp [hl], (h.ok.set _ hyb).set _ hzb, ?_, fun k hk => ?_, ?_⟩
  · rw [v2, mod_succ, Nat.add_mul, ← h.eq, Bp_succ]
    rw [hor, Nat.mul_add] at v1
    have e : Bp i * lm u i * 2 ^ up = Bp i * (lm u i * 2 ^ up % 18446744073709551616) + 18446744073709551616 * Bp i * (lm u i / 2 ^ (64 - up)) := by
      rw [Nat.mul_assoc, ← p2, Nat.mul_add]
      grind
    rw [e, hor]
    omega
  · rw [getD_set_off (by omega), getD_set_off (by omega)]; exact h.zero k (by omega)
  · rw [getD_set_eq (by simp; omega)]; exact hz

/-! ### The quotient -/
structure QInv (T V c : Nat) (xs qs : List Nat) : Prop where
  lx : xs.length = 9
  lq : qs.length = 8
  ox : Ok xs
  oq : Ok qs
  eq : val xs + V * val qs = T
  zero : ∀ k, k < c → qs.getD k 0 = 0
  lt : val xs < V * Bp c
theorem QInv.part {T V j n : Nat} {xs qs : List Nat} (h : QInv T V (j + 1) xs qs) (hj : j + n < 9) (hV : V ≤ Bp n) :
    val (seg xs j (n + 1)) < V * 18446744073709551616 ∧ val xs = val (seg xs 0 j) + Bp j * val (seg xs j (n + 1)) ∧ val (xs.drop (j + (n + 1))) = 0 := by
  have hl := h.lx
  have hs := val_split3 xs j (n + 1) (by omega)
  have hlt := h.lt
  have hz : val (xs.drop (j + (n + 1))) = 0 := by
    apply Nat.eq_zero_of_not_pos
    intro hp
    have h0 : V * Bp (j + 1) ≤ Bp n * Bp (j + 1) := Nat.mul_le_mul_right _ hV
    have h1 : V * Bp (j + 1) ≤ Bp j * Bp (n + 1) := by
      rw [← Bp_add n, show n + (j + 1) = j + (n + 1) by omega] at h0; rw [← Bp_add]; exact h0
    have h2 : Bp j * (Bp (n + 1) * 1) ≤ Bp j * (Bp (n + 1) * val (xs.drop (j + (n + 1)))) := Nat.mul_le_mul_left _ (Nat.mul_le_mul_left _ hp)
    have hs' : val xs = val (seg xs 0 j) + (Bp j * val (seg xs j (n + 1)) + Bp j * (Bp (n + 1) * val (xs.drop (j + (n + 1))))) := by rw [hs, Nat.mul_add]
    rw [Nat.mul_one] at h2
    have h5 : Bp j * (Bp (n + 1) * val (xs.drop (j + (n + 1)))) ≤ val xs := by rw [hs']; exact Nat.le_trans (Nat.le_add_left _ _) (Nat.le_add_left _ _)
    exact Nat.lt_irrefl _ (Nat.lt_of_lt_of_le hlt (Nat.le_trans h1 (Nat.le_trans h2 h5)))
  rw [hz, Nat.mul_zero, Nat.add_zero] at hs
  refine ⟨?_, hs, hz⟩
  have h3 : Bp j * val (seg xs j (n + 1)) < Bp j * (V * 18446744073709551616) := by
    have e : V * Bp (j + 1) = Bp j * (V * 18446744073709551616) := by rw [Bp_succ]; grind
    omega
  exact Nat.lt_of_mul_lt_mul_left h3
theorem getD_ext_drop {xs ys : List Nat} {k : Nat} (hl : xs.length = ys.length) (h : ∀ i, k ≤ i → xs.getD i 0 = ys.getD i 0) : xs.drop k = ys.drop k := by
  apply List.ext_getElem?
  intro i
  rw [List.getElem?_drop, List.getElem?_drop]
  have h1 := h (k + i) (by omega)
  by_cases hi : k + i < xs.length
  · rw [List.getElem?_eq_getElem hi, List.getElem?_eq_getElem (by omega)]
    rw [List.getD_eq_getElem?_getD, List.getD_eq_getElem?_getD, List.getElem?_eq_getElem hi, List.getElem?_eq_getElem (by omega)] at h1
    simpa using h1
  · rw [List.getElem?_eq_none (by omega), List.getElem?_eq_none (by omega)]
theorem getD_ext_take {xs ys : List Nat} {k : Nat} (hl : xs.length = ys.length) (h : ∀ i, i < k → xs.getD i 0 = ys.getD i 0) : seg xs 0 k = seg ys 0 k := by
  unfold seg
  apply List.ext_getElem?
  intro i
  simp only [List.drop_zero, List.getElem?_take]
  split
  · rename_i hik
    have h1 := h i hik
    by_cases hi : i < xs.length
    · rw [List.getElem?_eq_getElem hi, List.getElem?_eq_getElem (by omega)]
      rw [List.getD_eq_getElem?_getD, List.getD_eq_getElem?_getD, List.getElem?_eq_getElem hi, List.getElem?_eq_getElem (by omega)] at h1
      simpa using h1
    · rw [List.getElem?_eq_none (by omega), List.getElem?_eq_none (by omega)]
  · rfl
theorem QInv.step {T V j n q : Nat} {xs xs' qs : List Nat} (h : QInv T V (j + 1) xs qs) (hj : j + n < 9) (hj8 : j < 8) (hV : V ≤ Bp n) (hV0 : 0 < V)
    (hlen : xs'.length = xs.length) (hok : Ok xs') (hsame : ∀ k, k < j ∨ j + n < k → xs'.getD k 0 = xs.getD k 0)
    (hq : q = val (seg xs j (n + 1)) / V) (hr : val (seg xs' j (n + 1)) = val (seg xs j (n + 1)) % V) :
    QInv T V j xs' (qs.set j q) := by
  obtain ⟨s1, s2, s3⟩ := h.part hj hV
  have hl := h.lx
  have hlq := h.lq
  have hqb : q < 18446744073709551616 := by
    rw [hq]; exact (Nat.div_lt_iff_lt_mul hV0).2 (by rw [Nat.mul_comm]; exact s1)
  have hdm := Nat.div_add_mod (val (seg xs j (n + 1))) V
  rw [← hq, ← hr] at hdm
  have hrl : val (seg xs' j (n + 1)) < V := by rw [hr]; exact Nat.mod_lt _ hV0
  have t1 := val_split3 xs' j (n + 1) (by omega)
  rw [getD_ext_take hlen (fun i hi => hsame i (.inl hi)), getD_ext_drop hlen (fun i hi => hsame i (.inr (by omega))), s3, Nat.mul_zero, Nat.add_zero] at t1
  have v1 := val_set (xs := qs) (k := j) (by omega) q
  rw [h.zero j (by omega), Nat.mul_zero, Nat.add_zero] at v1
  have hlow := val_seg_lt h.ox 0 j
  refine ⟨by omega, by simp [hlq], hok, h.oq.set _ hqb, ?_, fun k hk => ?_, ?_⟩
  · rw [v1, ← h.eq, t1, s2, ← hdm]
    grind
  · rw [getD_set_off (by omega)]; exact h.zero k (by omega)
  · rw [t1]
    have e : Bp j * (val (seg xs' j (n + 1)) + 1) ≤ Bp j * V := Nat.mul_le_mul_left _ hrl
    rw [Nat.mul_add, Nat.mul_one] at e
    rw [Nat.mul_comm V]
    omega
theorem QInv.done {T V : Nat} {xs qs : List Nat} (h : QInv T V 0 xs qs) (hV0 : 0 < V) : val qs = T / V ∧ val xs = T % V := by
  have h1 := h.lt
  rw [Bp_zero, Nat.mul_one] at h1
  have h2 := h.eq
  rw [← h2]
  constructor
  · rw [Nat.add_mul_div_left _ _ hV0, Nat.div_eq_of_lt h1, Nat.zero_add]
  · rw [Nat.add_mul_mod_self_left, Nat.mod_eq_of_lt h1]
end Go.Proofs.Ytkljpgdcmahenaa
