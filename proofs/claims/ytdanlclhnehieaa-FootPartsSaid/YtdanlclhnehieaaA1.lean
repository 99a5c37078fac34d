/-
  Numbers below 2^256 in four parts of 64 bits: plain arithmetic, no program.
-/
namespace Go.Proofs.Ytdanlclhnehieaa
set_option linter.unusedSimpArgs false
set_option linter.unusedVariables false

def K : Nat := 18446744073709551616
def W : Nat := 115792089237316195423570985008687907853269984665640564039457584007913129639936
def lo (n : Nat) : Nat := n % 18446744073709551616
def hi (n : Nat) : Nat := n / 18446744073709551616
def lm (a i : Nat) : Nat := a / 18446744073709551616 ^ i % 18446744073709551616
def num (x0 x1 x2 x3 : Nat) : Nat := x0 + 18446744073709551616 * x1 + 340282366920938463463374607431768211456 * x2 + 6277101735386680763835789423207666416102355444464034512896 * x3

theorem lm0 (a : Nat) : lm a 0 = a % 18446744073709551616 := by simp [lm]
theorem lm1 (a : Nat) : lm a 1 = a / 18446744073709551616 % 18446744073709551616 := by simp [lm]
theorem lm2 (a : Nat) : lm a 2 = a / 340282366920938463463374607431768211456 % 18446744073709551616 := by simp [lm]
theorem lm3 (a : Nat) : lm a 3 = a / 6277101735386680763835789423207666416102355444464034512896 % 18446744073709551616 := by simp [lm]
theorem lm_lt (a i : Nat) : lm a i < 18446744073709551616 := Nat.mod_lt _ (by decide)
theorem lo_lt (n : Nat) : lo n < 18446744073709551616 := Nat.mod_lt _ (by decide)

theorem num_lt {x0 x1 x2 x3 : Nat} (h0 : x0 < 18446744073709551616) (h1 : x1 < 18446744073709551616) (h2 : x2 < 18446744073709551616) (h3 : x3 < 18446744073709551616) :
    num x0 x1 x2 x3 < W := by unfold num W; omega
theorem lm0_num {x0 x1 x2 x3 : Nat} (h0 : x0 < 18446744073709551616) : lm (num x0 x1 x2 x3) 0 = x0 := by rw [lm0]; unfold num; omega
theorem lm1_num {x0 x1 x2 x3 : Nat} (h0 : x0 < 18446744073709551616) (h1 : x1 < 18446744073709551616) : lm (num x0 x1 x2 x3) 1 = x1 := by rw [lm1]; unfold num; omega
theorem lm2_num {x0 x1 x2 x3 : Nat} (h0 : x0 < 18446744073709551616) (h1 : x1 < 18446744073709551616) (h2 : x2 < 18446744073709551616) : lm (num x0 x1 x2 x3) 2 = x2 := by rw [lm2]; unfold num; omega
theorem lm3_num {x0 x1 x2 x3 : Nat} (h0 : x0 < 18446744073709551616) (h1 : x1 < 18446744073709551616) (h2 : x2 < 18446744073709551616) (h3 : x3 < 18446744073709551616) : lm (num x0 x1 x2 x3) 3 = x3 := by rw [lm3]; unfold num; omega
theorem num_lm {a : Nat} (h : a < W) : num (lm a 0) (lm a 1) (lm a 2) (lm a 3) = a := by
  rw [lm0, lm1, lm2, lm3]; unfold num; unfold W at h; omega
theorem eq_of_lm {a b : Nat} (ha : a < W) (hb : b < W) (h0 : lm a 0 = lm b 0) (h1 : lm a 1 = lm b 1) (h2 : lm a 2 = lm b 2) (h3 : lm a 3 = lm b 3) : a = b := by
  rw [← num_lm ha, ← num_lm hb, h0, h1, h2, h3]

theorem lm_mod (a i : Nat) (h : i < 4) : lm (a % W) i = lm a i := by
  have h4 : i = 0 ∨ i = 1 ∨ i = 2 ∨ i = 3 := by omega
  rcases h4 with rfl | rfl | rfl | rfl
  · rw [lm0, lm0]; unfold W; omega
  · rw [lm1, lm1]; unfold W; omega
  · rw [lm2, lm2]; unfold W; omega
  · rw [lm3, lm3]; unfold W; omega
theorem WV_ext {a b : Nat} (h : a % W = b % W) (i : Nat) (hi : i < 4) : lm a i = lm b i := by rw [← lm_mod a i hi, ← lm_mod b i hi, h]
theorem hi_le {x y c : Nat} (hx : x < 18446744073709551616) (hy : y < 18446744073709551616) (hc : c ≤ 1) : hi (x + y + c) ≤ 1 := by unfold hi; omega

def sh (a : Nat) : Nat := a / 18446744073709551616
end Go.Proofs.Ytdanlclhnehieaa

/-
  Parts of a shifted number, bit by bit: plain arithmetic, no program.
-/
namespace Go.Proofs.Ytdanlclhnehieaa
set_option linter.unusedSimpArgs false
set_option linter.unusedVariables false

def ones (k : Nat) : Nat := 2 ^ k - 1
end Go.Proofs.Ytdanlclhnehieaa

/-
  Numbers as lists of parts of 64 bits, the lowest first; division as on paper, a part at a time: plain arithmetic, no program.
-/
namespace Go.Proofs.Ytdanlclhnehieaa
set_option linter.unusedSimpArgs false
set_option linter.unusedVariables false

def val : List Nat → Nat
  | [] => 0
  | x :: xs => x + 18446744073709551616 * val xs
def Bp (i : Nat) : Nat := 18446744073709551616 ^ i
theorem Bp_zero : Bp 0 = 1 := rfl
theorem Bp_succ (i : Nat) : Bp (i + 1) = 18446744073709551616 * Bp i := by unfold Bp; rw [Nat.pow_succ, Nat.mul_comm]
theorem Bp_add (i j : Nat) : Bp (i + j) = Bp i * Bp j := by unfold Bp; rw [Nat.pow_add]
theorem val_append (xs ys : List Nat) : val (xs ++ ys) = val xs + Bp xs.length * val ys := by
  induction xs with
  | nil => simp [val, Bp]
  | cons x xs ih => simp only [List.cons_append, val, ih, List.length_cons, Bp_succ]; grind
def Ok (xs : List Nat) : Prop := ∀ x, x ∈ xs → x < 18446744073709551616
theorem val_lt {xs : List Nat} (h : Ok xs) : val xs < Bp xs.length := by
  induction xs with
  | nil => simp [val, Bp]
  | cons x xs ih =>
    have h1 : x < 18446744073709551616 := h x (by simp)
    have h2 := ih fun y hy => h y (by simp [hy])
    rw [List.length_cons, Bp_succ]; unfold val; omega
theorem Ok.getD {xs : List Nat} (h : Ok xs) (i : Nat) : xs.getD i 0 < 18446744073709551616 := by
  rw [List.getD_eq_getElem?_getD]
  cases hi : xs[i]? with
  | none => simp
  | some x => simpa using h x (List.mem_of_getElem? hi)
theorem Ok.set {xs : List Nat} (h : Ok xs) (i : Nat) {x : Nat} (hx : x < 18446744073709551616) : Ok (xs.set i x) := fun y hy => by
  rcases List.mem_or_eq_of_mem_set hy with h1 | h1
  · exact h y h1
  · rw [h1]; exact hx
def seg (xs : List Nat) (o n : Nat) : List Nat := (xs.drop o).take n
theorem seg_succ {xs : List Nat} {o n : Nat} (h : o + n < xs.length) : seg xs o (n + 1) = seg xs o n ++ [xs.getD (o + n) 0] := by
  unfold seg
  rw [List.take_add_one, List.getElem?_drop, List.getElem?_eq_getElem h, List.getD_eq_getElem?_getD, List.getElem?_eq_getElem h]; rfl
theorem seg_length {xs : List Nat} {o n : Nat} (h : o + n ≤ xs.length) : (seg xs o n).length = n := by simp [seg]; omega
theorem val_seg_succ {xs : List Nat} {o n : Nat} (h : o + n < xs.length) : val (seg xs o (n + 1)) = val (seg xs o n) + Bp n * xs.getD (o + n) 0 := by
  rw [seg_succ h, val_append, seg_length (by omega)]; simp [val]
theorem seg_set_out {xs : List Nat} {o n k x : Nat} (h : k < o ∨ o + n ≤ k) : seg (xs.set k x) o n = seg xs o n := by
  unfold seg
  apply List.ext_getElem?
  intro i
  simp only [List.getElem?_take, List.getElem?_drop]
  split
  · rw [List.getElem?_set_ne (by omega)]
  · rfl
theorem getD_set_eq {xs : List Nat} {k x : Nat} (h : k < xs.length) : (xs.set k x).getD k 0 = x := by
  rw [List.getD_eq_getElem?_getD, List.getElem?_set_self h]; rfl
theorem getD_set_off {xs : List Nat} {k i x : Nat} (h : k ≠ i) : (xs.set k x).getD i 0 = xs.getD i 0 := by
  rw [List.getD_eq_getElem?_getD, List.getElem?_set_ne h, List.getD_eq_getElem?_getD]
theorem val_seg_lt {xs : List Nat} (h : Ok xs) (o n : Nat) : val (seg xs o n) < Bp n := by
  have h1 := val_lt (xs := seg xs o n) fun y hy => h y (List.mem_of_mem_drop (List.mem_of_mem_take hy))
  refine Nat.lt_of_lt_of_le h1 ?_
  unfold Bp
  exact Nat.pow_le_pow_right (by decide) (by simp [seg]; omega)
theorem val_split (xs : List Nat) (o : Nat) (h : o ≤ xs.length) : val xs = val (seg xs 0 o) + Bp o * val (xs.drop o) := by
  have h1 := val_append (xs.take o) (xs.drop o)
  rw [List.take_append_drop, List.length_take, Nat.min_eq_left h] at h1
  simpa [seg] using h1
theorem val_split3 (xs : List Nat) (o n : Nat) (h : o + n ≤ xs.length) : val xs = val (seg xs 0 o) + Bp o * (val (seg xs o n) + Bp n * val (xs.drop (o + n))) := by
  rw [val_split xs o (by omega)]
  have h1 := val_append ((xs.drop o).take n) ((xs.drop o).drop n)
  rw [List.take_append_drop, List.length_take, List.length_drop, Nat.min_eq_left (by omega), List.drop_drop] at h1
  rw [h1]; rfl

theorem take_step {S Y U P q y c br x low c' u' br' : Nat}
    (h : S + q * Y = U + (c + br) * P) (hl : low + 18446744073709551616 * c' = q * y + c) (hx : x + 18446744073709551616 * br' = u' + low + br) :
    (S + P * u') + q * (Y + P * y) = (U + P * x) + (c' + br') * (18446744073709551616 * P) := by grind
theorem take_last {S Y U P q c br x u' br' : Nat}
    (h : S + q * Y = U + (c + br) * P) (hx : x + 18446744073709551616 * br' = u' + c + br) :
    (S + P * u') + q * Y = (U + P * x) + br' * (18446744073709551616 * P) := by grind
theorem give_step {S Y U P y c x u' c' : Nat} (h : S + c * P = U + Y) (hx : u' + 18446744073709551616 * c' = x + y + c) :
    (S + P * u') + c' * (18446744073709551616 * P) = (U + P * x) + (Y + P * y) := by grind
theorem give_last {S Y U P c x u' c' : Nat} (h : S + c * P = U + Y) (hx : u' + 18446744073709551616 * c' = x + c) :
    (S + P * u') + c' * (18446744073709551616 * P) = (U + P * x) + Y := by grind
end Go.Proofs.Ytdanlclhnehieaa

/-
  A long division, a part of the quotient at a time: plain arithmetic, no program.
-/
namespace Go.Proofs.Ytdanlclhnehieaa
set_option linter.unusedSimpArgs false
set_option linter.unusedVariables false

theorem val_set {xs : List Nat} {k : Nat} (h : k < xs.length) (v : Nat) : val (xs.set k v) + Bp k * xs.getD k 0 = val xs + Bp k * v := by
  induction xs generalizing k with
  | nil => exact absurd h (Nat.not_lt_zero _)
  | cons x xs ih =>
    cases k with
    | zero => simp [val, Bp_zero]; omega
    | succ k =>
      have h1 := ih (k := k) (by simpa using h)
      simp only [List.set_cons_succ, List.getD_cons_succ, val, Bp_succ]
      grind
theorem mod_succ (u i : Nat) : u % Bp (i + 1) = u % Bp i + Bp i * lm u i := by
  rw [Bp_succ, Nat.mul_comm, Nat.mod_mul]; rfl
structure LInv (u up i : Nat) (xs : List Nat) : Prop where
  len : xs.length = 9
  ok : Ok xs
  eq : val xs = (u % Bp i) * 2 ^ up
  zero : ∀ k, i < k → xs.getD k 0 = 0
  lt : xs.getD i 0 < 2 ^ up
theorem LInv.start (u up : Nat) : LInv u up 0 [0, 0, 0, 0, 0, 0, 0, 0, 0] :=
  ⟨rfl, fun x hx => by simp at hx; subst hx; decide, by simp [val, Bp_zero, Nat.mod_one], fun k _ => by
    rw [List.getD_eq_getElem?_getD]
    cases h : ([0, 0, 0, 0, 0, 0, 0, 0, 0] : List Nat)[k]? with
    | none => rfl
    | some x => have := List.mem_of_getElem? h; simp at this; simpa using this, by simpa using Nat.pow_pos (by decide)⟩
theorem shl_parts {x up : Nat} (hup : up < 64) : x * 2 ^ up % 18446744073709551616 = 2 ^ up * (x % 2 ^ (64 - up)) ∧
    x * 2 ^ up % 18446744073709551616 + 18446744073709551616 * (x / 2 ^ (64 - up)) = x * 2 ^ up := by
  have e : (18446744073709551616 : Nat) = 2 ^ up * 2 ^ (64 - up) := by
    rw [← Nat.pow_add, show up + (64 - up) = 64 by omega]
  have h1 : x * 2 ^ up % 18446744073709551616 = 2 ^ up * (x % 2 ^ (64 - up)) := by
    rw [e, Nat.mul_comm x, Nat.mul_mod_mul_left]
  refine ⟨h1, ?_⟩
  rw [h1, e, Nat.mul_assoc, ← Nat.mul_add, Nat.mod_add_div, Nat.mul_comm]
theorem or_parts {a x up : Nat} (hup : up < 64) (ha : a < 2 ^ up) : a ||| (x * 2 ^ up % 18446744073709551616) = a + x * 2 ^ up % 18446744073709551616 := by
  rw [(shl_parts hup).1, Nat.or_comm, ← Nat.two_pow_add_eq_or_of_lt ha, Nat.add_comm]
theorem LInv.step {u up i : Nat} {xs : List Nat} (h : LInv u up i xs) (hi : i < 8) (hup : up < 64) :
    LInv u up (i + 1) ((xs.set i (xs.getD i 0 ||| (lm u i * 2 ^ up % 18446744073709551616))).set (i + 1) (lm u i / 2 ^ (64 - up))) := by
  have hl := h.len
  have hx := lm_lt u i
  obtain ⟨p1, p2⟩ := shl_parts (x := lm u i) hup
  have hor := or_parts (x := lm u i) hup h.lt
  have hz : lm u i / 2 ^ (64 - up) < 2 ^ up := by
    refine (Nat.div_lt_iff_lt_mul (Nat.pow_pos (by decide))).2 ?_
    rw [← Nat.pow_add, show up + (64 - up) = 64 by omega]
    exact hx
  have hzb : lm u i / 2 ^ (64 - up) < 18446744073709551616 := Nat.lt_of_le_of_lt (Nat.div_le_self _ _) hx
  have hyb : xs.getD i 0 ||| (lm u i * 2 ^ up % 18446744073709551616) < 18446744073709551616 := Nat.or_lt_two_pow (n := 64) (h.ok.getD i) (Nat.mod_lt _ (by decide))
  have v1 := val_set (xs := xs) (k := i) (by omega) (xs.getD i 0 ||| (lm u i * 2 ^ up % 18446744073709551616))
  have v2 := val_set (xs := xs.set i (xs.getD i 0 ||| (lm u i * 2 ^ up % 18446744073709551616))) (k := i + 1) (by simp; omega) (lm u i / 2 ^ (64 - up))
  rw [getD_set_off (by omega), h.zero (i + 1) (by omega), Nat.mul_zero, Nat.add_zero] at v2
  refine ⟨by simp [hl], (h.ok.set _ hyb).set _ hzb, ?_, fun k hk => ?_, ?_⟩
  · rw [v2, mod_succ, Nat.add_mul, ← h.eq, Bp_succ]
    rw [hor, Nat.mul_add] at v1
    have e : Bp i * lm u i * 2 ^ up = Bp i * (lm u i * 2 ^ up % 18446744073709551616) + 18446744073709551616 * Bp i * (lm u i / 2 ^ (64 - up)) := by
      rw [Nat.mul_assoc, ← p2, Nat.mul_add]
      grind
    rw [e, hor]
    omega
  · rw [getD_set_off (by omega), getD_set_off (by omega)]; exact h.zero k (by omega)
  · rw [getD_set_eq (by simp; omega)]; exact hz

structure QInv (T V c : Nat) (xs qs : List Nat) : Prop where
  lx : xs.length = 9
  lq : qs.length = 8
  ox : Ok xs
  oq : Ok qs
  eq : val xs + V * val qs = T
  zero : ∀ k, k < c → qs.getD k 0 = 0
  lt : val xs < V * Bp c
theorem QInv.part {T V j n : Nat} {xs qs : List Nat} (h : QInv T V (j + 1) xs qs) (hj : j + n < 9) (hV : V ≤ Bp n) :
    val (seg xs j (n + 1)) < V * 18446744073709551616 ∧ val xs = val (seg xs 0 j) + Bp j * val (seg xs j (n + 1)) ∧ val (xs.drop (j + (n + 1))) = 0 := by
  have hl := h.lx
  have hs := val_split3 xs j (n + 1) (by omega)
  have hlt := h.lt
  have hz : val (xs.drop (j + (n + 1))) = 0 := by
    apply Nat.eq_zero_of_not_pos
    intro hp
    have h0 : V * Bp (j + 1) ≤ Bp n * Bp (j + 1) := Nat.mul_le_mul_right _ hV
    have h1 : V * Bp (j + 1) ≤ Bp j * Bp (n + 1) := by
      rw [← Bp_add n, show n + (j + 1) = j + (n + 1) by omega] at h0; rw [← Bp_add]; exact h0
    have h2 : Bp j * (Bp (n + 1) * 1) ≤ Bp j * (Bp (n + 1) * val (xs.drop (j + (n + 1)))) := Nat.mul_le_mul_left _ (Nat.mul_le_mul_left _ hp)
    have hs' : val xs = val (seg xs 0 j) + (Bp j * val (seg xs j (n + 1)) + Bp j * (Bp (n + 1) * val (xs.drop (j + (n + 1))))) := by rw [hs, Nat.mul_add]
    rw [Nat.mul_one] at h2
    have h5 : Bp j * (Bp (n + 1) * val (xs.drop (j + (n + 1)))) ≤ val xs := by rw [hs']; exact Nat.le_trans (Nat.le_add_left _ _) (Nat.le_add_left _ _)
    exact Nat.lt_irrefl _ (Nat.lt_of_lt_of_le hlt (Nat.le_trans h1 (Nat.le_trans h2 h5)))
  rw [hz, Nat.mul_zero, Nat.add_zero] at hs
  refine ⟨?_, hs, hz⟩
  have h3 : Bp j * val (seg xs j (n + 1)) < Bp j * (V * 18446744073709551616) := by
    have e : V * Bp (j + 1) = Bp j * (V * 18446744073709551616) := by rw [Bp_succ]; grind
    omega
  exact Nat.lt_of_mul_lt_mul_left h3
theorem getD_ext_drop {xs ys : List Nat} {k : Nat} (hl : xs.length = ys.length) (h : ∀ i, k ≤ i → xs.getD i 0 = ys.getD i 0) : xs.drop k = ys.drop k := by
  apply List.ext_getElem?
  intro i
  rw [List.getElem?_drop, List.getElem?_drop]
  have h1 := h (k + i) (by omega)
  by_cases hi : k + i < xs.length
  · rw [List.getElem?_eq_getElem hi, List.getElem?_eq_getElem (by omega)]
    rw [List.getD_eq_getElem?_getD, List.getD_eq_getElem?_getD, List.getElem?_eq_getElem hi, List.getElem?_eq_getElem (by omega)] at h1
    simpa using h1
  · rw [List.getElem?_eq_none (by omega), List.getElem?_eq_none (by omega)]
theorem getD_ext_take {xs ys : List Nat} {k : Nat} (hl : xs.length = ys.length) (h : ∀ i, i < k → xs.getD i 0 = ys.getD i 0) : seg xs 0 k = seg ys 0 k := by
  unfold seg
  apply List.ext_getElem?
  intro i
  simp only [List.drop_zero, List.getElem?_take]
  split
  · rename_i hik
    have h1 := h i hik
    by_cases hi : i < xs.length
    · rw [List.getElem?_eq_getElem hi, List.getElem?_eq_getElem (by omega)]
      rw [List.getD_eq_getElem?_getD, List.getD_eq_getElem?_getD, List.getElem?_eq_getElem hi, List.getElem?_eq_getElem (by omega)] at h1
      simpa using h1
    · rw [List.getElem?_eq_none (by omega), List.getElem?_eq_none (by omega)]
  · rfl
theorem QInv.step {T V j n q : Nat} {xs xs' qs : List Nat} (h : QInv T V (j + 1) xs qs) (hj : j + n < 9) (hj8 : j < 8) (hV : V ≤ Bp n) (hV0 : 0 < V)
    (hlen : xs'.length = xs.length) (hok : Ok xs') (hsame : ∀ k, k < j ∨ j + n < k → xs'.getD k 0 = xs.getD k 0)
    (hq : q = val (seg xs j (n + 1)) / V) (hr : val (seg xs' j (n + 1)) = val (seg xs j (n + 1)) % V) :
    QInv T V j xs' (qs.set j q) := by
  obtain ⟨s1, s2, s3⟩ := h.part hj hV
  have hl := h.lx
  have hlq := h.lq
  have hqb : q < 18446744073709551616 := by
    rw [hq]; exact (Nat.div_lt_iff_lt_mul hV0).2 (by rw [Nat.mul_comm]; exact s1)
  have hdm := Nat.div_add_mod (val (seg xs j (n + 1))) V
  rw [← hq, ← hr] at hdm
  have hrl : val (seg xs' j (n + 1)) < V := by rw [hr]; exact Nat.mod_lt _ hV0
  have t1 := val_split3 xs' j (n + 1) (by omega)
  rw [getD_ext_take hlen (fun i hi => hsame i (.inl hi)), getD_ext_drop hlen (fun i hi => hsame i (.inr (by omega))), s3, Nat.mul_zero, Nat.add_zero] at t1
  have v1 := val_set (xs := qs) (k := j) (by omega) q
  rw [h.zero j (by omega), Nat.mul_zero, Nat.add_zero] at v1
  have hlow := val_seg_lt h.ox 0 j
  refine ⟨by omega, by simp [hlq], hok, h.oq.set _ hqb, ?_, fun k hk => ?_, ?_⟩
  · rw [v1, ← h.eq, t1, s2, ← hdm]
    grind
  · rw [getD_set_off (by omega)]; exact h.zero k (by omega)
  · rw [t1]
    have e : Bp j * (val (seg xs' j (n + 1)) + 1) ≤ Bp j * V := Nat.mul_le_mul_left _ hrl
    rw [Nat.mul_add, Nat.mul_one] at e
    rw [Nat.mul_comm V]
    omega
theorem QInv.done {T V : Nat} {xs qs : List Nat} (h : QInv T V 0 xs qs) (hV0 : 0 < V) : val qs = T / V ∧ val xs = T % V := by
  have h1 := h.lt
  rw [Bp_zero, Nat.mul_one] at h1
  have h2 := h.eq
  rw [← h2]
  constructor
  · rw [Nat.add_mul_div_left _ _ hV0, Nat.div_eq_of_lt h1, Nat.zero_add]
  · rw [Nat.add_mul_mod_self_left, Nat.mod_eq_of_lt h1]
def allB (l : List Int) : Prop := ∀ x ∈ l, 0 ≤ x ∧ x ≤ 255
end Go.Proofs.Ytdanlclhnehieaa
