/-
  Numbers as lists of parts of 64 bits, the lowest first; division as on paper, a part at a time: plain arithmetic, no program.
-/
import Derived.Test.YtkljpgdcmahenaaBits
namespace Go.Proofs.Ytkljpgdcmahenaa
set_option linter.unusedSimpArgs false
set_option linter.unusedVariables false

def val : List Nat → Nat
  | [] => 0
  | x :: xs => x + 18446744073709551616 * val xs
def Bp (i : Nat) : Nat := 18446744073709551616 ^ i
theorem Bp_zero : Bp 0 = 1 := rfl
theorem Bp_succ (i : Nat) : Bp (i + 1) = 18446744073709551616 * Bp i := by unfold Bp; rw [Nat.pow_succ, Nat.mul_comm]
theorem Bp_add (i j : Nat) : Bp (i + j) = Bp i * Bp j := by unfold Bp; rw [Nat.pow_add]
theorem Bp_pos (i : Nat) : 0 < Bp i := Nat.pow_pos (by decide)
theorem val_append (xs ys : List Nat) : val (xs ++ ys) = val xs + Bp xs.length * val ys := by
  induction xs with
  | nil => simp [val, Bp]
  | cons x xs ih => simp only [List.cons_append, val, ih, List.length_cons, Bp_succ]; grind
/-- All parts are parts. -/
def Ok (xs : List Nat) : Prop := ∀ x, x ∈ xs → x < 18446744073709551616
theorem val_lt {xs : List Nat} (h : Ok xs) : val xs < Bp xs.length := by
  induction xs with
  | nil => simp [val, Bp]
  | cons x xs ih =>
    have h1 : x < 18446744073709551616 := h x (by simp)
    have h2 := ih fun y hy => h y (by simp [hy])
    rw [List.length_cons, Bp_succ]; unfold val; omega
theorem Ok.getD {xs : List Nat} (h : Ok xs) (i : Nat) : xs.getD i 0 < 18446744073709551616 := by
  rw [List.getD_eq_getElem?_getD]
  cases hi : xs[i]? with
  | none => simp
  | some x => simpa using h x (List.mem_of_getElem? hi)
theorem Ok.set {xs : List Nat} (h : Ok xs) (i : Nat) {x : Nat} (hx : x < 18446744073709551616) : Ok (xs.set i x) := fun y hy => by
  rcases List.mem_or_eq_of_mem_set hy with h1 | h1
  · exact h y h1
  · rw [h1]; exact hx
def seg (xs : List Nat) (o n : Nat) : List Nat := (xs.drop o).take n
theorem seg_zero (xs : List Nat) (o : Nat) : seg xs o 0 = [] := by simp [seg]
theorem seg_succ {xs : List Nat} {o n : Nat} (h : o + n < xs.length) : seg xs o (n + 1) = seg xs o n ++ [xs.getD (o + n) 0] := by
  unfold seg
  rw [List.take_add_one, List.getElem?_drop, List.getElem?_eq_getElem h, List.getD_eq_getElem?_getD, List.getElem?_eq_getElem h]; rfl
theorem seg_length {xs : List Nat} {o n : Nat} (h : o + n ≤ xs.length) : (seg xs o n).length = n := by simp [seg]; omega
theorem val_seg_succ {xs : List Nat} {o n : Nat} (h : o + n < xs.length) : val (seg xs o (n + 1)) = val (seg xs o n) + Bp n * xs.getD (o + n) 0 := by
  rw [seg_succ h, val_append, seg_length (by omega)]; simp [val]
theorem seg_set_out {xs : List Nat} {o n k x : Nat} (h : k < o ∨ o + n ≤ k) : seg (xs.set k x) o n = seg xs o n := by
  unfold seg
  apply List.ext_getElem?
  intro i
  simp only [List.getElem?_take, List.getElem?_drop]
  split
  · rw [List.getElem?_set_ne (by omega)]
  · rfl
theorem getD_set_eq {xs : List Nat} {k x : Nat} (h : k < xs.length) : (xs.set k x).getD k 0 = x := by
  rw [List.getD_eq_getElem?_getD, List.getElem?_set_self h]; rfl
theorem getD_set_off {xs : List Nat} {k i x : Nat} (h : k ≠ i) : (xs.set k x).getD i 0 = xs.getD i 0 := by
  rw [List.getD_eq_getElem?_getD, List.getElem?_set_ne h, List.getD_eq_getElem?_getD]
theorem val_seg_lt {xs : List Nat} (h : Ok xs) (o n : Nat) : val (seg xs o n) < Bp n := by
  have h1 := val_lt (xs := seg xs o n) fun y hy => h y (List.mem_of_mem_drop (List.mem_of_mem_take hy))
  refine Nat.lt_of_lt_of_le h1 ?_
  unfold Bp
  exact Nat.pow_le_pow_right (by decide) (by simp [seg]; omega)
theorem val_split (xs : List Nat) (o : Nat) (h : o ≤ xs.length) : val xs = val (seg xs 0 o) + Bp o * val (xs.drop o) := by
  have h1 := val_append (xs.take o) (xs.drop o)
  rw [List.take_append_drop, List.length_take, Nat.min_eq_left h] at h1
  simpa [seg] using h1
theorem val_split3 (xs : List Nat) (o n : Nat) (h : o + n ≤ xs.length) : val xs = val (seg xs 0 o) + Bp o * (val (seg xs o n) + Bp n * val (xs.drop (o + n))) := by
  rw [val_split xs o (by omega)]
  have h1 := val_append ((xs.drop o).take n) ((xs.drop o).drop n)
  rw [List.take_append_drop, List.length_take, List.length_drop, Nat.min_eq_left (by omega), List.drop_drop] at h1
  rw [h1]; rfl

/-- One part of q * v taken from u: the parts, and what goes on. -/
theorem take_step {S Y U P q y c br x low c' u' br' : Nat}
    (h : S + q * Y = U + (c + br) * P) (hl : low + 18446744073709551616 * c' = q * y + c) (hx : x + 18446744073709551616 * br' = u' + low + br) :
    (S + P * u') + q * (Y + P * y) = (U + P * x) + (c' + br') * (18446744073709551616 * P) := by grind
theorem take_last {S Y U P q c br x u' br' : Nat}
    (h : S + q * Y = U + (c + br) * P) (hx : x + 18446744073709551616 * br' = u' + c + br) :
    (S + P * u') + q * Y = (U + P * x) + br' * (18446744073709551616 * P) := by grind
/-- One part of v added to u. -/
theorem give_step {S Y U P y c x u' c' : Nat} (h : S + c * P = U + Y) (hx : u' + 18446744073709551616 * c' = x + y + c) :
    (S + P * u') + c' * (18446744073709551616 * P) = (U + P * x) + (Y + P * y) := by grind
theorem give_last {S Y U P c x u' c' : Nat} (h : S + c * P = U + Y) (hx : u' + 18446744073709551616 * c' = x + c) :
    (S + P * u') + c' * (18446744073709551616 * P) = (U + P * x) + Y := by grind
end Go.Proofs.Ytkljpgdcmahenaa
