/-
  A number of two parts divided by one part, walked, where the upper part is below the divisor.
-/
import Derived.Test.YtbdigomddnpllaaW3
import Derived.Deep.DeepCutAuto
import Derived.Deep.CutBlock
namespace Go.Proofs.Ytbdigomddnpllaa
set_option linter.unusedSimpArgs false
set_option linter.unusedVariables false
open Go.RowKit

theorem bitLenAux_spec : ∀ (f x : Nat), x < 2 ^ f → x < 2 ^ Lib.bitLenAux f x ∧ (x ≠ 0 → 2 ^ (Lib.bitLenAux f x - 1) ≤ x)
  | 0, x, h => by simp at h; subst h; simp [Lib.bitLenAux]
  | f + 1, x, h => by
    simp only [Lib.bitLenAux]
    split
    · rename_i h0; subst h0; simp
    · rename_i h0
      obtain ⟨h1, h2⟩ := bitLenAux_spec f (x / 2) (by rw [Nat.pow_succ] at h; omega)
      refine ⟨by rw [Nat.add_comm, Nat.pow_succ]; omega, fun _ => ?_⟩
      by_cases hx : x / 2 = 0
      · have hz : Lib.bitLenAux f (x / 2) = 0 := by
          rw [hx]; cases f with
          | zero => rfl
          | succ f => simp [Lib.bitLenAux]
        rw [hz]; simp; omega
      · have h3 := h2 hx
        have h4 : 1 ≤ Lib.bitLenAux f (x / 2) := by
          rcases Nat.eq_zero_or_pos (Lib.bitLenAux f (x / 2)) with h5 | h5
          · rw [h5] at h1; simp at h1; omega
          · exact h5
        have e : 1 + Lib.bitLenAux f (x / 2) - 1 = (Lib.bitLenAux f (x / 2) - 1) + 1 := by omega
        rw [e, Nat.pow_succ]; omega
theorem bitLen_spec {y : Nat} (hy : y < 18446744073709551616) : y < 2 ^ Lib.bitLen y ∧ (y ≠ 0 → 2 ^ (Lib.bitLen y - 1) ≤ y) := bitLenAux_spec 64 y hy
theorem bitLen_top {y : Nat} (h : 9223372036854775808 ≤ y) (hy : y < 18446744073709551616) : Lib.bitLen y = 64 := by
  have h1 := bitLen_spec hy
  have h2 := Lib.bitLen_le y 64 (by omega) hy
  have h3 : ¬ Lib.bitLen y ≤ 63 := fun h4 => by
    have h5 : 2 ^ Lib.bitLen y ≤ 2 ^ 63 := Nat.pow_le_pow_right (by decide) h4
    have := h1.1
    omega
  omega

/-! ### Two digits by one -/
/-- What holds of a guess q at a digit, and of what it leaves. -/
structure Gs (u y1 y0 u1 q r : Nat) : Prop where
  ge : (u * 4294967296 + u1) / (y1 * 4294967296 + y0) ≤ q
  le : q ≤ 4294967297
  eq : r + q * y1 = u
  rlt : r < 4294967296
theorem Gs.stop {u y1 y0 u1 q r : Nat} (h : Gs u y1 y0 u1 q r) (_h1 : 0 < y1) (hq : q * y0 ≤ 4294967296 * r + u1) :
    q = (u * 4294967296 + u1) / (y1 * 4294967296 + y0) := by
  refine Nat.le_antisymm ((Nat.le_div_iff_mul_le (by omega)).2 ?_) h.ge
  have e : q * (y1 * 4294967296 + y0) = (q * y1) * 4294967296 + q * y0 := by rw [Nat.mul_add, Nat.mul_assoc]
  have := h.eq
  omega
theorem Gs.more {u y1 y0 u1 q r : Nat} (h : Gs u y1 y0 u1 q r) (_h1 : 0 < y1) (hu : u < y1 * 4294967296 + y0) (h11 : u1 < 4294967296)
    (hq : 4294967296 ≤ q ∨ 4294967296 * r + u1 < q * y0) :
    (u * 4294967296 + u1) / (y1 * 4294967296 + y0) < q := by
  refine (Nat.div_lt_iff_lt_mul (by omega)).2 ?_
  have e : q * (y1 * 4294967296 + y0) = (q * y1) * 4294967296 + q * y0 := by rw [Nat.mul_add, Nat.mul_assoc]
  have h2 := h.eq
  rcases hq with hq | hq
  · have h3 : 4294967296 * (y1 * 4294967296 + y0) ≤ q * (y1 * 4294967296 + y0) := Nat.mul_le_mul_right _ hq
    omega
  · omega
theorem Gs.next {u y1 y0 u1 q r : Nat} (h : Gs u y1 y0 u1 q r) (hq : (u * 4294967296 + u1) / (y1 * 4294967296 + y0) < q) (hr : r + y1 < 4294967296) :
    Gs u y1 y0 u1 (q - 1) (r + y1) := by
  have h2 := h.eq
  have h3 := h.le
  have hq0 : 0 < q := Nat.lt_of_le_of_lt (Nat.zero_le _) hq
  obtain ⟨p, rfl⟩ : ∃ p, q = p + 1 := ⟨q - 1, by clear hq; omega⟩
  exact ⟨Nat.le_of_lt_succ hq, by clear hq; omega, by clear hq; rw [Nat.add_mul] at h2; simp; omega, hr⟩
theorem Gs.brk {u y1 y0 u1 q r : Nat} (h : Gs u y1 y0 u1 q r) (_h1 : 0 < y1) (h0 : y0 < 4294967296) (hq : (u * 4294967296 + u1) / (y1 * 4294967296 + y0) < q) (hr : 4294967296 ≤ r + y1) :
    q - 1 = (u * 4294967296 + u1) / (y1 * 4294967296 + y0) := by
  refine Nat.le_antisymm ((Nat.le_div_iff_mul_le (by omega)).2 ?_) (Nat.le_sub_one_of_lt hq)
  have h2 := h.eq
  have h3 := h.le
  have hq0 : 0 < q := Nat.lt_of_le_of_lt (Nat.zero_le _) hq
  obtain ⟨p, rfl⟩ : ∃ p, q = p + 1 := ⟨q - 1, by clear hq; omega⟩
  clear hq
  have e : p * (y1 * 4294967296 + y0) = (p * y1) * 4294967296 + p * y0 := by rw [Nat.mul_add, Nat.mul_assoc]
  have e2 : p * y0 ≤ 4294967296 * 4294967295 := Nat.mul_le_mul (by omega) (by omega)
  rw [Nat.add_mul] at h2
  simp only [Nat.add_sub_cancel]
  omega
theorem Gs.start {u y1 y0 u1 : Nat} (h1 : 2147483648 ≤ y1) (h1b : y1 < 4294967296) (h0 : y0 < 4294967296) (hu : u < y1 * 4294967296 + y0) (h11 : u1 < 4294967296) : Gs u y1 y0 u1 (u / y1) (u % y1) := by
  have e := Nat.div_add_mod u y1
  have hm := Nat.mod_lt u (by omega : 0 < y1)
  refine ⟨?_, ?_, by rw [Nat.mul_comm]; omega, by omega⟩
  · refine (Nat.le_div_iff_mul_le (by omega)).2 ?_
    have h2 := Nat.div_mul_le_self (u * 4294967296 + u1) (y1 * 4294967296 + y0)
    generalize (u * 4294967296 + u1) / (y1 * 4294967296 + y0) = q at *
    rw [Nat.mul_add, ← Nat.mul_assoc] at h2
    omega
  · refine Nat.lt_succ_iff.1 ((Nat.div_lt_iff_lt_mul (by omega)).2 ?_)
    omega
theorem rest_arith {y q u h l1 : Nat} (hN : y * q + u = h * 4294967296 + l1) (hu : u < y) (hy : y < 18446744073709551616) : ∃ z1 z2 z3 : Nat,
    IntKind.u64.wrap ((h : Int) * 4294967296) = (z1 : Int) ∧ IntKind.u64.wrap ((z1 : Int) + (l1 : Int)) = (z2 : Int) ∧
    IntKind.u64.wrap ((q : Int) * (y : Int)) = (z3 : Int) ∧ IntKind.u64.wrap ((z2 : Int) - (z3 : Int)) = (u : Int) := by
  refine ⟨h * 4294967296 % 18446744073709551616, (h * 4294967296 + l1) % 18446744073709551616, y * q % 18446744073709551616, ?_, ?_, ?_, ?_⟩
  · rw [IntKind.wrap_u64]; omega
  · rw [IntKind.wrap_u64]; omega
  · rw [IntKind.wrap_u64, Int.mul_comm, ← Int.natCast_mul]; omega
  · rw [IntKind.wrap_u64]; omega
theorem and32 (z : Nat) (h : z < 18446744073709551616) : bits .and .u64 (z : Int) 4294967295 = ((z % 4294967296 : Nat) : Int) := by
  have h1 := bits_and_u64_nat z 4294967295 h (by omega)
  rw [show z &&& 4294967295 = z % 4294967296 from Nat.and_two_pow_sub_one_eq_mod z 32] at h1
  exact h1
end Go.Proofs.Ytbdigomddnpllaa

/-
  One digit of the long division, and the length of a list of parts, walked.
-/
namespace Go.Proofs.Ytbdigomddnpllaa
set_option linter.unusedSimpArgs false
set_option linter.unusedVariables false
open Go.RowKit

/-- What holds of a digit q, of what it leaves, and of whether that fell below 0. -/
structure DInv (xs ys : List Nat) (o n q : Nat) (b : Bool) (xs' : List Nat) : Prop where
  dg : DgPost xs o n xs'
  qlt : q < 18446744073709551616
  ge : val (seg xs o (n + 1)) / val (seg ys 0 n) ≤ q
  eq : val (seg xs' o (n + 1)) + q * val (seg ys 0 n) = val (seg xs o (n + 1)) + b.toNat * Bp (n + 1)
theorem DInv.neg {xs ys xs' : List Nat} {o n q : Nat} (h : DInv xs ys o n q true xs') (hV : 0 < val (seg ys 0 n)) :
    val (seg xs o (n + 1)) / val (seg ys 0 n) < q := by
  refine (Nat.div_lt_iff_lt_mul hV).2 ?_
  have h1 := h.eq
  have h2 := val_seg_lt h.dg.ok o (n + 1)
  simp at h1
  omega
theorem DInv.next {xs ys xs' xs'' : List Nat} {o n q : Nat} {b : Bool} (h : DInv xs ys o n q true xs') (hV : 0 < val (seg ys 0 n))
    (hg : DgPost xs' o n xs'') (he : val (seg xs'' o (n + 1)) + b.toNat * Bp (n + 1) = val (seg xs' o (n + 1)) + val (seg ys 0 n)) :
    DInv xs ys o n (q - 1) (!b) xs'' := by
  have h1 := h.neg hV
  have h2 : 0 < q := Nat.lt_of_le_of_lt (Nat.zero_le _) h1
  have h3 := h.eq
  have h4 := h.qlt
  refine ⟨⟨hg.len.trans h.dg.len, hg.ok, fun k hk => (hg.same k hk).trans (h.dg.same k hk)⟩, by clear h1; omega, Nat.le_sub_one_of_lt h1, ?_⟩
  obtain ⟨p, rfl⟩ : ∃ p, q = p + 1 := ⟨q - 1, by clear h1; omega⟩
  rw [Nat.add_mul] at h3
  cases b <;> simp at he h3 ⊢ <;> omega
theorem DInv.done {xs ys xs' : List Nat} {o n q : Nat} (h : DInv xs ys o n q false xs') (hV : 0 < val (seg ys 0 n)) :
    q = val (seg xs o (n + 1)) / val (seg ys 0 n) ∧ val (seg xs' o (n + 1)) = val (seg xs o (n + 1)) % val (seg ys 0 n) := by
  have h1 := h.eq
  simp at h1
  have h2 : q = val (seg xs o (n + 1)) / val (seg ys 0 n) := Nat.le_antisymm ((Nat.le_div_iff_mul_le hV).2 (by omega)) h.ge
  have h3 := Nat.div_add_mod (val (seg xs o (n + 1))) (val (seg ys 0 n))
  refine ⟨h2, ?_⟩
  rw [← h2, Nat.mul_comm] at h3
  omega
/-- The first guess is not too small. -/
theorem guess_ge {U V a v P rest vr : Nat} (hU : U = rest + P * a) (hr : rest < P) (hV : V = vr + P * v) (hv : 0 < v) (hP : 0 < P) : U / V ≤ a / v := by
  refine (Nat.le_div_iff_mul_le hv).2 ?_
  have h1 := Nat.div_mul_le_self U V
  have hVp : 0 < V := by rw [hV]; have := Nat.mul_pos hP hv; omega
  generalize U / V = q at *
  subst hU hV
  refine Nat.lt_succ_iff.1 (Nat.lt_of_mul_lt_mul_left (a := P) ?_)
  have e : q * (vr + P * v) = q * vr + P * (q * v) := by grind
  have e2 : P * (a + 1) = P * a + P := by grind
  rw [Nat.succ_eq_add_one, e2]
  omega
def DPost (w : World) (xs ys : List Nat) (bu o n : Nat) (tu : TypeId) (e : Ending) (w' : World) : Prop :=
  ∃ xs' : List Nat, ∃ p : Gro, e = .returned (.int .u64 (val (seg xs o (n + 1)) / val (seg ys 0 n) : Nat)) ∧ w' = gw (putA w bu xs' tu) p ∧ DgPost xs o n xs' ∧
    val (seg xs' o (n + 1)) = val (seg xs o (n + 1)) % val (seg ys 0 n)
/-- The guess at a digit. -/
theorem guess_spec {xs ys : List Nat} {o m : Nat} (hxs : Ok xs) (_hys : Ok ys) (ho : o + (m + 1) < xs.length) (hn : m + 1 ≤ ys.length) (htop : 0 < ys.getD m 0) :
    0 < val (seg ys 0 (m + 1)) ∧ val (seg xs o (m + 1 + 1)) / val (seg ys 0 (m + 1)) ≤ (xs.getD (o + (m + 1)) 0 * 18446744073709551616 + xs.getD (o + m) 0) / ys.getD m 0 := by
  have hV : val (seg ys 0 (m + 1)) = val (seg ys 0 m) + Bp m * ys.getD m 0 := val_take_succ (by omega)
  have hU : val (seg xs o (m + 1 + 1)) = val (seg xs o m) + Bp m * (xs.getD (o + (m + 1)) 0 * 18446744073709551616 + xs.getD (o + m) 0) := by
    rw [val_seg_succ (by omega), val_seg_succ (by omega), Bp_succ]; grind
  exact ⟨by rw [hV]; have := Nat.mul_pos (Bp_pos m) htop; omega, guess_ge hU (val_seg_lt hxs _ _) hV htop (Bp_pos m)⟩
/-- How many parts a number has without the noughts at its top. -/
def topN (xs : List Nat) : Nat → Nat
  | 0 => 0
  | n + 1 => if xs.getD n 0 = 0 then topN xs n else n + 1
theorem topN_le (xs : List Nat) : ∀ n, topN xs n ≤ n
  | 0 => Nat.le_refl _
  | n + 1 => by unfold topN; split
                · exact Nat.le_succ_of_le (topN_le xs n)
                · exact Nat.le_refl _
theorem topN_zero (xs : List Nat) : ∀ n k, topN xs n ≤ k → k < n → xs.getD k 0 = 0
  | 0, _, _, h => absurd h (Nat.not_lt_zero _)
  | n + 1, k, h, hk => by
    unfold topN at h
    split at h
    · rename_i h0
      by_cases hkn : k = n
      · rw [hkn]; exact h0
      · exact topN_zero xs n k h (by omega)
    · omega
theorem topN_top (xs : List Nat) : ∀ n, 0 < topN xs n → xs.getD (topN xs n - 1) 0 ≠ 0
  | 0, h => absurd h (Nat.lt_irrefl _)
  | n + 1, h => by
    unfold topN at h ⊢
    split
    · rename_i h0; rw [if_pos h0] at h; exact topN_top xs n h
    · rename_i h0; exact h0
end Go.Proofs.Ytbdigomddnpllaa

/-
  A word made wide, walked.
-/
namespace Go.Proofs.Ytbdigomddnpllaa
set_option linter.unusedSimpArgs false
set_option linter.unusedVariables false
open Go.RowKit
/-- A wide number. -/
abbrev WX (u : Nat) : Value := .agg #[.int .u64 (lm u 0 : Nat), .int .u64 (lm u 1 : Nat), .int .u64 (lm u 2 : Nat), .int .u64 (lm u 3 : Nat), .int .u64 (lm u 4 : Nat), .int .u64 (lm u 5 : Nat), .int .u64 (lm u 6 : Nat), .int .u64 (lm u 7 : Nat)]
theorem lm_high {a : Nat} (h : a < W) (i : Nat) (hi : 4 ≤ i) : lm a i = 0 := by
  unfold lm
  rw [Nat.div_eq_of_lt, Nat.zero_mod]
  refine Nat.lt_of_lt_of_le h ?_
  rw [show W = 18446744073709551616 ^ 4 from rfl]
  exact Nat.pow_le_pow_right (by decide) hi
theorem gw_setRow (w : World) (p : Gro) {b : Nat} (cs : Array Value) (h : b < w.heap.size) : (gw w p).setRow b cs = gw (w.setRow b cs) p := by
  simp only [gw, World.setRow]
  congr 1
  apply Array.ext_getElem?
  intro k
  simp only [Array.getElem?_modify, Array.getElem?_append, Array.size_modify]
  by_cases hk : b = k
  · subst hk; simp [h]
  · simp [hk]
theorem setRow_at (w : World) (c cs : Array Value) (t : TypeId) (n : Nat) (h : n = w.heap.size) : (w.alloc (.cells c t)).setRow n cs = w.alloc (.cells cs t) := by
  subst h
  simp only [World.alloc, World.setRow]
  congr 1
  apply Array.ext_getElem?
  intro k
  simp only [Array.getElem?_modify, Array.getElem?_push]
  by_cases hk : w.heap.size = k
  · subst hk; simp
  · simp [hk, Ne.symm hk]
theorem setRow_past (w : World) (o : Obj) (cs : Array Value) (n : Nat) (h : n < w.heap.size) : (w.alloc o).setRow n cs = (w.setRow n cs).alloc o := by
  simp only [World.alloc, World.setRow]
  congr 1
  apply Array.ext_getElem?
  intro k
  simp only [Array.getElem?_modify, Array.getElem?_push, Array.size_modify]
  by_cases hk : n = k
  · subst hk
    rw [if_pos rfl, if_neg (by omega), if_neg (by omega), if_pos rfl]
  · simp [hk]
theorem block_past (w : World) (o : Obj) (n : Nat) (h : n < w.heap.size) : (w.alloc o).heap[n]? = w.heap[n]? := Below.heap_alloc w o n h
theorem block_at (w : World) (o : Obj) (n : Nat) (h : n = w.heap.size) : (w.alloc o).heap[n]? = some o := by subst h; show (w.heap.push o)[w.heap.size]? = some o; simp
end Go.Proofs.Ytbdigomddnpllaa
