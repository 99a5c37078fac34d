/-
  A number of two parts divided by one part, walked, where the upper part is below the divisor.
-/
import Derived.Test.YtdanlclhnehieaaW3
import Derived.Deep.DeepCutAuto
import Derived.Deep.CutBlock
namespace Go.Proofs.Ytdanlclhnehieaa
set_option linter.unusedSimpArgs false
set_option linter.unusedVariables false
open Go.RowKit

structure Gs (u y1 y0 u1 q r : Nat) : Prop where
  ge : (u * 4294967296 + u1) / (y1 * 4294967296 + y0) ≤ q
  le : q ≤ 4294967297
  eq : r + q * y1 = u
  rlt : r < 4294967296
theorem Gs.stop {u y1 y0 u1 q r : Nat} (h : Gs u y1 y0 u1 q r) (_h1 : 0 < y1) (hq : q * y0 ≤ 4294967296 * r + u1) :
    q = (u * 4294967296 + u1) / (y1 * 4294967296 + y0) := by
  refine Nat.le_antisymm ((Nat.le_div_iff_mul_le (by omega)).2 ?_) h.ge
  have e : q * (y1 * 4294967296 + y0) = (q * y1) * 4294967296 + q * y0 := by rw [Nat.mul_add, Nat.mul_assoc]
  have := h.eq
  omega
theorem Gs.more {u y1 y0 u1 q r : Nat} (h : Gs u y1 y0 u1 q r) (_h1 : 0 < y1) (hu : u < y1 * 4294967296 + y0) (h11 : u1 < 4294967296)
    (hq : 4294967296 ≤ q ∨ 4294967296 * r + u1 < q * y0) :
    (u * 4294967296 + u1) / (y1 * 4294967296 + y0) < q := by
  refine (Nat.div_lt_iff_lt_mul (by omega)).2 ?_
  have e : q * (y1 * 4294967296 + y0) = (q * y1) * 4294967296 + q * y0 := by rw [Nat.mul_add, Nat.mul_assoc]
  have h2 := h.eq
  rcases hq with hq | hq
  · have h3 : 4294967296 * (y1 * 4294967296 + y0) ≤ q * (y1 * 4294967296 + y0) := Nat.mul_le_mul_right _ hq
    omega
  · omega
theorem Gs.next {u y1 y0 u1 q r : Nat} (h : Gs u y1 y0 u1 q r) (hq : (u * 4294967296 + u1) / (y1 * 4294967296 + y0) < q) (hr : r + y1 < 4294967296) :
    Gs u y1 y0 u1 (q - 1) (r + y1) := by
  have h2 := h.eq
  have h3 := h.le
  have hq0 : 0 < q := Nat.lt_of_le_of_lt (Nat.zero_le _) hq
  obtain ⟨p, rfl⟩ : ∃ p, q = p + 1 := ⟨q - 1, by clear hq; omega⟩
  exact ⟨Nat.le_of_lt_succ hq, by clear hq; omega, by clear hq; rw [Nat.add_mul] at h2; simp; omega, hr⟩
theorem Gs.start {u y1 y0 u1 : Nat} (h1 : 2147483648 ≤ y1) (h1b : y1 < 4294967296) (h0 : y0 < 4294967296) (hu : u < y1 * 4294967296 + y0) (h11 : u1 < 4294967296) : Gs u y1 y0 u1 (u / y1) (u % y1) := by
  have e := Nat.div_add_mod u y1
  have hm := Nat.mod_lt u (by omega : 0 < y1)
  refine ⟨?_, ?_, by rw [Nat.mul_comm]; omega, by omega⟩
  · refine (Nat.le_div_iff_mul_le (by omega)).2 ?_
    have h2 := Nat.div_mul_le_self (u * 4294967296 + u1) (y1 * 4294967296 + y0)
    generalize (u * 4294967296 + u1) / (y1 * 4294967296 + y0) = q at *
    rw [Nat.mul_add, ← Nat.mul_assoc] at h2
    omega
  · refine Nat.lt_succ_iff.1 ((Nat.div_lt_iff_lt_mul (by omega)).2 ?_)
    omega
end Go.Proofs.Ytdanlclhnehieaa

/-
  One digit of the long division, and the length of a list of parts, walked.
-/
namespace Go.Proofs.Ytdanlclhnehieaa
set_option linter.unusedSimpArgs false
set_option linter.unusedVariables false
open Go.RowKit

structure DInv (xs ys : List Nat) (o n q : Nat) (b : Bool) (xs' : List Nat) : Prop where
  dg : DgPost xs o n xs'
  qlt : q < 18446744073709551616
  ge : val (seg xs o (n + 1)) / val (seg ys 0 n) ≤ q
  eq : val (seg xs' o (n + 1)) + q * val (seg ys 0 n) = val (seg xs o (n + 1)) + b.toNat * Bp (n + 1)
theorem DInv.neg {xs ys xs' : List Nat} {o n q : Nat} (h : DInv xs ys o n q true xs') (hV : 0 < val (seg ys 0 n)) :
    val (seg xs o (n + 1)) / val (seg ys 0 n) < q := by
  refine (Nat.div_lt_iff_lt_mul hV).2 ?_
  have h1 := h.eq
  have h2 := val_seg_lt h.dg.ok o (n + 1)
  simp at h1
  omega
theorem DInv.next {xs ys xs' xs'' : List Nat} {o n q : Nat} {b : Bool} (h : DInv xs ys o n q true xs') (hV : 0 < val (seg ys 0 n))
    (hg : DgPost xs' o n xs'') (he : val (seg xs'' o (n + 1)) + b.toNat * Bp (n + 1) = val (seg xs' o (n + 1)) + val (seg ys 0 n)) :
    DInv xs ys o n (q - 1) (!b) xs'' := by
  have h1 := h.neg hV
  have h2 : 0 < q := Nat.lt_of_le_of_lt (Nat.zero_le _) h1
  have h3 := h.eq
  have h4 := h.qlt
  refine ⟨⟨hg.len.trans h.dg.len, hg.ok, fun k hk => (hg.same k hk).trans (h.dg.same k hk)⟩, by clear h1; omega, Nat.le_sub_one_of_lt h1, ?_⟩
  obtain ⟨p, rfl⟩ : ∃ p, q = p + 1 := ⟨q - 1, by clear h1; omega⟩
  rw [Nat.add_mul] at h3
  cases b <;> simp at he h3 ⊢ <;> omega
theorem DInv.done {xs ys xs' : List Nat} {o n q : Nat} (h : DInv xs ys o n q false xs') (hV : 0 < val (seg ys 0 n)) :
    q = val (seg xs o (n + 1)) / val (seg ys 0 n) ∧ val (seg xs' o (n + 1)) = val (seg xs o (n + 1)) % val (seg ys 0 n) := by
  have h1 := h.eq
  simp at h1
  have h2 : q = val (seg xs o (n + 1)) / val (seg ys 0 n) := Nat.le_antisymm ((Nat.le_div_iff_mul_le hV).2 (by omega)) h.ge
  have h3 := Nat.div_add_mod (val (seg xs o (n + 1))) (val (seg ys 0 n))
  refine ⟨h2, ?_⟩
  rw [← h2, Nat.mul_comm] at h3
  omega
end Go.Proofs.Ytdanlclhnehieaa

/-
  A word made wide, walked.
-/
namespace Go.Proofs.Ytdanlclhnehieaa
set_option linter.unusedSimpArgs false
set_option linter.unusedVariables false
open Go.RowKit
end Go.Proofs.Ytdanlclhnehieaa
