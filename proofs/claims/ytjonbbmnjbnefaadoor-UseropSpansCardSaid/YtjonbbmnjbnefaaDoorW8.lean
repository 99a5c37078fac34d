/-
 The long division where the divisor has more than one part, or one; walked.
-/
import Derived.Test.YtjonbbmnjbnefaaDoorW5
import Derived.Test.YtjonbbmnjbnefaaDoorA1
set_option maxRecDepth 10000
set_option linter.unusedVariables false
set_option linter.unusedSimpArgs false
namespace Go.Proofs.YtjonbbmnjbnefaaDoor
open Go.RowKit
abbrev V4 (v : Nat) : List Nat := [lm v 0, lm v 1, lm v 2, lm v 3]
abbrev U8 (u : Nat) : List Nat := [lm u 0, lm u 1, lm u 2, lm u 3, lm u 4, lm u 5, lm u 6, lm u 7]
theorem arr_at (w : World) (c : Array Value) (t : TypeId) (b : Nat) {xs : List Nat} (hb : b = w.heap.size) (hc : c = U64s xs) : Arr (w.alloc (.cells c t)) b xs t := by
 subst hc; exact block_at _ _ _ hb
theorem arr_past {w : World} {b : Nat} {xs : List Nat} {t : TypeId} (h : Arr w b xs t) (o : Obj) : Arr (w.alloc o) b xs t := by
 unfold Arr; rw [block_past w o b h.lt]; exact h
theorem U64s_set (xs : List Nat) (i y : Nat) : (U64s xs).setIfInBounds i (.int .u64 (y : Int)) = U64s (xs.set i y) := by simp [U64s, List.map_set]
theorem U64s_get {xs : List Nat} {i : Nat} (h : i < xs.length) : (U64s xs)[i]? = some (.int .u64 (xs.getD i 0 : Nat)) := by simp [U64s, h]
attribute [local go_sem] U64s_set
theorem arrayAt4 (a : Option Addr) (c : Nat) (w : World) : (Instr.arrayAt 26 (.slice a 4 c)).run Tryd.prog w = .ok (.pointer a) w := by
 unfold Instr.arrayAt
 simp [Sem.run_bind, run_underlying Tryd.underlying26]
attribute [local go_sem] arrayAt4
end Go.Proofs.YtjonbbmnjbnefaaDoor

/-
 divide, walked, for every wide number and every word.
-/
namespace Go.Proofs.YtjonbbmnjbnefaaDoor
open Go.RowKit
theorem val_zeros {xs : List Nat} (h : ∀ i, xs.getD i 0 = 0) : val xs = 0 := by
 induction xs with
 | nil => rfl
 | cons x xs ih =>
  have h0 := h 0
  have h1 := ih fun i => by have := h (i + 1); simpa using this
  simp at h0
  simp [val, h0, h1]
theorem val_drop_zero {xs : List Nat} {n : Nat} (h : ∀ k, n ≤ k → xs.getD k 0 = 0) : val (xs.drop n) = 0 := by
 refine val_zeros fun i => ?_
 have h1 := h (n + i) (by omega)
 rw [List.getD_eq_getElem?_getD] at h1 ⊢
 rw [List.getElem?_drop]; exact h1
theorem topN_val {xs : List Nat} (hx : Ok xs) {n : Nat} (hn : topN xs xs.length = n) : val xs = val (seg xs 0 n) ∧ val xs < Bp n := by
 have hle := topN_le xs xs.length
 rw [hn] at hle
 have hz : ∀ k, n ≤ k → xs.getD k 0 = 0 := fun k hk => by
  by_cases hl : k < xs.length
  ·exact topN_zero xs xs.length k (by omega) hl
  ·rw [List.getD_eq_getElem?_getD, List.getElem?_eq_none (by omega)]; rfl
 have hs := val_split xs n hle
 rw [val_drop_zero hz, Nat.mul_zero, Nat.add_zero] at hs
 exact ⟨hs, by rw [hs]; exact val_seg_lt hx 0 n⟩
end Go.Proofs.YtjonbbmnjbnefaaDoor
