/-
 The long division where the divisor has more than one part, or one; walked.
-/
import Derived.Test.YthdpgfdfgidokaaDoorW3
import Derived.Deep.DeepCutAuto
import Derived.Deep.CutBlock
import Derived.Test.YthdpgfdfgidokaaDoorA1
set_option maxRecDepth 10000
set_option linter.unusedVariables false
set_option linter.unusedSimpArgs false
namespace Go.Proofs.YthdpgfdfgidokaaDoor
open Go.RowKit

structure Gs (u y1 y0 u1 q r : Nat) : Prop where
 ge : (u * 4294967296 + u1) / (y1 * 4294967296 + y0) ≤ q
 le : q ≤ 4294967297
 eq : r + q * y1 = u
 rlt : r < 4294967296
theorem Gs.more {u y1 y0 u1 q r : Nat} (h : Gs u y1 y0 u1 q r) (_h1 : 0 < y1) (hu : u < y1 * 4294967296 + y0) (h11 : u1 < 4294967296)
  (hq : 4294967296 ≤ q ∨ 4294967296 * r + u1 < q * y0) :
  (u * 4294967296 + u1) / (y1 * 4294967296 + y0) < q := by
 refine (Nat.div_lt_iff_lt_mul (by omega)).2 ?_
 have e : q * (y1 * 4294967296 + y0) = (q * y1) * 4294967296 + q * y0 := by rw [Nat.mul_add, Nat.mul_assoc]
 have h2 := h.eq
 rcases hq with hq | hq
 ·have h3 : 4294967296 * (y1 * 4294967296 + y0) ≤ q * (y1 * 4294967296 + y0) := Nat.mul_le_mul_right _ hq
  omega
 ·omega
theorem Gs.next {u y1 y0 u1 q r : Nat} (h : Gs u y1 y0 u1 q r) (hq : (u * 4294967296 + u1) / (y1 * 4294967296 + y0) < q) (hr : r + y1 < 4294967296) :
  Gs u y1 y0 u1 (q - 1) (r + y1) := by
 have h2 := h.eq
 have h3 := h.le
 have hq0 : 0 < q := Nat.lt_of_le_of_lt (Nat.zero_le _) hq
 obtain ⟨p, rfl⟩ : ∃ p, q = p + 1 := ⟨q - 1, by clear hq; omega⟩
 exact ⟨Nat.le_of_lt_succ hq, by clear hq; omega, by clear hq; rw [Nat.add_mul] at h2; simp; omega, hr⟩
theorem Gs.start {u y1 y0 u1 : Nat} (h1 : 2147483648 ≤ y1) (h1b : y1 < 4294967296) (h0 : y0 < 4294967296) (hu : u < y1 * 4294967296 + y0) (h11 : u1 < 4294967296) : Gs u y1 y0 u1 (u / y1) (u % y1) := by
 have e := Nat.div_add_mod u y1
 have hm := Nat.mod_lt u (by omega : 0 < y1)
 refine ⟨?_, ?_, by rw [Nat.mul_comm]; omega, by omega⟩
 ·refine (Nat.le_div_iff_mul_le (by omega)).2 ?_
  have h2 := Nat.div_mul_le_self (u * 4294967296 + u1) (y1 * 4294967296 + y0)
  generalize (u * 4294967296 + u1) / (y1 * 4294967296 + y0) = q at *
  rw [Nat.mul_add, ← Nat.mul_assoc] at h2
  omega
 ·refine Nat.lt_succ_iff.1 ((Nat.div_lt_iff_lt_mul (by omega)).2 ?_)
  omega
end Go.Proofs.YthdpgfdfgidokaaDoor

/-
 One digit of the long division, and the length of a list of parts, walked.
-/
namespace Go.Proofs.YthdpgfdfgidokaaDoor
open Go.RowKit

structure DInv (xs ys : List Nat) (o n q : Nat) (b : Bool) (xs' : List Nat) : Prop where
 dg : DgPost xs o n xs'
 qlt : q < 18446744073709551616
 ge : val (seg xs o (n + 1)) / val (seg ys 0 n) ≤ q
 eq : val (seg xs' o (n + 1)) + q * val (seg ys 0 n) = val (seg xs o (n + 1)) + b.toNat * Bp (n + 1)
theorem DInv.neg {xs ys xs' : List Nat} {o n q : Nat} (h : DInv xs ys o n q true xs') (hV : 0 < val (seg ys 0 n)) :
  val (seg xs o (n + 1)) / val (seg ys 0 n) < q := by
 refine (Nat.div_lt_iff_lt_mul hV).2 ?_
 have h1 := h.eq
 have h2 := val_seg_lt h.dg.ok o (n + 1)
 simp at h1
 omega
theorem DInv.next {xs ys xs' xs'' : List Nat} {o n q : Nat} {b : Bool} (h : DInv xs ys o n q true xs') (hV : 0 < val (seg ys 0 n))
  (hg : DgPost xs' o n xs'') (he : val (seg xs'' o (n + 1)) + b.toNat * Bp (n + 1) = val (seg xs' o (n + 1)) + val (seg ys 0 n)) :
  DInv xs ys o n (q - 1) (!b) xs'' := by
 have h1 := h.neg hV
 have h2 : 0 < q := Nat.lt_of_le_of_lt (Nat.zero_le _) h1
 have h3 := h.eq
 have h4 := h.qlt
 refine ⟨⟨hg.len.trans h.dg.len, hg.ok, fun k hk => (hg.same k hk).trans (h.dg.same k hk)⟩, by clear h1; omega, Nat.le_sub_one_of_lt h1, ?_⟩
 obtain ⟨p, rfl⟩ : ∃ p, q = p + 1 := ⟨q - 1, by clear h1; omega⟩
 rw [Nat.add_mul] at h3
 cases b <;> simp at he h3 ⊢ <;> omega
theorem DInv.done {xs ys xs' : List Nat} {o n q : Nat} (h : DInv xs ys o n q false xs') (hV : 0 < val (seg ys 0 n)) :
  q = val (seg xs o (n + 1)) / val (seg ys 0 n) ∧ val (seg xs' o (n + 1)) = val (seg xs o (n + 1)) % val (seg ys 0 n) := by
 have h1 := h.eq
 simp at h1
 have h2 : q = val (seg xs o (n + 1)) / val (seg ys 0 n) := Nat.le_antisymm ((Nat.le_div_iff_mul_le hV).2 (by omega)) h.ge
 have h3 := Nat.div_add_mod (val (seg xs o (n + 1))) (val (seg ys 0 n))
 refine ⟨h2, ?_⟩
 rw [← h2, Nat.mul_comm] at h3
 omega
def topN (xs : List Nat) : Nat → Nat
 | 0 => 0
 | n + 1 => if xs.getD n 0 = 0 then topN xs n else n + 1
theorem topN_le (xs : List Nat) : ∀ n, topN xs n ≤ n
  | 0 => Nat.le_refl _
  | n + 1 => by unfold topN; split
                · exact Nat.le_succ_of_le (topN_le xs n)
                · exact Nat.le_refl _
theorem topN_zero (xs : List Nat) : ∀ n k, topN xs n ≤ k → k < n → xs.getD k 0 = 0
 | 0, _, _, h => absurd h (Nat.not_lt_zero _)
 | n + 1, k, h, hk => by
  unfold topN at h
  split at h
  ·rename_i h0
   by_cases hkn : k = n
   ·rw [hkn]; exact h0
   ·exact topN_zero xs n k h (by omega)
  ·omega
theorem topN_top (xs : List Nat) : ∀ n, 0 < topN xs n → xs.getD (topN xs n - 1) 0 ≠ 0
 | 0, h => absurd h (Nat.lt_irrefl _)
 | n + 1, h => by
  unfold topN at h ⊢
  split
  ·rename_i h0; rw [if_pos h0] at h; exact topN_top xs n h
  ·rename_i h0; exact h0
set_option maxHeartbeats 1000000 in
theorem length_any (xs : List Nat) (b c : Nat) (t : TypeId) (w : World) (hA : Arr w b xs t) (hl : xs.length ≤ 100) :
  Calls Tryd.prog 93 #[SlV b 0 xs.length c] w (Ret w (.int .i64 (topN xs xs.length : Nat))) := by
 generalize hn : xs.length = n
 rw [hn] at hl
 have HN := Lib.hid hn
 clear hn
 go_enter Tryd.func93, Tryd.ntmps93
 go_wp2
 go_loop [3] (fun i => ∃ k : Nat, k ≤ n ∧ i = .int .i64 k ∧ topN xs n = topN xs k) (fun i => (intOf i).toNat)
 case atStart => exact ⟨n, Nat.le_refl _, rfl, rfl⟩
 case round =>
  obtain ⟨k, hk, rfl, ht⟩ := hrel
  have HT := Lib.hid ht
  clear ht
  cases k with
  | zero =>
   go_wp2
   rw [HT.out]
   exact bodyPost_ret (v := .int .i64 0) (by simp [results, Tryd.results93, go_sem]) rfl (Ret.of' rfl (by (repeat (first | with_reducible exact Below.refl _ _ | refine below_gw ?_ (by first | exact Nat.le_refl _ | ((repeat (first | rw [World.size_alloc] | rw [World.size_setCell] | rw [World.size_drew] | rw [gw_size])); first | done | omega)) _ | refine Below.alloc ?_ (by first | exact Nat.le_refl _ | ((repeat (first | rw [World.size_alloc] | rw [World.size_setCell] | rw [World.size_drew] | rw [gw_size])); first | done | omega)) _ | refine Below.setCell ?_ (by first | exact Nat.le_refl _ | ((repeat (first | rw [World.size_alloc] | rw [World.size_setCell] | rw [World.size_drew] | rw [gw_size])); first | done | omega)) _ | refine Below.drew ?_))))
  | succ j =>
   have c1 := hA.cell (i := j) (by rw [HN.out]; omega)
   have i1 : (0 : Int) < ((j : Nat) : Int) + 1 := by omega
   by_cases h0 : xs.getD j 0 = 0
   ·have HS := Lib.hid (show topN xs (j + 1) = topN xs j by unfold topN; rw [if_pos h0]; cases j <;> rfl)
    rw [h0] at c1
    clear h0
    go_wp2
    go_round
    case rel => exact ⟨j, by omega, by go_num, HT.out.trans HS.out⟩
    case measure => simp [intOf]
   ·have HS := Lib.hid (show topN xs (j + 1) = j + 1 by unfold topN; rw [if_neg h0])
    generalize xs.getD j 0 = x at *
    have hx : ((x : Int) == 0) = false := by rw [beq_eq_false_iff_ne]; omega
    clear h0
    go_wp2
    rw [HT.out, HS.out]
    exact bodyPost_ret (v := .int .i64 ((j : Nat) + 1)) (by simp [results, Tryd.results93, go_sem]) rfl (Ret.of' rfl (by (repeat (first | with_reducible exact Below.refl _ _ | refine below_gw ?_ (by first | exact Nat.le_refl _ | ((repeat (first | rw [World.size_alloc] | rw [World.size_setCell] | rw [World.size_drew] | rw [gw_size])); first | done | omega)) _ | refine Below.alloc ?_ (by first | exact Nat.le_refl _ | ((repeat (first | rw [World.size_alloc] | rw [World.size_setCell] | rw [World.size_drew] | rw [gw_size])); first | done | omega)) _ | refine Below.setCell ?_ (by first | exact Nat.le_refl _ | ((repeat (first | rw [World.size_alloc] | rw [World.size_setCell] | rw [World.size_drew] | rw [gw_size])); first | done | omega)) _ | refine Below.drew ?_))))
end Go.Proofs.YthdpgfdfgidokaaDoor

/-
 A word made wide, walked.
-/
namespace Go.Proofs.YthdpgfdfgidokaaDoor
open Go.RowKit
abbrev WX (u : Nat) : Value := .agg #[.int .u64 (lm u 0 : Nat), .int .u64 (lm u 1 : Nat), .int .u64 (lm u 2 : Nat), .int .u64 (lm u 3 : Nat), .int .u64 (lm u 4 : Nat), .int .u64 (lm u 5 : Nat), .int .u64 (lm u 6 : Nat), .int .u64 (lm u 7 : Nat)]
theorem block_past (w : World) (o : Obj) (n : Nat) (h : n < w.heap.size) : (w.alloc o).heap[n]? = w.heap[n]? := Below.heap_alloc w o n h
theorem block_at (w : World) (o : Obj) (n : Nat) (h : n = w.heap.size) : (w.alloc o).heap[n]? = some o := by subst h; show (w.heap.push o)[w.heap.size]? = some o; simp
end Go.Proofs.YthdpgfdfgidokaaDoor
namespace Go.Proofs.YthdpgfdfgidokaaDoor
open Go.RowKit
abbrev V4 (v : Nat) : List Nat := [lm v 0, lm v 1, lm v 2, lm v 3]
abbrev U8 (u : Nat) : List Nat := [lm u 0, lm u 1, lm u 2, lm u 3, lm u 4, lm u 5, lm u 6, lm u 7]
theorem arr_at (w : World) (c : Array Value) (t : TypeId) (b : Nat) {xs : List Nat} (hb : b = w.heap.size) (hc : c = U64s xs) : Arr (w.alloc (.cells c t)) b xs t := by
 subst hc; exact block_at _ _ _ hb
theorem arr_past {w : World} {b : Nat} {xs : List Nat} {t : TypeId} (h : Arr w b xs t) (o : Obj) : Arr (w.alloc o) b xs t := by
 unfold Arr; rw [block_past w o b h.lt]; exact h
theorem U64s_set (xs : List Nat) (i y : Nat) : (U64s xs).setIfInBounds i (.int .u64 (y : Int)) = U64s (xs.set i y) := by simp [U64s, List.map_set]
theorem U64s_get {xs : List Nat} {i : Nat} (h : i < xs.length) : (U64s xs)[i]? = some (.int .u64 (xs.getD i 0 : Nat)) := by simp [U64s, h]
attribute [local go_sem] U64s_set
theorem arrayAt4 (a : Option Addr) (c : Nat) (w : World) : (Instr.arrayAt 26 (.slice a 4 c)).run Tryd.prog w = .ok (.pointer a) w := by
 unfold Instr.arrayAt
 simp [Sem.run_bind, run_underlying Tryd.underlying26]
attribute [local go_sem] arrayAt4
end Go.Proofs.YthdpgfdfgidokaaDoor

/-
 divide, walked, for every wide number and every word.
-/
namespace Go.Proofs.YthdpgfdfgidokaaDoor
open Go.RowKit
theorem val_zeros {xs : List Nat} (h : ∀ i, xs.getD i 0 = 0) : val xs = 0 := by
 induction xs with
 | nil => rfl
 | cons x xs ih =>
  have h0 := h 0
  have h1 := ih fun i => by have := h (i + 1); simpa using this
  simp at h0
  simp [val, h0, h1]
theorem val_drop_zero {xs : List Nat} {n : Nat} (h : ∀ k, n ≤ k → xs.getD k 0 = 0) : val (xs.drop n) = 0 := by
 refine val_zeros fun i => ?_
 have h1 := h (n + i) (by omega)
 rw [List.getD_eq_getElem?_getD] at h1 ⊢
 rw [List.getElem?_drop]; exact h1
theorem topN_val {xs : List Nat} (hx : Ok xs) {n : Nat} (hn : topN xs xs.length = n) : val xs = val (seg xs 0 n) ∧ val xs < Bp n := by
 have hle := topN_le xs xs.length
 rw [hn] at hle
 have hz : ∀ k, n ≤ k → xs.getD k 0 = 0 := fun k hk => by
  by_cases hl : k < xs.length
  ·exact topN_zero xs xs.length k (by omega) hl
  ·rw [List.getD_eq_getElem?_getD, List.getElem?_eq_none (by omega)]; rfl
 have hs := val_split xs n hle
 rw [val_drop_zero hz, Nat.mul_zero, Nat.add_zero] at hs
 exact ⟨hs, by rw [hs]; exact val_seg_lt hx 0 n⟩
end Go.Proofs.YthdpgfdfgidokaaDoor
