/-
  Runs that leave the world as it is; what is behind a difference; mulAdd; memory that holds a list of numbers.
-/
import Derived.Test.YtdanlclhnehieaaW1
import Derived.Test.YtdanlclhnehieaaA1
import Derived.Shelf.Small.Bits
import Derived.Shelf.Strconv.Itoa0
import Derived.Shelf.Bits.Mul64
import Derived.Test.YtdanlclhnehieaaProg
namespace Go.Proofs.Ytdanlclhnehieaa
set_option linter.unusedSimpArgs false
set_option linter.unusedVariables false
open Go.RowKit

def sbL (x y b : Nat) : Nat := (x + 18446744073709551616 - y - b) % 18446744073709551616
def sbB (x y b : Nat) : Nat := if x < y + b then 1 else 0
theorem sb_eq {x y b : Nat} (hx : x < 18446744073709551616) (hy : y < 18446744073709551616) (hb : b ≤ 1) :
    x + 18446744073709551616 * sbB x y b = sbL x y b + y + b := by unfold sbL sbB; split <;> omega
theorem sbB_le (x y b : Nat) : sbB x y b ≤ 1 := by unfold sbB; split <;> omega
theorem sbL_lt (x y b : Nat) : sbL x y b < 18446744073709551616 := Nat.mod_lt _ (by decide)
theorem ext_sub64 (x y b : Nat) (hb : b ≤ 1) (w : World) :
    (callFunc 46 #[.int .u64 x, .int .u64 y, .int .u64 b]).run Try.prog w =
      .ok (.value (.tuple #[.int .u64 (sbL x y b : Nat), .int .u64 (sbB x y b : Nat)])) w := by
  rw [run_callFunc_extern Try.func46 (by kernel_rfl) (by kernel_rfl) (by kernel_rfl) (e := sub64Entry) (by kernel_rfl), run_sub64 x y b hb]
  rfl
def U64s (xs : List Nat) : Array Value := (xs.map fun (x : Nat) => Value.int .u64 (x : Int)).toArray
def putA (w : World) (b : Nat) (xs : List Nat) (t : TypeId) : World := { w with heap := w.heap.setIfInBounds b (.cells (U64s xs) t) }
def Arr (w : World) (b : Nat) (xs : List Nat) (t : TypeId) : Prop := w.heap[b]? = some (.cells (U64s xs) t)
theorem Arr.lt {w : World} {b : Nat} {xs : List Nat} {t : TypeId} (h : Arr w b xs t) : b < w.heap.size := (Array.getElem?_eq_some_iff.1 h).1
theorem Arr.cell {w : World} {b : Nat} {xs : List Nat} {t : TypeId} (h : Arr w b xs t) {i : Nat} (hi : i < xs.length) : w.cell? ⟨b, i, none⟩ = some (.int .u64 (xs.getD i 0 : Nat)) := by
  have h2 : w.heap[b]? = some (.cells (U64s xs) t) := h
  unfold World.cell?
  simp only [h2]
  simp [U64s, hi]
theorem Arr.frozen {w : World} {b : Nat} {xs : List Nat} {t : TypeId} (h : Arr w b xs t) (i : Nat) : w.frozen? ⟨b, i, none⟩ = false := by
  have h2 : w.heap[b]? = some (.cells (U64s xs) t) := h
  unfold World.frozen?
  simp only [h2]
  simp
theorem Arr.set {w : World} {b : Nat} {xs : List Nat} {t : TypeId} (h : Arr w b xs t) (i x : Nat) : w.setCell ⟨b, i, none⟩ (.int .u64 (x : Nat)) = putA w b (xs.set i x) t := by
  have h2 : w.heap[b]? = some (.cells (U64s xs) t) := h
  unfold World.setCell putA
  congr 1
  apply Array.ext_getElem?
  intro k
  rw [Array.getElem?_modify, Array.getElem?_setIfInBounds]
  by_cases hk : b = k
  · subst hk
    rw [if_pos rfl, if_pos rfl, if_pos h.lt, h2]
    simp [U64s, List.map_set]
  · rw [if_neg hk, if_neg hk]
end Go.Proofs.Ytdanlclhnehieaa

/-
  The two loops of the long division that take away and give back, walked.
-/
namespace Go.Proofs.Ytdanlclhnehieaa
set_option linter.unusedSimpArgs false
set_option linter.unusedVariables false
open Go.RowKit
theorem val_take_succ {ys : List Nat} {i : Nat} (h : i < ys.length) : val (seg ys 0 (i + 1)) = val (seg ys 0 i) + Bp i * ys.getD i 0 := by
  have := val_seg_succ (xs := ys) (o := 0) (n := i) (by omega)
  simpa using this
structure TkInv (xs ys : List Nat) (o n q i : Nat) (xs' : List Nat) (c br : Nat) : Prop where
  len : xs'.length = xs.length
  ok : Ok xs'
  same : ∀ k, k < o ∨ o + i ≤ k → xs'.getD k 0 = xs.getD k 0
  clt : c < 18446744073709551616
  brle : br ≤ 1
  eq : val (seg xs' o i) + q * val (seg ys 0 i) = val (seg xs o i) + (c + br) * Bp i
theorem TkInv.start {xs ys : List Nat} (o n q : Nat) (hx : Ok xs) : TkInv xs ys o n q 0 xs 0 0 :=
  ⟨rfl, hx, fun _ _ => rfl, by decide, by decide, by simp [seg, val]⟩
theorem TkInv.step {xs ys xs' : List Nat} {o n q i c br : Nat} (h : TkInv xs ys o n q i xs' c br) (hin : i < n) (ho : o + n < xs.length) (hy : n ≤ ys.length) (hys : Ok ys) (hxs : Ok xs) (hq : q < 18446744073709551616) :
    TkInv xs ys o n q (i + 1) (xs'.set (o + i) (sbL (xs.getD (o + i) 0) (lo (q * ys.getD i 0 + c)) br)) (hi (q * ys.getD i 0 + c)) (sbB (xs.getD (o + i) 0) (lo (q * ys.getD i 0 + c)) br) := by
  have hl := h.len
  have hyi := hys.getD i
  refine ⟨by simp [hl], h.ok.set _ (sbL_lt _ _ _), fun k hk => ?_, ?_, sbB_le _ _ _, ?_⟩
  · rw [getD_set_off (by omega)]; exact h.same k (by omega)
  · have : q * ys.getD i 0 ≤ 18446744073709551615 * 18446744073709551615 := Nat.mul_le_mul (by omega) (by omega)
    have hc := h.clt
    unfold hi; omega
  · rw [val_seg_succ (by simp [hl]; omega), val_take_succ (by omega), val_seg_succ (by omega), seg_set_out (by omega), getD_set_eq (by omega), Bp_succ]
    exact take_step h.eq (by unfold lo hi; omega) (sb_eq (hxs.getD _) (lo_lt _) h.brle)

structure DgPost (xs : List Nat) (o n : Nat) (xs' : List Nat) : Prop where
  len : xs'.length = xs.length
  ok : Ok xs'
  same : ∀ k, k < o ∨ o + n < k → xs'.getD k 0 = xs.getD k 0
theorem TkInv.last {xs ys xs' : List Nat} {o n q c br : Nat} (h : TkInv xs ys o n q n xs' c br) (ho : o + n < xs.length) (hxs : Ok xs) :
    DgPost xs o n (xs'.set (o + n) (sbL (xs.getD (o + n) 0) c br)) ∧
    val (seg (xs'.set (o + n) (sbL (xs.getD (o + n) 0) c br)) o (n + 1)) + q * val (seg ys 0 n) = val (seg xs o (n + 1)) + sbB (xs.getD (o + n) 0) c br * Bp (n + 1) := by
  have hl := h.len
  refine ⟨⟨by simp [hl], h.ok.set _ (sbL_lt _ _ _), fun k hk => ?_⟩, ?_⟩
  · rw [getD_set_off (by omega)]; exact h.same k (by omega)
  · rw [val_seg_succ (by simp [hl]; omega), val_seg_succ (by omega), seg_set_out (by omega), getD_set_eq (by omega), Bp_succ]
    exact take_last h.eq (sb_eq (hxs.getD _) h.clt h.brle)
structure GvInv (xs ys : List Nat) (o i : Nat) (xs' : List Nat) (c : Nat) : Prop where
  len : xs'.length = xs.length
  ok : Ok xs'
  same : ∀ k, k < o ∨ o + i ≤ k → xs'.getD k 0 = xs.getD k 0
  cle : c ≤ 1
  eq : val (seg xs' o i) + c * Bp i = val (seg xs o i) + val (seg ys 0 i)
theorem GvInv.start {xs ys : List Nat} (o : Nat) (hx : Ok xs) : GvInv xs ys o 0 xs 0 :=
  ⟨rfl, hx, fun _ _ => rfl, by decide, by simp [seg, val]⟩
theorem GvInv.step {xs ys xs' : List Nat} {o n i c : Nat} (h : GvInv xs ys o i xs' c) (hin : i < n) (ho : o + n < xs.length) (hy : n ≤ ys.length) (hys : Ok ys) (hxs : Ok xs) :
    GvInv xs ys o (i + 1) (xs'.set (o + i) (lo (xs.getD (o + i) 0 + ys.getD i 0 + c))) (hi (xs.getD (o + i) 0 + ys.getD i 0 + c)) := by
  have hl := h.len
  refine ⟨by simp [hl], h.ok.set _ (lo_lt _), fun k hk => ?_, hi_le (hxs.getD _) (hys.getD _) h.cle, ?_⟩
  · rw [getD_set_off (by omega)]; exact h.same k (by omega)
  · rw [val_seg_succ (by simp [hl]; omega), val_take_succ (by omega), val_seg_succ (by omega), seg_set_out (by omega), getD_set_eq (by omega), Bp_succ]
    exact give_step h.eq (by unfold lo hi; omega)
theorem GvInv.last {xs ys xs' : List Nat} {o n c : Nat} (h : GvInv xs ys o n xs' c) (ho : o + n < xs.length) (hxs : Ok xs) :
    DgPost xs o n (xs'.set (o + n) (lo (xs.getD (o + n) 0 + c))) ∧ hi (xs.getD (o + n) 0 + c) ≤ 1 ∧
    val (seg (xs'.set (o + n) (lo (xs.getD (o + n) 0 + c))) o (n + 1)) + hi (xs.getD (o + n) 0 + c) * Bp (n + 1) = val (seg xs o (n + 1)) + val (seg ys 0 n) := by
  have hl := h.len
  have hc := h.cle
  refine ⟨⟨by simp [hl], h.ok.set _ (lo_lt _), fun k hk => ?_⟩, ?_, ?_⟩
  · rw [getD_set_off (by omega)]; exact h.same k (by omega)
  · have := hxs.getD (o + n); unfold hi; omega
  · rw [val_seg_succ (by simp [hl]; omega), val_seg_succ (by omega), seg_set_out (by omega), getD_set_eq (by omega), Bp_succ]
    exact give_last h.eq (by unfold lo hi; omega)
end Go.Proofs.Ytdanlclhnehieaa
