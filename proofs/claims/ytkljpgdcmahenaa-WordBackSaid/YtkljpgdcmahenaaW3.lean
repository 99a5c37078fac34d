/-
  Runs that leave the world as it is; what is behind a difference; mulAdd; memory that holds a list of numbers.
-/
import Derived.Test.YtkljpgdcmahenaaW2
import Derived.Test.YtkljpgdcmahenaaDiv
import Derived.Test.YtkljpgdcmahenaaShelf
namespace Go.Proofs.Ytkljpgdcmahenaa
set_option linter.unusedSimpArgs false
set_option linter.unusedVariables false
open Go.RowKit

theorem calls_same {P : Program} {f : FuncId} {args : Array Value} {w : World} {v : Value} {R : Ending → World → Prop}
    (h : Calls P f args w fun e w' => e = .returned v ∧ w' = w) (k : R (.returned v) w) : Calls P f args w R :=
  h.mono fun e w' ⟨he, hw⟩ => by subst he; subst hw; exact k
theorem quiet_same {P : Program} {f : FuncId} {args : Array Value} {w : World} {q : Gro} {v : Value}
    (h : Calls P f args (gw w q) fun e w' => e = .returned v ∧ w' = gw w q) :
    Calls P f args (gw w q) fun e w'' => e = .returned v ∧ ∃ p : Gro, w'' = gw w p :=
  h.mono fun _ _ ⟨he, hp⟩ => ⟨he, q, hp⟩

theorem quiet_same2 {P : Program} {f : FuncId} {args : Array Value} {w : World} {d : Nat} {a o : Array Obj} {v : Value}
    (h : Calls P f args (gw w ⟨d, a ++ o⟩) fun e w' => e = .returned v ∧ w' = gw w ⟨d, a ++ o⟩) :
    Calls P f args (gw w ⟨d, a ++ o⟩) fun e w'' => e = .returned v ∧ ∃ p : Gro, w'' = gw w ⟨p.d, a ++ p.os⟩ :=
  h.mono fun _ _ ⟨he, hp⟩ => ⟨he, ⟨d, o⟩, hp⟩
/-- What is left of a difference, and what is borrowed. -/
def sbL (x y b : Nat) : Nat := (x + 18446744073709551616 - y - b) % 18446744073709551616
def sbB (x y b : Nat) : Nat := if x < y + b then 1 else 0
theorem sb_eq {x y b : Nat} (hx : x < 18446744073709551616) (hy : y < 18446744073709551616) (hb : b ≤ 1) :
    x + 18446744073709551616 * sbB x y b = sbL x y b + y + b := by unfold sbL sbB; split <;> omega
theorem sbB_le (x y b : Nat) : sbB x y b ≤ 1 := by unfold sbB; split <;> omega
theorem sbL_lt (x y b : Nat) : sbL x y b < 18446744073709551616 := Nat.mod_lt _ (by decide)
theorem ext_sub64 (x y b : Nat) (hb : b ≤ 1) (w : World) :
    (callFunc 60 #[.int .u64 x, .int .u64 y, .int .u64 b]).run Try.prog w =
      .ok (.value (.tuple #[.int .u64 (sbL x y b : Nat), .int .u64 (sbB x y b : Nat)])) w := by
  rw [run_callFunc_extern Try.func60 (by kernel_rfl) (by kernel_rfl) (by kernel_rfl) (e := sub64Entry) (by kernel_rfl), run_sub64 x y b hb]
  rfl
theorem ext_add64_0 (x y : Nat) (w : World) :
    (callFunc 59 #[.int .u64 x, .int .u64 y, .int .u64 0]).run Try.prog w =
      .ok (.value (.tuple #[.int .u64 (lo (x + y) : Nat), .int .u64 (hi (x + y) : Nat)])) w := ext_add64 x y 0 (by omega) w

theorem mulAdd_sum {P p m : Nat} (hp : p < 18446744073709551616) (hm : m < 18446744073709551616) (h : P ≤ 18446744073709551615 * 18446744073709551615) :
    P / 18446744073709551616 + hi (P % 18446744073709551616 + p) ≤ 18446744073709551615 ∧
    lo (lo (P % 18446744073709551616 + p) + m) = lo (P + p + m) ∧
    P / 18446744073709551616 + hi (P % 18446744073709551616 + p) + hi (lo (P % 18446744073709551616 + p) + m) = hi (P + p + m) ∧ hi (P + p + m) ≤ 18446744073709551615 := by
  unfold hi lo; omega
attribute [local go_sem] ext_add64_0
set_option maxHeartbeats 1000000 in
theorem mulAdd_any (x y p m : Nat) (hx : x < 18446744073709551616) (hy : y < 18446744073709551616) (hp : p < 18446744073709551616) (hm : m < 18446744073709551616) (w : World) :
    Calls Try.prog 88 #[.int .u64 x, .int .u64 y, .int .u64 p, .int .u64 m] w fun e w' => e = .returned (.tuple #[.int .u64 (lo (x * y + p + m) : Nat), .int .u64 (hi (x * y + p + m) : Nat)]) ∧ w' = w := by
  have hP : x * y ≤ 18446744073709551615 * 18446744073709551615 := Nat.mul_le_mul (by omega) (by omega)
  have hmul := Try.bits_Mul64 x y hx hy
  generalize hz : x * y = P at *
  obtain ⟨h1, h2, h3, h4⟩ := mulAdd_sum hp hm hP
  have HM := Lib.hid hmul
  have H2 := Lib.hid h2
  rw [← h3] at h4
  have H3 := Lib.hid h3
  clear hmul h2 h3 hz hP
  generalize P % 18446744073709551616 = Pl at *
  generalize P / 18446744073709551616 = Ph at *
  go_enter Try.func88, Try.ntmps88
  go_wp2_with (go_at_call 92; (with_reducible refine calls_same (HM.out _) ?_))
  go_ret2
  exact ⟨by rw [← H2.out, ← H3.out]; simp [Int.natCast_add], rfl⟩

/-! ### An array of parts in memory -/
def U64s (xs : List Nat) : Array Value := (xs.map fun (x : Nat) => Value.int .u64 (x : Int)).toArray
def putA (w : World) (b : Nat) (xs : List Nat) (t : TypeId) : World := { w with heap := w.heap.setIfInBounds b (.cells (U64s xs) t) }
/-- Block b holds these parts. -/
def Arr (w : World) (b : Nat) (xs : List Nat) (t : TypeId) : Prop := w.heap[b]? = some (.cells (U64s xs) t)
theorem Arr.lt {w : World} {b : Nat} {xs : List Nat} {t : TypeId} (h : Arr w b xs t) : b < w.heap.size := (Array.getElem?_eq_some_iff.1 h).1
theorem Arr.cell {w : World} {b : Nat} {xs : List Nat} {t : TypeId} (h : Arr w b xs t) {i : Nat} (hi : i < xs.length) : w.cell? ⟨b, i, none⟩ = some (.int .u64 (xs.getD i 0 : Nat)) := by
  have h2 : w.heap[b]? = some (.cells (U64s xs) t) := h
  unfold World.cell?
  simp only [h2]
  simp [U64s, hi]
theorem Arr.frozen {w : World} {b : Nat} {xs : List Nat} {t : TypeId} (h : Arr w b xs t) (i : Nat) : w.frozen? ⟨b, i, none⟩ = false := by
  have h2 : w.heap[b]? = some (.cells (U64s xs) t) := h
  unfold World.frozen?
  simp only [h2]
  simp
theorem Arr.set {w : World} {b : Nat} {xs : List Nat} {t : TypeId} (h : Arr w b xs t) (i x : Nat) : w.setCell ⟨b, i, none⟩ (.int .u64 (x : Nat)) = putA w b (xs.set i x) t := by
  have h2 : w.heap[b]? = some (.cells (U64s xs) t) := h
  unfold World.setCell putA
  congr 1
  apply Array.ext_getElem?
  intro k
  rw [Array.getElem?_modify, Array.getElem?_setIfInBounds]
  by_cases hk : b = k
  · subst hk
    rw [if_pos rfl, if_pos rfl, if_pos h.lt, h2]
    simp [U64s, List.map_set]
  · rw [if_neg hk, if_neg hk]
theorem putA_putA (w : World) (b : Nat) (xs ys : List Nat) (t : TypeId) : putA (putA w b xs t) b ys t = putA w b ys t := by
  unfold putA; simp
theorem putA_self {w : World} {b : Nat} {xs : List Nat} {t : TypeId} (h : Arr w b xs t) : putA w b xs t = w := by
  have h2 : w.heap[b]? = some (.cells (U64s xs) t) := h
  unfold putA
  have e : w.heap.setIfInBounds b (.cells (U64s xs) t) = w.heap := by
    apply Array.ext_getElem?
    intro k
    rw [Array.getElem?_setIfInBounds]
    by_cases hk : b = k
    · subst hk; rw [if_pos rfl, if_pos h.lt, h2]
    · rw [if_neg hk]
  rw [e]
theorem putA_size (w : World) (b : Nat) (xs : List Nat) (t : TypeId) : (putA w b xs t).heap.size = w.heap.size := by unfold putA; simp
theorem putA_arr {w : World} {b : Nat} (hb : b < w.heap.size) (xs : List Nat) (t : TypeId) : Arr (putA w b xs t) b xs t := by
  unfold Arr putA; simp [hb]
theorem putA_other {w : World} {b c : Nat} (h : b ≠ c) (xs ys : List Nat) (t u : TypeId) (hc : Arr w c ys u) : Arr (putA w b xs t) c ys u := by
  unfold Arr putA at *; simp [h, hc]
theorem gw_arr {w : World} {b : Nat} {xs : List Nat} {t : TypeId} (h : Arr w b xs t) (p : Gro) : Arr (gw w p) b xs t := by
  unfold Arr; rw [gw_block w p h.lt]; exact h
end Go.Proofs.Ytkljpgdcmahenaa
