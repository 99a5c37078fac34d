/-
  Hexadecimal notation: plain arithmetic on lists of bytes, no program.
-/
import Derived.Test.YtcmgndhkdnjmnaaDoorBS
import Derived.Laws.Bits64b
namespace Go.Proofs.YtcmgndhkdnjmnaaDoor
set_option linter.unusedSimpArgs false
set_option linter.unusedVariables false
set_option maxRecDepth 10000
open Go.RowKit
/-- The digits. -/
def sgn : List Int := [48, 49, 50, 51, 52, 53, 54, 55, 56, 57, 97, 98, 99, 100, 101, 102]
def dgs (x : Int) : List Int := [sgn.getD (x / 16).toNat 0, sgn.getD (x % 16).toNat 0]
/-- Bytes as digits, behind 0x. -/
def wrH (xs : List Int) : List Int := 48 :: 120 :: xs.flatMap dgs
theorem sgn_all : allB sgn := by unfold allB sgn; decide
theorem sgn_get (n : Nat) : 0 ≤ sgn.getD n 0 ∧ sgn.getD n 0 ≤ 255 := by
  by_cases h : n < 16
  · have : ∀ k, k < 16 → 0 ≤ sgn.getD k 0 ∧ sgn.getD k 0 ≤ 255 := by decide
    exact this n h
  · have : sgn.getD n 0 = 0 := by rw [List.getD_eq_getElem?_getD, List.getElem?_eq_none (by show 16 ≤ n; omega)]; rfl
    omega
theorem dgs_all (x : Int) : allB (dgs x) := by
  intro y hy
  simp only [dgs, List.mem_cons, List.not_mem_nil, or_false] at hy
  rcases hy with rfl | rfl <;> exact sgn_get _
theorem wrH_all (xs : List Int) : allB (wrH xs) := by
  intro y hy
  simp only [wrH, List.mem_cons] at hy
  rcases hy with rfl | rfl | hy
  · decide
  · decide
  · obtain ⟨x, _, hx⟩ := List.mem_flatMap.1 hy
    exact dgs_all x y hx
theorem flat_dgs : ∀ xs : List Int, (xs.flatMap dgs).length = 2 * xs.length
  | [] => rfl
  | x :: xs => by rw [List.flatMap_cons, List.length_append, flat_dgs xs, List.length_cons]; simp [dgs]; omega
theorem wrH_len (xs : List Int) : (wrH xs).length = 2 + 2 * xs.length := by
  simp only [wrH, List.length_cons, flat_dgs]; omega
theorem wrH_push {xs : List Int} {k : Nat} (h : k < xs.length) : wrH (xs.take k) ++ dgs (xs.getD k 0) = wrH (xs.take (k + 1)) := by
  have e : xs.take (k + 1) = xs.take k ++ [xs.getD k 0] := by
    rw [List.take_add_one, List.getD_eq_getElem?_getD, List.getElem?_eq_getElem h]; rfl
  rw [e]; unfold wrH
  simp only [List.flatMap_append, List.flatMap_cons, List.flatMap_nil, List.append_nil, List.cons_append]
theorem and15 {x : Int} (h0 : 0 ≤ x) (h1 : x ≤ 255) : bits .and .u8 x 15 = x % 16 := by
  obtain ⟨n, rfl⟩ : ∃ n : Nat, x = n := ⟨x.toNat, by omega⟩
  have hn : n < 256 := by omega
  have key : ∀ n, n < 256 → bits .and .u8 ((n : Nat) : Int) 15 = ((n : Nat) : Int) % 16 := by decide +kernel
  exact key n hn
theorem shr4 (x : Int) : x / 2 ^ min 4 8 = x / 16 := by rfl
theorem one_sgn {n : Nat} (h : n < 16) : (sgn.drop n).take (n + 1 - n) = [sgn.getD n 0] := by
  rw [show n + 1 - n = 1 by omega]
  have hl : n < sgn.length := h
  rw [List.drop_eq_getElem_cons hl, List.getD_eq_getElem?_getD, List.getElem?_eq_getElem hl]
  rfl
theorem allB_app {xs ys : List Int} (h : allB xs) (h' : allB ys) : allB (xs ++ ys) := fun x hx => (List.mem_append.1 hx).elim (h x) (h' x)
theorem dec_cases (p : Prop) [Decidable p] : (decide p = true ∧ p) ∨ (decide p = false ∧ ¬ p) := by
  by_cases h : p
  · exact .inl ⟨decide_eq_true h, h⟩
  · exact .inr ⟨decide_eq_false h, h⟩
end Go.Proofs.YtcmgndhkdnjmnaaDoor
