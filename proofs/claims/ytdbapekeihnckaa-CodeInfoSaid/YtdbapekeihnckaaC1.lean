/-
  Bytecode (package code): the places of a traversal, plain; what an operation has with it, the traversal's iterator, walked. No condition.
-/
import Derived.Test.YtdbapekeihnckaaBS
import Derived.RangeFuncNested
import Derived.RangeFuncBound
import Derived.RangeFuncCalls
import Derived.RangeFuncLeaves
import Derived.RangeFuncBox
import Derived.Shelf.Abstract
import Derived.Shelf.RegionOpen
import Derived.WalkKit
import Derived.OwnWalkIn
import Derived.TacticsInMore
import Derived.LoopNIn
import Derived.LoopIn
import Derived.Maps.AppendAt
namespace Go.Proofs.Ytdbapekeihnckaa
set_option linter.unusedSimpArgs false
set_option linter.unusedVariables false
open Go.RowKit Go.Shelf
/-- How many bytes an operation has with it. -/
def beh (op : Int) : Nat := if 95 ≤ op ∧ op ≤ 127 then (op - 95).toNat else 0
theorem beh_le (op : Int) : beh op ≤ 32 := by unfold beh; split <;> omega
/-- The places of a traversal, from a place on. -/
def tv (xs : List Int) : Nat → Nat → List Nat
  | 0, _ => []
  | f + 1, p => if p < xs.length then p :: tv xs f (p + 1 + beh (xs.getD p 0)) else []
def tvv (xs : List Int) (p : Nat) : List Nat := tv xs (xs.length - p) p
theorem tv_fuel (xs : List Int) : ∀ (f g p : Nat), xs.length - p ≤ f → xs.length - p ≤ g → tv xs f p = tv xs g p
  | 0, 0, _, _, _ => rfl
  | 0, g + 1, p, hf, _ => by unfold tv; rw [if_neg (by omega)]
  | f + 1, 0, p, _, hg => by unfold tv; rw [if_neg (by omega)]
  | f + 1, g + 1, p, hf, hg => by
    unfold tv
    split
    · rw [tv_fuel xs f g _ (by omega) (by omega)]
    · rfl
theorem tvv_step {xs : List Int} {p : Nat} (h : p < xs.length) : tvv xs p = p :: tvv xs (p + 1 + beh (xs.getD p 0)) := by
  have e : xs.length - p = (xs.length - p - 1) + 1 := by omega
  unfold tvv
  rw [e, tv, if_pos h, tv_fuel xs (xs.length - p - 1) (xs.length - (p + 1 + beh (xs.getD p 0))) _ (by omega) (by omega)]
theorem tvv_end {xs : List Int} {p : Nat} (h : xs.length ≤ p) : tvv xs p = [] := by unfold tvv; rw [show xs.length - p = 0 by omega]; rfl
/-- The places among them that may be jumped to. -/
def jm (xs : List Int) (p : Nat) : List Nat := (tvv xs p).filter fun q => decide (xs.getD q 0 = 91)
theorem jm_step {xs : List Int} {p : Nat} (h : p < xs.length) : jm xs p = (if xs.getD p 0 = 91 then [p] else []) ++ jm xs (p + 1 + beh (xs.getD p 0)) := by
  unfold jm; rw [tvv_step h, List.filter_cons]
  by_cases hq : xs.getD p 0 = 91
  · simp only [hq, decide_true, if_true]; rfl
  · simp only [hq, decide_false, if_false]; rfl
theorem jm_end {xs : List Int} {p : Nat} (h : xs.length ≤ p) : jm xs p = [] := by unfold jm; rw [tvv_end h]; rfl
theorem jm_ind {xs : List Int} (C : Nat → List Nat → Prop) (h0 : ∀ p, xs.length ≤ p → C p []) (h1 : ∀ p, p < xs.length → C (p + 1 + beh (xs.getD p 0)) (jm xs (p + 1 + beh (xs.getD p 0))) → C p (jm xs p)) : ∀ (n p : Nat), xs.length - p ≤ n → C p (jm xs p)
  | 0, p, h => by rw [jm_end (by omega)]; exact h0 p (by omega)
  | n + 1, p, h => by
    by_cases hp : p < xs.length
    · exact h1 p hp (jm_ind C h0 h1 n _ (by omega))
    · rw [jm_end (by omega)]; exact h0 p (by omega)
theorem jm_all (xs : List Int) (p : Nat) : ∀ q ∈ jm xs p, p ≤ q ∧ q < xs.length ∧ xs.getD q 0 = 91 := by
  refine jm_ind (xs := xs) (fun p l => ∀ q ∈ l, p ≤ q ∧ q < xs.length ∧ xs.getD q 0 = 91) (fun p _ q hq => by cases hq) (fun p hp ih q hq => ?_) _ p (Nat.le_refl _)
  rw [jm_step hp] at hq
  rcases List.mem_append.1 hq with h | h
  · split at h
    · rename_i h91
      rw [List.mem_singleton] at h; subst h; exact ⟨Nat.le_refl _, hp, h91⟩
    · cases h
  · have := ih q h; exact ⟨by omega, this.2.1, this.2.2⟩
theorem jm_len (xs : List Int) (p : Nat) : (jm xs p).length ≤ xs.length - p := by
  refine jm_ind (xs := xs) (fun p l => l.length ≤ xs.length - p) (fun p _ => Nat.zero_le _) (fun p hp ih => ?_) _ p (Nat.le_refl _)
  rw [jm_step hp, List.length_append]
  split <;> simp only [List.length_cons, List.length_nil] <;> omega
theorem getD_app {xs ys : List Int} {q : Nat} (h : q < xs.length) : (xs ++ ys).getD q 0 = xs.getD q 0 := by
  rw [List.getD_eq_getElem?_getD, List.getD_eq_getElem?_getD, List.getElem?_append_left h]
/-- Code behind changes nothing ahead of it. -/
theorem jm_app (xs ys : List Int) (p : Nat) : ∃ r, jm (xs ++ ys) p = jm xs p ++ r := by
  refine jm_ind (xs := xs) (fun p l => ∃ r, jm (xs ++ ys) p = l ++ r) (fun p _ => ⟨_, rfl⟩) (fun p hp ih => ?_) _ p (Nat.le_refl _)
  obtain ⟨r, hr⟩ := ih
  refine ⟨r, ?_⟩
  rw [jm_step (xs := xs ++ ys) (by rw [List.length_append]; omega), getD_app hp, hr, jm_step hp, List.append_assoc]
/-- Code ahead of which stand n operations without a word. -/
theorem getD_rep {n q : Nat} {v : Int} {xs : List Int} : (List.replicate n v ++ xs).getD (n + q) 0 = xs.getD q 0 := by
  rw [List.getD_eq_getElem?_getD, List.getD_eq_getElem?_getD, List.getElem?_append_right (by simp), List.length_replicate, Nat.add_sub_cancel_left]
theorem jm_far (xs : List Int) (n p : Nat) : jm (List.replicate n 80 ++ xs) (n + p) = (jm xs p).map (n + ·) := by
  refine jm_ind (xs := xs) (fun p l => jm (List.replicate n 80 ++ xs) (n + p) = l.map (n + ·)) (fun p h => jm_end (by simp; omega)) (fun p hp ih => ?_) _ p (Nat.le_refl _)
  rw [jm_step (by simp; omega), getD_rep, show n + p + 1 + beh (xs.getD p 0) = n + (p + 1 + beh (xs.getD p 0)) by omega, ih, jm_step hp, List.map_append]
  split <;> rfl
theorem jm_near (xs : List Int) (n : Nat) : ∀ k, k ≤ n → jm (List.replicate n 80 ++ xs) (n - k) = (jm xs 0).map (n + ·)
  | 0, _ => jm_far xs n 0
  | k + 1, h => by
    have e : (List.replicate n (80 : Int) ++ xs).getD (n - (k + 1)) 0 = 80 := by
      rw [getD_app (by simp; omega), List.getD_eq_getElem?_getD, List.getElem?_replicate, if_pos (by omega)]; rfl
    rw [jm_step (by simp; omega), e, show beh 80 = 0 from rfl, if_neg (by decide), List.nil_append, show n - (k + 1) + 1 + 0 = n - k by omega]
    exact jm_near xs n k (by omega)
theorem jm_shift (xs : List Int) (n : Nat) : jm (List.replicate n 80 ++ xs) 0 = (jm xs 0).map (n + ·) := by
  have := jm_near xs n n (Nat.le_refl _); rwa [Nat.sub_self] at this
/-- Behind an operation with k bytes. -/
theorem jm_push (k : Nat) (h : k ≤ 32) (ys : List Int) : ∀ q ∈ jm ((95 + (k : Int)) :: ys) 0, k < q := by
  intro q hq
  have e : ((95 + (k : Int)) :: ys).getD 0 0 = 95 + (k : Int) := rfl
  have hb : beh (95 + (k : Int)) = k := by unfold beh; rw [if_pos (by omega)]; omega
  rw [jm_step (by simp), e, if_neg (by omega), hb, List.nil_append] at hq
  have := jm_all _ _ q hq; omega
theorem tvv_len (xs : List Int) : ∀ (n p : Nat), xs.length - p ≤ n → (tvv xs p).length ≤ xs.length - p
  | 0, p, h => by rw [tvv_end (by omega)]; exact Nat.zero_le _
  | n + 1, p, h => by
    by_cases hp : p < xs.length
    · rw [tvv_step hp, List.length_cons]
      have := tvv_len xs n (p + 1 + beh (xs.getD p 0)) (by omega)
      omega
    · rw [tvv_end (by omega)]; exact Nat.zero_le _
/-- All operations, each behind its place. -/
def ops (xs : List Int) (p : Nat) : List (Nat × Int) := (tvv xs p).map fun q => (q, xs.getD q 0)
theorem ops_step {xs : List Int} {p : Nat} (h : p < xs.length) : ops xs p = (p, xs.getD p 0) :: ops xs (p + 1 + beh (xs.getD p 0)) := by unfold ops; rw [tvv_step h]; rfl
theorem ops_end {xs : List Int} {p : Nat} (h : xs.length ≤ p) : ops xs p = [] := by unfold ops; rw [tvv_end h]; rfl
theorem ops_len (xs : List Int) (p : Nat) : (ops xs p).length ≤ xs.length - p := by unfold ops; rw [List.length_map]; exact tvv_len xs _ p (Nat.le_refl _)
/-! ### Walks. -/
theorem isPush_at (v : Int) (h : 0 ≤ v ∧ v ≤ 255) (w : World) : Calls Try.prog 7 #[.int .u8 v] w (fun e w' => e = .returned (.bool (decide (95 ≤ v ∧ v ≤ 127))) ∧ w' = w) := by
  by_cases h1 : 95 ≤ v
  · by_cases h2 : v ≤ 127
    · rw [decide_eq_true ⟨h1, h2⟩]
      go_enter Try.func7, Try.ntmps7
      go_wp2
      go_ret
      exact ⟨rfl, rfl⟩
    · rw [decide_eq_false (fun h => h2 h.2)]
      go_enter Try.func7, Try.ntmps7
      go_wp2
      go_ret
      exact ⟨rfl, rfl⟩
  · rw [decide_eq_false (fun h => h1 h.1)]
    go_enter Try.func7, Try.ntmps7
    go_wp2
    go_ret
    exact ⟨rfl, rfl⟩
theorem behind_at (v : Int) (h : 0 ≤ v ∧ v ≤ 255) (w : World) : Calls Try.prog 14 #[.int .u8 v] w (fun e w' => e = .returned (.int .u64 (beh v : Nat)) ∧ w' = w) := by
  have hp := isPush_at v h w
  by_cases h1 : 95 ≤ v ∧ v ≤ 127
  · rw [decide_eq_true h1] at hp
    have hb : ((beh v : Nat) : Int) = v - 95 := by unfold beh; rw [if_pos h1]; omega
    rw [hb]
    go_enter Try.func14, Try.ntmps14
    go_wp2_with (go_at_call 7; refine hp.mono ?_; rintro e w' ⟨rfl, rfl⟩)
    go_ret
    exact ⟨rfl, rfl⟩
  · rw [decide_eq_false h1] at hp
    have hb : ((beh v : Nat) : Int) = 0 := by unfold beh; rw [if_neg h1]; rfl
    rw [hb]
    go_enter Try.func14, Try.ntmps14
    go_wp2_with (go_at_call 7; refine hp.mono ?_; rintro e w' ⟨rfl, rfl⟩)
    go_ret
    exact ⟨rfl, rfl⟩
end Go.Proofs.Ytdbapekeihnckaa
