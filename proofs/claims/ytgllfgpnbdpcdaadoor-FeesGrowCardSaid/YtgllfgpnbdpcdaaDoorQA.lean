/-
  Gas costs: plain arithmetic, no program. No condition.
-/
import Derived.Test.YtgllfgpnbdpcdaaDoorBS
namespace Go.Proofs.YtgllfgpnbdpcdaaDoor
set_option linter.unusedSimpArgs false
set_option linter.unusedVariables false
set_option maxRecDepth 10000
open Go.RowKit
def stoC (o c n : Nat) (cold : Bool) : Int := (if n ≠ c ∧ c = o then (if o = 0 then 20000 else 2900) else 100) + (if cold then 2100 else 0)
def slC (v : Nat) : Int := if v = 0 then 4800 else 0
def stoB (o c n : Nat) : Int := if n = c then 0 else (if o ≠ 0 then slC n - slC c else 0) + (if n = o then (if o = 0 then 19900 else 2800) else 0)
def slO (o c : Nat) : Int := if o ≠ 0 ∧ c = 0 then 4800 else 0
def slP (o c : Nat) : Int := if c = o then 0 else if o = 0 then 19900 else 2800
def Rnd (o c : Nat) (k : Nat) (cost back : Int) : Prop := slO o c ≤ back ∧ back - slO o c + slP o c ≤ cost ∧ cost ≤ 22100 * (k : Int)
theorem rnd_0 (o : Nat) : Rnd o o 0 0 0 := by unfold Rnd slO slP; split <;> simp_all
theorem rnd_step {o c k : Nat} {cost back : Int} (n : Nat) (cold : Bool) (h : Rnd o c k cost back) : Rnd o n (k + 1) (cost + stoC o c n cold) (back + stoB o c n) := by
  obtain ⟨h1, h2, h3⟩ := h
  have hc : (0 : Int) ≤ (if cold then 2100 else 0) ∧ (if cold then (2100 : Int) else 0) ≤ 2100 := by cases cold <;> simp
  unfold Rnd
  unfold stoC
  generalize (if cold then (2100 : Int) else 0) = z at *
  by_cases e1 : n = c
  · subst e1
    have : stoB o n n = 0 := if_pos rfl
    rw [this, if_neg (by simp)]
    refine ⟨?_, ?_, ?_⟩ <;> omega
  · by_cases e2 : c = o
    · subst e2
      have a1 : slP c n = if c = 0 then 19900 else 2800 := if_neg e1
      have a2 : stoB c c n = (if c ≠ 0 then slC n - slC c else 0) + 0 := by unfold stoB; rw [if_neg e1, if_neg e1]
      have a3 : slO c c = 0 := by unfold slO; exact if_neg (by omega)
      have a4 : slP c c = 0 := if_pos rfl
      rw [if_pos ⟨e1, rfl⟩, a1, a2]
      rw [a3, a4] at h2
      rw [a3] at h1
      unfold slO slC
      by_cases e3 : c = 0 <;> by_cases e4 : n = 0 <;> simp [e3, e4] <;> (try refine ⟨?_, ?_, ?_⟩) <;> omega
    · have a2 : slP o c = if o = 0 then 19900 else 2800 := if_neg e2
      have a3 : stoB o c n = (if o ≠ 0 then slC n - slC c else 0) + (if n = o then (if o = 0 then 19900 else 2800) else 0) := if_neg e1
      rw [if_neg (by omega), a3]
      rw [a2] at h2
      unfold slO slC slP at *
      by_cases e3 : o = 0 <;> by_cases e4 : n = 0 <;> by_cases e5 : c = 0 <;> by_cases e6 : n = o <;> simp only [e3, e4, e5, e6, ne_eq, not_true, not_false_eq_true, and_self, and_true, and_false, if_true, if_false] at * <;> (try refine ⟨?_, ?_, ?_⟩) <;> (try simp_all) <;> omega
theorem stoC_rng (o c n : Nat) (cold : Bool) : 0 ≤ stoC o c n cold ∧ stoC o c n cold ≤ 22100 := by
  unfold stoC; cases cold <;> (split <;> (try split) <;> simp)
theorem stoB_rng (o c n : Nat) : -4800 ≤ stoB o c n ∧ stoB o c n ≤ 24700 := by
  unfold stoB slC; repeat' split <;> (try omega)
/-- Words, memory. -/
def wdI (n : Int) : Int := (n + 31) / 32
def memI (n : Int) : Int := if n > 4294967296 then 18446744073709551615 else 3 * wdI n + wdI n * wdI n / 512
theorem sq_rng {w : Int} (h0 : 0 ≤ w) (h1 : w ≤ 134217728) : 0 ≤ w * w ∧ w * w ≤ 18014398509481984 := by
  have a := Int.mul_nonneg h0 h0
  have b := Int.mul_le_mul h1 h1 h0 (by decide)
  exact ⟨a, b⟩
theorem memI_rng {n : Int} (h : 0 ≤ n) : 0 ≤ memI n ∧ memI n ≤ 18446744073709551615 := by
  unfold memI
  split
  · decide
  · have hw : 0 ≤ wdI n ∧ wdI n ≤ 134217728 := by unfold wdI; omega
    have := sq_rng hw.1 hw.2
    omega
theorem memI_mono {a b : Int} (h0 : 0 ≤ a) (h : a ≤ b) : memI a ≤ memI b := by
  by_cases hb : b > 4294967296
  · rw [show memI b = 18446744073709551615 from if_pos hb]
    exact (memI_rng h0).2
  · rw [show memI b = 3 * wdI b + wdI b * wdI b / 512 from if_neg hb, show memI a = 3 * wdI a + wdI a * wdI a / 512 from if_neg (by omega)]
    have hw : 0 ≤ wdI a ∧ wdI a ≤ wdI b := by unfold wdI; omega
    have : wdI a * wdI a ≤ wdI b * wdI b := Int.mul_le_mul hw.2 hw.2 hw.1 (by omega)
    omega
theorem memI_same {a b : Int} (h : wdI a = wdI b) (h2 : ¬ b > 4294967296) (h1 : a ≤ b) : memI a = memI b := by
  rw [show memI b = 3 * wdI b + wdI b * wdI b / 512 from if_neg h2, show memI a = 3 * wdI a + wdI a * wdI a / 512 from if_neg (by omega), h]
/-- What a call may take along. -/
def kpI (l : Int) (a : Nat) : Int := if smB a = true then (if l - l / 64 < (smN a : Nat) then l - l / 64 else (smN a : Nat)) else l - l / 64
theorem kpI_rng {l : Int} (h : 0 ≤ l) (a : Nat) : 0 ≤ kpI l a ∧ kpI l a ≤ l - l / 64 := by
  unfold kpI; repeat' split <;> omega
/-- Data. -/
def zcI (xs : List Int) : Int := (xs.count 0 : Nat)
theorem zc_rng (xs : List Int) : 0 ≤ zcI xs ∧ zcI xs ≤ xs.length := by
  unfold zcI; have := List.count_le_length (a := (0 : Int)) (l := xs); omega
theorem zc_app (xs ys : List Int) : zcI (xs ++ ys) = zcI xs + zcI ys := by unfold zcI; rw [List.count_append]; omega
def datI (xs : List Int) : Int := 21000 + 4 * zcI xs + 16 * (xs.length - zcI xs)
def intI (xs : List Int) (c : Bool) : Int := datI xs + (if c then 32000 + 2 * wdI xs.length else 0)
theorem zc_push {xs : List Int} {k : Nat} (h : k < xs.length) : zcI (xs.take (k + 1)) = zcI (xs.take k) + (if xs.getD k 0 = 0 then 1 else 0) := by
  rw [List.take_add_one, List.getElem?_eq_getElem h, Option.toList_some, zc_app]
  have : xs.getD k 0 = xs[k] := by rw [List.getD_eq_getElem?_getD, List.getElem?_eq_getElem h]; rfl
  rw [this]
  unfold zcI
  rw [List.count_singleton]
  by_cases h0 : xs[k] = 0 <;> simp [h0]
theorem dat_push {xs : List Int} {k : Nat} (h : k < xs.length) : datI (xs.take (k + 1)) = datI (xs.take k) + (if xs.getD k 0 = 0 then 4 else 16) := by
  have h1 := zc_push h
  unfold datI
  rw [List.length_take, List.length_take, h1]
  split <;> omega
end Go.Proofs.YtgllfgpnbdpcdaaDoor
