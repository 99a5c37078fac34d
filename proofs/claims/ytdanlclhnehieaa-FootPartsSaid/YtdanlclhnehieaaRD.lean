/-
  Bytes and numbers: plain arithmetic, no program.
-/
import Derived.Test.YtdanlclhnehieaaW1
namespace Go.Proofs.Ytdanlclhnehieaa
set_option linter.unusedSimpArgs false
set_option linter.unusedVariables false
def bytI (a n : Nat) : List Int := (List.range n).map fun i => ((byN a (n - 1 - i) : Nat) : Int)
def rdI : List Int → Nat
  | [] => 0
  | y :: l => y.toNat * 256 ^ l.length + rdI l
theorem rdI_lt : ∀ {l : List Int}, allB l → rdI l < 256 ^ l.length
  | [], _ => by simp [rdI]
  | y :: l, h => by
    have h1 := rdI_lt (l := l) (fun x hx => h x (List.mem_cons_of_mem _ hx))
    have h2 := h y List.mem_cons_self
    have h3 : y.toNat ≤ 255 := by omega
    simp only [rdI, List.length_cons, Nat.pow_succ]
    have h4 : y.toNat * 256 ^ l.length ≤ 255 * 256 ^ l.length := Nat.mul_le_mul_right _ h3
    omega
theorem pow256 (k : Nat) : (256 : Nat) ^ k = 2 ^ (8 * k) := by rw [show (256 : Nat) = 2 ^ 8 from rfl, ← Nat.pow_mul]
theorem pow64 (k : Nat) : (18446744073709551616 : Nat) ^ k = 2 ^ (64 * k) := by rw [show (18446744073709551616 : Nat) = 2 ^ 64 from rfl, ← Nat.pow_mul]
theorem byN_eq (a i : Nat) : byN a i = a / 256 ^ i % 256 := by
  unfold byN lm
  rw [pow64, show (18446744073709551616 : Nat) = 2 ^ 64 from rfl]
  have h1 : i % 8 < 8 := Nat.mod_lt _ (by decide)
  have h2 : (2 : Nat) ^ 64 = 2 ^ (i % 8 * 8) * 2 ^ (64 - i % 8 * 8) := by rw [← Nat.pow_add]; congr 1; omega
  rw [h2, Nat.mod_mul_right_div_self, Nat.div_div_eq_div_mul, ← Nat.pow_add, pow256]
  have h3 : 64 * (i / 8) + i % 8 * 8 = 8 * i := by omega
  rw [h3]
  exact Nat.mod_mod_of_dvd _ (by
    have : (2 : Nat) ^ (64 - i % 8 * 8) = 256 * 2 ^ (64 - i % 8 * 8 - 8) := by rw [show (256 : Nat) = 2 ^ 8 from rfl, ← Nat.pow_add]; congr 1; omega
    rw [this]; exact Nat.dvd_mul_right _ _)
theorem bytI_succ (a n : Nat) : bytI a (n + 1) = ((byN a n : Nat) : Int) :: bytI a n := by
  unfold bytI
  rw [List.range_succ_eq_map, List.map_cons, List.map_map]
  congr 1
  apply List.map_congr_left
  intro i _
  simp only [Function.comp]
  rw [show n + 1 - 1 - (i + 1) = n - 1 - i by omega]
theorem bytI_low {a b n : Nat} (h : a % 256 ^ n = b % 256 ^ n) : bytI a n = bytI b n := by
  unfold bytI
  apply List.map_congr_left
  intro i hi
  have hi' : i < n := List.mem_range.1 hi
  have key : ∀ c, c / 256 ^ (n - 1 - i) % 256 = c % 256 ^ n / 256 ^ (n - 1 - i) % 256 := by
    intro c
    have e : (256 : Nat) ^ n = 256 ^ (n - 1 - i) * 256 ^ (i + 1) := by rw [← Nat.pow_add]; congr 1; omega
    rw [e, Nat.mod_mul_right_div_self]
    exact (Nat.mod_mod_of_dvd _ (by rw [Nat.pow_succ]; exact Nat.dvd_mul_left _ _)).symm
  rw [byN_eq, byN_eq, key a, key b, h]
theorem bytI_rdI : ∀ {l : List Int}, allB l → bytI (rdI l) l.length = l
  | [], _ => rfl
  | y :: l, h => by
    have hl : allB l := fun x hx => h x (List.mem_cons_of_mem _ hx)
    have h1 := rdI_lt hl
    have h2 := h y List.mem_cons_self
    have hp : 0 < 256 ^ l.length := Nat.pow_pos (by decide)
    rw [List.length_cons, bytI_succ, rdI, byN_eq]
    have e1 : (y.toNat * 256 ^ l.length + rdI l) / 256 ^ l.length = y.toNat := by
      rw [Nat.add_comm, Nat.add_mul_div_right _ _ hp, Nat.div_eq_of_lt h1, Nat.zero_add]
    have e2 : y.toNat % 256 = y.toNat := Nat.mod_eq_of_lt (by omega)
    have e3 : (y.toNat * 256 ^ l.length + rdI l) % 256 ^ l.length = rdI l % 256 ^ l.length := by
      rw [Nat.add_comm, Nat.add_mul_mod_self_right]
    rw [e1, e2, bytI_low e3, bytI_rdI hl]
    congr 1; omega
end Go.Proofs.Ytdanlclhnehieaa
