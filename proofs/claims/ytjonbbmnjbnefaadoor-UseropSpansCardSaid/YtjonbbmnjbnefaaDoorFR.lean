/-
 What a law is handed, opened and shut: numbers. A law's end, as the own walk tells it. No condition.
-/
import Derived.Test.YtjonbbmnjbnefaaDoorLB
import Derived.Test.YtjonbbmnjbnefaaDoorEI
import Derived.Carry
set_option maxRecDepth 10000
set_option linter.unusedVariables false
set_option linter.unusedSimpArgs false
namespace Go.Proofs.YtjonbbmnjbnefaaDoor
open Go.RowKit Go.ChangeShapes Go.WideShapes Go.ChangeAt
def Yes (w : World) (e : Ending) (w' : World) : Prop := ∃ u, e = .returned u ∧ ∃ v m', u = cv v ∧ MemOk w [] m' w' ∧ v = .bool true
theorem Yes.out {w w' : World} {e : Ending} (h : Yes w e w') : e = .returned (.bool true) ∧ ∃ p, w' = gw w p := by
 obtain ⟨u, rfl, v, m', rfl, hm, rfl⟩ := h
 exact ⟨rfl, gw_of_grown hm.grown⟩
section
variable {H : Type} {enc : TypeId × Value → H} {w : World} {base : Nat} {spare : Nat → Bool} {held : Bool} {r : Reach} {b0 : Nat} {t : TypeId} {v : Value} {d : DataW H} {ps : List MemPlace}
theorem nat_open {k : IntKind} (N : Nat) (hk : ∀ x : Int, (Lit.int k x).wf = true → 0 ≤ x ∧ x < (N : Int)) (ht : Tryd.prog.underlying t = some (.int k)) (hval : Value.okWide Tryd.prog w r b0 t v)
  (hd : DataW.Trod enc Tryd.prog w base spare held t v d ps) : ∃ n : Nat, v = .int k n ∧ d = .lit (.int k n) ∧ ps = [] ∧ n < N ∧ (Lit.int k n).wf = true := by
 obtain ⟨x, h1, h2, h3, h4⟩ := open_int ht hval hd
 obtain ⟨h5, h6⟩ := hk x h4
 obtain ⟨n, rfl⟩ : ∃ n : Nat, x = n := ⟨x.toNat, by omega⟩
 exact ⟨n, h1, h2, h3, by omega, h4⟩
theorem wf_u64 (x : Int) (h : (Lit.int .u64 x).wf = true) : 0 ≤ x ∧ x < (18446744073709551616 : Nat) := by
 simp only [Lit.wf, Bool.and_eq_true, decide_eq_true_eq] at h
 have h1 : (0 : Int) ≤ x := h.1
 have h2 : x ≤ 18446744073709551615 := h.2
 omega
end
end Go.Proofs.YtjonbbmnjbnefaaDoor
