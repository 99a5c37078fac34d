/-
  A symbolic walk of my own: a table of types out of the program's own facts.
-/
import Derived.Test.YtkljpgdcmahenaaEC
namespace Go.Proofs.Ytkljpgdcmahenaa
set_option linter.unusedSimpArgs false
set_option linter.unusedVariables false
open Go.RowKit
theorem sl_mk {P : Program} {t e : TypeId} {es eb : Nat} (h1 : P.underlying t = some (.slice e)) (h2 : 0 < es) (h3 : (P.info? e).map (·.size) = some es) (h4 : (P.info? e).map (·.bytes) = some eb)
    (h5 : ((P.info? e).bind (·.zero)).map (·.cells.size) = some es) : TyOk1 P t (.sl e es eb) := by
  cases hi : P.info? e with
  | none => rw [hi] at h3; cases h3
  | some i =>
    rw [hi] at h3 h4 h5
    cases hz : i.zero with
    | none => simp [hz] at h5
    | some z =>
      simp [hz] at h3 h4 h5
      exact ⟨h1, h2, i, z, hi, hz, h3, h4, h5⟩
theorem zc_mk {P : Program} {t : TypeId} {c : Con} (h : ((P.info? t).bind (·.zero)).map (·.cells) = some (cc c).toArray) : ∃ i z, P.info? t = some i ∧ i.zero = some z ∧ z.cells = (cc c).toArray := by
  cases hi : P.info? t with
  | none => rw [hi] at h; cases h
  | some i =>
    rw [hi] at h
    cases hz : i.zero with
    | none => simp [hz] at h
    | some z => simp [hz] at h; exact ⟨i, z, by first | rfl | exact hi, hz, h⟩
theorem zr_mk {P : Program} {t : TypeId} {l : List SV} (h : ((P.info? t).bind (·.zero)).map (·.cells) = some (cvs l).toArray) : ∃ i z, P.info? t = some i ∧ i.zero = some z ∧ z.cells = (cvs l).toArray := by
  cases hi : P.info? t with
  | none => rw [hi] at h; cases h
  | some i =>
    rw [hi] at h
    cases hz : i.zero with
    | none => simp [hz] at h
    | some z => simp [hz] at h; exact ⟨i, z, by first | rfl | exact hi, hz, h⟩
end Go.Proofs.Ytkljpgdcmahenaa
