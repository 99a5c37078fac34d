/-
 Two arrays that a row lists: what they hold. No condition.
-/
import Derived.Test.YtjonbbmnjbnefaaDoorK6
import Derived.Test.YtjonbbmnjbnefaaDoorTie
import Derived.Lib.LaidTab
set_option maxRecDepth 10000
set_option linter.unusedVariables false
set_option linter.unusedSimpArgs false
namespace Go.Proofs.YtjonbbmnjbnefaaDoor
open Go.ChangeShapes Go.WideShapes Go.ChangeAt Go.RowKit
def arrOf (P : Program) (g : Nat) (k : IntKind) : Bool :=
 match P.globals[g]? with
 | some v => match P.underlying v.type with
  | some (.array n e) => (match P.underlying e with | some (.int k') => decide (k' = k) | _ => false) && P.cellsOf e == 1 && P.cellsOf v.type == n
  | _ => false
 | none => false
theorem ro_of_laid {P : Program} {w : World} {name : String} {g : Nat} {k : IntKind} {zs : List Int} {t : TypeId} {cs : Array Value} {fuel : Nat} {p : List MemPlace} {H : Type} {enc : TypeId × Value → H} (hg : P.globalNamed name = some g) (ha : arrOf P g k = true)
  (h1 : ∃ g', P.globalNamed name = some g' ∧ (P.globals[g']?).map (·.type) = some t) (h3 : w.var? P name = some cs) (h4 : DataW.trod enc P w 0 (fun _ => true) false fuel t cs.toList = some (Lib.tabData k zs, p)) : RoOk w (some ⟨g, 0, none⟩) (.ints k zs) := by
 obtain ⟨g', h1, h2⟩ := h1
 rw [hg] at h1; cases h1
 unfold arrOf at ha
 split at ha
 ·rename_i v hv
  rw [hv] at h2
  cases h2
  split at ha
  ·rename_i n e hu
   simp only [Bool.and_eq_true, beq_iff_eq] at ha
   have he : P.underlying e = some (.int k) := by
    have h5 := ha.1.1
    split at h5
    ·rename_i k' hk
     rw [hk, of_decide_eq_true h5]
    ·cases h5
   have e1 := Lib.cells_of_tab hu he ha.1.2 ha.2 h4
   unfold World.var? at h3
   rw [hg] at h3
   simp only [Option.bind_some] at h3
   split at h3
   ·rename_i cs' a b hh
    cases h3
    intro j u hj
    refine ⟨g, 0, rfl, (Array.getElem?_eq_some_iff.1 hh).1, ?_⟩
    unfold World.cell?
    simp only [hh, Nat.zero_add]
    rw [← Array.getElem?_toList, e1]
    exact hj
   ·cases h3
  ·cases ha
 ·cases ha
theorem laid_two {P : Program} {w : World} {n1 n2 : String} {g1 g2 : Nat} {k1 k2 : IntKind} {z1 z2 : List Int} (h : laidMetH P [(n1, Lib.tabData k1 z1), (n2, Lib.tabData k2 z2)] w) (a1 : P.globalNamed n1 = some g1) (b1 : arrOf P g1 k1 = true) (a2 : P.globalNamed n2 = some g2) (b2 : arrOf P g2 k2 = true)
  (c1 : (Lib.tabData k1 z1 : DataW Unit).handleName? = none) (c2 : (Lib.tabData k2 z2 : DataW Unit).handleName? = none) : RoOk w (some ⟨g1, 0, none⟩) (.ints k1 z1) ∧ RoOk w (some ⟨g2, 0, none⟩) (.ints k2 z2) := by
 have h0 : laidMet P [(n1, Lib.tabData k1 z1), (n2, Lib.tabData k2 z2)] w := by
  unfold laidMetH at h
  simpa [c1, c2] using h
 obtain ⟨ps, hv, _⟩ := h0
 obtain ⟨g, t, cs, fuel, p, q, d1, d2, d3, d4, hv2, _⟩ := hv
 obtain ⟨g', t', cs', fuel', p', q', d1', d2', d3', d4', _, _⟩ := hv2
 exact ⟨ro_of_laid a1 b1 ⟨g, d1, d2⟩ d3 d4, ro_of_laid a2 b2 ⟨g', d1', d2'⟩ d3' d4'⟩
end Go.Proofs.YtjonbbmnjbnefaaDoor
