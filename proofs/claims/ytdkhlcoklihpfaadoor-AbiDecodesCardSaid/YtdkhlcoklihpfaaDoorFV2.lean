/-
  Two arrays and a type's handle that a row lists: what they hold. No condition.
-/
import Derived.Test.YtdkhlcoklihpfaaDoorFJ
import Derived.Test.YtdkhlcoklihpfaaDoorKV
import Derived.Test.YtdkhlcoklihpfaaDoorDE
import Derived.Test.YtdkhlcoklihpfaaDoorCards
import Derived.Test.YtdkhlcoklihpfaaDoorTie
import Derived.Deep.DeepHandedRow
import Derived.Lib.LaidTab
import Derived.LaidHandle
import Derived.OpenShut
namespace Go.Proofs.YtdkhlcoklihpfaaDoor
set_option linter.unusedSimpArgs false
set_option linter.unusedVariables false
set_option maxRecDepth 10000
open Go.ChangeShapes Go.WideShapes Go.ChangeAt Go.RowKit
theorem et_rt : (Tryd.prog.cutTypes.find? (·.1 == "internal/reflectlite.rtype")).map (·.2) = some 98 := by kernel_rfl
theorem et_row : ((List.range Tryd.prog.types.size).filter fun t => Tryd.prog.rowNamed t [101, 114, 114, 111, 114]) = [55] := by kernel_rfl
theorem et_named : Tryd.prog.globalNamed "errors.errorType" = some 0 := by kernel_rfl
theorem ab_laid {w : World} (h : laidMetH Tryd.prog [("errors.errorType", Rows.laid_errors_errorType), ("quaestor/keccak.keys", Rows.laid_quaestor_keccak_keys), ("quaestor/keccak.path", Rows.laid_quaestor_keccak_path)] w) :
    MemOk w [] [.ro (some ⟨1, 0, none⟩) (.ints .u64 kKeys)] w ∧ MemOk w [] [.ro (some ⟨2, 0, none⟩) (.ints .u8 kPathI)] w ∧ MemOk w [] [.ro (some ⟨0, 0, none⟩) (.cells [.raw eTy])] w := by
  have h' : laidMet Tryd.prog [("quaestor/keccak.keys", Rows.laid_quaestor_keccak_keys), ("quaestor/keccak.path", Rows.laid_quaestor_keccak_path)] w ∧ handlesMet Tryd.prog [("errors.errorType", Rows.laid_errors_errorType)] w := h
  have h2 : laidMetH Tryd.prog [("quaestor/keccak.keys", Rows.laid_quaestor_keccak_keys), ("quaestor/keccak.path", Rows.laid_quaestor_keccak_path)] w := h'.1
  have hh : RoOk w (some ⟨1, 0, none⟩) (.ints .u64 kKeys) ∧ RoOk w (some ⟨2, 0, none⟩) (.ints .u8 kPathI) :=
    laid_two (n1 := "quaestor/keccak.keys") (n2 := "quaestor/keccak.path") h2 (by kernel_rfl) (by kernel_rfl) (by kernel_rfl) (by kernel_rfl) (by kernel_rfl) (by kernel_rfl)
  refine ⟨ro_cons (ro_nil w) hh.1, ro_cons (ro_nil w) hh.2, ?_⟩
  obtain ⟨name, u, ty, e1, e2, e3, e4, e5⟩ := h'.2 _ (List.mem_singleton.2 rfl)
  have en : name = [101, 114, 114, 111, 114] := (Option.some.inj e1).symm
  subst en
  obtain rfl := Option.some.inj (et_rt.symm.trans e2)
  have hm : ty ∈ (List.range Tryd.prog.types.size).filter fun t => Tryd.prog.rowNamed t [101, 114, 114, 111, 114] := List.mem_filter.2 ⟨List.mem_range.2 e3, e4⟩
  rw [et_row] at hm
  obtain rfl := List.mem_singleton.1 hm
  have hz : typeHandle Tryd.prog 55 = .pointer (some ⟨3, 55, none⟩) := by kernel_rfl
  rw [hz] at e5
  have hc : w.cell? ⟨0, 0, none⟩ = some eTy := by unfold eTy; simpa using World.var?_cell et_named e5 0
  refine ro_cons (ro_nil w) fun j u hj => ?_
  have hj0 : j < 1 := by simpa [cc, cvs] using (List.getElem?_eq_some_iff.1 hj).1
  obtain rfl : j = 0 := by omega
  refine ⟨0, 0, rfl, ?_, ?_⟩
  · cases hz : w.heap[0]? with
    | none => rw [World.cell?, hz] at hc; cases hc
    | some o => exact (Array.getElem?_eq_some_iff.1 hz).1
  · have : u = eTy := (Option.some.inj (show some (cv (.raw eTy)) = some u from hj)).symm
    rw [this]; exact hc
end Go.Proofs.YtdkhlcoklihpfaaDoor
