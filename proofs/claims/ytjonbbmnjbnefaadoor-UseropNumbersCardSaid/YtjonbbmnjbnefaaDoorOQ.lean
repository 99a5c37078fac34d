/-
 The two arrays of package keccak that a row lists: what they hold. No condition.
-/
import Derived.Test.YtjonbbmnjbnefaaDoorOD
import Derived.Test.YtjonbbmnjbnefaaDoorHK
import Derived.Test.YtjonbbmnjbnefaaDoorCards
import Derived.Test.YtjonbbmnjbnefaaDoorTie
import Derived.Deep.DeepHandedRow
import Derived.Lib.LaidTab
import Derived.LaidHandle
import Derived.OpenShut
set_option maxRecDepth 10000
set_option linter.unusedVariables false
set_option linter.unusedSimpArgs false
namespace Go.Proofs.YtjonbbmnjbnefaaDoor
open Go.ChangeShapes Go.WideShapes Go.ChangeAt Go.RowKit
theorem uo_laid {w : World} (h : laidMetH Tryd.prog [("quaestor/keccak.keys", Rows.laid_quaestor_keccak_keys), ("quaestor/keccak.path", Rows.laid_quaestor_keccak_path)] w) : MemOk w [] [.ro (some ⟨1, 0, none⟩) (.ints .u64 kKeys), .ro (some ⟨2, 0, none⟩) (.ints .u8 kPathI), allOld w] w := by
 have hh : RoOk w (some ⟨1, 0, none⟩) (.ints .u64 kKeys) ∧ RoOk w (some ⟨2, 0, none⟩) (.ints .u8 kPathI) :=
  laid_two (n1 := "quaestor/keccak.keys") (n2 := "quaestor/keccak.path") h (by kernel_rfl) (by kernel_rfl) (by kernel_rfl) (by kernel_rfl) (by kernel_rfl) (by kernel_rfl)
 exact MemOk.wold (ro_front (ro_cons (ro_nil w) hh.2) (ro_cons (ro_nil w) hh.1))
end Go.Proofs.YtjonbbmnjbnefaaDoor
