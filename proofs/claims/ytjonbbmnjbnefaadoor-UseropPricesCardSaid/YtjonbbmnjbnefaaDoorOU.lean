/-
 The law UseropNumbers of package quaestorlaw15, walked. No condition.
-/
import Derived.Test.YtjonbbmnjbnefaaDoorOJ
import Derived.Test.YtjonbbmnjbnefaaDoorOH
import Derived.Test.YtjonbbmnjbnefaaDoorOT
set_option maxRecDepth 10000
set_option maxHeartbeats 4000000
set_option linter.defProp false
set_option linter.unusedVariables false
set_option linter.unusedSimpArgs false
namespace Go.Proofs.YtjonbbmnjbnefaaDoor
open Go.RowKit
theorem may_tg {x : OpD} (h : mayO x = true) : tgO x = false := by
 simp only [mayO, chkO, Bool.and_eq_true, Bool.not_eq_true', Bool.or_eq_false_iff] at h
 exact h.2.2.1
end Go.Proofs.YtjonbbmnjbnefaaDoor
