/-
  SamePlaces (quaestorref00), walked. No condition.
-/
import Derived.Test.YtdanlclhnehieaaT6
import Derived.Test.YtdanlclhnehieaaBS
namespace Go.Proofs.Ytdanlclhnehieaa
set_option linter.unusedSimpArgs false
set_option linter.unusedVariables false
set_option maxHeartbeats 4000000
open Go.RowKit
theorem rows25 {l : List (List Int)} (h : ∀ x ∈ l, okP x) : (cc (.rows 25 (l.map plL))).length = l.length * 25 := by
  simp only [cc]
  induction l with
  | nil => simp
  | cons x l ih => rw [List.map_cons, List.flatMap_cons, List.length_append, ih (fun y hy => h y (List.mem_cons_of_mem _ hy)), cvs_eq, List.length_map, plL_len (h x List.mem_cons_self), List.length_cons]; omega
end Go.Proofs.Ytdanlclhnehieaa
