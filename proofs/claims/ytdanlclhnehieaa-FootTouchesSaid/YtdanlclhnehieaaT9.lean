/-
  SameFoot (quaestorref00), walked. No condition.
-/
import Derived.Test.YtdanlclhnehieaaT7
namespace Go.Proofs.Ytdanlclhnehieaa
set_option linter.unusedSimpArgs false
set_option linter.unusedVariables false
set_option maxHeartbeats 4000000
set_option linter.defProp false
open Go.RowKit
theorem rowsOk_pl {l : List (List Int)} (h : ∀ x ∈ l, okP x) : rowsOk 25 (l.map plL) = true := by
  induction l with
  | nil => rfl
  | cons x l ih =>
    have h1 := plL_len (h x List.mem_cons_self)
    have h2 := ih (fun y hy => h y (List.mem_cons_of_mem _ hy))
    obtain ⟨x0, x1, x2, x3, x4, x5, x6, x7, x8, x9, x10, x11, x12, x13, x14, x15, x16, x17, x18, x19, bx, k0, k1, k2, k3, rfl, _⟩ := okP_forms (h x List.mem_cons_self)
    rw [List.map_cons]
    unfold rowsOk
    rw [h1, h2]
    rfl
end Go.Proofs.Ytdanlclhnehieaa
