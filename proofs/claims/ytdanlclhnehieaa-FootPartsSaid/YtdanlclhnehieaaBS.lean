/-
  Bytes as slices and as strings: nil slices, what a slice looks like to a callee, strings compared. No program.
-/
import Derived.Test.YtdanlclhnehieaaEI
import Derived.Test.YtdanlclhnehieaaRD
namespace Go.Proofs.Ytdanlclhnehieaa
set_option linter.unusedSimpArgs false
set_option linter.unusedVariables false
open Go.RowKit
theorem ro_two {w : World} {a1 a2 : Option Addr} {c1 c2 : Con} (h1 : MemOk w [] [.ro a1 c1] w) (h2 : MemOk w [] [.ro a2 c2] w) : MemOk w [] [.ro a1 c1, .ro a2 c2] w :=
  ⟨rfl, rfl, rfl, Nat.le_refl _, fun _ _ _ => rfl, fun e he => by
    rcases List.mem_cons.1 he with rfl | he
    · exact h1.each _ List.mem_cons_self
    · exact h2.each _ he, List.nodup_nil⟩
section
variable {W : World}
def RoOk (W : World) (a : Option Addr) (c : Con) : Prop := ∀ j u, (cc c)[j]? = some u → ∃ b off, a = some ⟨b, off, none⟩ ∧ b < W.heap.size ∧ W.cell? ⟨b, off + j, none⟩ = some u
theorem ro_cons {m : List Blk} {a : Option Addr} {c : Con} (h : MemOk W [] m W) (hr : RoOk W a c) : MemOk W [] (.ro a c :: m) W :=
  ⟨h.os, h.tape, h.output, h.size, h.old, fun x hx => by
    rcases List.mem_cons.1 hx with rfl | hx
    · intro j u hj
      obtain ⟨b, off, g1, g2, g3⟩ := hr j u hj
      exact ⟨b, off, g1, g2, List.not_mem_nil, g3⟩
    · exact h.each x hx, by
    rw [List.flatMap_cons]; exact h.nodup⟩
end
end Go.Proofs.Ytdanlclhnehieaa
