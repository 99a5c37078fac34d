/-
  Bytes as slices and as strings: nil slices, what a slice looks like to a callee, strings compared. No program.
-/
import Derived.Test.YtbdigomddnpllaaEI
import Derived.Test.YtbdigomddnpllaaRD
namespace Go.Proofs.Ytbdigomddnpllaa
set_option linter.unusedSimpArgs false
set_option linter.unusedVariables false
open Go.RowKit
/-- A nil slice, as a row of its own that holds nothing. -/
theorem Vc.nilown {P : Program} {c : Code} {env : List SV} {m : List Blk} {K : Kont} (i : Nat) (t : TypeId) (es : Nat) (k : IntKind) (h0 : sget env i = .nilsl)
    (h : Vc P c (sset env i (.own (blen m) (.slice none 0 0) 0)) (bpush m (.own (.slice none 0 0) 0 t es (.ints k []))) K) : Vc P c env m K := by
  have hs : ∀ (l : List SV) (i : Nat), sget l i = .nilsl → cvs (sset l i (.own (blen m) (.slice none 0 0) 0)) = cvs l := by
    intro l
    induction l with
    | nil => intro i _; rfl
    | cons x l ih =>
      intro i hi
      cases i with
      | zero => simp only [sget] at hi; subst hi; rfl
      | succ i => simp only [sget] at hi; simp only [sset, cvs, ih i hi]
  intro w0 B a w hf hd hm
  refine h w0 B a w (by unfold Fr at *; rw [hs env i h0]; exact hf) hd ?_
  rw [bpush_eq]
  refine hm.push (grown_refl w) ⟨⟨by simp [cc], .inl ⟨rfl, rfl⟩⟩, fun b hb => by simp [Value.ownBlock] at hb⟩ (fun b hb => ?_)
  simp [Blk.nums, Value.ownBlock] at hb
theorem take_push {l : List Int} {k : Nat} {y : Int} (h : l[k]? = some y) : l.take k ++ [y] = l.take (k + 1) := by
  rw [List.take_add_one, h]; rfl
theorem ro_two {w : World} {a1 a2 : Option Addr} {c1 c2 : Con} (h1 : MemOk w [] [.ro a1 c1] w) (h2 : MemOk w [] [.ro a2 c2] w) : MemOk w [] [.ro a1 c1, .ro a2 c2] w :=
  ⟨rfl, rfl, rfl, Nat.le_refl _, fun _ _ _ => rfl, fun e he => by
    rcases List.mem_cons.1 he with rfl | he
    · exact h1.each _ List.mem_cons_self
    · exact h2.each _ he, List.nodup_nil⟩
section
variable {W : World}
/-- What a slice that came in holds. -/
def RoOk (W : World) (a : Option Addr) (c : Con) : Prop := ∀ j u, (cc c)[j]? = some u → ∃ b off, a = some ⟨b, off, none⟩ ∧ b < W.heap.size ∧ W.cell? ⟨b, off + j, none⟩ = some u
theorem ro_nil (W : World) : MemOk W [] [] W := MemOk.start W
theorem ro_cons {m : List Blk} {a : Option Addr} {c : Con} (h : MemOk W [] m W) (hr : RoOk W a c) : MemOk W [] (.ro a c :: m) W :=
  ⟨h.os, h.tape, h.output, h.size, h.old, fun x hx => by
    rcases List.mem_cons.1 hx with rfl | hx
    · intro j u hj
      obtain ⟨b, off, g1, g2, g3⟩ := hr j u hj
      exact ⟨b, off, g1, g2, List.not_mem_nil, g3⟩
    · exact h.each x hx, by
    rw [List.flatMap_cons]; exact h.nodup⟩
end
end Go.Proofs.Ytbdigomddnpllaa
