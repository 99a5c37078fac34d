/-
  Bytes as slices and as strings: nil slices, what a slice looks like to a callee, strings compared. No program.
-/
import Derived.Test.YtbdigomddnpllaaEI
import Derived.Test.YtbdigomddnpllaaRD
namespace Go.Proofs.Ytbdigomddnpllaa
set_option linter.unusedSimpArgs false
set_option linter.unusedVariables false
open Go.RowKit
theorem lmI_len (x : Nat) : (lmI x).length = 4 := rfl
theorem cc_lmI (x : Nat) : cc (.ints .u64 (lmI x)) = cc (.words [x]) := by simp [cc, lmI, wcs]
theorem allU_lmI (x : Nat) : allU (lmI x) := by
  have h0 := lm_lt x 0
  have h1 := lm_lt x 1
  have h2 := lm_lt x 2
  have h3 := lm_lt x 3
  exact ⟨by omega, by omega, by omega, by omega, trivial⟩
theorem numI_lmI {x : Nat} (h : x < W) : numI (lmI x) = x := by
  simp only [numI, lmI, Int.toNat_natCast]; exact num_lm h
end Go.Proofs.Ytbdigomddnpllaa
namespace Go.Proofs.Ytbdigomddnpllaa
set_option linter.unusedSimpArgs false
set_option linter.unusedVariables false
open Go.RowKit
theorem Vc.nilown {P : Program} {c : Code} {env : List SV} {m : List Blk} {K : Kont} (i : Nat) (t : TypeId) (es : Nat) (k : IntKind) (h0 : sget env i = .nilsl)
    (h : Vc P c (sset env i (.own (blen m) (.slice none 0 0) 0)) (bpush m (.own (.slice none 0 0) 0 t es (.ints k []))) K) : Vc P c env m K := by
  have hs : ∀ (l : List SV) (i : Nat), sget l i = .nilsl → cvs (sset l i (.own (blen m) (.slice none 0 0) 0)) = cvs l := by
    intro l
    induction l with
    | nil => intro i _; rfl
    | cons x l ih =>
      intro i hi
      cases i with
      | zero => simp only [sget] at hi; subst hi; rfl
      | succ i => simp only [sget] at hi; simp only [sset, cvs, ih i hi]
  intro w0 B a w hf hd hm
  refine h w0 B a w (by unfold Fr at *; rw [hs env i h0]; exact hf) hd ?_
  rw [bpush_eq]
  refine hm.push (grown_refl w) ⟨⟨by simp [cc], .inl ⟨rfl, rfl⟩⟩, fun b hb => by simp [Value.ownBlock] at hb⟩ (fun b hb => ?_)
  simp [Blk.nums, Value.ownBlock] at hb
theorem ro_two {w : World} {a1 a2 : Option Addr} {c1 c2 : Con} (h1 : MemOk w [] [.ro a1 c1] w) (h2 : MemOk w [] [.ro a2 c2] w) : MemOk w [] [.ro a1 c1, .ro a2 c2] w :=
  ⟨rfl, rfl, rfl, Nat.le_refl _, fun _ _ _ => rfl, fun e he => by
    rcases List.mem_cons.1 he with rfl | he
    · exact h1.each _ List.mem_cons_self
    · exact h2.each _ he, List.nodup_nil⟩
section
variable {W : World}
end
end Go.Proofs.Ytbdigomddnpllaa
