/-
  A region whose order is drawn, with calls that make memory, and new variables that may be made at any time among them: one walk for each order of the new variables.
-/
import Derived.Test.YtbdigomddnpllaaEI
import Derived.Test.YtbdigomddnpllaaRD
import Derived.Test.YtbdigomddnpllaaBase
namespace Go.Proofs.Ytbdigomddnpllaa
set_option linter.unusedSimpArgs false
set_option linter.unusedVariables false
open Go.RowKit
theorem lmI_len (x : Nat) : (lmI x).length = 4 := rfl
theorem cc_lmI (x : Nat) : cc (.ints .u64 (lmI x)) = cc (.words [x]) := by simp [cc, lmI, wcs]
theorem allU_lmI (x : Nat) : allU (lmI x) := by
  have h0 := lm_lt x 0
  have h1 := lm_lt x 1
  have h2 := lm_lt x 2
  have h3 := lm_lt x 3
  exact ⟨by omega, by omega, by omega, by omega, trivial⟩
theorem numI_lmI {x : Nat} (h : x < W) : numI (lmI x) = x := by
  simp only [numI, lmI, Int.toNat_natCast]; exact num_lm h
end Go.Proofs.Ytbdigomddnpllaa
namespace Go.Proofs.Ytbdigomddnpllaa
set_option linter.unusedSimpArgs false
set_option linter.unusedVariables false
open Go.RowKit
theorem Vc.nilown {P : Program} {c : Code} {env : List SV} {m : List Blk} {K : Kont} (i : Nat) (t : TypeId) (es : Nat) (k : IntKind) (h0 : sget env i = .nilsl)
    (h : Vc P c (sset env i (.own (blen m) (.slice none 0 0) 0)) (bpush m (.own (.slice none 0 0) 0 t es (.ints k []))) K) : Vc P c env m K := by
  have hs : ∀ (l : List SV) (i : Nat), sget l i = .nilsl → cvs (sset l i (.own (blen m) (.slice none 0 0) 0)) = cvs l := by
    intro l
    induction l with
    | nil => intro i _; rfl
    | cons x l ih =>
      intro i hi
      cases i with
      | zero => simp only [sget] at hi; subst hi; rfl
      | succ i => simp only [sget] at hi; simp only [sset, cvs, ih i hi]
  intro w0 B a w hf hd hm
  refine h w0 B a w (by unfold Fr at *; rw [hs env i h0]; exact hf) hd ?_
  rw [bpush_eq]
  refine hm.push (grown_refl w) ⟨⟨by simp [cc], .inl ⟨rfl, rfl⟩⟩, fun b hb => by simp [Value.ownBlock] at hb⟩ (fun b hb => ?_)
  simp [Blk.nums, Value.ownBlock] at hb
theorem take_push {l : List Int} {k : Nat} {y : Int} (h : l[k]? = some y) : l.take k ++ [y] = l.take (k + 1) := by
  rw [List.take_add_one, h]; rfl
theorem ro_two {w : World} {a1 a2 : Option Addr} {c1 c2 : Con} (h1 : MemOk w [] [.ro a1 c1] w) (h2 : MemOk w [] [.ro a2 c2] w) : MemOk w [] [.ro a1 c1, .ro a2 c2] w :=
  ⟨rfl, rfl, rfl, Nat.le_refl _, fun _ _ _ => rfl, fun e he => by
    rcases List.mem_cons.1 he with rfl | he
    · exact h1.each _ List.mem_cons_self
    · exact h2.each _ he, List.nodup_nil⟩
section
variable {W : World}
def RoOk (W : World) (a : Option Addr) (c : Con) : Prop := ∀ j u, (cc c)[j]? = some u → ∃ b off, a = some ⟨b, off, none⟩ ∧ b < W.heap.size ∧ W.cell? ⟨b, off + j, none⟩ = some u
theorem ro_cons {m : List Blk} {a : Option Addr} {c : Con} (h : MemOk W [] m W) (hr : RoOk W a c) : MemOk W [] (.ro a c :: m) W :=
  ⟨h.os, h.tape, h.output, h.size, h.old, fun x hx => by
    rcases List.mem_cons.1 hx with rfl | hx
    · intro j u hj
      obtain ⟨b, off, g1, g2, g3⟩ := hr j u hj
      exact ⟨b, off, g1, g2, List.not_mem_nil, g3⟩
    · exact h.each x hx, by
    rw [List.flatMap_cons]; exact h.nodup⟩
end
end Go.Proofs.Ytbdigomddnpllaa
namespace Go.Proofs.Ytbdigomddnpllaa
set_option linter.unusedSimpArgs false
set_option linter.unusedVariables false
open Go.RowKit

section
variable {P : Program} {ops : Array Oper} {md : Region.Mode}
def extUpon (P : Program) (w : World) (v : Value) : Result Next → Prop
  | .ok (.value u) w' => w' = w ∧ u = v
  | .ok .skip w' => w' = w ∧ v = undef
  | .ok (.enter f args) w' => w' = w ∧ Calls P f args w (Ret w v)
  | _ => False
def extAt (P : Program) (o : Oper) (a : Act) (w : World) (v : Value) : Prop := extUpon P w v ((execOp a.eval o).run P w)
def ext (P : Program) (o : Oper) (a : Act) (W : World) (K : Act → Prop) : Prop := ∃ v, (∀ p, extAt P o a (gw W p) v) ∧ K (a.put o.dst v)
attribute [go_sem] ext extAt extUpon
end
end Go.Proofs.Ytbdigomddnpllaa
