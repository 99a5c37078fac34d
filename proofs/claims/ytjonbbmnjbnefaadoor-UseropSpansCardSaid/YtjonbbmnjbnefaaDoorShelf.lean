/-
 Contracts of math/bits at this translation, off the library.
-/
import Derived.Test.YtjonbbmnjbnefaaDoorBase
import Derived.Shelf.Small.Bits
import Derived.Shelf.Strconv.Itoa0
import Derived.Shelf.Bits.Mul64
import Derived.Test.YtjonbbmnjbnefaaDoorProg
set_option maxRecDepth 10000
set_option linter.unusedVariables false
set_option linter.unusedSimpArgs false
namespace Go.Proofs.YtjonbbmnjbnefaaDoor
open Go.RowKit

section
variable {P : Program} {ops : Array Oper} {md : Region.Mode}
def extUpon (P : Program) (w : World) (v : Value) : Result Next → Prop
 | .ok (.value u) w' => w' = w ∧ u = v
 | .ok .skip w' => w' = w ∧ v = undef
 | .ok (.enter f args) w' => w' = w ∧ Calls P f args w (Ret w v)
 | _ => False
def extAt (P : Program) (o : Oper) (a : Act) (w : World) (v : Value) : Prop := extUpon P w v ((execOp a.eval o).run P w)
def ext (P : Program) (o : Oper) (a : Act) (W : World) (K : Act → Prop) : Prop := ∃ v, (∀ p, extAt P o a (gw W p) v) ∧ K (a.put o.dst v)
attribute [go_sem] ext extAt extUpon
def EYields (P : Program) (ops : Array Oper) (W : World) (o : Oper) (v : Value) (a : Act) : Prop :=
 (Region.wanted o (yielded ops a.tmps) = true ∧ ∀ p, extAt P o a (gw W p) v) ∨ (Region.wanted o (yielded ops a.tmps) = false ∧ v = undef)
theorem gw_alloc_gw (W : World) (p p' : Gro) (o : Obj) : gw ((gw W p).alloc o) p' = gw W ⟨p'.d, p.os ++ #[o] ++ p'.os⟩ := by
 simp only [gw, World.alloc, Array.push_eq_append, Array.append_assoc]
theorem EYields.later {o : Oper} {v : Value} {a : Act} {W : World} (hy : EYields P ops W o v a) (p : Gro) (ob : Obj) : EYields P ops ((gw W p).alloc ob) o v a := by
 rcases hy with ⟨hw, hv⟩ | h
 ·exact .inl ⟨hw, fun p' => by rw [gw_alloc_gw]; exact hv _⟩
 ·exact .inr h
end
end Go.Proofs.YtjonbbmnjbnefaaDoor
namespace Go.Proofs
open Go.Shelf
def Tryd.lays264_ren : Go.Shelf.Ren := ⟨fun | 264 => 133 | n => n, fun | 53 => 24 | 46 => 102 | n => n, fun | n => n⟩
theorem Tryd.lays264 : Go.Proofs.Lays.n264 Tryd.prog Tryd.lays264_ren := {
 mixed := by kernel_rfl
 f264 := Tryd.func133.trans (congrArg some (by kernel_rfl))
 t46 := Tryd.underlying102
 a46 := Tryd.isAgg102
 z46 := Tryd.sizeOf102
 v46 := Tryd.zeroValue102
 t53 := Tryd.underlying24
 a53 := Tryd.isAgg24
 z53 := Tryd.sizeOf24
 v53 := Tryd.zeroValue24 }
open Go.RowKit Go.Lib in
theorem Tryd.bits_Mul64 (x y : Nat) (hx : x < 18446744073709551616) (hy : y < 18446744073709551616) (w : World) :
  Calls Tryd.prog 133 #[.int .u64 x, .int .u64 y] w fun e w' => e = .returned (.tuple #[.int .u64 ((x * y / 18446744073709551616 : Nat) : Int), .int .u64 ((x * y % 18446744073709551616 : Nat) : Int)]) ∧ w' = w := Any.bits_Mul64 Tryd.lays264 x y hx hy w
end Go.Proofs
