/-
  A symbolic walk of my own: the contracts of package word, as a table.
-/
import Derived.Test.YtnncomlliobobaaDoorEI
import Derived.Test.YtnncomlliobobaaDoorTab
import Derived.Test.YtnncomlliobobaaDoorWE
namespace Go.Proofs.YtnncomlliobobaaDoor
set_option linter.unusedSimpArgs false
set_option linter.unusedVariables false
set_option maxRecDepth 10000
open Go.RowKit
def g_lowByte (args : List SV) (_m : List Blk) : CR := match args with | [.word a, .int .i64 i] => .pure (0 ≤ i ∧ i < 32) (.int .u8 (byN a i.toNat : Nat)) | _ => .none
theorem g_lowByte_ok (w0 : World) (B : List Nat) (args : List SV) (m : List Blk) : CROk Tryd.prog w0 B 30 args m (g_lowByte args m) := by
  unfold g_lowByte; split
  · rename_i a i; exact pure_old Tryd.func30 rfl rfl (fun h w => by have := lowByte_any a i.toNat (by omega) w; rw [Int.toNat_of_nonneg h.1] at this; exact this)
  · exact trivial
def G1 : Ctr := fun f args m => match f with
  | 30 => g_lowByte args m
  | _ => .none
theorem G1_ok : GOk Tryd.prog G1 := by
  intro w0 B f args m; unfold G1; split
  · exact g_lowByte_ok _ _ _ _
  · exact trivial
theorem G1_lowByte : G1 30 = g_lowByte := by funext args m; rfl

end Go.Proofs.YtnncomlliobobaaDoor

/-
  A symbolic walk of my own: contracts of functions that are handed slices of the caller's memory.
-/
namespace Go.Proofs.YtnncomlliobobaaDoor
set_option linter.unusedSimpArgs false
set_option linter.unusedVariables false
set_option maxRecDepth 10000
open Go.RowKit
theorem cc_word (a : Nat) : cc (.words [a]) = (U64s (V4 a)).toList := by
  simp [cc, U64s, V4, wcs]
def g_length (args : List SV) (m : List Blk) : CR :=
  match args with
  | [.sl nm a st st0 es len cap] => match bget m nm with
    | .blk b t (.words [x]) => .pure (a = some ⟨b, 0, none⟩ ∧ st = 0 ∧ st0 = 0 ∧ es = 1 ∧ len = 4) (.int .i64 (topN (V4 x) 4 : Nat))
    | _ => .none
  | _ => .none
def G2 : Ctr := fun f args m => match f with
  | 30 => g_lowByte args m
  | _ => .none
theorem G2_ok : GOk Tryd.prog G2 := by
  intro w0 B f args m; unfold G2; split
  · exact g_lowByte_ok _ _ _ _
  · exact trivial
theorem G2_lowByte : G2 30 = g_lowByte := by funext args m; rfl

end Go.Proofs.YtnncomlliobobaaDoor
