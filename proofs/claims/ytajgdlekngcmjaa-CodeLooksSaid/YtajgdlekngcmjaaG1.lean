/-
  A symbolic walk of my own: the contracts of package word, as a table.
-/
import Derived.Test.YtajgdlekngcmjaaEI
import Derived.Test.YtajgdlekngcmjaaTab
import Derived.Test.YtajgdlekngcmjaaWE
namespace Go.Proofs.Ytajgdlekngcmjaa
set_option linter.unusedSimpArgs false
set_option linter.unusedVariables false
open Go.RowKit
def g_From (args : List SV) (_m : List Blk) : CR := match args with | [.int .u64 n] => .pure (0 ≤ n ∧ n ≤ 18446744073709551615) (.word n.toNat) | _ => .none
theorem g_From_ok (w0 : World) (B : List Nat) (args : List SV) (m : List Blk) : CROk Try.prog w0 B 29 args m (g_From args m) := by
  unfold g_From; split
  · rename_i n; exact pure_old Try.func29 rfl rfl (fun h w => by have := from_any n.toNat (by omega) w; rw [Int.toNat_of_nonneg h.1] at this; exact this)
  · exact trivial
def g_Small (args : List SV) (_m : List Blk) : CR := match args with | [.word a] => .pure (a < W) (.tup [.int .u64 (smN a : Nat), .bool (smB a)]) | _ => .none
theorem g_Small_ok (w0 : World) (B : List Nat) (args : List SV) (m : List Blk) : CROk Try.prog w0 B 26 args m (g_Small args m) := by
  unfold g_Small; split
  · rename_i a; exact pure_old Try.func26 rfl rfl (fun h w => small_any a h w)
  · exact trivial
def G1 : Ctr := fun f args m => match f with
  | 29 => g_From args m
  | 26 => g_Small args m
  | _ => .none
theorem G1_ok : GOk Try.prog G1 := by
  intro w0 B f args m; unfold G1; split
  · exact g_From_ok _ _ _ _
  · exact g_Small_ok _ _ _ _
  · exact trivial
theorem G1_From : G1 29 = g_From := by funext args m; rfl
theorem G1_Small : G1 26 = g_Small := by funext args m; rfl

end Go.Proofs.Ytajgdlekngcmjaa

/-
  A symbolic walk of my own: contracts of functions that are handed slices of the caller's memory.
-/
namespace Go.Proofs.Ytajgdlekngcmjaa
set_option linter.unusedSimpArgs false
set_option linter.unusedVariables false
open Go.RowKit
theorem cc_word (a : Nat) : cc (.words [a]) = (U64s (V4 a)).toList := by
  simp [cc, U64s, V4, wcs]
def g_length (args : List SV) (m : List Blk) : CR :=
  match args with
  | [.sl nm a st st0 es len cap] => match bget m nm with
    | .blk b t (.words [x]) => .pure (a = some ⟨b, 0, none⟩ ∧ st = 0 ∧ st0 = 0 ∧ es = 1 ∧ len = 4) (.int .i64 (topN (V4 x) 4 : Nat))
    | _ => .none
  | _ => .none
def G2 : Ctr := fun f args m => match f with
  | 29 => g_From args m
  | 26 => g_Small args m
  | _ => .none
theorem G2_ok : GOk Try.prog G2 := by
  intro w0 B f args m; unfold G2; split
  · exact g_From_ok _ _ _ _
  · exact g_Small_ok _ _ _ _
  · exact trivial
theorem G2_From : G2 29 = g_From := by funext args m; rfl
theorem G2_Small : G2 26 = g_Small := by funext args m; rfl

end Go.Proofs.Ytajgdlekngcmjaa
