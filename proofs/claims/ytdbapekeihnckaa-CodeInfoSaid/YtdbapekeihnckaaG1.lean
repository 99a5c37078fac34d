/-
  A symbolic walk of my own: the contracts of package word, as a table.
-/
import Derived.Test.YtdbapekeihnckaaEI
import Derived.Test.YtdbapekeihnckaaTab
import Derived.Test.YtdbapekeihnckaaWE
namespace Go.Proofs.Ytdbapekeihnckaa
set_option linter.unusedSimpArgs false
set_option linter.unusedVariables false
open Go.RowKit
def G1 : Ctr := fun f args m => match f with
  | _ => .none
theorem G1_ok : GOk Try.prog G1 := by
  intro w0 B f args m; unfold G1; split
  · exact trivial

end Go.Proofs.Ytdbapekeihnckaa

/-
  A symbolic walk of my own: contracts of functions that are handed slices of the caller's memory.
-/
namespace Go.Proofs.Ytdbapekeihnckaa
set_option linter.unusedSimpArgs false
set_option linter.unusedVariables false
open Go.RowKit
theorem cc_word (a : Nat) : cc (.words [a]) = (U64s (V4 a)).toList := by
  simp [cc, U64s, V4, wcs]
def g_length (args : List SV) (m : List Blk) : CR :=
  match args with
  | [.sl nm a st st0 es len cap] => match bget m nm with
    | .blk b t (.words [x]) => .pure (a = some ⟨b, 0, none⟩ ∧ st = 0 ∧ st0 = 0 ∧ es = 1 ∧ len = 4) (.int .i64 (topN (V4 x) 4 : Nat))
    | _ => .none
  | _ => .none
def G2 : Ctr := fun f args m => match f with
  | _ => .none
theorem G2_ok : GOk Try.prog G2 := by
  intro w0 B f args m; unfold G2; split
  · exact trivial

end Go.Proofs.Ytdbapekeihnckaa
