/-
  A symbolic walk of my own: the contracts of package word, as a table.
-/
import Derived.Test.YtdanlclhnehieaaEI
import Derived.Test.YtdanlclhnehieaaTab
import Derived.Test.YtdanlclhnehieaaWC
namespace Go.Proofs.Ytdanlclhnehieaa
set_option linter.unusedSimpArgs false
set_option linter.unusedVariables false
set_option linter.defProp false
open Go.RowKit
def g_Cmp (args : List SV) (_m : List Blk) : CR := match args with | [.word a, .word b] => .pure (a < W ∧ b < W) (.int .i64 (cmpI a b)) | _ => .none
theorem g_Cmp_ok (w0 : World) (B : List Nat) (args : List SV) (m : List Blk) : CROk Try.prog w0 B 28 args m (g_Cmp args m) := by
  unfold g_Cmp; split
  · rename_i a b; exact pure_old Try.func28 rfl rfl (fun h w => cmp_any a b h.1 h.2 w)
  · exact trivial
def g_Sub (args : List SV) (_m : List Blk) : CR := match args with | [.word a, .word b] => .pure (a < W ∧ b < W) (.tup [.word (subN a b), .bool (subB a b)]) | _ => .none
theorem g_Sub_ok (w0 : World) (B : List Nat) (args : List SV) (m : List Blk) : CROk Try.prog w0 B 35 args m (g_Sub args m) := by
  unfold g_Sub; split
  · rename_i a b; exact pure_old Try.func35 rfl rfl (fun h w => sub_any a b h.1 h.2 w)
  · exact trivial
noncomputable def G1 : Ctr := fun f args m => match f with
  | 28 => g_Cmp args m
  | 35 => g_Sub args m
  | _ => .none
theorem G1_ok : GOk Try.prog G1 := by
  intro w0 B f args m; unfold G1; split
  · exact g_Cmp_ok _ _ _ _
  · exact g_Sub_ok _ _ _ _
  · exact trivial
theorem G1_Cmp : G1 28 = g_Cmp := by funext args m; rfl
theorem G1_Sub : G1 35 = g_Sub := by funext args m; rfl
def G1_set := And.intro (And.intro (@G1_Cmp) (@g_Cmp.eq_def)) (And.intro (@G1_Sub) (@g_Sub.eq_def))

end Go.Proofs.Ytdanlclhnehieaa

/-
  A symbolic walk of my own: contracts of functions that are handed slices of the caller's memory.
-/
namespace Go.Proofs.Ytdanlclhnehieaa
set_option linter.unusedSimpArgs false
set_option linter.unusedVariables false
set_option linter.defProp false
open Go.RowKit
end Go.Proofs.Ytdanlclhnehieaa
