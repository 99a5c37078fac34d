/-
  The document's answers for words (quaestorref01), walked: Neg, Sub, Scmp, bit; their table.
-/
import Derived.Test.YtbdigomddnpllaaR2
import Derived.Test.YtbdigomddnpllaaG1
import Derived.Test.YtbdigomddnpllaaLB
import Derived.Laws.Bits64b
namespace Go.Proofs.Ytbdigomddnpllaa
set_option linter.unusedSimpArgs false
set_option linter.unusedVariables false
set_option maxHeartbeats 4000000
set_option linter.defProp false
open Go.RowKit
def g_rCmp (args : List SV) (_m : List Blk) : CR := match args with | [.word a, .word b] => .pure (a < W ∧ b < W) (.int .i64 (cmpI a b)) | _ => .none
theorem g_rCmp_ok (w0 : World) (B : List Nat) (args : List SV) (m : List Blk) : CROk Try.prog w0 B 52 args m (g_rCmp args m) := by
  unfold g_rCmp; split
  · rename_i a b; exact fun h w _ => calls_pure Try.func52 rfl rfl (cmp_vc a b h.1 h.2 w)
  · exact trivial
noncomputable def G7 : Ctr := fun f args m => match f with
  | 29 => g_From args m
  | 63 => g_rFrom args m
  | 45 => g_lowByte args m
  | 28 => g_Cmp args m
  | 27 => g_Sub args m
  | 44 => g_Read args m
  | 54 => g_Addr args m
  | 21 => g_Wide args m
  | 22 => g_Bytes args m
  | 52 => g_rCmp args m
  | _ => .none
theorem G7_ok : GOk Try.prog G7 := by
  intro w0 B f args m; unfold G7; split
  · exact g_From_ok _ _ _ _
  · exact g_rFrom_ok _ _ _ _
  · exact g_lowByte_ok _ _ _ _
  · exact g_Cmp_ok _ _ _ _
  · exact g_Sub_ok _ _ _ _
  · exact g_Read_ok _ _ _ _
  · exact g_Addr_ok _ _ _ _
  · exact g_Wide_ok _ _ _ _
  · exact g_Bytes_ok _ _ _ _
  · exact g_rCmp_ok _ _ _ _
  · exact trivial
theorem G7_From : G7 29 = g_From := by funext args m; rfl
theorem G7_rFrom : G7 63 = g_rFrom := by funext args m; rfl
theorem G7_lowByte : G7 45 = g_lowByte := by funext args m; rfl
theorem G7_Cmp : G7 28 = g_Cmp := by funext args m; rfl
theorem G7_Sub : G7 27 = g_Sub := by funext args m; rfl
theorem G7_Read : G7 44 = g_Read := by funext args m; rfl
theorem G7_Addr : G7 54 = g_Addr := by funext args m; rfl
theorem G7_Wide : G7 21 = g_Wide := by funext args m; rfl
theorem G7_Bytes : G7 22 = g_Bytes := by funext args m; rfl
theorem G7_rCmp : G7 52 = g_rCmp := by funext args m; rfl
def G7_set := And.intro (And.intro (And.intro (And.intro (@G7_From) (@g_From.eq_def)) (And.intro (@G7_rFrom) (And.intro (@g_rFrom.eq_def) (@G7_lowByte)))) (And.intro (And.intro (@g_lowByte.eq_def) (@G7_Cmp)) (And.intro (@g_Cmp.eq_def) (And.intro (@G7_Sub) (@g_Sub.eq_def))))) (And.intro (And.intro (And.intro (@G7_Read) (@g_Read.eq_def)) (And.intro (@G7_Addr) (And.intro (@g_Addr.eq_def) (@G7_Wide)))) (And.intro (And.intro (@g_Wide.eq_def) (@G7_Bytes)) (And.intro (@g_Bytes.eq_def) (And.intro (@G7_rCmp) (@g_rCmp.eq_def)))))

end Go.Proofs.Ytbdigomddnpllaa
