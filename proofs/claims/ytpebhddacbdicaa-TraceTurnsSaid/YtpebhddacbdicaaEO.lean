/-
 A symbolic walk of my own: a small region whose order is drawn, walked in each of its orders.
-/
import Derived.Test.YtpebhddacbdicaaEI
import Derived.Test.YtpebhddacbdicaaTab
import Derived.Test.YtpebhddacbdicaaWC
set_option linter.defProp false
set_option linter.unusedVariables false
set_option linter.unusedSimpArgs false
namespace Go.Proofs.Ytpebhddacbdicaa
open Go.RowKit
def g_From (args : List SV) (_m : List Blk) : CR := match args with | [.int .u64 n] => .pure (0 ≤ n ∧ n ≤ 18446744073709551615) (.word n.toNat) | _ => .none
theorem g_From_ok (w0 : World) (B : List Nat) (args : List SV) (m : List Blk) : CROk Try.prog w0 B 29 args m (g_From args m) := by
 unfold g_From; split
 ·rename_i n; exact pure_old Try.func29 rfl rfl (fun h w => by have := from_any n.toNat (by omega) w; rw [Int.toNat_of_nonneg h.1] at this; exact this)
 ·exact trivial
def g_rFrom (args : List SV) (_m : List Blk) : CR := match args with | [.int .u64 n] => .pure (0 ≤ n ∧ n ≤ 18446744073709551615) (.word n.toNat) | _ => .none
theorem g_rFrom_ok (w0 : World) (B : List Nat) (args : List SV) (m : List Blk) : CROk Try.prog w0 B 63 args m (g_rFrom args m) := by
 unfold g_rFrom; split
 ·rename_i n; exact pure_old Try.func63 rfl rfl (fun h w => by have := rfrom_any n.toNat (by omega) w; rw [Int.toNat_of_nonneg h.1] at this; exact this)
 ·exact trivial
def g_lowByte (args : List SV) (_m : List Blk) : CR := match args with | [.word a, .int .i64 i] => .pure (0 ≤ i ∧ i < 32) (.int .u8 (byN a i.toNat : Nat)) | _ => .none
theorem g_lowByte_ok (w0 : World) (B : List Nat) (args : List SV) (m : List Blk) : CROk Try.prog w0 B 45 args m (g_lowByte args m) := by
 unfold g_lowByte; split
 ·rename_i a i; exact pure_old Try.func45 rfl rfl (fun h w => by have := lowByte_any a i.toNat (by omega) w; rw [Int.toNat_of_nonneg h.1] at this; exact this)
 ·exact trivial
def g_Cmp (args : List SV) (_m : List Blk) : CR := match args with | [.word a, .word b] => .pure (a < W ∧ b < W) (.int .i64 (cmpI a b)) | _ => .none
theorem g_Cmp_ok (w0 : World) (B : List Nat) (args : List SV) (m : List Blk) : CROk Try.prog w0 B 28 args m (g_Cmp args m) := by
 unfold g_Cmp; split
 ·rename_i a b; exact pure_old Try.func28 rfl rfl (fun h w => cmp_any a b h.1 h.2 w)
 ·exact trivial
def g_Sub (args : List SV) (_m : List Blk) : CR := match args with | [.word a, .word b] => .pure (a < W ∧ b < W) (.tup [.word (subN a b), .bool (subB a b)]) | _ => .none
theorem g_Sub_ok (w0 : World) (B : List Nat) (args : List SV) (m : List Blk) : CROk Try.prog w0 B 27 args m (g_Sub args m) := by
 unfold g_Sub; split
 ·rename_i a b; exact pure_old Try.func27 rfl rfl (fun h w => sub_any a b h.1 h.2 w)
 ·exact trivial
noncomputable def G1 : Ctr := fun f args m => match f with
 | 29 => g_From args m
 | 63 => g_rFrom args m
 | 45 => g_lowByte args m
 | 28 => g_Cmp args m
 | 27 => g_Sub args m
 | _ => .none
theorem G1_ok : GOk Try.prog G1 := by
 intro w0 B f args m; unfold G1; split
 ·exact g_From_ok _ _ _ _
 ·exact g_rFrom_ok _ _ _ _
 ·exact g_lowByte_ok _ _ _ _
 ·exact g_Cmp_ok _ _ _ _
 ·exact g_Sub_ok _ _ _ _
 ·exact trivial
theorem G1_From : G1 29 = g_From := by funext args m; rfl
theorem G1_rFrom : G1 63 = g_rFrom := by funext args m; rfl
theorem G1_lowByte : G1 45 = g_lowByte := by funext args m; rfl
theorem G1_Cmp : G1 28 = g_Cmp := by funext args m; rfl
theorem G1_Sub : G1 27 = g_Sub := by funext args m; rfl
def G1_set := And.intro (And.intro (And.intro (@G1_From) (@g_From.eq_def)) (And.intro (@G1_rFrom) (And.intro (@g_rFrom.eq_def) (@G1_lowByte)))) (And.intro (And.intro (@g_lowByte.eq_def) (@G1_Cmp)) (And.intro (@g_Cmp.eq_def) (And.intro (@G1_Sub) (@g_Sub.eq_def))))

end Go.Proofs.Ytpebhddacbdicaa

/-
 A symbolic walk of my own: contracts of functions that are handed slices of the caller's memory.
-/
namespace Go.Proofs.Ytpebhddacbdicaa
open Go.RowKit
noncomputable def G2 : Ctr := fun f args m => match f with
 | 29 => g_From args m
 | 63 => g_rFrom args m
 | 45 => g_lowByte args m
 | 28 => g_Cmp args m
 | 27 => g_Sub args m
 | _ => .none
theorem G2_ok : GOk Try.prog G2 := by
 intro w0 B f args m; unfold G2; split
 ·exact g_From_ok _ _ _ _
 ·exact g_rFrom_ok _ _ _ _
 ·exact g_lowByte_ok _ _ _ _
 ·exact g_Cmp_ok _ _ _ _
 ·exact g_Sub_ok _ _ _ _
 ·exact trivial
theorem G2_From : G2 29 = g_From := by funext args m; rfl
theorem G2_rFrom : G2 63 = g_rFrom := by funext args m; rfl
theorem G2_lowByte : G2 45 = g_lowByte := by funext args m; rfl
theorem G2_Cmp : G2 28 = g_Cmp := by funext args m; rfl
theorem G2_Sub : G2 27 = g_Sub := by funext args m; rfl
def G2_set := And.intro (And.intro (And.intro (@G2_From) (@g_From.eq_def)) (And.intro (@G2_rFrom) (And.intro (@g_rFrom.eq_def) (@G2_lowByte)))) (And.intro (And.intro (@g_lowByte.eq_def) (@G2_Cmp)) (And.intro (@g_Cmp.eq_def) (And.intro (@G2_Sub) (@g_Sub.eq_def))))

end Go.Proofs.Ytpebhddacbdicaa
namespace Go.Proofs.Ytpebhddacbdicaa
open Go.RowKit

section
variable {T : Tab} {G : Ctr} {m m' : List Blk} {t : Tok} {N : Tok → SV → List Blk → Prop} {K : Tok → List SV → List Blk → Prop} {all l l' : List Oper} {o : Oper} {env env' e e' : List SV} {s : List Nat} {S : List (List Nat)}
end
end Go.Proofs.Ytpebhddacbdicaa
