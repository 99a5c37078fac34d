/-
  A symbolic walk of my own: the contracts of package word, as a table.
-/
import Derived.Test.YtdkhlcoklihpfaaDoorEI
import Derived.Test.YtdkhlcoklihpfaaDoorTab
import Derived.Test.YtdkhlcoklihpfaaDoorWE
namespace Go.Proofs.YtdkhlcoklihpfaaDoor
set_option linter.unusedSimpArgs false
set_option linter.unusedVariables false
set_option maxRecDepth 10000
set_option linter.defProp false
open Go.RowKit
def g_From (args : List SV) (_m : List Blk) : CR := match args with | [.int .u64 n] => .pure (0 ≤ n ∧ n ≤ 18446744073709551615) (.word n.toNat) | _ => .none
theorem g_From_ok (w0 : World) (B : List Nat) (args : List SV) (m : List Blk) : CROk Tryd.prog w0 B 35 args m (g_From args m) := by
  unfold g_From; split
  · rename_i n; exact pure_old Tryd.func35 rfl rfl (fun h w => by have := from_any n.toNat (by omega) w; rw [Int.toNat_of_nonneg h.1] at this; exact this)
  · exact trivial
def g_rFrom (args : List SV) (_m : List Blk) : CR := match args with | [.int .u64 n] => .pure (0 ≤ n ∧ n ≤ 18446744073709551615) (.word n.toNat) | _ => .none
theorem g_rFrom_ok (w0 : World) (B : List Nat) (args : List SV) (m : List Blk) : CROk Tryd.prog w0 B 25 args m (g_rFrom args m) := by
  unfold g_rFrom; split
  · rename_i n; exact pure_old Tryd.func25 rfl rfl (fun h w => by have := rfrom_any n.toNat (by omega) w; rw [Int.toNat_of_nonneg h.1] at this; exact this)
  · exact trivial
def g_Small (args : List SV) (_m : List Blk) : CR := match args with | [.word a] => .pure (a < W) (.tup [.int .u64 (smN a : Nat), .bool (smB a)]) | _ => .none
theorem g_Small_ok (w0 : World) (B : List Nat) (args : List SV) (m : List Blk) : CROk Tryd.prog w0 B 57 args m (g_Small args m) := by
  unfold g_Small; split
  · rename_i a; exact pure_old Tryd.func57 rfl rfl (fun h w => small_any a h w)
  · exact trivial
def g_lowByte (args : List SV) (_m : List Blk) : CR := match args with | [.word a, .int .i64 i] => .pure (0 ≤ i ∧ i < 32) (.int .u8 (byN a i.toNat : Nat)) | _ => .none
theorem g_lowByte_ok (w0 : World) (B : List Nat) (args : List SV) (m : List Blk) : CROk Tryd.prog w0 B 32 args m (g_lowByte args m) := by
  unfold g_lowByte; split
  · rename_i a i; exact pure_old Tryd.func32 rfl rfl (fun h w => by have := lowByte_any a i.toNat (by omega) w; rw [Int.toNat_of_nonneg h.1] at this; exact this)
  · exact trivial
noncomputable def G1 : Ctr := fun f args m => match f with
  | 35 => g_From args m
  | 25 => g_rFrom args m
  | 57 => g_Small args m
  | 32 => g_lowByte args m
  | _ => .none
theorem G1_ok : GOk Tryd.prog G1 := by
  intro w0 B f args m; unfold G1; split
  · exact g_From_ok _ _ _ _
  · exact g_rFrom_ok _ _ _ _
  · exact g_Small_ok _ _ _ _
  · exact g_lowByte_ok _ _ _ _
  · exact trivial
theorem G1_From : G1 35 = g_From := by funext args m; rfl
theorem G1_rFrom : G1 25 = g_rFrom := by funext args m; rfl
theorem G1_Small : G1 57 = g_Small := by funext args m; rfl
theorem G1_lowByte : G1 32 = g_lowByte := by funext args m; rfl
def G1_set := And.intro (And.intro (And.intro (@G1_From) (@g_From.eq_def)) (And.intro (@G1_rFrom) (@g_rFrom.eq_def))) (And.intro (And.intro (@G1_Small) (@g_Small.eq_def)) (And.intro (@G1_lowByte) (@g_lowByte.eq_def)))

end Go.Proofs.YtdkhlcoklihpfaaDoor

/-
  A symbolic walk of my own: contracts of functions that are handed slices of the caller's memory.
-/
namespace Go.Proofs.YtdkhlcoklihpfaaDoor
set_option linter.unusedSimpArgs false
set_option linter.unusedVariables false
set_option maxRecDepth 10000
set_option linter.defProp false
open Go.RowKit
theorem cc_word (a : Nat) : cc (.words [a]) = (U64s (V4 a)).toList := by
  simp [cc, U64s, V4, wcs]
def g_length (args : List SV) (m : List Blk) : CR :=
  match args with
  | [.sl nm a st st0 es len cap] => match bget m nm with
    | .blk b t (.words [x]) => .pure (a = some ⟨b, 0, none⟩ ∧ st = 0 ∧ st0 = 0 ∧ es = 1 ∧ len = 4) (.int .i64 (topN (V4 x) 4 : Nat))
    | _ => .none
  | _ => .none
noncomputable def G2 : Ctr := fun f args m => match f with
  | 35 => g_From args m
  | 25 => g_rFrom args m
  | 57 => g_Small args m
  | 32 => g_lowByte args m
  | _ => .none
theorem G2_ok : GOk Tryd.prog G2 := by
  intro w0 B f args m; unfold G2; split
  · exact g_From_ok _ _ _ _
  · exact g_rFrom_ok _ _ _ _
  · exact g_Small_ok _ _ _ _
  · exact g_lowByte_ok _ _ _ _
  · exact trivial
theorem G2_From : G2 35 = g_From := by funext args m; rfl
theorem G2_rFrom : G2 25 = g_rFrom := by funext args m; rfl
theorem G2_Small : G2 57 = g_Small := by funext args m; rfl
theorem G2_lowByte : G2 32 = g_lowByte := by funext args m; rfl
def G2_set := And.intro (And.intro (And.intro (@G2_From) (@g_From.eq_def)) (And.intro (@G2_rFrom) (@g_rFrom.eq_def))) (And.intro (And.intro (@G2_Small) (@g_Small.eq_def)) (And.intro (@G2_lowByte) (@g_lowByte.eq_def)))

end Go.Proofs.YtdkhlcoklihpfaaDoor
