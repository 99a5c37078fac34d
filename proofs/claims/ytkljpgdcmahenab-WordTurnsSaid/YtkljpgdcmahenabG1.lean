/-
  A symbolic walk of my own: the contracts of package word, as a table.
-/
import Derived.Test.YtkljpgdcmahenabEJ
import Derived.Test.YtkljpgdcmahenabTab
import Derived.Test.YtkljpgdcmahenabWE
namespace Go.Proofs.Ytkljpgdcmahenab
set_option linter.unusedSimpArgs false
set_option linter.unusedVariables false
open Go.RowKit
def g_lw (args : List SV) (_m : List Blk) : CR := match args with | [.int .u64 n] => .pure (0 ≤ n ∧ n ≤ 18446744073709551615) (.word n.toNat) | _ => .none
theorem g_lw_ok (w0 : World) (B : List Nat) (args : List SV) (m : List Blk) : CROk Try.prog w0 B 9 args m (g_lw args m) := by
  unfold g_lw; split
  · rename_i n; exact pure_old Try.func9 rfl rfl (fun h w => by have := w_any n.toNat (by omega) w; rw [Int.toNat_of_nonneg h.1] at this; exact this)
  · exact trivial
def g_From (args : List SV) (_m : List Blk) : CR := match args with | [.int .u64 n] => .pure (0 ≤ n ∧ n ≤ 18446744073709551615) (.word n.toNat) | _ => .none
theorem g_From_ok (w0 : World) (B : List Nat) (args : List SV) (m : List Blk) : CROk Try.prog w0 B 24 args m (g_From args m) := by
  unfold g_From; split
  · rename_i n; exact pure_old Try.func24 rfl rfl (fun h w => by have := from_any n.toNat (by omega) w; rw [Int.toNat_of_nonneg h.1] at this; exact this)
  · exact trivial

def g_minus (args : List SV) (_m : List Blk) : CR := match args with | [.int .u64 n] => .pure (0 < n ∧ n ≤ 18446744073709551615) (.word (W - n.toNat)) | _ => .none
theorem g_minus_ok (w0 : World) (B : List Nat) (args : List SV) (m : List Blk) : CROk Try.prog w0 B 16 args m (g_minus args m) := by
  unfold g_minus; split
  · rename_i n; exact pure_old Try.func16 rfl rfl (fun h w => by have := minus_any n.toNat (by omega) (by omega) w; rw [Int.toNat_of_nonneg (by omega)] at this; exact this)
  · exact trivial
def g_known (args : List SV) (_m : List Blk) : CR := match args with | [] => .pure (True) (.bool true) | _ => .none
theorem g_known_ok (w0 : World) (B : List Nat) (args : List SV) (m : List Blk) : CROk Try.prog w0 B 6 args m (g_known args m) := by
  unfold g_known; split
  · exact pure_old Try.func6 rfl rfl (fun h w => known_any w)
  · exact trivial
def g_Small (args : List SV) (_m : List Blk) : CR := match args with | [.word a] => .pure (a < W) (.tup [.int .u64 (smN a : Nat), .bool (smB a)]) | _ => .none
theorem g_Small_ok (w0 : World) (B : List Nat) (args : List SV) (m : List Blk) : CROk Try.prog w0 B 43 args m (g_Small args m) := by
  unfold g_Small; split
  · rename_i a; exact pure_old Try.func43 rfl rfl (fun h w => small_any a h w)
  · exact trivial
def g_neg (args : List SV) (_m : List Blk) : CR := match args with | [.word a] => .pure (a < W) (.bool (negB a)) | _ => .none
theorem g_neg_ok (w0 : World) (B : List Nat) (args : List SV) (m : List Blk) : CROk Try.prog w0 B 30 args m (g_neg args m) := by
  unfold g_neg; split
  · rename_i a; exact pure_old Try.func30 rfl rfl (fun h w => neg_any a h w)
  · exact trivial

def g_lowByte (args : List SV) (_m : List Blk) : CR := match args with | [.word a, .int .i64 i] => .pure (0 ≤ i ∧ i < 32) (.int .u8 (byN a i.toNat : Nat)) | _ => .none
theorem g_lowByte_ok (w0 : World) (B : List Nat) (args : List SV) (m : List Blk) : CROk Try.prog w0 B 33 args m (g_lowByte args m) := by
  unfold g_lowByte; split
  · rename_i a i; exact pure_old Try.func33 rfl rfl (fun h w => by have := lowByte_any a i.toNat (by omega) w; rw [Int.toNat_of_nonneg h.1] at this; exact this)
  · exact trivial
def g_Shl (args : List SV) (_m : List Blk) : CR := match args with | [.word n, .word a] => .pure (n < W ∧ a < W) (.word (shlM n a)) | _ => .none
theorem g_Shl_ok (w0 : World) (B : List Nat) (args : List SV) (m : List Blk) : CROk Try.prog w0 B 23 args m (g_Shl args m) := by
  unfold g_Shl; split
  · rename_i n a; exact pure_old Try.func23 rfl rfl (fun h w => shlm_any n a h.1 h.2 w)
  · exact trivial
def g_Shr (args : List SV) (_m : List Blk) : CR := match args with | [.word n, .word a] => .pure (n < W ∧ a < W) (.word (shdM n a 0)) | _ => .none
theorem g_Shr_ok (w0 : World) (B : List Nat) (args : List SV) (m : List Blk) : CROk Try.prog w0 B 26 args m (g_Shr args m) := by
  unfold g_Shr; split
  · rename_i n a; exact pure_old Try.func26 rfl rfl (fun h w => shrm_any n a h.1 h.2 w)
  · exact trivial
def g_Sar (args : List SV) (_m : List Blk) : CR := match args with | [.word n, .word a] => .pure (n < W ∧ a < W) (.word (shdM n a (sgF a))) | _ => .none
theorem g_Sar_ok (w0 : World) (B : List Nat) (args : List SV) (m : List Blk) : CROk Try.prog w0 B 18 args m (g_Sar args m) := by
  unfold g_Sar; split
  · rename_i n a; exact pure_old Try.func18 rfl rfl (fun h w => sarm_any n a h.1 h.2 w)
  · exact trivial
def g_Byte (args : List SV) (_m : List Blk) : CR := match args with | [.word n, .word a] => .pure (n < W) (.word (byteN n a)) | _ => .none
theorem g_Byte_ok (w0 : World) (B : List Nat) (args : List SV) (m : List Blk) : CROk Try.prog w0 B 19 args m (g_Byte args m) := by
  unfold g_Byte; split
  · rename_i n a; exact pure_old Try.func19 rfl rfl (fun h w => byte_any n a h w)
  · exact trivial
def g_Extend (args : List SV) (_m : List Blk) : CR := match args with | [.word n, .word a] => .pure (n < W ∧ a < W) (.word (exN n a)) | _ => .none
theorem g_Extend_ok (w0 : World) (B : List Nat) (args : List SV) (m : List Blk) : CROk Try.prog w0 B 17 args m (g_Extend args m) := by
  unfold g_Extend; split
  · rename_i n a; exact pure_old Try.func17 rfl rfl (fun h w => extend_any n a h.1 h.2 w)
  · exact trivial
def g_Cmp (args : List SV) (_m : List Blk) : CR := match args with | [.word a, .word b] => .pure (a < W ∧ b < W) (.int .i64 (cmpI a b)) | _ => .none
theorem g_Cmp_ok (w0 : World) (B : List Nat) (args : List SV) (m : List Blk) : CROk Try.prog w0 B 8 args m (g_Cmp args m) := by
  unfold g_Cmp; split
  · rename_i a b; exact pure_old Try.func8 rfl rfl (fun h w => cmp_any a b h.1 h.2 w)
  · exact trivial

def g_Add (args : List SV) (_m : List Blk) : CR := match args with | [.word a, .word b] => .pure (a < W ∧ b < W) (.tup [.word (addN a b), .bool (addB a b)]) | _ => .none
theorem g_Add_ok (w0 : World) (B : List Nat) (args : List SV) (m : List Blk) : CROk Try.prog w0 B 10 args m (g_Add args m) := by
  unfold g_Add; split
  · rename_i a b; exact pure_old Try.func10 rfl rfl (fun h w => add_any a b h.1 h.2 w)
  · exact trivial
def g_Sub (args : List SV) (_m : List Blk) : CR := match args with | [.word a, .word b] => .pure (a < W ∧ b < W) (.tup [.word (subN a b), .bool (subB a b)]) | _ => .none
theorem g_Sub_ok (w0 : World) (B : List Nat) (args : List SV) (m : List Blk) : CROk Try.prog w0 B 14 args m (g_Sub args m) := by
  unfold g_Sub; split
  · rename_i a b; exact pure_old Try.func14 rfl rfl (fun h w => sub_any a b h.1 h.2 w)
  · exact trivial

def g_Div (args : List SV) (_m : List Blk) : CR := match args with | [.word a, .word b] => .pure (a < W ∧ b < W) (.tup [.word (a / b), .word (rstN a b)]) | _ => .none
theorem g_Div_ok (w0 : World) (B : List Nat) (args : List SV) (m : List Blk) : CROk Try.prog w0 B 7 args m (g_Div args m) := by
  unfold g_Div; split
  · rename_i a b; exact pure_old Try.func7 rfl rfl (fun h w => div_any a b h.1 h.2 w)
  · exact trivial
def g_Sdiv (args : List SV) (_m : List Blk) : CR := match args with | [.word a, .word b] => .pure (a < W ∧ b < W) (.tup [.word (sdQ a b), .word (sdR a b)]) | _ => .none
theorem g_Sdiv_ok (w0 : World) (B : List Nat) (args : List SV) (m : List Blk) : CROk Try.prog w0 B 15 args m (g_Sdiv args m) := by
  unfold g_Sdiv; split
  · rename_i a b; exact pure_old Try.func15 rfl rfl (fun h w => sdiv_any a b h.1 h.2 w)
  · exact trivial
def g_AddMod (args : List SV) (_m : List Blk) : CR := match args with | [.word a, .word b, .word m] => .pure (a < W ∧ b < W ∧ m < W) (.word (rstN (a + b) m)) | _ => .none
theorem g_AddMod_ok (w0 : World) (B : List Nat) (args : List SV) (m : List Blk) : CROk Try.prog w0 B 4 args m (g_AddMod args m) := by
  unfold g_AddMod; split
  · rename_i a b m; exact pure_old Try.func4 rfl rfl (fun h w => addMod_any a b m h.1 h.2.1 h.2.2 w)
  · exact trivial
def g_MulMod (args : List SV) (_m : List Blk) : CR := match args with | [.word a, .word b, .word m] => .pure (a < W ∧ b < W ∧ m < W) (.word (rstN (a * b) m)) | _ => .none
theorem g_MulMod_ok (w0 : World) (B : List Nat) (args : List SV) (m : List Blk) : CROk Try.prog w0 B 5 args m (g_MulMod args m) := by
  unfold g_MulMod; split
  · rename_i a b m; exact pure_old Try.func5 rfl rfl (fun h w => mulMod_any a b m h.1 h.2.1 h.2.2 w)
  · exact trivial
def G1 : Ctr := fun f args m => match f with
  | 9 => g_lw args m
  | 24 => g_From args m
  | 16 => g_minus args m
  | 6 => g_known args m
  | 43 => g_Small args m
  | 30 => g_neg args m
  | 33 => g_lowByte args m
  | 23 => g_Shl args m
  | 26 => g_Shr args m
  | 18 => g_Sar args m
  | 19 => g_Byte args m
  | 17 => g_Extend args m
  | 8 => g_Cmp args m
  | 10 => g_Add args m
  | 14 => g_Sub args m
  | 7 => g_Div args m
  | 15 => g_Sdiv args m
  | 4 => g_AddMod args m
  | 5 => g_MulMod args m
  | _ => .none
theorem G1_ok : GOk Try.prog G1 := by
  intro w0 B f args m; unfold G1; split
  · exact g_lw_ok _ _ _ _
  · exact g_From_ok _ _ _ _
  · exact g_minus_ok _ _ _ _
  · exact g_known_ok _ _ _ _
  · exact g_Small_ok _ _ _ _
  · exact g_neg_ok _ _ _ _
  · exact g_lowByte_ok _ _ _ _
  · exact g_Shl_ok _ _ _ _
  · exact g_Shr_ok _ _ _ _
  · exact g_Sar_ok _ _ _ _
  · exact g_Byte_ok _ _ _ _
  · exact g_Extend_ok _ _ _ _
  · exact g_Cmp_ok _ _ _ _
  · exact g_Add_ok _ _ _ _
  · exact g_Sub_ok _ _ _ _
  · exact g_Div_ok _ _ _ _
  · exact g_Sdiv_ok _ _ _ _
  · exact g_AddMod_ok _ _ _ _
  · exact g_MulMod_ok _ _ _ _
  · exact trivial
theorem G1_lw : G1 9 = g_lw := by funext args m; rfl
theorem G1_From : G1 24 = g_From := by funext args m; rfl
theorem G1_minus : G1 16 = g_minus := by funext args m; rfl
theorem G1_known : G1 6 = g_known := by funext args m; rfl
theorem G1_Small : G1 43 = g_Small := by funext args m; rfl
theorem G1_neg : G1 30 = g_neg := by funext args m; rfl
theorem G1_lowByte : G1 33 = g_lowByte := by funext args m; rfl
theorem G1_Shl : G1 23 = g_Shl := by funext args m; rfl
theorem G1_Shr : G1 26 = g_Shr := by funext args m; rfl
theorem G1_Sar : G1 18 = g_Sar := by funext args m; rfl
theorem G1_Byte : G1 19 = g_Byte := by funext args m; rfl
theorem G1_Extend : G1 17 = g_Extend := by funext args m; rfl
theorem G1_Cmp : G1 8 = g_Cmp := by funext args m; rfl
theorem G1_Add : G1 10 = g_Add := by funext args m; rfl
theorem G1_Sub : G1 14 = g_Sub := by funext args m; rfl
theorem G1_Div : G1 7 = g_Div := by funext args m; rfl
theorem G1_Sdiv : G1 15 = g_Sdiv := by funext args m; rfl
theorem G1_AddMod : G1 4 = g_AddMod := by funext args m; rfl
theorem G1_MulMod : G1 5 = g_MulMod := by funext args m; rfl

end Go.Proofs.Ytkljpgdcmahenab
