/-
  A symbolic walk of my own: the contracts of package word, as a table.
-/
import Derived.Test.YtgmlabdcfbeijaaEI
import Derived.Test.YtgmlabdcfbeijaaTab
import Derived.Test.YtgmlabdcfbeijaaWE
namespace Go.Proofs.Ytgmlabdcfbeijaa
set_option linter.unusedSimpArgs false
set_option linter.unusedVariables false
open Go.RowKit
def g_lw (args : List SV) (_m : List Blk) : CR := match args with | [.int .u64 n] => .pure (0 ≤ n ∧ n ≤ 18446744073709551615) (.word n.toNat) | _ => .none
theorem g_lw_ok (w0 : World) (B : List Nat) (args : List SV) (m : List Blk) : CROk Try.prog w0 B 37 args m (g_lw args m) := by
  unfold g_lw; split
  · rename_i n; exact pure_old Try.func37 rfl rfl (fun h w => by have := w_any n.toNat (by omega) w; rw [Int.toNat_of_nonneg h.1] at this; exact this)
  · exact trivial
def g_From (args : List SV) (_m : List Blk) : CR := match args with | [.int .u64 n] => .pure (0 ≤ n ∧ n ≤ 18446744073709551615) (.word n.toNat) | _ => .none
theorem g_From_ok (w0 : World) (B : List Nat) (args : List SV) (m : List Blk) : CROk Try.prog w0 B 36 args m (g_From args m) := by
  unfold g_From; split
  · rename_i n; exact pure_old Try.func36 rfl rfl (fun h w => by have := from_any n.toNat (by omega) w; rw [Int.toNat_of_nonneg h.1] at this; exact this)
  · exact trivial
def g_rFrom (args : List SV) (_m : List Blk) : CR := match args with | [.int .u64 n] => .pure (0 ≤ n ∧ n ≤ 18446744073709551615) (.word n.toNat) | _ => .none
theorem g_rFrom_ok (w0 : World) (B : List Nat) (args : List SV) (m : List Blk) : CROk Try.prog w0 B 60 args m (g_rFrom args m) := by
  unfold g_rFrom; split
  · rename_i n; exact pure_old Try.func60 rfl rfl (fun h w => by have := rfrom_any n.toNat (by omega) w; rw [Int.toNat_of_nonneg h.1] at this; exact this)
  · exact trivial
def g_minus (args : List SV) (_m : List Blk) : CR := match args with | [.int .u64 n] => .pure (0 < n ∧ n ≤ 18446744073709551615) (.word (W - n.toNat)) | _ => .none
theorem g_minus_ok (w0 : World) (B : List Nat) (args : List SV) (m : List Blk) : CROk Try.prog w0 B 54 args m (g_minus args m) := by
  unfold g_minus; split
  · rename_i n; exact pure_old Try.func54 rfl rfl (fun h w => by have := minus_any n.toNat (by omega) (by omega) w; rw [Int.toNat_of_nonneg (by omega)] at this; exact this)
  · exact trivial
def g_known (args : List SV) (_m : List Blk) : CR := match args with | [] => .pure (True) (.bool true) | _ => .none
theorem g_known_ok (w0 : World) (B : List Nat) (args : List SV) (m : List Blk) : CROk Try.prog w0 B 12 args m (g_known args m) := by
  unfold g_known; split
  · exact pure_old Try.func12 rfl rfl (fun h w => known_any w)
  · exact trivial
def g_Small (args : List SV) (_m : List Blk) : CR := match args with | [.word a] => .pure (a < W) (.tup [.int .u64 (smN a : Nat), .bool (smB a)]) | _ => .none
theorem g_Small_ok (w0 : World) (B : List Nat) (args : List SV) (m : List Blk) : CROk Try.prog w0 B 29 args m (g_Small args m) := by
  unfold g_Small; split
  · rename_i a; exact pure_old Try.func29 rfl rfl (fun h w => small_any a h w)
  · exact trivial
def g_neg (args : List SV) (_m : List Blk) : CR := match args with | [.word a] => .pure (a < W) (.bool (negB a)) | _ => .none
theorem g_neg_ok (w0 : World) (B : List Nat) (args : List SV) (m : List Blk) : CROk Try.prog w0 B 50 args m (g_neg args m) := by
  unfold g_neg; split
  · rename_i a; exact pure_old Try.func50 rfl rfl (fun h w => neg_any a h w)
  · exact trivial
def g_rneg (args : List SV) (_m : List Blk) : CR := match args with | [.word a] => .pure (a < W) (.bool (negB a)) | _ => .none
theorem g_rneg_ok (w0 : World) (B : List Nat) (args : List SV) (m : List Blk) : CROk Try.prog w0 B 52 args m (g_rneg args m) := by
  unfold g_rneg; split
  · rename_i a; exact pure_old Try.func52 rfl rfl (fun h w => rneg_any a h w)
  · exact trivial
def g_lowByte (args : List SV) (_m : List Blk) : CR := match args with | [.word a, .int .i64 i] => .pure (0 ≤ i ∧ i < 32) (.int .u8 (byN a i.toNat : Nat)) | _ => .none
theorem g_lowByte_ok (w0 : World) (B : List Nat) (args : List SV) (m : List Blk) : CROk Try.prog w0 B 72 args m (g_lowByte args m) := by
  unfold g_lowByte; split
  · rename_i a i; exact pure_old Try.func72 rfl rfl (fun h w => by have := lowByte_any a i.toNat (by omega) w; rw [Int.toNat_of_nonneg h.1] at this; exact this)
  · exact trivial
def g_Shl (args : List SV) (_m : List Blk) : CR := match args with | [.word n, .word a] => .pure (n < W ∧ a < W) (.word (shlM n a)) | _ => .none
theorem g_Shl_ok (w0 : World) (B : List Nat) (args : List SV) (m : List Blk) : CROk Try.prog w0 B 21 args m (g_Shl args m) := by
  unfold g_Shl; split
  · rename_i n a; exact pure_old Try.func21 rfl rfl (fun h w => shlm_any n a h.1 h.2 w)
  · exact trivial
def g_Shr (args : List SV) (_m : List Blk) : CR := match args with | [.word n, .word a] => .pure (n < W ∧ a < W) (.word (shdM n a 0)) | _ => .none
theorem g_Shr_ok (w0 : World) (B : List Nat) (args : List SV) (m : List Blk) : CROk Try.prog w0 B 23 args m (g_Shr args m) := by
  unfold g_Shr; split
  · rename_i n a; exact pure_old Try.func23 rfl rfl (fun h w => shrm_any n a h.1 h.2 w)
  · exact trivial
def g_Sar (args : List SV) (_m : List Blk) : CR := match args with | [.word n, .word a] => .pure (n < W ∧ a < W) (.word (shdM n a (sgF a))) | _ => .none
theorem g_Sar_ok (w0 : World) (B : List Nat) (args : List SV) (m : List Blk) : CROk Try.prog w0 B 25 args m (g_Sar args m) := by
  unfold g_Sar; split
  · rename_i n a; exact pure_old Try.func25 rfl rfl (fun h w => sarm_any n a h.1 h.2 w)
  · exact trivial
def g_Byte (args : List SV) (_m : List Blk) : CR := match args with | [.word n, .word a] => .pure (n < W) (.word (byteN n a)) | _ => .none
theorem g_Byte_ok (w0 : World) (B : List Nat) (args : List SV) (m : List Blk) : CROk Try.prog w0 B 27 args m (g_Byte args m) := by
  unfold g_Byte; split
  · rename_i n a; exact pure_old Try.func27 rfl rfl (fun h w => byte_any n a h w)
  · exact trivial
def g_Extend (args : List SV) (_m : List Blk) : CR := match args with | [.word n, .word a] => .pure (n < W ∧ a < W) (.word (exN n a)) | _ => .none
theorem g_Extend_ok (w0 : World) (B : List Nat) (args : List SV) (m : List Blk) : CROk Try.prog w0 B 19 args m (g_Extend args m) := by
  unfold g_Extend; split
  · rename_i n a; exact pure_old Try.func19 rfl rfl (fun h w => extend_any n a h.1 h.2 w)
  · exact trivial


def g_Add (args : List SV) (_m : List Blk) : CR := match args with | [.word a, .word b] => .pure (a < W ∧ b < W) (.tup [.word (addN a b), .bool (addB a b)]) | _ => .none
theorem g_Add_ok (w0 : World) (B : List Nat) (args : List SV) (m : List Blk) : CROk Try.prog w0 B 55 args m (g_Add args m) := by
  unfold g_Add; split
  · rename_i a b; exact pure_old Try.func55 rfl rfl (fun h w => add_any a b h.1 h.2 w)
  · exact trivial
def g_Sub (args : List SV) (_m : List Blk) : CR := match args with | [.word a, .word b] => .pure (a < W ∧ b < W) (.tup [.word (subN a b), .bool (subB a b)]) | _ => .none
theorem g_Sub_ok (w0 : World) (B : List Nat) (args : List SV) (m : List Blk) : CROk Try.prog w0 B 49 args m (g_Sub args m) := by
  unfold g_Sub; split
  · rename_i a b; exact pure_old Try.func49 rfl rfl (fun h w => sub_any a b h.1 h.2 w)
  · exact trivial
def g_Mul (args : List SV) (_m : List Blk) : CR := match args with | [.word a, .word b] => .pure (a < W ∧ b < W) (.tup [.word (mulN a b), .bool (mulB a b)]) | _ => .none
theorem g_Mul_ok (w0 : World) (B : List Nat) (args : List SV) (m : List Blk) : CROk Try.prog w0 B 59 args m (g_Mul args m) := by
  unfold g_Mul; split
  · rename_i a b; exact pure_old Try.func59 rfl rfl (fun h w => mul_any a b h.1 h.2 w)
  · exact trivial
def g_Div (args : List SV) (_m : List Blk) : CR := match args with | [.word a, .word b] => .pure (a < W ∧ b < W) (.tup [.word (a / b), .word (rstN a b)]) | _ => .none
theorem g_Div_ok (w0 : World) (B : List Nat) (args : List SV) (m : List Blk) : CROk Try.prog w0 B 8 args m (g_Div args m) := by
  unfold g_Div; split
  · rename_i a b; exact pure_old Try.func8 rfl rfl (fun h w => div_any a b h.1 h.2 w)
  · exact trivial
def g_Sdiv (args : List SV) (_m : List Blk) : CR := match args with | [.word a, .word b] => .pure (a < W ∧ b < W) (.tup [.word (sdQ a b), .word (sdR a b)]) | _ => .none
theorem g_Sdiv_ok (w0 : World) (B : List Nat) (args : List SV) (m : List Blk) : CROk Try.prog w0 B 10 args m (g_Sdiv args m) := by
  unfold g_Sdiv; split
  · rename_i a b; exact pure_old Try.func10 rfl rfl (fun h w => sdiv_any a b h.1 h.2 w)
  · exact trivial
def g_AddMod (args : List SV) (_m : List Blk) : CR := match args with | [.word a, .word b, .word m] => .pure (a < W ∧ b < W ∧ m < W) (.word (rstN (a + b) m)) | _ => .none
theorem g_AddMod_ok (w0 : World) (B : List Nat) (args : List SV) (m : List Blk) : CROk Try.prog w0 B 13 args m (g_AddMod args m) := by
  unfold g_AddMod; split
  · rename_i a b m; exact pure_old Try.func13 rfl rfl (fun h w => addMod_any a b m h.1 h.2.1 h.2.2 w)
  · exact trivial
def g_MulMod (args : List SV) (_m : List Blk) : CR := match args with | [.word a, .word b, .word m] => .pure (a < W ∧ b < W ∧ m < W) (.word (rstN (a * b) m)) | _ => .none
theorem g_MulMod_ok (w0 : World) (B : List Nat) (args : List SV) (m : List Blk) : CROk Try.prog w0 B 15 args m (g_MulMod args m) := by
  unfold g_MulMod; split
  · rename_i a b m; exact pure_old Try.func15 rfl rfl (fun h w => mulMod_any a b m h.1 h.2.1 h.2.2 w)
  · exact trivial
def G1 : Ctr := fun f args m => match f with
  | 37 => g_lw args m
  | 36 => g_From args m
  | 60 => g_rFrom args m
  | 54 => g_minus args m
  | 12 => g_known args m
  | 29 => g_Small args m
  | 50 => g_neg args m
  | 52 => g_rneg args m
  | 72 => g_lowByte args m
  | 21 => g_Shl args m
  | 23 => g_Shr args m
  | 25 => g_Sar args m
  | 27 => g_Byte args m
  | 19 => g_Extend args m
  | 55 => g_Add args m
  | 49 => g_Sub args m
  | 59 => g_Mul args m
  | 8 => g_Div args m
  | 10 => g_Sdiv args m
  | 13 => g_AddMod args m
  | 15 => g_MulMod args m
  | _ => .none
theorem G1_ok : GOk Try.prog G1 := by
  intro w0 B f args m; unfold G1; split
  · exact g_lw_ok _ _ _ _
  · exact g_From_ok _ _ _ _
  · exact g_rFrom_ok _ _ _ _
  · exact g_minus_ok _ _ _ _
  · exact g_known_ok _ _ _ _
  · exact g_Small_ok _ _ _ _
  · exact g_neg_ok _ _ _ _
  · exact g_rneg_ok _ _ _ _
  · exact g_lowByte_ok _ _ _ _
  · exact g_Shl_ok _ _ _ _
  · exact g_Shr_ok _ _ _ _
  · exact g_Sar_ok _ _ _ _
  · exact g_Byte_ok _ _ _ _
  · exact g_Extend_ok _ _ _ _
  · exact g_Add_ok _ _ _ _
  · exact g_Sub_ok _ _ _ _
  · exact g_Mul_ok _ _ _ _
  · exact g_Div_ok _ _ _ _
  · exact g_Sdiv_ok _ _ _ _
  · exact g_AddMod_ok _ _ _ _
  · exact g_MulMod_ok _ _ _ _
  · exact trivial
theorem G1_lw : G1 37 = g_lw := by funext args m; rfl
theorem G1_From : G1 36 = g_From := by funext args m; rfl
theorem G1_rFrom : G1 60 = g_rFrom := by funext args m; rfl
theorem G1_minus : G1 54 = g_minus := by funext args m; rfl
theorem G1_known : G1 12 = g_known := by funext args m; rfl
theorem G1_Small : G1 29 = g_Small := by funext args m; rfl
theorem G1_neg : G1 50 = g_neg := by funext args m; rfl
theorem G1_rneg : G1 52 = g_rneg := by funext args m; rfl
theorem G1_lowByte : G1 72 = g_lowByte := by funext args m; rfl
theorem G1_Shl : G1 21 = g_Shl := by funext args m; rfl
theorem G1_Shr : G1 23 = g_Shr := by funext args m; rfl
theorem G1_Sar : G1 25 = g_Sar := by funext args m; rfl
theorem G1_Byte : G1 27 = g_Byte := by funext args m; rfl
theorem G1_Extend : G1 19 = g_Extend := by funext args m; rfl
theorem G1_Add : G1 55 = g_Add := by funext args m; rfl
theorem G1_Sub : G1 49 = g_Sub := by funext args m; rfl
theorem G1_Mul : G1 59 = g_Mul := by funext args m; rfl
theorem G1_Div : G1 8 = g_Div := by funext args m; rfl
theorem G1_Sdiv : G1 10 = g_Sdiv := by funext args m; rfl
theorem G1_AddMod : G1 13 = g_AddMod := by funext args m; rfl
theorem G1_MulMod : G1 15 = g_MulMod := by funext args m; rfl

end Go.Proofs.Ytgmlabdcfbeijaa

/-
  A symbolic walk of my own: contracts of functions that are handed slices of the caller's memory.
-/
namespace Go.Proofs.Ytgmlabdcfbeijaa
set_option linter.unusedSimpArgs false
set_option linter.unusedVariables false
open Go.RowKit
theorem cc_word (a : Nat) : cc (.words [a]) = (U64s (V4 a)).toList := by
  simp [cc, U64s, V4, wcs]
def g_length (args : List SV) (m : List Blk) : CR :=
  match args with
  | [.sl nm a st st0 es len cap] => match bget m nm with
    | .blk b t (.words [x]) => .pure (a = some ⟨b, 0, none⟩ ∧ st = 0 ∧ st0 = 0 ∧ es = 1 ∧ len = 4) (.int .i64 (topN (V4 x) 4 : Nat))
    | _ => .none
  | _ => .none
theorem g_length_ok (w0 : World) (B : List Nat) (args : List SV) (m : List Blk) : CROk Try.prog w0 B 58 args m (g_length args m) := by
  unfold g_length
  split
  · rename_i nm a st st0 es len cap
    split
    · rename_i b t x hb
      intro ⟨h1, h2, h3, h4, h5⟩ w hm
      subst h1 h2 h3 h4 h5
      have e : cvs [SV.sl nm (some ⟨b, 0, none⟩) 0 0 1 4 cap] = [SlV b 0 (V4 x).length cap] := by
        simp only [cvs, cv, SlV, ite_self, Nat.zero_mul, Option.map_some, Addr.add, if_true]; rfl
      rw [e]
      have hk := (hm.each _ (bget_mem hb (by simp))).1
      refine .inr ⟨enter_run Try.func58 rfl rfl _ w, (length_any (V4 x) b cap t w ?_ (by simp)).mono fun e w' ⟨he, q, hq⟩ => ⟨_, he, rfl, by rw [hq]; exact gw_grown w q⟩⟩
      unfold Arr; rw [hk]; simp [cc_word]
    · exact trivial
  · exact trivial
def G2 : Ctr := fun f args m => match f with
  | 37 => g_lw args m
  | 36 => g_From args m
  | 60 => g_rFrom args m
  | 54 => g_minus args m
  | 12 => g_known args m
  | 29 => g_Small args m
  | 50 => g_neg args m
  | 52 => g_rneg args m
  | 72 => g_lowByte args m
  | 21 => g_Shl args m
  | 23 => g_Shr args m
  | 25 => g_Sar args m
  | 27 => g_Byte args m
  | 19 => g_Extend args m
  | 55 => g_Add args m
  | 49 => g_Sub args m
  | 59 => g_Mul args m
  | 8 => g_Div args m
  | 10 => g_Sdiv args m
  | 13 => g_AddMod args m
  | 15 => g_MulMod args m
  | 58 => g_length args m
  | _ => .none
theorem G2_ok : GOk Try.prog G2 := by
  intro w0 B f args m; unfold G2; split
  · exact g_lw_ok _ _ _ _
  · exact g_From_ok _ _ _ _
  · exact g_rFrom_ok _ _ _ _
  · exact g_minus_ok _ _ _ _
  · exact g_known_ok _ _ _ _
  · exact g_Small_ok _ _ _ _
  · exact g_neg_ok _ _ _ _
  · exact g_rneg_ok _ _ _ _
  · exact g_lowByte_ok _ _ _ _
  · exact g_Shl_ok _ _ _ _
  · exact g_Shr_ok _ _ _ _
  · exact g_Sar_ok _ _ _ _
  · exact g_Byte_ok _ _ _ _
  · exact g_Extend_ok _ _ _ _
  · exact g_Add_ok _ _ _ _
  · exact g_Sub_ok _ _ _ _
  · exact g_Mul_ok _ _ _ _
  · exact g_Div_ok _ _ _ _
  · exact g_Sdiv_ok _ _ _ _
  · exact g_AddMod_ok _ _ _ _
  · exact g_MulMod_ok _ _ _ _
  · exact g_length_ok _ _ _ _
  · exact trivial
theorem G2_lw : G2 37 = g_lw := by funext args m; rfl
theorem G2_From : G2 36 = g_From := by funext args m; rfl
theorem G2_rFrom : G2 60 = g_rFrom := by funext args m; rfl
theorem G2_minus : G2 54 = g_minus := by funext args m; rfl
theorem G2_known : G2 12 = g_known := by funext args m; rfl
theorem G2_Small : G2 29 = g_Small := by funext args m; rfl
theorem G2_neg : G2 50 = g_neg := by funext args m; rfl
theorem G2_rneg : G2 52 = g_rneg := by funext args m; rfl
theorem G2_lowByte : G2 72 = g_lowByte := by funext args m; rfl
theorem G2_Shl : G2 21 = g_Shl := by funext args m; rfl
theorem G2_Shr : G2 23 = g_Shr := by funext args m; rfl
theorem G2_Sar : G2 25 = g_Sar := by funext args m; rfl
theorem G2_Byte : G2 27 = g_Byte := by funext args m; rfl
theorem G2_Extend : G2 19 = g_Extend := by funext args m; rfl
theorem G2_Add : G2 55 = g_Add := by funext args m; rfl
theorem G2_Sub : G2 49 = g_Sub := by funext args m; rfl
theorem G2_Mul : G2 59 = g_Mul := by funext args m; rfl
theorem G2_Div : G2 8 = g_Div := by funext args m; rfl
theorem G2_Sdiv : G2 10 = g_Sdiv := by funext args m; rfl
theorem G2_AddMod : G2 13 = g_AddMod := by funext args m; rfl
theorem G2_MulMod : G2 15 = g_MulMod := by funext args m; rfl
theorem G2_length : G2 58 = g_length := by funext args m; rfl

end Go.Proofs.Ytgmlabdcfbeijaa
