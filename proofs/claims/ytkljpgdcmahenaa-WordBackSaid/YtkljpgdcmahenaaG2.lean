/-
  A symbolic walk of my own: contracts of functions that are handed slices of the caller's memory.
-/
import Derived.Test.YtkljpgdcmahenaaG1
namespace Go.Proofs.Ytkljpgdcmahenaa
set_option linter.unusedSimpArgs false
set_option linter.unusedVariables false
open Go.RowKit
theorem cc_word (a : Nat) : cc (.words [a]) = (U64s (V4 a)).toList := by
  simp [cc, U64s, V4, wcs]
def g_length (args : List SV) (m : List Blk) : CR :=
  match args with
  | [.sl nm a st st0 es len cap] => match bget m nm with
    | .blk b t (.words [x]) => .pure (a = some ⟨b, 0, none⟩ ∧ st = 0 ∧ st0 = 0 ∧ es = 1 ∧ len = 4) (.int .i64 (topN (V4 x) 4 : Nat))
    | _ => .none
  | _ => .none
theorem g_length_ok (w0 : World) (B : List Nat) (args : List SV) (m : List Blk) : CROk Try.prog w0 B 63 args m (g_length args m) := by
  unfold g_length
  split
  · rename_i nm a st st0 es len cap
    split
    · rename_i b t x hb
      intro ⟨h1, h2, h3, h4, h5⟩ w hm
      subst h1 h2 h3 h4 h5
      have e : cvs [SV.sl nm (some ⟨b, 0, none⟩) 0 0 1 4 cap] = [SlV b 0 (V4 x).length cap] := by
        simp only [cvs, cv, SlV, ite_self, Nat.zero_mul, Option.map_some, Addr.add, if_true]; rfl
      rw [e]
      have hk := (hm.each _ (bget_mem hb (by simp))).1
      refine .inr ⟨enter_run Try.func63 rfl rfl _ w, (length_any (V4 x) b cap t w ?_ (by simp)).mono fun e w' ⟨he, q, hq⟩ => ⟨_, he, rfl, by rw [hq]; exact gw_grown w q⟩⟩
      unfold Arr; rw [hk]; simp [cc_word]
    · exact trivial
  · exact trivial
def G2 : Ctr := fun f args m => match f with
  | 54 => g_lw args m
  | 53 => g_From args m
  | 75 => g_rFrom args m
  | 65 => g_minus args m
  | 21 => g_known args m
  | 46 => g_Small args m
  | 66 => g_neg args m
  | 67 => g_rneg args m
  | 86 => g_lowByte args m
  | 38 => g_Shl args m
  | 40 => g_Shr args m
  | 42 => g_Sar args m
  | 44 => g_Byte args m
  | 36 => g_Extend args m
  | 22 => g_Cmp args m
  | 24 => g_Scmp args m
  | 15 => g_Add args m
  | 17 => g_Sub args m
  | 19 => g_Mul args m
  | 26 => g_Div args m
  | 28 => g_Sdiv args m
  | 30 => g_AddMod args m
  | 32 => g_MulMod args m
  | 63 => g_length args m
  | _ => .none
theorem G2_ok : GOk Try.prog G2 := by
  intro w0 B f args m; unfold G2; split
  · exact g_lw_ok _ _ _ _
  · exact g_From_ok _ _ _ _
  · exact g_rFrom_ok _ _ _ _
  · exact g_minus_ok _ _ _ _
  · exact g_known_ok _ _ _ _
  · exact g_Small_ok _ _ _ _
  · exact g_neg_ok _ _ _ _
  · exact g_rneg_ok _ _ _ _
  · exact g_lowByte_ok _ _ _ _
  · exact g_Shl_ok _ _ _ _
  · exact g_Shr_ok _ _ _ _
  · exact g_Sar_ok _ _ _ _
  · exact g_Byte_ok _ _ _ _
  · exact g_Extend_ok _ _ _ _
  · exact g_Cmp_ok _ _ _ _
  · exact g_Scmp_ok _ _ _ _
  · exact g_Add_ok _ _ _ _
  · exact g_Sub_ok _ _ _ _
  · exact g_Mul_ok _ _ _ _
  · exact g_Div_ok _ _ _ _
  · exact g_Sdiv_ok _ _ _ _
  · exact g_AddMod_ok _ _ _ _
  · exact g_MulMod_ok _ _ _ _
  · exact g_length_ok _ _ _ _
  · exact trivial
theorem G2_lw : G2 54 = g_lw := by funext args m; rfl
theorem G2_From : G2 53 = g_From := by funext args m; rfl
theorem G2_rFrom : G2 75 = g_rFrom := by funext args m; rfl
theorem G2_minus : G2 65 = g_minus := by funext args m; rfl
theorem G2_known : G2 21 = g_known := by funext args m; rfl
theorem G2_Small : G2 46 = g_Small := by funext args m; rfl
theorem G2_neg : G2 66 = g_neg := by funext args m; rfl
theorem G2_rneg : G2 67 = g_rneg := by funext args m; rfl
theorem G2_lowByte : G2 86 = g_lowByte := by funext args m; rfl
theorem G2_Shl : G2 38 = g_Shl := by funext args m; rfl
theorem G2_Shr : G2 40 = g_Shr := by funext args m; rfl
theorem G2_Sar : G2 42 = g_Sar := by funext args m; rfl
theorem G2_Byte : G2 44 = g_Byte := by funext args m; rfl
theorem G2_Extend : G2 36 = g_Extend := by funext args m; rfl
theorem G2_Cmp : G2 22 = g_Cmp := by funext args m; rfl
theorem G2_Scmp : G2 24 = g_Scmp := by funext args m; rfl
theorem G2_Add : G2 15 = g_Add := by funext args m; rfl
theorem G2_Sub : G2 17 = g_Sub := by funext args m; rfl
theorem G2_Mul : G2 19 = g_Mul := by funext args m; rfl
theorem G2_Div : G2 26 = g_Div := by funext args m; rfl
theorem G2_Sdiv : G2 28 = g_Sdiv := by funext args m; rfl
theorem G2_AddMod : G2 30 = g_AddMod := by funext args m; rfl
theorem G2_MulMod : G2 32 = g_MulMod := by funext args m; rfl
theorem G2_length : G2 63 = g_length := by funext args m; rfl

end Go.Proofs.Ytkljpgdcmahenaa
