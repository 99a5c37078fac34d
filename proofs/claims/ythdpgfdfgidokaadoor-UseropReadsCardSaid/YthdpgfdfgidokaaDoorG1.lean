/-
 A symbolic walk of my own: the contracts of package word, as a table.
-/
import Derived.Test.YthdpgfdfgidokaaDoorEI
import Derived.Test.YthdpgfdfgidokaaDoorTab
import Derived.Test.YthdpgfdfgidokaaDoorRE
set_option maxRecDepth 10000
set_option linter.defProp false
set_option linter.unusedVariables false
set_option linter.unusedSimpArgs false
namespace Go.Proofs.YthdpgfdfgidokaaDoor
open Go.RowKit
def g_From (args : List SV) (_m : List Blk) : CR := match args with | [.int .u64 n] => .pure (0 ≤ n ∧ n ≤ 18446744073709551615) (.word n.toNat) | _ => .none
theorem g_From_ok (w0 : World) (B : List Nat) (args : List SV) (m : List Blk) : CROk Tryd.prog w0 B 52 args m (g_From args m) := by
 unfold g_From; split
 ·rename_i n; exact pure_old Tryd.func52 rfl rfl (fun h w => by have := from_any n.toNat (by omega) w; rw [Int.toNat_of_nonneg h.1] at this; exact this)
 ·exact trivial
def g_rFrom (args : List SV) (_m : List Blk) : CR := match args with | [.int .u64 n] => .pure (0 ≤ n ∧ n ≤ 18446744073709551615) (.word n.toNat) | _ => .none
theorem g_rFrom_ok (w0 : World) (B : List Nat) (args : List SV) (m : List Blk) : CROk Tryd.prog w0 B 43 args m (g_rFrom args m) := by
 unfold g_rFrom; split
 ·rename_i n; exact pure_old Tryd.func43 rfl rfl (fun h w => by have := rfrom_any n.toNat (by omega) w; rw [Int.toNat_of_nonneg h.1] at this; exact this)
 ·exact trivial
def g_Small (args : List SV) (_m : List Blk) : CR := match args with | [.word a] => .pure (a < W) (.tup [.int .u64 (smN a : Nat), .bool (smB a)]) | _ => .none
theorem g_Small_ok (w0 : World) (B : List Nat) (args : List SV) (m : List Blk) : CROk Tryd.prog w0 B 141 args m (g_Small args m) := by
 unfold g_Small; split
 ·rename_i a; exact pure_old Tryd.func141 rfl rfl (fun h w => small_any a h w)
 ·exact trivial
def g_lowByte (args : List SV) (_m : List Blk) : CR := match args with | [.word a, .int .i64 i] => .pure (0 ≤ i ∧ i < 32) (.int .u8 (byN a i.toNat : Nat)) | _ => .none
theorem g_lowByte_ok (w0 : World) (B : List Nat) (args : List SV) (m : List Blk) : CROk Tryd.prog w0 B 109 args m (g_lowByte args m) := by
 unfold g_lowByte; split
 ·rename_i a i; exact pure_old Tryd.func109 rfl rfl (fun h w => by have := lowByte_any a i.toNat (by omega) w; rw [Int.toNat_of_nonneg h.1] at this; exact this)
 ·exact trivial
def g_Shl (args : List SV) (_m : List Blk) : CR := match args with | [.word n, .word a] => .pure (n < W ∧ a < W) (.word (shlM n a)) | _ => .none
theorem g_Shl_ok (w0 : World) (B : List Nat) (args : List SV) (m : List Blk) : CROk Tryd.prog w0 B 120 args m (g_Shl args m) := by
 unfold g_Shl; split
 ·rename_i n a; exact pure_old Tryd.func120 rfl rfl (fun h w => shlm_any n a h.1 h.2 w)
 ·exact trivial
def g_Shr (args : List SV) (_m : List Blk) : CR := match args with | [.word n, .word a] => .pure (n < W ∧ a < W) (.word (shdM n a 0)) | _ => .none
theorem g_Shr_ok (w0 : World) (B : List Nat) (args : List SV) (m : List Blk) : CROk Tryd.prog w0 B 89 args m (g_Shr args m) := by
 unfold g_Shr; split
 ·rename_i n a; exact pure_old Tryd.func89 rfl rfl (fun h w => shrm_any n a h.1 h.2 w)
 ·exact trivial
def g_Cmp (args : List SV) (_m : List Blk) : CR := match args with | [.word a, .word b] => .pure (a < W ∧ b < W) (.int .i64 (cmpI a b)) | _ => .none
theorem g_Cmp_ok (w0 : World) (B : List Nat) (args : List SV) (m : List Blk) : CROk Tryd.prog w0 B 54 args m (g_Cmp args m) := by
 unfold g_Cmp; split
 ·rename_i a b; exact pure_old Tryd.func54 rfl rfl (fun h w => cmp_any a b h.1 h.2 w)
 ·exact trivial
def g_Add (args : List SV) (_m : List Blk) : CR := match args with | [.word a, .word b] => .pure (a < W ∧ b < W) (.tup [.word (addN a b), .bool (addB a b)]) | _ => .none
theorem g_Add_ok (w0 : World) (B : List Nat) (args : List SV) (m : List Blk) : CROk Tryd.prog w0 B 53 args m (g_Add args m) := by
 unfold g_Add; split
 ·rename_i a b; exact pure_old Tryd.func53 rfl rfl (fun h w => add_any a b h.1 h.2 w)
 ·exact trivial
def g_Sub (args : List SV) (_m : List Blk) : CR := match args with | [.word a, .word b] => .pure (a < W ∧ b < W) (.tup [.word (subN a b), .bool (subB a b)]) | _ => .none
theorem g_Sub_ok (w0 : World) (B : List Nat) (args : List SV) (m : List Blk) : CROk Tryd.prog w0 B 95 args m (g_Sub args m) := by
 unfold g_Sub; split
 ·rename_i a b; exact pure_old Tryd.func95 rfl rfl (fun h w => sub_any a b h.1 h.2 w)
 ·exact trivial
def g_Mul (args : List SV) (_m : List Blk) : CR := match args with | [.word a, .word b] => .pure (a < W ∧ b < W) (.tup [.word (mulN a b), .bool (mulB a b)]) | _ => .none
theorem g_Mul_ok (w0 : World) (B : List Nat) (args : List SV) (m : List Blk) : CROk Tryd.prog w0 B 51 args m (g_Mul args m) := by
 unfold g_Mul; split
 ·rename_i a b; exact pure_old Tryd.func51 rfl rfl (fun h w => mul_any a b h.1 h.2 w)
 ·exact trivial
end Go.Proofs.YthdpgfdfgidokaaDoor

/-
 A symbolic walk of my own: contracts of functions that are handed slices of the caller's memory.
-/
namespace Go.Proofs.YthdpgfdfgidokaaDoor
open Go.RowKit
theorem cc_word (a : Nat) : cc (.words [a]) = (U64s (V4 a)).toList := by
 simp [cc, U64s, V4, wcs]
def g_length (args : List SV) (m : List Blk) : CR :=
 match args with
 | [.sl nm a st st0 es len cap] => match bget m nm with
  | .blk b t (.words [x]) => .pure (a = some ⟨b, 0, none⟩ ∧ st = 0 ∧ st0 = 0 ∧ es = 1 ∧ len = 4) (.int .i64 (topN (V4 x) 4 : Nat))
  | _ => .none
 | _ => .none
theorem g_length_ok (w0 : World) (B : List Nat) (args : List SV) (m : List Blk) : CROk Tryd.prog w0 B 93 args m (g_length args m) := by
 unfold g_length
 split
 ·rename_i nm a st st0 es len cap
  split
  ·rename_i b t x hb
   intro ⟨h1, h2, h3, h4, h5⟩ w hm
   subst h1 h2 h3 h4 h5
   have e : cvs [SV.sl nm (some ⟨b, 0, none⟩) 0 0 1 4 cap] = [SlV b 0 (V4 x).length cap] := by
    simp only [cvs, cv, SlV, ite_self, Nat.zero_mul, Option.map_some, Addr.add, if_true]; rfl
   rw [e]
   have hk := (hm.each _ (bget_mem hb (by simp))).1
   refine .inr ⟨enter_run Tryd.func93 rfl rfl _ w, (length_any (V4 x) b cap t w ?_ (by simp)).mono fun e w' ⟨he, q, hq⟩ => ⟨_, he, rfl, by rw [hq]; exact gw_grown w q⟩⟩
   unfold Arr; rw [hk]; simp [cc_word]
  ·exact trivial
 ·exact trivial
noncomputable def G2 : Ctr := fun f args m => match f with
 | 52 => g_From args m
 | 43 => g_rFrom args m
 | 141 => g_Small args m
 | 109 => g_lowByte args m
 | 120 => g_Shl args m
 | 89 => g_Shr args m
 | 54 => g_Cmp args m
 | 53 => g_Add args m
 | 51 => g_Mul args m
 | 93 => g_length args m
 | _ => .none
theorem G2_ok : GOk Tryd.prog G2 := by
 intro w0 B f args m; unfold G2; split
 ·exact g_From_ok _ _ _ _
 ·exact g_rFrom_ok _ _ _ _
 ·exact g_Small_ok _ _ _ _
 ·exact g_lowByte_ok _ _ _ _
 ·exact g_Shl_ok _ _ _ _
 ·exact g_Shr_ok _ _ _ _
 ·exact g_Cmp_ok _ _ _ _
 ·exact g_Add_ok _ _ _ _
 ·exact g_Mul_ok _ _ _ _
 ·exact g_length_ok _ _ _ _
 ·exact trivial
theorem G2_From : G2 52 = g_From := by funext args m; rfl
theorem G2_rFrom : G2 43 = g_rFrom := by funext args m; rfl
theorem G2_Small : G2 141 = g_Small := by funext args m; rfl
theorem G2_lowByte : G2 109 = g_lowByte := by funext args m; rfl
theorem G2_Shl : G2 120 = g_Shl := by funext args m; rfl
theorem G2_Shr : G2 89 = g_Shr := by funext args m; rfl
theorem G2_Cmp : G2 54 = g_Cmp := by funext args m; rfl
theorem G2_Add : G2 53 = g_Add := by funext args m; rfl
theorem G2_Mul : G2 51 = g_Mul := by funext args m; rfl
theorem G2_length : G2 93 = g_length := by funext args m; rfl
def G2_set := And.intro (And.intro (And.intro (And.intro (@G2_From) (@g_From.eq_def)) (And.intro (@G2_rFrom) (And.intro (@g_rFrom.eq_def) (@G2_Small)))) (And.intro (And.intro (@g_Small.eq_def) (@G2_lowByte)) (And.intro (@g_lowByte.eq_def) (And.intro (@G2_Shl) (@g_Shl.eq_def))))) (And.intro (And.intro (And.intro (@G2_Shr) (@g_Shr.eq_def)) (And.intro (@G2_Cmp) (And.intro (@g_Cmp.eq_def) (@G2_Add)))) (And.intro (And.intro (@g_Add.eq_def) (@G2_Mul)) (And.intro (@g_Mul.eq_def) (And.intro (@G2_length) (@g_length.eq_def)))))

end Go.Proofs.YthdpgfdfgidokaaDoor
