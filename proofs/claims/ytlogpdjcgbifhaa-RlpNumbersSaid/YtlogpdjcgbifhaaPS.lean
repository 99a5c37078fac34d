/-
  RLP: Number's contract; what the chapter's examples come to. No condition.
-/
import Derived.Test.YtlogpdjcgbifhaaPR
namespace Go.Proofs.Ytlogpdjcgbifhaa
set_option linter.unusedSimpArgs false
set_option linter.unusedVariables false
set_option linter.defProp false
open Go.RowKit
def g_Num (args : List SV) (m : List Blk) : CR :=
  match args with
  | [.int .u64 k] => .own (0 ≤ k ∧ k ≤ 18446744073709551615) 5 1 (leB k.toNat).length (.ints .u8 (leB k.toNat).reverse) (fun v => .agg [.bool false, v, .nilsl])
  | _ => .none
theorem g_Num_ok (w0 : World) (B : List Nat) (args : List SV) (m : List Blk) : CROk Try.prog w0 B 15 args m (g_Num args m) := by
  unfold g_Num
  split
  · rename_i k
    intro ⟨h1, h2⟩ w hm
    obtain ⟨n, rfl⟩ := Int.eq_ofNat_of_zero_le h1
    rw [show ((n : Int)).toNat = n from rfl]
    exact .inr ⟨enter_run Try.func15 rfl rfl _ w, (num_vc n (by omega) w).mono fun e w' ⟨u, he, v', m', hu, hm', i, s, hv, hs⟩ => ⟨u, he, s, by rw [hu, hv]; rfl, hm'.grown, own_ok0 (hm'.each _ (bget_mem hs (by simp)))⟩⟩
  · exact trivial
noncomputable def GPK : Ctr := fun f args m => match f with
  | 12 => g_EncT args m
  | 18 => g_Dec args m
  | 15 => g_Num args m
  | _ => .none
theorem GPK_ok : GOk Try.prog GPK := by
  intro w0 B f args m; unfold GPK; split
  · exact g_EncT_ok _ _ _ _
  · exact g_Dec_ok _ _ _ _
  · exact g_Num_ok _ _ _ _
  · exact trivial
theorem GPK_EncT : GPK 12 = g_EncT := by funext args m; rfl
theorem GPK_Dec : GPK 18 = g_Dec := by funext args m; rfl
theorem GPK_Num : GPK 15 = g_Num := by funext args m; rfl
def GPK_set := And.intro (And.intro (@GPK_EncT) (And.intro (@g_EncT.eq_def) (@GPK_Dec))) (And.intro (@g_Dec.eq_def) (And.intro (@GPK_Num) (@g_Num.eq_def)))

theorem kn_e1 : (txR [100, 111, 103]).reverse = [131, 100, 111, 103] := by decide
theorem kn_l1 : (txR [100, 111, 103]).length = 4 := by decide
theorem kn_d1 : deco [129, 5] = none := by rfl
theorem kn_d2 : deco [193, 192] = some (.mk true [] [.mk true [] []]) := by rfl
end Go.Proofs.Ytlogpdjcgbifhaa
