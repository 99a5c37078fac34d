/-
 The law RulesQuiet of package quaestorlaw17: whatever is handed in, it returns true, and what was handed in reads as it did. The listed variables are read out of the row. No condition.
-/
import Derived.Test.YtoadeekdgikghaaDoorJF
import Derived.Test.YtoadeekdgikghaaDoorU5
import Derived.Test.YtoadeekdgikghaaDoorFV
set_option maxRecDepth 20000
set_option linter.unusedVariables false
set_option linter.unusedSimpArgs false
namespace Go.Proofs.YtoadeekdgikghaaDoor
open Go.ChangeShapes Go.WideShapes Go.ChangeAt Go.RowKit
theorem quiet_core (ol : List SV) (x : OpD) (a1 a2 : Option Addr) (n1 c1 n2 c2 : Nat) (bs : List Int) (fs : List Bool) (role : Nat) (w : World) (hr : role < 256) (hO : OpR (H0 w) ol x)
  (hb : bs.length = n1 ∧ n1 ≤ c1 ∧ adr a1 n1 c1 ∧ LiesH (H0 w) a1 (cc (.ints .u8 bs)) ∧ allB bs ∧ n1 ≤ maxLen) (hf : fs.length = n2 ∧ n2 ≤ c2 ∧ adr a2 n2 c2 ∧ n2 ≤ maxLen ∧ LiesH (H0 w) a2 (cc (.cells (fs.map SV.bool)))) (h : laidMetH Tryd.prog Rows.rulesQuietRow.laid w) :
  Calls Tryd.prog 4 (cvs [.agg ol, .gh a1 n1 c1 (.ints .u8 bs), .gh a2 n2 c2 (.cells (fs.map SV.bool)), .int .u8 (role : Nat)]).toArray w (Yes w) := by
 obtain ⟨k0, k1⟩ := ru_laid h
 obtain ⟨b1, b2, b3, b4, b5, b6⟩ := hb
 obtain ⟨f1, f2, f3, f4, f5⟩ := hf
 by_cases h300 : (n1 : Int) ≤ 300
 ·exact quiet_small ol x a1 a2 n1 c1 n2 c2 bs fs (role : Nat) w h300 (by omega) hO k0 k1 b1 b2 b3 b4 b5 f1 f2 f3 f5
 ·exact quiet_big ol x a1 a2 n1 c1 n2 c2 bs fs (role : Nat) w h300 hO k0 k1
def rulesQuiet_lay0 : Obj → Obj
 | .cells _ t frozen => .cells #[.int .u64 1, .int .u64 32898, .int .u64 9223372036854808714, .int .u64 9223372039002292224, .int .u64 32907, .int .u64 2147483649, .int .u64 9223372039002292353, .int .u64 9223372036854808585, .int .u64 138, .int .u64 136, .int .u64 2147516425, .int .u64 2147483658, .int .u64 2147516555, .int .u64 9223372036854775947, .int .u64 9223372036854808713, .int .u64 9223372036854808579, .int .u64 9223372036854808578, .int .u64 9223372036854775936, .int .u64 32778, .int .u64 9223372039002259466, .int .u64 9223372039002292353, .int .u64 9223372036854808704, .int .u64 2147483649, .int .u64 9223372039002292232] t frozen
 | o => o
def rulesQuiet_lay1 : Obj → Obj
 | .cells _ t frozen => .cells #[.int .u8 10, .int .u8 7, .int .u8 11, .int .u8 17, .int .u8 18, .int .u8 3, .int .u8 5, .int .u8 16, .int .u8 8, .int .u8 21, .int .u8 24, .int .u8 4, .int .u8 15, .int .u8 23, .int .u8 19, .int .u8 13, .int .u8 12, .int .u8 2, .int .u8 20, .int .u8 14, .int .u8 22, .int .u8 9, .int .u8 6, .int .u8 1] t frozen
 | o => o
noncomputable def rulesQuiet_world (os : Os) : World :=
 { World.holding Tryd.prog os ⟨#[], #[], []⟩ with heap := (((World.holding Tryd.prog os ⟨#[], #[], []⟩).heap).modify 0 rulesQuiet_lay0).modify 1 rulesQuiet_lay1 }
set_option maxRecDepth 100000 in
theorem rulesQuiet_laid (os : Os) : laidMet Tryd.prog Rows.rulesQuietRow.laid ((rulesQuiet_world os).forCall (fun _ _ => 0) ⟨#[], #[opWit, .slice none 0 0, .slice none 0 0, .int .u8 0], []⟩).memory :=
 laidMet_of_run' 8 (by kernel_rfl) (by kernel_rfl)
set_option maxRecDepth 100000 in
theorem rulesQuiet_reads (os : Os) {H : Type} (enc : TypeId × Value → H) : ∃ places, DataW.whole enc Tryd.prog ((rulesQuiet_world os).forCall (fun _ _ => 0) ⟨#[], #[opWit, .slice none 0 0, .slice none 0 0, .int .u8 0], []⟩).memory Tryd.f4.params.toList Rows.rulesQuietSpec.vars false (#[opWit, .slice none 0 0, .slice none 0 0, .int .u8 0] : Array Value).toList 8 = some ([.agg [.agg [.lit (.int .u8 0), .lit (.int .u8 0), .lit (.int .u8 0), .lit (.int .u8 0), .lit (.int .u8 0), .lit (.int .u8 0), .lit (.int .u8 0), .lit (.int .u8 0), .lit (.int .u8 0), .lit (.int .u8 0), .lit (.int .u8 0), .lit (.int .u8 0), .lit (.int .u8 0), .lit (.int .u8 0), .lit (.int .u8 0), .lit (.int .u8 0), .lit (.int .u8 0), .lit (.int .u8 0), .lit (.int .u8 0), .lit (.int .u8 0)], .agg [.lit (.int .u64 0), .lit (.int .u64 0), .lit (.int .u64 0), .lit (.int .u64 0)], .lit (.bool false), .agg [.lit (.int .u8 0), .lit (.int .u8 0), .lit (.int .u8 0), .lit (.int .u8 0), .lit (.int .u8 0), .lit (.int .u8 0), .lit (.int .u8 0), .lit (.int .u8 0), .lit (.int .u8 0), .lit (.int .u8 0), .lit (.int .u8 0), .lit (.int .u8 0), .lit (.int .u8 0), .lit (.int .u8 0), .lit (.int .u8 0), .lit (.int .u8 0), .lit (.int .u8 0), .lit (.int .u8 0), .lit (.int .u8 0), .lit (.int .u8 0)], .nil, .nil, .lit (.int .u64 0), .lit (.int .u64 0), .lit (.int .u64 0), .agg [.lit (.int .u64 0), .lit (.int .u64 0), .lit (.int .u64 0), .lit (.int .u64 0)], .agg [.lit (.int .u64 0), .lit (.int .u64 0), .lit (.int .u64 0), .lit (.int .u64 0)], .lit (.bool false), .agg [.lit (.int .u8 0), .lit (.int .u8 0), .lit (.int .u8 0), .lit (.int .u8 0), .lit (.int .u8 0), .lit (.int .u8 0), .lit (.int .u8 0), .lit (.int .u8 0), .lit (.int .u8 0), .lit (.int .u8 0), .lit (.int .u8 0), .lit (.int .u8 0), .lit (.int .u8 0), .lit (.int .u8 0), .lit (.int .u8 0), .lit (.int .u8 0), .lit (.int .u8 0), .lit (.int .u8 0), .lit (.int .u8 0), .lit (.int .u8 0)], .lit (.int .u64 0), .lit (.int .u64 0), .nil, .nil], .nil, .nil, .lit (.int .u8 0)], [], places) :=
 ⟨[], by kernel_rfl⟩
set_option maxRecDepth 100000 in
theorem rulesQuiet_lifted (os : Os) (started : os.Started) (H : Type) (enc : TypeId × Value → H) (F : Stop.Interp) :
  ReturnsInHanded {} Tryd.checked os 4 .any ((OpenSpec.ofChange Rows.rulesQuietSpec).preRow enc Tryd.prog Tryd.f4 Rows.rulesQuietRow.domain false Rows.rulesQuietRow.laid) (((OpenSpec.ofChange Rows.rulesQuietSpec).at F).post enc Tryd.prog Tryd.f4 false true false false) := by
 obtain ⟨places, hx⟩ := rulesQuiet_reads os enc
 refine returnsInHanded_of_row (C := Tryd.checked) (s := OpenSpec.ofChange Rows.rulesQuietSpec) Tryd.own started (by kernel_rfl) Tryd.func4
  (witness_row_at (enc := enc) (C := Tryd.checked) false (rulesQuiet_world os) #[opWit, .slice none 0 0, .slice none 0 0, .int .u8 0] rfl (by kernel_rfl) (by kernel_rfl) (by kernel_rfl)
   (OpenSpec.preRow_of_cond 8 hx (by kernel_rfl) (fun k hk => by cases hk) (by kernel_rfl) (rulesQuiet_laid os))) ?_
 intro W0 base args ds gs before hval0 hW _ _ _ hlaid _ _
 have hval : ∀ (j : Nat) t v, Tryd.f4.params[j]? = some t → args[j]? = some v → Value.okWide Tryd.prog W0 .any base t v := hval0
 have hW' := hW
 obtain ⟨p, q, hA0, hV, rfl, hfz, hnd⟩ := hW
 have hA : DataW.TrodAll enc Tryd.prog W0 0 (fun _ => true) true Tryd.f4.params.toList args.toList ds p := hA0
 rw [Tryd.params4] at hA hval
 obtain ⟨v0, v1, v2, v3, d0, d1, d2, d3, p0, p1, p2, p3, rfl, rfl, rfl, h0, h1, h2, h3⟩ := trodAll_four hA
 obtain ⟨rfl, rfl⟩ := trodVars_none hV
 obtain ⟨l0, o0, rfl, i0⟩ := op_open (hval 0 _ v0 rfl rfl) h0
 obtain ⟨a1, n1, c1, y1, rfl, i1⟩ := byt_open (hval 1 _ v1 rfl rfl) h1
 obtain ⟨a2, n2, c2, y2, rfl, i2⟩ := bools_open (hval 2 _ v2 rfl rfl) h2
 obtain ⟨a3, rfl, rfl, rfl, w3, f3⟩ := nat_open 256 wf_u8 Tryd.underlying5 (hval 3 _ v3 rfl rfl) h3
 refine (calls_args (by simp only [cvs]; try rfl) (quiet_core l0 o0 a1 a2 n1 c1 n2 c2 y1 y2 a3 W0 (by omega) i0 i1 i2 hlaid)).mono fun e W' h => ?_
 obtain ⟨he, hw⟩ := Yes.out h
 subst he
 exact ⟨_, rfl, post_any hW' rfl hw (by kernel_rfl) rfl (fun _ _ _ => trodAll_mk1 (shut_bool Tryd.underlying4 true)) (fun _ => rfl) (ok_one (by kernel_rfl) rfl (okWide_bool_mk Tryd.underlying4 true))⟩
theorem rulesQuiet_said : Rows.RulesQuietSaid :=
 OpenClaim.holds_of_cond 4 Tryd.f4 rfl rfl rfl rfl rfl rfl rfl ⟨rfl, rfl, rfl, rfl, rfl⟩ rfl rfl rfl rfl rfl (by kernel_rfl) Tryd.func4 (by kernel_rfl)
  (of_decide_eq_true (by kernel_rfl)) (by unfold Func.isWrapper; first | (rw [if_pos (by decide +kernel)]; kernel_rfl) | (rw [if_neg (by decide +kernel)]; exact ⟨rfl, rfl⟩))
  (fun os started H enc _ F => by rw [OpenClaim.pre_eq_preRow]; exact rulesQuiet_lifted os started H enc F)
theorem rulesQuiet_plain (f : FuncId) (fn : Func) (hf : Tryd.pinned.checked.prog.funcNamed "quaestor/quaestorlaw17.RulesQuiet" = some f) (hfn : Tryd.pinned.checked.prog.funcs[f]? = some fn) :
  false = Tryd.pinned.checked.prog.looks [] ∧ ∀ (j : Nat) t, fn.params[j]? = some t → Tryd.pinned.checked.prog.wantsStandIn t = false := by
 obtain rfl : f = 4 := Option.some.inj ((show Tryd.prog.funcNamed "quaestor/quaestorlaw17.RulesQuiet" = some 4 by kernel_rfl).symm.trans hf) |>.symm
 obtain rfl : fn = Tryd.f4 := (Option.some.inj (Tryd.func4.symm.trans hfn)).symm
 refine ⟨by kernel_rfl, fun j t ht => ?_⟩
 rw [Tryd.params4] at ht
 have ht2 := Array.mem_of_getElem? ht
 simp only [List.mem_toArray, List.mem_cons, List.not_mem_nil, or_false] at ht2
 rcases ht2 with rfl | rfl | rfl | rfl
 ·exact (show Tryd.prog.wantsStandIn 30 = false by kernel_rfl)
 ·exact (show Tryd.prog.wantsStandIn 28 = false by kernel_rfl)
 ·exact (show Tryd.prog.wantsStandIn 43 = false by kernel_rfl)
 ·exact (show Tryd.prog.wantsStandIn 5 = false by kernel_rfl)
theorem RulesQuiet_holds : Rows.RulesQuietCardSaid :=
 Claim7.holds_tied_plain_at .later [] _ _ _ _ rulesQuiet_said (fun _ h => by cases h) (by kernel_rfl) (fun _ h => by cases h) rulesQuiet_row_tie rfl ⟨rfl, rfl⟩ (by kernel_rfl) rfl rulesQuiet_plain (by kernel_rfl)
#print axioms RulesQuiet_holds
end Go.Proofs.YtoadeekdgikghaaDoor
