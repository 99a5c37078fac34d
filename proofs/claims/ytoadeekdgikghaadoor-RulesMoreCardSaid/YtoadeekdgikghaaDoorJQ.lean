/-
 The law RulesMore of package quaestorlaw17: whatever is handed in, it returns true, and what was handed in reads as it did. The listed variables are read out of the row. No condition.
-/
import Derived.Test.YtoadeekdgikghaaDoorJP
import Derived.Test.YtoadeekdgikghaaDoorJI
import Derived.Test.YtoadeekdgikghaaDoorU5
import Derived.Test.YtoadeekdgikghaaDoorRE
import Derived.Test.YtoadeekdgikghaaDoorFJ
set_option maxRecDepth 20000
set_option linter.unusedVariables false
set_option linter.unusedSimpArgs false
namespace Go.Proofs.YtoadeekdgikghaaDoor
open Go.ChangeShapes Go.WideShapes Go.ChangeAt Go.RowKit
theorem more_core (ol : List SV) (x : OpD) (ea : Option Addr) (ec : Nat) (es : List EntV) (a1 : Option Addr) (n1 c1 : Nat) (r1 : List (List SV)) (l1 : List Evt) (s0 s1 s2 s3 : Bool) (role : Nat) (w : World) (hr : role < 256) (hO : OpR (H0 w) ol x) (hA : es.length ≤ ec ∧ ec ≤ maxLen ∧ adr ea es.length ec ∧ (∀ z ∈ es, EntO z ∧ EntLies (H0 w) z) ∧ LiesH (H0 w) ea (cc (.rows 27 (es.map entL)))) (he1 : EvL (H0 w) a1 n1 c1 r1 l1) (h : laidMetH Tryd.prog Rows.rulesMoreRow.laid w) :
  Calls Tryd.prog 3 (cvs [.gh ea es.length ec (.rows 27 (es.map entL)), .agg ol, .gh a1 n1 c1 (.rows 32 r1), .agg [.bool s0, .bool s1, .bool s2, .bool s3], .int .u8 (role : Nat)]).toArray w (Yes w) := by
 obtain ⟨k0, k1⟩ := ru_laid h
 obtain ⟨g1, g2, g3, g4, g5⟩ := hA
 unfold maxLen at g2
 have hB : EnA (H0 w) ea es.length ec (es.map entL) es := ⟨rfl, rfl, g1, by omega, g3, g5, g4⟩
 cases d1 : hvy (es.map entL) r1
 ·exact more_small ol x ea es.length ec _ es a1 n1 c1 r1 l1 s0 s1 s2 s3 (role : Nat) w (by omega) hO hB he1 k0 k1 d1
 ·exact more_big ol x ea es.length ec _ es a1 n1 c1 r1 l1 s0 s1 s2 s3 (role : Nat) w (by omega) hO hB he1 k0 k1 d1
def rulesMore_lay0 : Obj → Obj
 | .cells _ t frozen => .cells #[.int .u64 1, .int .u64 32898, .int .u64 9223372036854808714, .int .u64 9223372039002292224, .int .u64 32907, .int .u64 2147483649, .int .u64 9223372039002292353, .int .u64 9223372036854808585, .int .u64 138, .int .u64 136, .int .u64 2147516425, .int .u64 2147483658, .int .u64 2147516555, .int .u64 9223372036854775947, .int .u64 9223372036854808713, .int .u64 9223372036854808579, .int .u64 9223372036854808578, .int .u64 9223372036854775936, .int .u64 32778, .int .u64 9223372039002259466, .int .u64 9223372039002292353, .int .u64 9223372036854808704, .int .u64 2147483649, .int .u64 9223372039002292232] t frozen
 | o => o
def rulesMore_lay1 : Obj → Obj
 | .cells _ t frozen => .cells #[.int .u8 10, .int .u8 7, .int .u8 11, .int .u8 17, .int .u8 18, .int .u8 3, .int .u8 5, .int .u8 16, .int .u8 8, .int .u8 21, .int .u8 24, .int .u8 4, .int .u8 15, .int .u8 23, .int .u8 19, .int .u8 13, .int .u8 12, .int .u8 2, .int .u8 20, .int .u8 14, .int .u8 22, .int .u8 9, .int .u8 6, .int .u8 1] t frozen
 | o => o
noncomputable def rulesMore_world (os : Os) : World :=
 { World.holding Tryd.prog os ⟨#[], #[], []⟩ with heap := (((World.holding Tryd.prog os ⟨#[], #[], []⟩).heap).modify 0 rulesMore_lay0).modify 1 rulesMore_lay1 }
set_option maxRecDepth 100000 in
theorem rulesMore_laid (os : Os) : laidMet Tryd.prog Rows.rulesMoreRow.laid ((rulesMore_world os).forCall (fun _ _ => 0) ⟨#[], #[.slice none 0 0, opWit, .slice none 0 0, .agg #[.bool false, .bool false, .bool false, .bool false], .int .u8 0], []⟩).memory :=
 laidMet_of_run' 8 (by kernel_rfl) (by kernel_rfl)
set_option maxRecDepth 100000 in
theorem rulesMore_reads (os : Os) {H : Type} (enc : TypeId × Value → H) : ∃ places, DataW.whole enc Tryd.prog ((rulesMore_world os).forCall (fun _ _ => 0) ⟨#[], #[.slice none 0 0, opWit, .slice none 0 0, .agg #[.bool false, .bool false, .bool false, .bool false], .int .u8 0], []⟩).memory Tryd.f3.params.toList Rows.rulesMoreSpec.vars false (#[.slice none 0 0, opWit, .slice none 0 0, .agg #[.bool false, .bool false, .bool false, .bool false], .int .u8 0] : Array Value).toList 8 = some ([.nil, .agg [.agg [.lit (.int .u8 0), .lit (.int .u8 0), .lit (.int .u8 0), .lit (.int .u8 0), .lit (.int .u8 0), .lit (.int .u8 0), .lit (.int .u8 0), .lit (.int .u8 0), .lit (.int .u8 0), .lit (.int .u8 0), .lit (.int .u8 0), .lit (.int .u8 0), .lit (.int .u8 0), .lit (.int .u8 0), .lit (.int .u8 0), .lit (.int .u8 0), .lit (.int .u8 0), .lit (.int .u8 0), .lit (.int .u8 0), .lit (.int .u8 0)], .agg [.lit (.int .u64 0), .lit (.int .u64 0), .lit (.int .u64 0), .lit (.int .u64 0)], .lit (.bool false), .agg [.lit (.int .u8 0), .lit (.int .u8 0), .lit (.int .u8 0), .lit (.int .u8 0), .lit (.int .u8 0), .lit (.int .u8 0), .lit (.int .u8 0), .lit (.int .u8 0), .lit (.int .u8 0), .lit (.int .u8 0), .lit (.int .u8 0), .lit (.int .u8 0), .lit (.int .u8 0), .lit (.int .u8 0), .lit (.int .u8 0), .lit (.int .u8 0), .lit (.int .u8 0), .lit (.int .u8 0), .lit (.int .u8 0), .lit (.int .u8 0)], .nil, .nil, .lit (.int .u64 0), .lit (.int .u64 0), .lit (.int .u64 0), .agg [.lit (.int .u64 0), .lit (.int .u64 0), .lit (.int .u64 0), .lit (.int .u64 0)], .agg [.lit (.int .u64 0), .lit (.int .u64 0), .lit (.int .u64 0), .lit (.int .u64 0)], .lit (.bool false), .agg [.lit (.int .u8 0), .lit (.int .u8 0), .lit (.int .u8 0), .lit (.int .u8 0), .lit (.int .u8 0), .lit (.int .u8 0), .lit (.int .u8 0), .lit (.int .u8 0), .lit (.int .u8 0), .lit (.int .u8 0), .lit (.int .u8 0), .lit (.int .u8 0), .lit (.int .u8 0), .lit (.int .u8 0), .lit (.int .u8 0), .lit (.int .u8 0), .lit (.int .u8 0), .lit (.int .u8 0), .lit (.int .u8 0), .lit (.int .u8 0)], .lit (.int .u64 0), .lit (.int .u64 0), .nil, .nil], .nil, .agg [.lit (.bool false), .lit (.bool false), .lit (.bool false), .lit (.bool false)], .lit (.int .u8 0)], [], places) :=
 ⟨[], by kernel_rfl⟩
set_option maxRecDepth 100000 in
theorem rulesMore_lifted (os : Os) (started : os.Started) (H : Type) (enc : TypeId × Value → H) (F : Stop.Interp) :
  ReturnsInHanded {} Tryd.checked os 3 .any ((OpenSpec.ofChange Rows.rulesMoreSpec).preRow enc Tryd.prog Tryd.f3 Rows.rulesMoreRow.domain false Rows.rulesMoreRow.laid) (((OpenSpec.ofChange Rows.rulesMoreSpec).at F).post enc Tryd.prog Tryd.f3 false true false false) := by
 obtain ⟨places, hx⟩ := rulesMore_reads os enc
 refine returnsInHanded_of_row (C := Tryd.checked) (s := OpenSpec.ofChange Rows.rulesMoreSpec) Tryd.own started (by kernel_rfl) Tryd.func3
  (witness_row_at (enc := enc) (C := Tryd.checked) false (rulesMore_world os) #[.slice none 0 0, opWit, .slice none 0 0, .agg #[.bool false, .bool false, .bool false, .bool false], .int .u8 0] rfl (by kernel_rfl) (by kernel_rfl) (by kernel_rfl)
   (OpenSpec.preRow_of_cond 8 hx (by kernel_rfl) (fun k hk => by cases hk) (by kernel_rfl) (rulesMore_laid os))) ?_
 intro W0 base args ds gs before hval0 hW _ _ hsz hlaid _ _
 have hval : ∀ (j : Nat) t v, Tryd.f3.params[j]? = some t → args[j]? = some v → Value.okWide Tryd.prog W0 .any base t v := hval0
 have hW' := hW
 obtain ⟨p, q, hA0, hV, rfl, hfz, hnd⟩ := hW
 have hA : DataW.TrodAll enc Tryd.prog W0 0 (fun _ => true) true Tryd.f3.params.toList args.toList ds p := hA0
 rw [Tryd.params3] at hA hval
 obtain ⟨v0, v1, v2, v3, v4, d0, d1, d2, d3, d4, p0, p1, p2, p3, p4, rfl, rfl, rfl, h0, h1, h2, h3, h4⟩ := trodAll_five hA
 obtain ⟨rfl, rfl⟩ := trodVars_none hV
 obtain ⟨a0, c0, y0, rfl, i0⟩ := entries_open (hval 0 _ v0 rfl rfl) h0 (fun n hn => by have := List.all_eq_true.1 hsz n (DataW.weights_mem_each (j := 0) rfl rfl n hn); simpa using this)
 obtain ⟨l1, o1, rfl, i1⟩ := op_open (hval 1 _ v1 rfl rfl) h1
 obtain ⟨a2, n2, c2, y2, z2, rfl, i2⟩ := events_open (hval 2 _ v2 rfl rfl) h2
 obtain ⟨s3, t3, u3, x3, rfl⟩ := b4_open (hval 3 _ v3 rfl rfl) h3
 obtain ⟨a4, rfl, rfl, rfl, w4, f4⟩ := nat_open 256 wf_u8 Tryd.underlying5 (hval 4 _ v4 rfl rfl) h4
 refine (calls_args (by simp only [cvs]; try rfl) (more_core l1 o1 a0 c0 y0 a2 n2 c2 y2 z2 s3 t3 u3 x3 a4 W0 (by omega) i1 i0 i2 hlaid)).mono fun e W' h => ?_
 obtain ⟨he, hw⟩ := Yes.out h
 subst he
 exact ⟨_, rfl, post_any hW' rfl hw (by kernel_rfl) rfl (fun _ _ _ => trodAll_mk1 (shut_bool Tryd.underlying4 true)) (fun _ => rfl) (ok_one (by kernel_rfl) rfl (okWide_bool_mk Tryd.underlying4 true))⟩
theorem rulesMore_said : Rows.RulesMoreSaid :=
 OpenClaim.holds_of_cond 3 Tryd.f3 rfl rfl rfl rfl rfl rfl rfl ⟨rfl, rfl, rfl, rfl, rfl⟩ rfl rfl rfl rfl rfl (by kernel_rfl) Tryd.func3 (by kernel_rfl)
  (of_decide_eq_true (by kernel_rfl)) (by unfold Func.isWrapper; first | (rw [if_pos (by decide +kernel)]; kernel_rfl) | (rw [if_neg (by decide +kernel)]; exact ⟨rfl, rfl⟩))
  (fun os started H enc _ F => by rw [OpenClaim.pre_eq_preRow]; exact rulesMore_lifted os started H enc F)
theorem rulesMore_plain (f : FuncId) (fn : Func) (hf : Tryd.pinned.checked.prog.funcNamed "quaestor/quaestorlaw17.RulesMore" = some f) (hfn : Tryd.pinned.checked.prog.funcs[f]? = some fn) :
  false = Tryd.pinned.checked.prog.looks [] ∧ ∀ (j : Nat) t, fn.params[j]? = some t → Tryd.pinned.checked.prog.wantsStandIn t = false := by
 obtain rfl : f = 3 := Option.some.inj ((show Tryd.prog.funcNamed "quaestor/quaestorlaw17.RulesMore" = some 3 by kernel_rfl).symm.trans hf) |>.symm
 obtain rfl : fn = Tryd.f3 := (Option.some.inj (Tryd.func3.symm.trans hfn)).symm
 refine ⟨by kernel_rfl, fun j t ht => ?_⟩
 rw [Tryd.params3] at ht
 have ht2 := Array.mem_of_getElem? ht
 simp only [List.mem_toArray, List.mem_cons, List.not_mem_nil, or_false] at ht2
 rcases ht2 with rfl | rfl | rfl | rfl | rfl
 ·exact (show Tryd.prog.wantsStandIn 22 = false by kernel_rfl)
 ·exact (show Tryd.prog.wantsStandIn 30 = false by kernel_rfl)
 ·exact (show Tryd.prog.wantsStandIn 31 = false by kernel_rfl)
 ·exact (show Tryd.prog.wantsStandIn 32 = false by kernel_rfl)
 ·exact (show Tryd.prog.wantsStandIn 5 = false by kernel_rfl)
theorem RulesMore_holds : Rows.RulesMoreCardSaid :=
 Claim7.holds_tied_plain_at .later [] _ _ _ _ rulesMore_said (fun _ h => by cases h) (by kernel_rfl) (fun _ h => by cases h) rulesMore_row_tie rfl ⟨rfl, rfl⟩ (by kernel_rfl) rfl rulesMore_plain (by kernel_rfl)
#print axioms RulesMore_holds
end Go.Proofs.YtoadeekdgikghaaDoor
