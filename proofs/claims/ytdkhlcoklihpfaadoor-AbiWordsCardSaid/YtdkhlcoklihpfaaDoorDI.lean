/-
  The law AbiWords of package quaestorlaw05: the listed variables are read out of the row. No condition.
-/
import Derived.Test.YtdkhlcoklihpfaaDoorDH
import Derived.Test.YtdkhlcoklihpfaaDoorFV2
namespace Go.Proofs.YtdkhlcoklihpfaaDoor
set_option linter.unusedSimpArgs false
set_option linter.unusedVariables false
set_option maxRecDepth 10000
open Go.ChangeShapes Go.WideShapes Go.ChangeAt Go.RowKit
theorem words_core (a : Option Addr) (n c : Nat) (us : List Nat) (hl : us.length = n) (hn : n ≤ c) (hc : c ≤ maxLen) (ha : adr a n c) (hW : ∀ x ∈ us, x < W) (w : World) (hr : RoOk w a (.words us)) (h : laidMetH Tryd.prog Rows.abiWordsRow.laid w) :
    Calls Tryd.prog 6 (cvs [.sl 3 a 0 0 4 n c]).toArray w (Yes w) := by
  obtain ⟨h1, h2, h3⟩ := ab_laid h
  exact words_law a n c us hl hn hc ha hW w h1 h2 h3 (ro_cons (ro_nil w) hr)
def abiWords_lay0 : Obj → Obj
  | .cells _ t frozen => .cells #[.iface 98 (.agg #[.pointer (some ⟨3, 55, none⟩)])] t frozen
  | o => o
def abiWords_lay1 : Obj → Obj
  | .cells _ t frozen => .cells #[.int .u64 1, .int .u64 32898, .int .u64 9223372036854808714, .int .u64 9223372039002292224, .int .u64 32907, .int .u64 2147483649, .int .u64 9223372039002292353, .int .u64 9223372036854808585, .int .u64 138, .int .u64 136, .int .u64 2147516425, .int .u64 2147483658, .int .u64 2147516555, .int .u64 9223372036854775947, .int .u64 9223372036854808713, .int .u64 9223372036854808579, .int .u64 9223372036854808578, .int .u64 9223372036854775936, .int .u64 32778, .int .u64 9223372039002259466, .int .u64 9223372039002292353, .int .u64 9223372036854808704, .int .u64 2147483649, .int .u64 9223372039002292232] t frozen
  | o => o
def abiWords_lay2 : Obj → Obj
  | .cells _ t frozen => .cells #[.int .u8 10, .int .u8 7, .int .u8 11, .int .u8 17, .int .u8 18, .int .u8 3, .int .u8 5, .int .u8 16, .int .u8 8, .int .u8 21, .int .u8 24, .int .u8 4, .int .u8 15, .int .u8 23, .int .u8 19, .int .u8 13, .int .u8 12, .int .u8 2, .int .u8 20, .int .u8 14, .int .u8 22, .int .u8 9, .int .u8 6, .int .u8 1] t frozen
  | o => o
/-- A world for the witness: the settled one, the listed variables holding what the row lists. -/
noncomputable def abiWords_world (os : Os) : World :=
  { World.holding Tryd.prog os ⟨#[], #[], []⟩ with heap := ((((World.holding Tryd.prog os ⟨#[], #[], []⟩).heap).modify 0 abiWords_lay0).modify 1 abiWords_lay1).modify 2 abiWords_lay2 }
set_option maxRecDepth 100000 in
theorem abiWords_laid (os : Os) : laidMetH Tryd.prog Rows.abiWordsRow.laid ((abiWords_world os).forCall (fun _ _ => 0) ⟨#[], #[.slice none 0 0], []⟩).memory :=
  laidMetH_of_parts (laidMet_of_run' 8 (by kernel_rfl) (by kernel_rfl)) (by kernel_rfl)
set_option maxRecDepth 100000 in
theorem abiWords_reads (os : Os) {H : Type} (enc : TypeId × Value → H) : ∃ places, DataW.whole enc Tryd.prog ((abiWords_world os).forCall (fun _ _ => 0) ⟨#[], #[.slice none 0 0], []⟩).memory Tryd.f6.params.toList Rows.abiWordsSpec.vars false (#[.slice none 0 0] : Array Value).toList 8 = some ([.nil], [], places) :=
  ⟨[], by kernel_rfl⟩
set_option maxRecDepth 100000 in
theorem abiWords_lifted (os : Os) (started : os.Started) (H : Type) (enc : TypeId × Value → H) (F : Stop.Interp) :
    ReturnsInHanded {} Tryd.checked os 6 .any ((OpenSpec.ofChange Rows.abiWordsSpec).preRow enc Tryd.prog Tryd.f6 Rows.abiWordsRow.domain false Rows.abiWordsRow.laid) (((OpenSpec.ofChange Rows.abiWordsSpec).at F).post enc Tryd.prog Tryd.f6 false true false false) := by
  obtain ⟨places, hx⟩ := abiWords_reads os enc
  refine returnsInHanded_of_row (C := Tryd.checked) (s := OpenSpec.ofChange Rows.abiWordsSpec) Tryd.own started (by kernel_rfl) Tryd.func6
    (witness_row_at (enc := enc) (C := Tryd.checked) false (abiWords_world os) #[.slice none 0 0] rfl (by kernel_rfl) (by kernel_rfl) (by kernel_rfl)
      (OpenSpec.preRow_of_cond 8 hx (by kernel_rfl) (fun k hk => by cases hk) (by kernel_rfl) (abiWords_laid os))) ?_
  intro W0 base args ds gs before hval0 hW _ _ _ hlaid _ _
  have hval : ∀ (j : Nat) t v, Tryd.f6.params[j]? = some t → args[j]? = some v → Value.okWide Tryd.prog W0 .any base t v := hval0
  have hW' := hW
  obtain ⟨p, q, hA0, hV, rfl, hfz, hnd⟩ := hW
  have hA : DataW.TrodAll enc Tryd.prog W0 0 (fun _ => true) true Tryd.f6.params.toList args.toList ds p := hA0
  rw [Tryd.params6] at hA hval
  obtain ⟨v0, d0, rfl, rfl, h0⟩ := trodAll_one hA
  obtain ⟨rfl, rfl⟩ := trodVars_none hV
  obtain ⟨a0, n0, c0, x0, rfl, l0, k0, m0, q0, f0, r0, s0⟩ := words_open (hval 0 _ v0 rfl rfl) h0
  refine (calls_args (by simp only [cvs, cv_sl]; try rfl) (words_core a0 n0 c0 x0 l0 k0 m0 q0 f0 W0 r0 hlaid)).mono fun e W' h => ?_
  obtain ⟨he, hw⟩ := Yes.out h
  subst he
  exact ⟨_, rfl, post_any hW' rfl hw (by kernel_rfl) rfl (fun _ _ _ => trodAll_mk1 (shut_bool Tryd.underlying4 true)) (fun _ => rfl) (ok_one (by kernel_rfl) rfl (okWide_bool_mk Tryd.underlying4 true))⟩
theorem abiWords_said : Rows.AbiWordsSaid :=
  OpenClaim.holds_of_cond 6 Tryd.f6 rfl rfl rfl rfl rfl rfl rfl ⟨rfl, rfl, rfl, rfl, rfl⟩ rfl rfl rfl rfl rfl (by kernel_rfl) Tryd.func6 (by kernel_rfl)
    (of_decide_eq_true (by kernel_rfl)) (by unfold Func.isWrapper; first | (rw [if_pos (by decide +kernel)]; kernel_rfl) | (rw [if_neg (by decide +kernel)]; exact ⟨rfl, rfl⟩))
    (fun os started H enc _ F => by rw [OpenClaim.pre_eq_preRow]; exact abiWords_lifted os started H enc F)
theorem abiWords_plain (f : FuncId) (fn : Func) (hf : Tryd.pinned.checked.prog.funcNamed "quaestor/quaestorlaw05.AbiWords" = some f) (hfn : Tryd.pinned.checked.prog.funcs[f]? = some fn) :
    true = Tryd.pinned.checked.prog.looks [] ∧ ∀ (j : Nat) t, fn.params[j]? = some t → Tryd.pinned.checked.prog.wantsStandIn t = false := by
  obtain rfl : f = 6 := Option.some.inj ((show Tryd.prog.funcNamed "quaestor/quaestorlaw05.AbiWords" = some 6 by kernel_rfl).symm.trans hf) |>.symm
  obtain rfl : fn = Tryd.f6 := (Option.some.inj (Tryd.func6.symm.trans hfn)).symm
  refine ⟨by kernel_rfl, fun j t ht => ?_⟩
  rw [Tryd.params6] at ht
  have ht2 := Array.mem_of_getElem? ht
  simp only [List.mem_toArray, List.mem_cons, List.not_mem_nil, or_false] at ht2
  rcases ht2 with rfl
  · exact (show Tryd.prog.wantsStandIn 46 = false by kernel_rfl)
theorem AbiWords_holds : Rows.AbiWordsCardSaid :=
  Claim7.holds_tied_plain_at .later [] _ _ _ _ abiWords_said (fun _ h => by cases h) (by kernel_rfl) (fun _ h => by cases h) abiWords_row_tie rfl ⟨rfl, rfl⟩ (by kernel_rfl) rfl abiWords_plain (by kernel_rfl)
#print axioms AbiWords_holds
end Go.Proofs.YtdkhlcoklihpfaaDoor
