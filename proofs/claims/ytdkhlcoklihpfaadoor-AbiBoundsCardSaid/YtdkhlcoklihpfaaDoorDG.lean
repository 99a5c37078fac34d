/-
  The law AbiBounds of package quaestorlaw05: the listed variables are read out of the row. No condition.
-/
import Derived.Test.YtdkhlcoklihpfaaDoorDF
import Derived.Test.YtdkhlcoklihpfaaDoorFV2
namespace Go.Proofs.YtdkhlcoklihpfaaDoor
set_option linter.unusedSimpArgs false
set_option linter.unusedVariables false
set_option maxRecDepth 10000
open Go.ChangeShapes Go.WideShapes Go.ChangeAt Go.RowKit
theorem bounds_core (da : Option Addr) (dn dc : Nat) (ds : List Bool) (a : Option Addr) (n c : Nat) (xs : List Int) (w : World) (i0 : ds.length = dn ∧ dn ≤ dc ∧ adr da dn dc ∧ dn ≤ maxLen ∧ LiesH (H0 w) da (cc (.cells (ds.map SV.bool)))) (i1 : xs.length = n ∧ n ≤ c ∧ adr a n c ∧ LiesH (H0 w) a (cc (.ints .u8 xs)) ∧ allB xs ∧ n ≤ maxLen) (h : laidMetH Tryd.prog Rows.abiBoundsRow.laid w) :
    Calls Tryd.prog 7 (cvs [.gh da dn dc (.cells (ds.map .bool)), .gh a n c (.ints .u8 xs)]).toArray w (Yes w) := by
  obtain ⟨h1, h2, h3⟩ := ab_laid h
  obtain ⟨a1, a2, a3, a4, a5⟩ := i0
  obtain ⟨b1, b2, b3, b4, b5, b6⟩ := i1
  exact bounds_law da dn dc ds a n c xs a1 a2 a3 a4 b1 b2 b3 b5 b6 w h1 h2 h3 b4 a5
def abiBounds_lay0 : Obj → Obj
  | .cells _ t frozen => .cells #[.iface 98 (.agg #[.pointer (some ⟨3, 55, none⟩)])] t frozen
  | o => o
def abiBounds_lay1 : Obj → Obj
  | .cells _ t frozen => .cells #[.int .u64 1, .int .u64 32898, .int .u64 9223372036854808714, .int .u64 9223372039002292224, .int .u64 32907, .int .u64 2147483649, .int .u64 9223372039002292353, .int .u64 9223372036854808585, .int .u64 138, .int .u64 136, .int .u64 2147516425, .int .u64 2147483658, .int .u64 2147516555, .int .u64 9223372036854775947, .int .u64 9223372036854808713, .int .u64 9223372036854808579, .int .u64 9223372036854808578, .int .u64 9223372036854775936, .int .u64 32778, .int .u64 9223372039002259466, .int .u64 9223372039002292353, .int .u64 9223372036854808704, .int .u64 2147483649, .int .u64 9223372039002292232] t frozen
  | o => o
def abiBounds_lay2 : Obj → Obj
  | .cells _ t frozen => .cells #[.int .u8 10, .int .u8 7, .int .u8 11, .int .u8 17, .int .u8 18, .int .u8 3, .int .u8 5, .int .u8 16, .int .u8 8, .int .u8 21, .int .u8 24, .int .u8 4, .int .u8 15, .int .u8 23, .int .u8 19, .int .u8 13, .int .u8 12, .int .u8 2, .int .u8 20, .int .u8 14, .int .u8 22, .int .u8 9, .int .u8 6, .int .u8 1] t frozen
  | o => o
/-- A world for the witness: the settled one, the listed variables holding what the row lists. -/
noncomputable def abiBounds_world (os : Os) : World :=
  { World.holding Tryd.prog os ⟨#[], #[], []⟩ with heap := ((((World.holding Tryd.prog os ⟨#[], #[], []⟩).heap).modify 0 abiBounds_lay0).modify 1 abiBounds_lay1).modify 2 abiBounds_lay2 }
set_option maxRecDepth 100000 in
theorem abiBounds_laid (os : Os) : laidMetH Tryd.prog Rows.abiBoundsRow.laid ((abiBounds_world os).forCall (fun _ _ => 0) ⟨#[], #[.slice none 0 0, .slice none 0 0], []⟩).memory :=
  laidMetH_of_parts (laidMet_of_run' 8 (by kernel_rfl) (by kernel_rfl)) (by kernel_rfl)
set_option maxRecDepth 100000 in
theorem abiBounds_reads (os : Os) {H : Type} (enc : TypeId × Value → H) : ∃ places, DataW.whole enc Tryd.prog ((abiBounds_world os).forCall (fun _ _ => 0) ⟨#[], #[.slice none 0 0, .slice none 0 0], []⟩).memory Tryd.f7.params.toList Rows.abiBoundsSpec.vars false (#[.slice none 0 0, .slice none 0 0] : Array Value).toList 8 = some ([.nil, .nil], [], places) :=
  ⟨[], by kernel_rfl⟩
set_option maxRecDepth 100000 in
theorem abiBounds_lifted (os : Os) (started : os.Started) (H : Type) (enc : TypeId × Value → H) (F : Stop.Interp) :
    ReturnsInHanded {} Tryd.checked os 7 .any ((OpenSpec.ofChange Rows.abiBoundsSpec).preRow enc Tryd.prog Tryd.f7 Rows.abiBoundsRow.domain false Rows.abiBoundsRow.laid) (((OpenSpec.ofChange Rows.abiBoundsSpec).at F).post enc Tryd.prog Tryd.f7 false true false false) := by
  obtain ⟨places, hx⟩ := abiBounds_reads os enc
  refine returnsInHanded_of_row (C := Tryd.checked) (s := OpenSpec.ofChange Rows.abiBoundsSpec) Tryd.own started (by kernel_rfl) Tryd.func7
    (witness_row_at (enc := enc) (C := Tryd.checked) false (abiBounds_world os) #[.slice none 0 0, .slice none 0 0] rfl (by kernel_rfl) (by kernel_rfl) (by kernel_rfl)
      (OpenSpec.preRow_of_cond 8 hx (by kernel_rfl) (fun k hk => by cases hk) (by kernel_rfl) (abiBounds_laid os))) ?_
  intro W0 base args ds gs before hval0 hW _ _ _ hlaid _ _
  have hval : ∀ (j : Nat) t v, Tryd.f7.params[j]? = some t → args[j]? = some v → Value.okWide Tryd.prog W0 .any base t v := hval0
  have hW' := hW
  obtain ⟨p, q, hA0, hV, rfl, hfz, hnd⟩ := hW
  have hA : DataW.TrodAll enc Tryd.prog W0 0 (fun _ => true) true Tryd.f7.params.toList args.toList ds p := hA0
  rw [Tryd.params7] at hA hval
  obtain ⟨v0, v1, d0, d1, p0, p1, rfl, rfl, rfl, h0, h1⟩ := trodAll_two hA
  obtain ⟨rfl, rfl⟩ := trodVars_none hV
  obtain ⟨a0, n0, c0, y0, rfl, i0⟩ := bools_open (hval 0 _ v0 rfl rfl) h0
  obtain ⟨a1, n1, c1, y1, rfl, i1⟩ := byt_open (hval 1 _ v1 rfl rfl) h1
  refine (calls_args (by simp only [cvs]; try rfl) (bounds_core a0 n0 c0 y0 a1 n1 c1 y1 W0 i0 i1 hlaid)).mono fun e W' h => ?_
  obtain ⟨he, hw⟩ := Yes.out h
  subst he
  exact ⟨_, rfl, post_any hW' rfl hw (by kernel_rfl) rfl (fun _ _ _ => trodAll_mk1 (shut_bool Tryd.underlying4 true)) (fun _ => rfl) (ok_one (by kernel_rfl) rfl (okWide_bool_mk Tryd.underlying4 true))⟩
theorem abiBounds_said : Rows.AbiBoundsSaid :=
  OpenClaim.holds_of_cond 7 Tryd.f7 rfl rfl rfl rfl rfl rfl rfl ⟨rfl, rfl, rfl, rfl, rfl⟩ rfl rfl rfl rfl rfl (by kernel_rfl) Tryd.func7 (by kernel_rfl)
    (of_decide_eq_true (by kernel_rfl)) (by unfold Func.isWrapper; first | (rw [if_pos (by decide +kernel)]; kernel_rfl) | (rw [if_neg (by decide +kernel)]; exact ⟨rfl, rfl⟩))
    (fun os started H enc _ F => by rw [OpenClaim.pre_eq_preRow]; exact abiBounds_lifted os started H enc F)
theorem abiBounds_plain (f : FuncId) (fn : Func) (hf : Tryd.pinned.checked.prog.funcNamed "quaestor/quaestorlaw05.AbiBounds" = some f) (hfn : Tryd.pinned.checked.prog.funcs[f]? = some fn) :
    true = Tryd.pinned.checked.prog.looks [] ∧ ∀ (j : Nat) t, fn.params[j]? = some t → Tryd.pinned.checked.prog.wantsStandIn t = false := by
  obtain rfl : f = 7 := Option.some.inj ((show Tryd.prog.funcNamed "quaestor/quaestorlaw05.AbiBounds" = some 7 by kernel_rfl).symm.trans hf) |>.symm
  obtain rfl : fn = Tryd.f7 := (Option.some.inj (Tryd.func7.symm.trans hfn)).symm
  refine ⟨by kernel_rfl, fun j t ht => ?_⟩
  rw [Tryd.params7] at ht
  have ht2 := Array.mem_of_getElem? ht
  simp only [List.mem_toArray, List.mem_cons, List.not_mem_nil, or_false] at ht2
  rcases ht2 with rfl | rfl
  · exact (show Tryd.prog.wantsStandIn 30 = false by kernel_rfl)
  · exact (show Tryd.prog.wantsStandIn 26 = false by kernel_rfl)
theorem AbiBounds_holds : Rows.AbiBoundsCardSaid :=
  Claim7.holds_tied_plain_at .later [] _ _ _ _ abiBounds_said (fun _ h => by cases h) (by kernel_rfl) (fun _ h => by cases h) abiBounds_row_tie rfl ⟨rfl, rfl⟩ (by kernel_rfl) rfl abiBounds_plain (by kernel_rfl)
#print axioms AbiBounds_holds
end Go.Proofs.YtdkhlcoklihpfaaDoor
