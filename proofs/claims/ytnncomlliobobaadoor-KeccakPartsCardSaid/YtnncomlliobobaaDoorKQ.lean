/-
  The law KeccakParts of package quaestorlaw02 answers true for all pairs of lists of words; the listed variables are read out of the row.
-/
import Derived.Test.YtnncomlliobobaaDoorKP
import Derived.Test.YtnncomlliobobaaDoorKV
import Derived.Test.YtnncomlliobobaaDoorFV
import Derived.Test.YtnncomlliobobaaDoorCards
import Derived.Test.YtnncomlliobobaaDoorTie
import Derived.Deep.DeepHandedRow
import Derived.Lib.LaidTab
import Derived.OpenShut
namespace Go.Proofs.YtnncomlliobobaaDoor
set_option linter.unusedSimpArgs false
set_option linter.unusedVariables false
set_option maxRecDepth 10000
open Go.ChangeShapes Go.WideShapes Go.ChangeAt Go.RowKit
theorem kkp_laid {w : World} (h : laidMetH Tryd.prog Rows.keccakPartsRow.laid w) : RoOk w (some ⟨2, 0, none⟩) (.ints .u64 kKeys) ∧ RoOk w (some ⟨3, 0, none⟩) (.ints .u8 kPathI) :=
  laid_two (n1 := "quaestor/keccak.keys") (n2 := "quaestor/keccak.path") h (by kernel_rfl) (by kernel_rfl) (by kernel_rfl) (by kernel_rfl) (by kernel_rfl) (by kernel_rfl)
theorem kParts_core (l : List Nat) (a : Option Addr) (n cp : Nat) (hl : l.length = n) (hc : n ≤ cp) (ha : adr a n cp) (l' : List Nat) (a' : Option Addr) (n' cp' : Nat) (hl' : l'.length = n') (hc' : n' ≤ cp') (ha' : adr a' n' cp') (w : World) (hr : RoOk w a (.words l)) (hr' : RoOk w a' (.words l')) (h : laidMetH Tryd.prog Rows.keccakPartsRow.laid w) :
    Calls Tryd.prog 5 (cvs [.sl 2 a 0 0 4 n cp, .sl 3 a' 0 0 4 n' cp']).toArray w (Yes w) := by
  have hh := kkp_laid h
  exact kparts_law l a n cp hl hc ha l' a' n' cp' hl' hc' ha' w (ro_cons (ro_cons (ro_cons (ro_cons (ro_nil w) hr') hr) hh.2) hh.1)
def keccakParts_lay2 : Obj → Obj
  | .cells _ t frozen => .cells #[.int .u64 1, .int .u64 32898, .int .u64 9223372036854808714, .int .u64 9223372039002292224, .int .u64 32907, .int .u64 2147483649, .int .u64 9223372039002292353, .int .u64 9223372036854808585, .int .u64 138, .int .u64 136, .int .u64 2147516425, .int .u64 2147483658, .int .u64 2147516555, .int .u64 9223372036854775947, .int .u64 9223372036854808713, .int .u64 9223372036854808579, .int .u64 9223372036854808578, .int .u64 9223372036854775936, .int .u64 32778, .int .u64 9223372039002259466, .int .u64 9223372039002292353, .int .u64 9223372036854808704, .int .u64 2147483649, .int .u64 9223372039002292232] t frozen
  | o => o
def keccakParts_lay3 : Obj → Obj
  | .cells _ t frozen => .cells #[.int .u8 10, .int .u8 7, .int .u8 11, .int .u8 17, .int .u8 18, .int .u8 3, .int .u8 5, .int .u8 16, .int .u8 8, .int .u8 21, .int .u8 24, .int .u8 4, .int .u8 15, .int .u8 23, .int .u8 19, .int .u8 13, .int .u8 12, .int .u8 2, .int .u8 20, .int .u8 14, .int .u8 22, .int .u8 9, .int .u8 6, .int .u8 1] t frozen
  | o => o
/-- A world for the witness: the settled one, the listed variables holding what the row lists. -/
noncomputable def keccakParts_world (os : Os) : World :=
  { World.holding Tryd.prog os ⟨#[], #[], []⟩ with heap := (((World.holding Tryd.prog os ⟨#[], #[], []⟩).heap).modify 2 keccakParts_lay2).modify 3 keccakParts_lay3 }
set_option maxRecDepth 100000 in
theorem keccakParts_laid (os : Os) : laidMet Tryd.prog Rows.keccakPartsRow.laid ((keccakParts_world os).forCall (fun _ _ => 0) ⟨#[], #[.slice none 0 0, .slice none 0 0], []⟩).memory :=
  laidMet_of_run' 8 (by kernel_rfl) (by kernel_rfl)
set_option maxRecDepth 100000 in
theorem keccakParts_reads (os : Os) {H : Type} (enc : TypeId × Value → H) : ∃ places, DataW.whole enc Tryd.prog ((keccakParts_world os).forCall (fun _ _ => 0) ⟨#[], #[.slice none 0 0, .slice none 0 0], []⟩).memory Tryd.f5.params.toList Rows.keccakPartsSpec.vars false (#[.slice none 0 0, .slice none 0 0] : Array Value).toList 8 = some ([.nil, .nil], [], places) :=
  ⟨[], by kernel_rfl⟩
set_option maxRecDepth 100000 in
theorem keccakParts_lifted (os : Os) (started : os.Started) (H : Type) (enc : TypeId × Value → H) (F : Stop.Interp) :
    ReturnsInHanded {} Tryd.checked os 5 .any ((OpenSpec.ofChange Rows.keccakPartsSpec).preRow enc Tryd.prog Tryd.f5 Rows.keccakPartsRow.domain false Rows.keccakPartsRow.laid) (((OpenSpec.ofChange Rows.keccakPartsSpec).at F).post enc Tryd.prog Tryd.f5 false true false false) := by
  obtain ⟨places, hx⟩ := keccakParts_reads os enc
  refine returnsInHanded_of_row (C := Tryd.checked) (s := OpenSpec.ofChange Rows.keccakPartsSpec) Tryd.own started (by kernel_rfl) Tryd.func5
    (witness_row_at (enc := enc) (C := Tryd.checked) false (keccakParts_world os) #[.slice none 0 0, .slice none 0 0] rfl (by kernel_rfl) (by kernel_rfl) (by kernel_rfl)
      (OpenSpec.preRow_of_cond 8 hx (by kernel_rfl) (fun k hk => by cases hk) (by kernel_rfl) (keccakParts_laid os))) ?_
  intro W0 base args ds gs before hval0 hW _ _ _ hlaid _ _
  have hval : ∀ (j : Nat) t v, Tryd.f5.params[j]? = some t → args[j]? = some v → Value.okWide Tryd.prog W0 .any base t v := hval0
  have hW' := hW
  obtain ⟨p, q, hA0, hV, rfl, hfz, hnd⟩ := hW
  have hA : DataW.TrodAll enc Tryd.prog W0 0 (fun _ => true) true Tryd.f5.params.toList args.toList ds p := hA0
  rw [Tryd.params5] at hA hval
  obtain ⟨v0, v1, d0, d1, p0, p1, rfl, rfl, rfl, h0, h1⟩ := trodAll_two hA
  obtain ⟨rfl, rfl⟩ := trodVars_none hV
  obtain ⟨a0, n0, c0, x0, rfl, l0, k0, m0, q0, f0, r0, s0⟩ := words_open (hval 0 _ v0 rfl rfl) h0
  obtain ⟨a1, n1, c1, x1, rfl, l1, k1, m1, q1, f1, r1, s1⟩ := words_open (hval 1 _ v1 rfl rfl) h1
  refine (calls_args (by simp only [cvs, cv_sl]; try rfl) (kParts_core x0 a0 n0 c0 l0 k0 q0 x1 a1 n1 c1 l1 k1 q1 W0 r0 r1 hlaid)).mono fun e W' h => ?_
  obtain ⟨he, hw⟩ := Yes.out h
  subst he
  exact ⟨_, rfl, post_gr hW' hw (fun _ _ _ => trodAll_mk1 (shut_bool Tryd.underlying4 true)) (fun qq sp hsp => by
    have hh := trodAll_mk2 (s0 qq sp (fun z hz => hsp z (by simp [hz]))) (s1 qq sp (fun z hz => hsp z (by simp [hz])))
    try simp only [List.append_nil, List.nil_append, List.append_assoc] at hh
    try simp only [List.append_nil, List.nil_append, List.append_assoc]
    exact hh) (fun _ => rfl) (ok_one (by kernel_rfl) rfl (okWide_bool_mk Tryd.underlying4 true))⟩
theorem keccakParts_said : Rows.KeccakPartsSaid :=
  OpenClaim.holds_of_cond 5 Tryd.f5 rfl rfl rfl rfl rfl rfl rfl ⟨rfl, rfl, rfl, rfl, rfl⟩ rfl rfl rfl rfl rfl (by kernel_rfl) Tryd.func5 (by kernel_rfl)
    (of_decide_eq_true (by kernel_rfl)) (by unfold Func.isWrapper; first | (rw [if_pos (by decide +kernel)]; kernel_rfl) | (rw [if_neg (by decide +kernel)]; exact ⟨rfl, rfl⟩))
    (fun os started H enc _ F => by rw [OpenClaim.pre_eq_preRow]; exact keccakParts_lifted os started H enc F)
theorem keccakParts_plain (f : FuncId) (fn : Func) (hf : Tryd.pinned.checked.prog.funcNamed "quaestor/quaestorlaw02.KeccakParts" = some f) (hfn : Tryd.pinned.checked.prog.funcs[f]? = some fn) :
    false = Tryd.pinned.checked.prog.looks [] ∧ ∀ (j : Nat) t, fn.params[j]? = some t → Tryd.pinned.checked.prog.wantsStandIn t = false := by
  obtain rfl : f = 5 := Option.some.inj ((show Tryd.prog.funcNamed "quaestor/quaestorlaw02.KeccakParts" = some 5 by kernel_rfl).symm.trans hf) |>.symm
  obtain rfl : fn = Tryd.f5 := (Option.some.inj (Tryd.func5.symm.trans hfn)).symm
  refine ⟨by kernel_rfl, fun j t ht => ?_⟩
  rw [Tryd.params5] at ht
  have ht2 := Array.mem_of_getElem? ht
  simp only [List.mem_toArray, List.mem_cons, List.not_mem_nil, or_false] at ht2
  rcases ht2 with rfl | rfl
  · exact (show Tryd.prog.wantsStandIn 29 = false by kernel_rfl)
  · exact (show Tryd.prog.wantsStandIn 29 = false by kernel_rfl)
theorem KeccakParts_holds : Rows.KeccakPartsCardSaid :=
  Claim7.holds_tied_plain_at .later [] _ _ _ _ keccakParts_said (fun _ h => by cases h) (by kernel_rfl) (fun _ h => by cases h) keccakParts_row_tie rfl ⟨rfl, rfl⟩ (by kernel_rfl) rfl keccakParts_plain (by kernel_rfl)
#print axioms KeccakParts_holds
end Go.Proofs.YtnncomlliobobaaDoor
