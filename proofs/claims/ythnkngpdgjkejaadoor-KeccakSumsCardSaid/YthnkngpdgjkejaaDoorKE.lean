/-
  The law KeccakSums of package quaestorlaw02 answers true for all byte strings; the listed variables are read out of the row.
-/
import Derived.Test.YthnkngpdgjkejaaDoorKD
import Derived.Test.YthnkngpdgjkejaaDoorFB
import Derived.Test.YthnkngpdgjkejaaDoorCards
import Derived.Test.YthnkngpdgjkejaaDoorTie
import Derived.Deep.DeepHandedRow
import Derived.Lib.LaidTab
import Derived.OpenShut
namespace Go.Proofs.YthnkngpdgjkejaaDoor
set_option linter.unusedSimpArgs false
set_option linter.unusedVariables false
set_option maxRecDepth 10000
open Go.ChangeShapes Go.WideShapes Go.ChangeAt Go.RowKit
/-- The g-th variable is an array of integers of kind k. -/
def arrOf (P : Program) (g : Nat) (k : IntKind) : Bool :=
  match P.globals[g]? with
  | some v => match P.underlying v.type with
    | some (.array n e) => (match P.underlying e with | some (.int k') => decide (k' = k) | _ => false) && P.cellsOf e == 1 && P.cellsOf v.type == n
    | _ => false
  | none => false
theorem ro_of_laid {P : Program} {w : World} {name : String} {g : Nat} {k : IntKind} {zs : List Int} {t : TypeId} {cs : Array Value} {fuel : Nat} {p : List MemPlace} {H : Type} {enc : TypeId × Value → H} (hg : P.globalNamed name = some g) (ha : arrOf P g k = true)
    (h1 : ∃ g', P.globalNamed name = some g' ∧ (P.globals[g']?).map (·.type) = some t) (h3 : w.var? P name = some cs) (h4 : DataW.trod enc P w 0 (fun _ => true) false fuel t cs.toList = some (Lib.tabData k zs, p)) : RoOk w (some ⟨g, 0, none⟩) (.ints k zs) := by
  obtain ⟨g', h1, h2⟩ := h1
  rw [hg] at h1; cases h1
  unfold arrOf at ha
  split at ha
  · rename_i v hv
    rw [hv] at h2
    cases h2
    split at ha
    · rename_i n e hu
      simp only [Bool.and_eq_true, beq_iff_eq] at ha
      have he : P.underlying e = some (.int k) := by
        have h5 := ha.1.1
        split at h5
        · rename_i k' hk
          rw [hk, of_decide_eq_true h5]
        · cases h5
      have e1 := Lib.cells_of_tab hu he ha.1.2 ha.2 h4
      unfold World.var? at h3
      rw [hg] at h3
      simp only [Option.bind_some] at h3
      split at h3
      · rename_i cs' a b hh
        cases h3
        intro j u hj
        refine ⟨g, 0, rfl, (Array.getElem?_eq_some_iff.1 hh).1, ?_⟩
        unfold World.cell?
        simp only [hh, Nat.zero_add]
        rw [← Array.getElem?_toList, e1]
        exact hj
      · cases h3
    · cases ha
  · cases ha
theorem laid_two {P : Program} {w : World} {n1 n2 : String} {g1 g2 : Nat} {k1 k2 : IntKind} {z1 z2 : List Int} (h : laidMetH P [(n1, Lib.tabData k1 z1), (n2, Lib.tabData k2 z2)] w) (a1 : P.globalNamed n1 = some g1) (b1 : arrOf P g1 k1 = true) (a2 : P.globalNamed n2 = some g2) (b2 : arrOf P g2 k2 = true)
    (c1 : (Lib.tabData k1 z1 : DataW Unit).handleName? = none) (c2 : (Lib.tabData k2 z2 : DataW Unit).handleName? = none) : RoOk w (some ⟨g1, 0, none⟩) (.ints k1 z1) ∧ RoOk w (some ⟨g2, 0, none⟩) (.ints k2 z2) := by
  have h0 : laidMet P [(n1, Lib.tabData k1 z1), (n2, Lib.tabData k2 z2)] w := by
    unfold laidMetH at h
    simpa [c1, c2] using h
  obtain ⟨ps, hv, _⟩ := h0
  obtain ⟨g, t, cs, fuel, p, q, d1, d2, d3, d4, hv2, _⟩ := hv
  obtain ⟨g', t', cs', fuel', p', q', d1', d2', d3', d4', _, _⟩ := hv2
  exact ⟨ro_of_laid a1 b1 ⟨g, d1, d2⟩ d3 d4, ro_of_laid a2 b2 ⟨g', d1', d2'⟩ d3' d4'⟩
theorem kk_laid {w : World} (h : laidMetH Tryd.prog Rows.keccakSumsRow.laid w) : RoOk w (some ⟨2, 0, none⟩) (.ints .u64 kKeys) ∧ RoOk w (some ⟨3, 0, none⟩) (.ints .u8 kPathI) :=
  laid_two (n1 := "quaestor/keccak.keys") (n2 := "quaestor/keccak.path") h (by kernel_rfl) (by kernel_rfl) (by kernel_rfl) (by kernel_rfl) (by kernel_rfl) (by kernel_rfl)
theorem kSums_core (xs : List Int) (a : Option Addr) (n cp : Nat) (hl : xs.length = n) (hc : n ≤ cp) (ha : adr a n cp) (hx : allB xs) (w : World) (hr : RoOk w a (.ints .u8 xs)) (h : laidMetH Tryd.prog Rows.keccakSumsRow.laid w) :
    Calls Tryd.prog 3 (cvs [.sl 2 a 0 0 1 n cp]).toArray w (Yes w) := by
  have hh := kk_laid h
  exact ksums_law xs a n cp hl hc ha hx w (ro_cons (ro_cons (ro_cons (ro_nil w) hr) hh.2) hh.1)
def keccakSums_lay2 : Obj → Obj
  | .cells _ t frozen => .cells #[.int .u64 1, .int .u64 32898, .int .u64 9223372036854808714, .int .u64 9223372039002292224, .int .u64 32907, .int .u64 2147483649, .int .u64 9223372039002292353, .int .u64 9223372036854808585, .int .u64 138, .int .u64 136, .int .u64 2147516425, .int .u64 2147483658, .int .u64 2147516555, .int .u64 9223372036854775947, .int .u64 9223372036854808713, .int .u64 9223372036854808579, .int .u64 9223372036854808578, .int .u64 9223372036854775936, .int .u64 32778, .int .u64 9223372039002259466, .int .u64 9223372039002292353, .int .u64 9223372036854808704, .int .u64 2147483649, .int .u64 9223372039002292232] t frozen
  | o => o
def keccakSums_lay3 : Obj → Obj
  | .cells _ t frozen => .cells #[.int .u8 10, .int .u8 7, .int .u8 11, .int .u8 17, .int .u8 18, .int .u8 3, .int .u8 5, .int .u8 16, .int .u8 8, .int .u8 21, .int .u8 24, .int .u8 4, .int .u8 15, .int .u8 23, .int .u8 19, .int .u8 13, .int .u8 12, .int .u8 2, .int .u8 20, .int .u8 14, .int .u8 22, .int .u8 9, .int .u8 6, .int .u8 1] t frozen
  | o => o
/-- A world for the witness: the settled one, the listed variables holding what the row lists. -/
noncomputable def keccakSums_world (os : Os) : World :=
  { World.holding Tryd.prog os ⟨#[], #[], []⟩ with heap := (((World.holding Tryd.prog os ⟨#[], #[], []⟩).heap).modify 2 keccakSums_lay2).modify 3 keccakSums_lay3 }
set_option maxRecDepth 100000 in
theorem keccakSums_laid (os : Os) : laidMet Tryd.prog Rows.keccakSumsRow.laid ((keccakSums_world os).forCall (fun _ _ => 0) ⟨#[], #[.slice none 0 0], []⟩).memory :=
  laidMet_of_run' 8 (by kernel_rfl) (by kernel_rfl)
set_option maxRecDepth 100000 in
theorem keccakSums_reads (os : Os) {H : Type} (enc : TypeId × Value → H) : ∃ places, DataW.whole enc Tryd.prog ((keccakSums_world os).forCall (fun _ _ => 0) ⟨#[], #[.slice none 0 0], []⟩).memory Tryd.f3.params.toList Rows.keccakSumsSpec.vars false (#[.slice none 0 0] : Array Value).toList 8 = some ([.nil], [], places) :=
  ⟨[], by kernel_rfl⟩
set_option maxRecDepth 100000 in
theorem keccakSums_lifted (os : Os) (started : os.Started) (H : Type) (enc : TypeId × Value → H) (F : Stop.Interp) :
    ReturnsInHanded {} Tryd.checked os 3 .any ((OpenSpec.ofChange Rows.keccakSumsSpec).preRow enc Tryd.prog Tryd.f3 Rows.keccakSumsRow.domain false Rows.keccakSumsRow.laid) (((OpenSpec.ofChange Rows.keccakSumsSpec).at F).post enc Tryd.prog Tryd.f3 false true false false) := by
  obtain ⟨places, hx⟩ := keccakSums_reads os enc
  refine returnsInHanded_of_row (C := Tryd.checked) (s := OpenSpec.ofChange Rows.keccakSumsSpec) Tryd.own started (by kernel_rfl) Tryd.func3
    (witness_row_at (enc := enc) (C := Tryd.checked) false (keccakSums_world os) #[.slice none 0 0] rfl (by kernel_rfl) (by kernel_rfl) (by kernel_rfl)
      (OpenSpec.preRow_of_cond 8 hx (by kernel_rfl) (fun k hk => by cases hk) (by kernel_rfl) (keccakSums_laid os))) ?_
  intro W0 base args ds gs before hval0 hW _ _ _ hlaid _ _
  have hval : ∀ (j : Nat) t v, Tryd.f3.params[j]? = some t → args[j]? = some v → Value.okWide Tryd.prog W0 .any base t v := hval0
  have hW' := hW
  obtain ⟨p, q, hA0, hV, rfl, hfz, hnd⟩ := hW
  have hA : DataW.TrodAll enc Tryd.prog W0 0 (fun _ => true) true Tryd.f3.params.toList args.toList ds p := hA0
  rw [Tryd.params3] at hA hval
  obtain ⟨v0, d0, rfl, rfl, h0⟩ := trodAll_one hA
  obtain ⟨rfl, rfl⟩ := trodVars_none hV
  obtain ⟨a0, n0, c0, x0, rfl, l0, k0, m0, q0, f0, r0, s0⟩ := bytes_open (hval 0 _ v0 rfl rfl) h0
  refine (calls_args (by simp only [cvs, cv_sl]; try rfl) (kSums_core x0 a0 n0 c0 l0 k0 q0 f0 W0 r0 hlaid)).mono fun e W' h => ?_
  obtain ⟨he, hw⟩ := Yes.out h
  subst he
  exact ⟨_, rfl, post_gr hW' hw (fun _ _ _ => trodAll_mk1 (shut_bool Tryd.underlying4 true)) (fun qq sp hsp => by
    have hh := trodAll_mk1 (s0 qq sp (fun z hz => hsp z (by simp [hz])))
    try simp only [List.append_nil, List.nil_append, List.append_assoc] at hh
    try simp only [List.append_nil, List.nil_append, List.append_assoc]
    exact hh) (fun _ => rfl) (ok_one (by kernel_rfl) rfl (okWide_bool_mk Tryd.underlying4 true))⟩
theorem keccakSums_said : Rows.KeccakSumsSaid :=
  OpenClaim.holds_of_cond 3 Tryd.f3 rfl rfl rfl rfl rfl rfl rfl ⟨rfl, rfl, rfl, rfl, rfl⟩ rfl rfl rfl rfl rfl (by kernel_rfl) Tryd.func3 (by kernel_rfl)
    (of_decide_eq_true (by kernel_rfl)) (by unfold Func.isWrapper; first | (rw [if_pos (by decide +kernel)]; kernel_rfl) | (rw [if_neg (by decide +kernel)]; exact ⟨rfl, rfl⟩))
    (fun os started H enc _ F => by rw [OpenClaim.pre_eq_preRow]; exact keccakSums_lifted os started H enc F)
theorem keccakSums_plain (f : FuncId) (fn : Func) (hf : Tryd.pinned.checked.prog.funcNamed "quaestor/quaestorlaw02.KeccakSums" = some f) (hfn : Tryd.pinned.checked.prog.funcs[f]? = some fn) :
    false = Tryd.pinned.checked.prog.looks [] ∧ ∀ (j : Nat) t, fn.params[j]? = some t → Tryd.pinned.checked.prog.wantsStandIn t = false := by
  obtain rfl : f = 3 := Option.some.inj ((show Tryd.prog.funcNamed "quaestor/quaestorlaw02.KeccakSums" = some 3 by kernel_rfl).symm.trans hf) |>.symm
  obtain rfl : fn = Tryd.f3 := (Option.some.inj (Tryd.func3.symm.trans hfn)).symm
  refine ⟨by kernel_rfl, fun j t ht => ?_⟩
  rw [Tryd.params3] at ht
  have ht2 := Array.mem_of_getElem? ht
  simp only [List.mem_toArray, List.mem_cons, List.not_mem_nil, or_false] at ht2
  rcases ht2 with rfl
  · exact (show Tryd.prog.wantsStandIn 22 = false by kernel_rfl)
theorem KeccakSums_holds : Rows.KeccakSumsCardSaid :=
  Claim7.holds_tied_plain_at .later [] _ _ _ _ keccakSums_said (fun _ h => by cases h) (by kernel_rfl) (fun _ h => by cases h) keccakSums_row_tie rfl ⟨rfl, rfl⟩ (by kernel_rfl) rfl keccakSums_plain (by kernel_rfl)
#print axioms KeccakSums_holds
end Go.Proofs.YthnkngpdgjkejaaDoor
