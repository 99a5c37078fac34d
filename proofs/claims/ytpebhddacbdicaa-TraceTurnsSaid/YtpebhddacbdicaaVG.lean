/-
 The law TraceTurns of package quaestorlaw14 answers true for all events and numbers, and leaves them as they were. No condition.
-/
import Derived.Test.YtpebhddacbdicaaVF
import Derived.Test.YtpebhddacbdicaaFE
import Derived.Test.YtpebhddacbdicaaBS
set_option linter.unusedVariables false
set_option linter.unusedSimpArgs false
namespace Go.Proofs.Ytpebhddacbdicaa
open Go.ChangeShapes Go.WideShapes Go.ChangeAt Go.RowKit
set_option maxRecDepth 100000 in
theorem traceTurns_lifted (os : Os) (started : os.Started) (H : Type) (enc : TypeId × Value → H) :
  ReturnsInHanded {} Try.checked os 7 .any (Rows.traceTurnsSpec.pre6 enc Try.prog Try.f7 Rows.traceTurnsRow.domain false) (Rows.traceTurnsSpec.post enc Try.prog Try.f7 false true false false) := by
 refine returnsInHanded_of_change (C := Try.checked) Try.own started (by kernel_rfl) Try.func7
  (ChangeSpec.witness6 (enc := enc) (C := Try.checked) false ⟨#[], #[.slice none 0 0, .int .i64 0], []⟩ 8 (by kernel_rfl) (by kernel_rfl) (by kernel_rfl) (by kernel_rfl)) ?_
 intro W0 base args ds gs before hval0 hW hcnd _
 have hval : ∀ (j : Nat) t v, Try.f7.params[j]? = some t → args[j]? = some v → Value.okWide Try.prog W0 .any base t v := hval0
 have hW' := hW
 obtain ⟨p, q, hA0, hV, rfl, hfz, hnd⟩ := hW
 have hA : DataW.TrodAll enc Try.prog W0 0 (fun _ => true) true Try.f7.params.toList args.toList ds p := hA0
 rw [Try.params7] at hA hval
 obtain ⟨v0, v1, d0, d1, p0, p1, rfl, rfl, rfl, h0, h1⟩ := trodAll_two hA
 obtain ⟨rfl, rfl⟩ := trodVars_none hV
 obtain ⟨a0, n0, c0, y0, z0, rfl, i0⟩ := events_open (hval 0 _ v0 rfl rfl) h0
 obtain ⟨a1, rfl, rfl, rfl, f1⟩ := open_int Try.underlying3 (hval 1 _ v1 rfl rfl) h1
 refine (calls_args (by simp only [cvs]; try rfl) (traceTurns_law a0 n0 c0 y0 z0 a1 f1 W0 i0)).mono fun e W' h => ?_
 obtain ⟨he, hw⟩ := Yes.out h
 subst he
 exact ⟨_, rfl, post_any hW' rfl hw (by kernel_rfl) rfl (fun _ _ _ => trodAll_mk1 (shut_bool Try.underlying4 true)) (fun _ => rfl) (ok_one (by kernel_rfl) rfl (okWide_bool_mk Try.underlying4 true))⟩
theorem TraceTurns_holds : Rows.TraceTurnsSaid :=
 OpenClaim.holds_of_wide 7 Try.f7 rfl rfl rfl rfl rfl rfl rfl ⟨rfl, rfl, rfl, rfl, rfl⟩ rfl rfl rfl rfl rfl (by kernel_rfl) Try.func7 (by kernel_rfl)
  (of_decide_eq_true (by kernel_rfl)) (by unfold Func.isWrapper; first | (rw [if_pos (by decide +kernel)]; kernel_rfl) | (rw [if_neg (by decide +kernel)]; exact ⟨rfl, rfl⟩))
  (fun os started H enc _ => traceTurns_lifted os started H enc)
#print axioms TraceTurns_holds
end Go.Proofs.Ytpebhddacbdicaa
