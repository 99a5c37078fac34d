/-
  The law CodePushes of package quaestorlaw08 answers true for all inputs. No condition.
-/
import Derived.Test.YtajgdlekngcmjaaC9
import Derived.Test.YtajgdlekngcmjaaFB
import Derived.Deep.DeepHandedRow
namespace Go.Proofs.Ytajgdlekngcmjaa
set_option linter.unusedSimpArgs false
set_option linter.unusedVariables false
open Go.ChangeShapes Go.WideShapes Go.ChangeAt Go.RowKit
set_option maxRecDepth 100000 in
theorem codePushes_lifted (os : Os) (started : os.Started) (H : Type) (enc : TypeId × Value → H) :
    ReturnsInHanded {} Try.checked os 8 .any (Rows.codePushesSpec.pre6 enc Try.prog Try.f8 Rows.codePushesRow.domain false) (Rows.codePushesSpec.post enc Try.prog Try.f8 false true false false) := by
  refine returnsInHanded_of_change (C := Try.checked) Try.own started (by kernel_rfl) Try.func8
    (ChangeSpec.witness6 (enc := enc) (C := Try.checked) false ⟨#[], #[.int .u8 0, .slice none 0 0, .slice none 0 0], []⟩ 8 (by kernel_rfl) (by kernel_rfl) (by kernel_rfl) (by kernel_rfl)) ?_
  intro W0 base args ds gs before hval0 hW hcnd _
  have hval : ∀ (j : Nat) t v, Try.f8.params[j]? = some t → args[j]? = some v → Value.okWide Try.prog W0 .any base t v := hval0
  have hW' := hW
  obtain ⟨p, q, hA0, hV, rfl, hfz, hnd⟩ := hW
  have hA : DataW.TrodAll enc Try.prog W0 0 (fun _ => true) true Try.f8.params.toList args.toList ds p := hA0
  rw [Try.params8] at hA hval
  obtain ⟨v0, v1, v2, d0, d1, d2, p0, p1, p2, rfl, rfl, rfl, h0, h1, h2⟩ := trodAll_three hA
  obtain ⟨rfl, rfl⟩ := trodVars_none hV
  obtain ⟨a0, rfl, rfl, rfl, w0, f0⟩ := nat_open 256 wf_u8 Try.underlying5 (hval 0 _ v0 rfl rfl) h0
  obtain ⟨a1, n1, c1, x1, rfl, l1, k1, m1, q1, f1, r1, s1⟩ := bytes_open (hval 1 _ v1 rfl rfl) h1
  obtain ⟨a2, n2, c2, x2, rfl, l2, k2, m2, q2, f2, r2, s2⟩ := bytes_open (hval 2 _ v2 rfl rfl) h2
  refine (calls_args (by simp only [cvs, cv_sl]; try rfl) (pushes_law a0 (by omega) x1 a1 n1 c1 l1 k1 q1 f1 x2 a2 n2 c2 l2 k2 q2 f2 W0 (ro_cons (ro_cons (ro_nil W0) r2) r1))).mono fun e W' h => ?_
  obtain ⟨he, hw⟩ := Yes.out h
  subst he
  exact ⟨_, rfl, post_gr hW' hw (fun _ _ _ => trodAll_mk1 (shut_bool Try.underlying4 true)) (fun qq sp hsp => by
    have hh := trodAll_mk3 (shut_int Try.underlying5 f0) (s1 qq sp (fun z hz => hsp z (by simp [hz]))) (s2 qq sp (fun z hz => hsp z (by simp [hz])))
    try simp only [List.append_nil, List.nil_append, List.append_assoc] at hh
    try simp only [List.append_nil, List.nil_append, List.append_assoc]
    exact hh) (fun _ => rfl) (ok_one (by kernel_rfl) rfl (okWide_bool_mk Try.underlying4 true))⟩
theorem CodePushes_holds : Rows.CodePushesSaid :=
  OpenClaim.holds_of_wide 8 Try.f8 rfl rfl rfl rfl rfl rfl rfl ⟨rfl, rfl, rfl, rfl, rfl⟩ rfl rfl rfl rfl rfl (by kernel_rfl) Try.func8 (by kernel_rfl)
    (of_decide_eq_true (by kernel_rfl)) (by unfold Func.isWrapper; first | (rw [if_pos (by decide +kernel)]; kernel_rfl) | (rw [if_neg (by decide +kernel)]; exact ⟨rfl, rfl⟩))
    (fun os started H enc _ => codePushes_lifted os started H enc)
#print axioms CodePushes_holds
end Go.Proofs.Ytajgdlekngcmjaa
