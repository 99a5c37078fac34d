/-
 The document's answer for layer 15 (package quaestorref15: Check), and which operations may be (quaestorlaw15: may), walked. No condition.
-/
import Derived.Test.YthdpgfdfgidokaaDoorOG
import Derived.Test.YthdpgfdfgidokaaDoorO1
set_option maxRecDepth 10000
set_option maxHeartbeats 4000000
set_option linter.defProp false
set_option linter.unusedVariables false
set_option linter.unusedSimpArgs false
namespace Go.Proofs.YthdpgfdfgidokaaDoor
open Go.RowKit
noncomputable def GOM : Ctr := fun f args m => match f with
 | 52 => g_From args m
 | 43 => g_rFrom args m
 | 141 => g_Small args m
 | 109 => g_lowByte args m
 | 120 => g_Shl args m
 | 89 => g_Shr args m
 | 54 => g_Cmp args m
 | 53 => g_Add args m
 | 51 => g_Mul args m
 | 49 => g_rShr args m
 | 41 => g_rCmp args m
 | _ => .none
theorem GOM_ok : GOk Tryd.prog GOM := by
 intro w0 B f args m; unfold GOM; split
 ·exact g_From_ok _ _ _ _
 ·exact g_rFrom_ok _ _ _ _
 ·exact g_Small_ok _ _ _ _
 ·exact g_lowByte_ok _ _ _ _
 ·exact g_Shl_ok _ _ _ _
 ·exact g_Shr_ok _ _ _ _
 ·exact g_Cmp_ok _ _ _ _
 ·exact g_Add_ok _ _ _ _
 ·exact g_Mul_ok _ _ _ _
 ·exact g_rShr_ok _ _ _ _
 ·exact g_rCmp_ok _ _ _ _
 ·exact trivial
theorem GOM_From : GOM 52 = g_From := by funext args m; rfl
theorem GOM_rFrom : GOM 43 = g_rFrom := by funext args m; rfl
theorem GOM_Small : GOM 141 = g_Small := by funext args m; rfl
theorem GOM_lowByte : GOM 109 = g_lowByte := by funext args m; rfl
theorem GOM_Shl : GOM 120 = g_Shl := by funext args m; rfl
theorem GOM_Shr : GOM 89 = g_Shr := by funext args m; rfl
theorem GOM_Cmp : GOM 54 = g_Cmp := by funext args m; rfl
theorem GOM_Add : GOM 53 = g_Add := by funext args m; rfl
theorem GOM_Mul : GOM 51 = g_Mul := by funext args m; rfl
theorem GOM_rShr : GOM 49 = g_rShr := by funext args m; rfl
theorem GOM_rCmp : GOM 41 = g_rCmp := by funext args m; rfl
def GOM_set := And.intro (And.intro (And.intro (And.intro (@GOM_From) (@g_From.eq_def)) (And.intro (@GOM_rFrom) (And.intro (@g_rFrom.eq_def) (@GOM_Small)))) (And.intro (And.intro (@g_Small.eq_def) (And.intro (@GOM_lowByte) (@g_lowByte.eq_def))) (And.intro (@GOM_Shl) (And.intro (@g_Shl.eq_def) (@GOM_Shr))))) (And.intro (And.intro (And.intro (@g_Shr.eq_def) (@GOM_Cmp)) (And.intro (@g_Cmp.eq_def) (And.intro (@GOM_Add) (@g_Add.eq_def)))) (And.intro (And.intro (@GOM_Mul) (And.intro (@g_Mul.eq_def) (@GOM_rShr))) (And.intro (@g_rShr.eq_def) (And.intro (@GOM_rCmp) (@g_rCmp.eq_def)))))

set_option maxRecDepth 20000 in
theorem rcheck_vc (l : List SV) (x : OpD) (w : World) (hO : OpR (H0 w) l x) : Calls Tryd.prog 14 (cvs [.agg l]).toArray w (fun en w' => ∃ u, en = .returned u ∧ ∃ v' m', u = cv v' ∧ MemOk w [] m' w' ∧ v' = .int .i64 (if chkO x = true then 150 else 0)) := by
 have hOx : ∀ m, allOld w ∈ m → OpR (HM m) l x := fun m hin => hO.mono (H0.hm hin)
 have hop := opOf_eq hO
 obtain ⟨f1, f2, f3, c0, c20, c24, c25, d25, ⟨v1, c45, a1, n1, k1, rfl, p11, p12, p13, p14, p15, p16⟩, ⟨v2, c46, a2, n2, k2, rfl, p21, p22, p23, p24, p25, p26⟩, c47, c48, c49, c50, c54, c58, c59, d59, c79, c80, ⟨v3, c81, a3, n3, k3, rfl, p31, p32, p33, p34, p35, p36⟩, ⟨v4, c82, a4, n4, k4, rfl, p41, p42, p43, p44, p45, p46⟩, ls, lf, lp, bs, bf, bp, wn, wf, wt, u1, u2, u3, u4, u5⟩ := hO
 have L1 : ∀ m, allOld w ∈ m → LiesH (HM m) a1 (cc (.ints .u8 x.fd)) := fun m hin => p14.mono (H0.hm hin)
 have T1 : x.fd.take n1 = x.fd := List.take_of_length_le (by omega)
 have L2 : ∀ m, allOld w ∈ m → LiesH (HM m) a2 (cc (.ints .u8 x.cd)) := fun m hin => p24.mono (H0.hm hin)
 have T2 : x.cd.take n2 = x.cd := List.take_of_length_le (by omega)
 have L3 : ∀ m, allOld w ∈ m → LiesH (HM m) a3 (cc (.ints .u8 x.pd)) := fun m hin => p34.mono (H0.hm hin)
 have T3 : x.pd.take n3 = x.pd := List.take_of_length_le (by omega)
 have L4 : ∀ m, allOld w ∈ m → LiesH (HM m) a4 (cc (.ints .u8 x.sg)) := fun m hin => p44.mono (H0.hm hin)
 have T4 : x.sg.take n4 = x.sg := List.take_of_length_le (by omega)
 have N1 := numI_lm wn
 have N2 := numI_lm wf
 have N3 := numI_lm wt
 have FA := And.intro f2 <| And.intro f3 <| And.intro c0 <| And.intro c20 <| And.intro c24 <| And.intro c25 <| And.intro d25 <| And.intro c45 <| And.intro c46 <| And.intro c47 <| And.intro c48 <| And.intro c49 <| And.intro c50 <| And.intro c54 <| And.intro c58 <| And.intro c59 <| And.intro d59 <| And.intro c79 <| And.intro c80 <| And.intro c81 <| And.intro c82 <| And.intro N1 <| And.intro N2 <| And.intro N3 <| And.intro T1 <| And.intro T2 <| And.intro T3 T4
 unfold u64I at u1 u2 u3 u4 u5
 have e120 : (120 : Int).toNat = 120 := rfl
 have w120 : (120 : Nat) < W := by decide +kernel
 refine Vc.calls T0_ok Tryd.func14 rfl rfl (args := [.agg l]) (k := 103) rfl (old_start w) ?_; change Vc _ _ (c8 (.agg l) .undef .undef .undef .undef .undef .undef .undef (c8 .undef .undef .undef .undef .undef .undef .undef .undef (c8 .undef .undef .undef .undef .undef .undef .undef .undef (c8 .undef .undef .undef .undef .undef .undef .undef .undef (c8 .undef .undef .undef .undef .undef .undef .undef .undef (c8 .undef .undef .undef .undef .undef .undef .undef .undef (c8 .undef .undef .undef .undef .undef .undef .undef .undef (c8 .undef .undef .undef .undef .undef .undef .undef .undef (c8 .undef .undef .undef .undef .undef .undef .undef .undef (c8 .undef .undef .undef .undef .undef .undef .undef .undef (c8 .undef .undef .undef .undef .undef .undef .undef .undef (c8 .undef .undef .undef .undef .undef .undef .undef .undef (c8 .undef .undef .undef .undef .undef .undef .undef .undef ([])))))))))))))) _ _
 ((with_reducible refine Vc.seq fun N hN => ?_); (refine Vc.regiont T0_ok GOM_ok ?_); simp only [v8Y, Nat.beq, Nat.ble, seval, tabs, GOM_set, FA, toU8_bL, wL.eq_def, datF.eq_def, List.drop_zero]; (try simp (disch := omega) only [v8W]); (repeat (first | with_reducible intro _ | ((with_reducible refine And.intro ?_ ?_); exact sX0))); (first | (refine hN _ _ ?_; clear hN N; (try simp (disch := omega) only [v8W])) | skip))
 ((repeat with_reducible refine Vc.seq fun N hN => ?_); (first | refine Vc.regiont T0_ok GOM_ok ?_ | refine Vc.drawt (id := 5) T0_ok GOM_ok (by kernel_rfl) [1, 2, 4, 0, 3, 5, 6, 7, 8, 9, 10] 11 [] trivial (by kernel_rfl) ?_); simp only [v8Y, Nat.beq, Nat.ble, seval, tabs, GOM_set, FA, toU8_bL, wL.eq_def, datF.eq_def, List.drop_zero]; (try simp (disch := omega) only [v8W]); (repeat' (first | with_reducible intro _ | ((with_reducible refine And.intro ?_ ?_); exact sX4) | ((with_reducible refine askT_both (fun hb => ?_) (fun hb => ?_)) <;> ((try simp only [Bool.not_not, Bool.not_eq_true', Bool.not_eq_false'] at hb); simp only [hb, v8Y, Nat.beq, Nat.ble, seval, v8S, IntKind.bits, tabs, GOM_set, FA, toU8_bL, wL.eq_def, datF.eq_def, List.drop_zero]; (try simp (disch := omega) only [v8W]))))); (all_goals ((refine hN _ _ ?_); (clear hN N); (try simp (disch := omega) only [v8W]))))
 all_goals first
  | ((refine Vc.cond T0_ok (t := true) (by rfl) (fun _ => ?_) (fun h => Bool.noConfusion h)); (((repeat (first | (with_reducible refine Vc.seq fun N hN => ?_) | ((with_reducible refine And.intro ?_ ?_); exact sX0) | ((first | ((with_reducible refine Vc.fin ?_); dsimp only [thenK, blockK, retK, resS, resOne, resAll]) | ((with_reducible refine Vc.hold ?_); first | refine Vc.regiont T0_ok GOM_ok ?_)); (try simp only [v8Y, Nat.beq, Nat.ble, seval, tabs, GOM_set])) | ((with_reducible refine hN _ _ ?_); clear hN N))); (try ((with_reducible refine Fin.of ?_); (try with_reducible exact True.intro)))); (refine ⟨by simp, ?_⟩); (congr 1; rw [show chkO x = true from by unfold chkO tlO tgO wrO sfO spO z20; simp_all <;> omega]; rfl)))
  | ((refine Vc.cond T0_ok (t := false) (by rfl) (fun h => Bool.noConfusion h) (fun _ => ?_)); (refine Vc.skip ?_; dsimp only [thenK, blockK, Nat.beq]; refine hN _ _ ?_; clear hN N))
  | ((refine Vc.cond T0_ok (by rfl) (fun hb => ?_) (fun hb => ?_)); (focus (((repeat (first | (with_reducible first | refine Vc.seq fun N hN => ?_ | refine Vc.block ?_) | ((with_reducible first | refine Vc.skip ?_ | refine Vc.exit ?_); dsimp only [thenK, blockK, Nat.beq]; (first | (refine hN _ _ ?_; clear hN N) | skip)) | (with_reducible intro _) | ((with_reducible refine And.intro ?_ ?_); exact sX0) | ((first | ((with_reducible refine askT_of ?_ (fun hb => ?_)); exact sX0; (try simp only [hb])) | ((with_reducible refine Vc.fin ?_); dsimp only [thenK, blockK, retK, resS, resOne, resAll]) | ((with_reducible refine Vc.hold ?_); first | refine Vc.regiont T0_ok GOM_ok ?_ | refine Vc.drawt (id := 5) T0_ok GOM_ok (by kernel_rfl) [1, 2, 4, 0, 3, 5, 6, 7, 8, 9, 10] 11 [] trivial (by kernel_rfl) ?_)); (try simp only [v8Y, Nat.beq, Nat.ble, seval, tabs, GOM_set]); (try simp (disch := omega) only [v8W])) | ((with_reducible refine hN _ _ ?_); clear hN N; (try simp (disch := omega) only [v8W])))); (try ((with_reducible refine Fin.of ?_); (try with_reducible exact True.intro)))); (refine ⟨by simp, ?_⟩); (congr 1; rw [show chkO x = true from by unfold chkO tlO tgO wrO sfO spO z20; simp_all <;> omega]; rfl))); (refine Vc.skip ?_; dsimp only [thenK, blockK, Nat.beq]; refine hN _ _ ?_; clear hN N))
 ((repeat with_reducible refine Vc.seq fun N hN => ?_); (first | refine Vc.regiont T0_ok GOM_ok ?_ | refine Vc.drawt (id := 5) T0_ok GOM_ok (by kernel_rfl) [1, 2, 4, 0, 3, 5, 6, 7, 8, 9, 10] 11 [] trivial (by kernel_rfl) ?_); simp only [v8Y, Nat.beq, Nat.ble, seval, tabs, GOM_set, FA, toU8_bL, wL.eq_def, datF.eq_def, List.drop_zero]; (try simp (disch := omega) only [v8W]); (repeat' (first | with_reducible intro _ | ((with_reducible refine And.intro ?_ ?_); exact sX4) | ((with_reducible refine askT_both (fun hb => ?_) (fun hb => ?_)) <;> ((try simp only [Bool.not_not, Bool.not_eq_true', Bool.not_eq_false'] at hb); simp only [hb, v8Y, Nat.beq, Nat.ble, seval, v8S, IntKind.bits, tabs, GOM_set, FA, toU8_bL, wL.eq_def, datF.eq_def, List.drop_zero]; (try simp (disch := omega) only [v8W]))))); (all_goals ((refine hN _ _ ?_); (clear hN N); (try simp (disch := omega) only [v8W]))))
 all_goals first
  | ((refine Vc.cond T0_ok (t := true) (by rfl) (fun _ => ?_) (fun h => Bool.noConfusion h)); (((repeat (first | (with_reducible refine Vc.seq fun N hN => ?_) | ((with_reducible refine And.intro ?_ ?_); exact sX0) | ((first | ((with_reducible refine Vc.fin ?_); dsimp only [thenK, blockK, retK, resS, resOne, resAll]) | ((with_reducible refine Vc.hold ?_); first | refine Vc.regiont T0_ok GOM_ok ?_)); (try simp only [v8Y, Nat.beq, Nat.ble, seval, tabs, GOM_set])) | ((with_reducible refine hN _ _ ?_); clear hN N))); (try ((with_reducible refine Fin.of ?_); (try with_reducible exact True.intro)))); (refine ⟨by simp, ?_⟩); (congr 1; rw [show chkO x = true from by unfold chkO tlO tgO wrO sfO spO z20; simp_all <;> omega]; rfl)))
  | ((refine Vc.cond T0_ok (t := false) (by rfl) (fun h => Bool.noConfusion h) (fun _ => ?_)); (refine Vc.skip ?_; dsimp only [thenK, blockK, Nat.beq]; refine hN _ _ ?_; clear hN N))
  | ((refine Vc.cond T0_ok (by rfl) (fun hb => ?_) (fun hb => ?_)); (focus (((repeat (first | (with_reducible first | refine Vc.seq fun N hN => ?_ | refine Vc.block ?_) | ((with_reducible first | refine Vc.skip ?_ | refine Vc.exit ?_); dsimp only [thenK, blockK, Nat.beq]; (first | (refine hN _ _ ?_; clear hN N) | skip)) | (with_reducible intro _) | ((with_reducible refine And.intro ?_ ?_); exact sX0) | ((first | ((with_reducible refine askT_of ?_ (fun hb => ?_)); exact sX0; (try simp only [hb])) | ((with_reducible refine Vc.fin ?_); dsimp only [thenK, blockK, retK, resS, resOne, resAll]) | ((with_reducible refine Vc.hold ?_); first | refine Vc.regiont T0_ok GOM_ok ?_ | refine Vc.drawt (id := 5) T0_ok GOM_ok (by kernel_rfl) [1, 2, 4, 0, 3, 5, 6, 7, 8, 9, 10] 11 [] trivial (by kernel_rfl) ?_)); (try simp only [v8Y, Nat.beq, Nat.ble, seval, tabs, GOM_set]); (try simp (disch := omega) only [v8W])) | ((with_reducible refine hN _ _ ?_); clear hN N; (try simp (disch := omega) only [v8W])))); (try ((with_reducible refine Fin.of ?_); (try with_reducible exact True.intro)))); (refine ⟨by simp, ?_⟩); (congr 1; rw [show chkO x = true from by unfold chkO tlO tgO wrO sfO spO z20; simp_all <;> omega]; rfl))); (refine Vc.skip ?_; dsimp only [thenK, blockK, Nat.beq]; refine hN _ _ ?_; clear hN N))
 ((repeat with_reducible refine Vc.seq fun N hN => ?_); (first | refine Vc.regiont T0_ok GOM_ok ?_ | refine Vc.drawt (id := 5) T0_ok GOM_ok (by kernel_rfl) [1, 2, 4, 0, 3, 5, 6, 7, 8, 9, 10] 11 [] trivial (by kernel_rfl) ?_); simp only [v8Y, Nat.beq, Nat.ble, seval, tabs, GOM_set, e120, FA, toU8_bL, wL.eq_def, datF.eq_def, List.drop_zero]; (try simp (disch := omega) only [v8W]); (repeat' (first | with_reducible intro _ | ((with_reducible refine And.intro ?_ ?_); exact sX4) | ((with_reducible refine askT_both (fun hb => ?_) (fun hb => ?_)) <;> ((try simp only [Bool.not_not, Bool.not_eq_true', Bool.not_eq_false'] at hb); simp only [hb, v8Y, Nat.beq, Nat.ble, seval, v8S, IntKind.bits, tabs, GOM_set, e120, FA, toU8_bL, wL.eq_def, datF.eq_def, List.drop_zero]; (try simp (disch := omega) only [v8W]))))); (all_goals ((refine hN _ _ ?_); (clear hN N); (try simp (disch := omega) only [v8W]))))
 all_goals first
  | ((refine Vc.cond T0_ok (t := true) (by rfl) (fun _ => ?_) (fun h => Bool.noConfusion h)); (((repeat (first | (with_reducible refine Vc.seq fun N hN => ?_) | ((with_reducible refine And.intro ?_ ?_); exact sX0) | ((first | ((with_reducible refine Vc.fin ?_); dsimp only [thenK, blockK, retK, resS, resOne, resAll]) | ((with_reducible refine Vc.hold ?_); first | refine Vc.regiont T0_ok GOM_ok ?_)); (try simp only [v8Y, Nat.beq, Nat.ble, seval, tabs, GOM_set])) | ((with_reducible refine hN _ _ ?_); clear hN N))); (try ((with_reducible refine Fin.of ?_); (try with_reducible exact True.intro)))); (refine ⟨by simp, ?_⟩); (congr 1; rw [show chkO x = true from by unfold chkO tlO tgO wrO sfO spO z20; simp_all <;> omega]; rfl)))
  | ((refine Vc.cond T0_ok (t := false) (by rfl) (fun h => Bool.noConfusion h) (fun _ => ?_)); (refine Vc.skip ?_; dsimp only [thenK, blockK, Nat.beq]; refine hN _ _ ?_; clear hN N))
  | ((refine Vc.cond T0_ok (by rfl) (fun hb => ?_) (fun hb => ?_)); (focus (((repeat (first | (with_reducible first | refine Vc.seq fun N hN => ?_ | refine Vc.block ?_) | ((with_reducible first | refine Vc.skip ?_ | refine Vc.exit ?_); dsimp only [thenK, blockK, Nat.beq]; (first | (refine hN _ _ ?_; clear hN N) | skip)) | (with_reducible intro _) | ((with_reducible refine And.intro ?_ ?_); exact sX0) | ((first | ((with_reducible refine askT_of ?_ (fun hb => ?_)); exact sX0; (try simp only [hb])) | ((with_reducible refine Vc.fin ?_); dsimp only [thenK, blockK, retK, resS, resOne, resAll]) | ((with_reducible refine Vc.hold ?_); first | refine Vc.regiont T0_ok GOM_ok ?_ | refine Vc.drawt (id := 5) T0_ok GOM_ok (by kernel_rfl) [1, 2, 4, 0, 3, 5, 6, 7, 8, 9, 10] 11 [] trivial (by kernel_rfl) ?_)); (try simp only [v8Y, Nat.beq, Nat.ble, seval, tabs, GOM_set]); (try simp (disch := omega) only [v8W])) | ((with_reducible refine hN _ _ ?_); clear hN N; (try simp (disch := omega) only [v8W])))); (try ((with_reducible refine Fin.of ?_); (try with_reducible exact True.intro)))); (refine ⟨by simp, ?_⟩); (congr 1; rw [show chkO x = true from by unfold chkO tlO tgO wrO sfO spO z20; simp_all <;> omega]; rfl))); (refine Vc.skip ?_; dsimp only [thenK, blockK, Nat.beq]; refine hN _ _ ?_; clear hN N))
 ((with_reducible refine Vc.seq fun N hN => ?_); (refine Vc.regiont T0_ok GOM_ok ?_); simp only [v8Y, Nat.beq, Nat.ble, seval, tabs, GOM_set, FA, toU8_bL, wL.eq_def, datF.eq_def, List.drop_zero]; (try simp (disch := omega) only [v8W]); (repeat (first | with_reducible intro _ | ((with_reducible refine And.intro ?_ ?_); exact sX0))); (first | (refine hN _ _ ?_; clear hN N; (try simp (disch := omega) only [v8W])) | skip))
 ((repeat with_reducible refine Vc.seq fun N hN => ?_); (first | refine Vc.regiont T0_ok GOM_ok ?_ | refine Vc.drawt (id := 5) T0_ok GOM_ok (by kernel_rfl) [1, 2, 4, 0, 3, 5, 6, 7, 8, 9, 10] 11 [] trivial (by kernel_rfl) ?_); simp only [v8Y, Nat.beq, Nat.ble, seval, tabs, GOM_set, FA, toU8_bL, wL.eq_def, datF.eq_def, List.drop_zero]; (try simp (disch := omega) only [v8W]); (repeat' (first | with_reducible intro _ | ((with_reducible refine And.intro ?_ ?_); exact sX4) | ((with_reducible refine askT_both (fun hb => ?_) (fun hb => ?_)) <;> ((try simp only [Bool.not_not, Bool.not_eq_true', Bool.not_eq_false'] at hb); simp only [hb, v8Y, Nat.beq, Nat.ble, seval, v8S, IntKind.bits, tabs, GOM_set, FA, toU8_bL, wL.eq_def, datF.eq_def, List.drop_zero]; (try simp (disch := omega) only [v8W]))))); (all_goals ((refine hN _ _ ?_); (clear hN N); (try simp (disch := omega) only [v8W]))))
 all_goals first
  | ((refine Vc.cond T0_ok (t := true) (by rfl) (fun _ => ?_) (fun h => Bool.noConfusion h)); (((repeat (first | (with_reducible refine Vc.seq fun N hN => ?_) | ((with_reducible refine And.intro ?_ ?_); exact sX0) | ((first | ((with_reducible refine Vc.fin ?_); dsimp only [thenK, blockK, retK, resS, resOne, resAll]) | ((with_reducible refine Vc.hold ?_); first | refine Vc.regiont T0_ok GOM_ok ?_)); (try simp only [v8Y, Nat.beq, Nat.ble, seval, tabs, GOM_set])) | ((with_reducible refine hN _ _ ?_); clear hN N))); (try ((with_reducible refine Fin.of ?_); (try with_reducible exact True.intro)))); (refine ⟨by simp, ?_⟩); (congr 1; rw [show chkO x = true from by unfold chkO tlO tgO wrO sfO spO z20; simp_all <;> omega]; rfl)))
  | ((refine Vc.cond T0_ok (t := false) (by rfl) (fun h => Bool.noConfusion h) (fun _ => ?_)); (refine Vc.skip ?_; dsimp only [thenK, blockK, Nat.beq]; refine hN _ _ ?_; clear hN N))
  | ((refine Vc.cond T0_ok (by rfl) (fun hb => ?_) (fun hb => ?_)); (focus (((repeat (first | (with_reducible first | refine Vc.seq fun N hN => ?_ | refine Vc.block ?_) | ((with_reducible first | refine Vc.skip ?_ | refine Vc.exit ?_); dsimp only [thenK, blockK, Nat.beq]; (first | (refine hN _ _ ?_; clear hN N) | skip)) | (with_reducible intro _) | ((with_reducible refine And.intro ?_ ?_); exact sX0) | ((first | ((with_reducible refine askT_of ?_ (fun hb => ?_)); exact sX0; (try simp only [hb])) | ((with_reducible refine Vc.fin ?_); dsimp only [thenK, blockK, retK, resS, resOne, resAll]) | ((with_reducible refine Vc.hold ?_); first | refine Vc.regiont T0_ok GOM_ok ?_ | refine Vc.drawt (id := 5) T0_ok GOM_ok (by kernel_rfl) [1, 2, 4, 0, 3, 5, 6, 7, 8, 9, 10] 11 [] trivial (by kernel_rfl) ?_)); (try simp only [v8Y, Nat.beq, Nat.ble, seval, tabs, GOM_set]); (try simp (disch := omega) only [v8W])) | ((with_reducible refine hN _ _ ?_); clear hN N; (try simp (disch := omega) only [v8W])))); (try ((with_reducible refine Fin.of ?_); (try with_reducible exact True.intro)))); (refine ⟨by simp, ?_⟩); (congr 1; rw [show chkO x = true from by unfold chkO tlO tgO wrO sfO spO z20; simp_all <;> omega]; rfl))); (refine Vc.skip ?_; dsimp only [thenK, blockK, Nat.beq]; refine hN _ _ ?_; clear hN N))
 all_goals ((repeat with_reducible refine Vc.seq fun N hN => ?_); (first | refine Vc.regiont T0_ok GOM_ok ?_ | refine Vc.drawt (id := 5) T0_ok GOM_ok (by kernel_rfl) [1, 2, 4, 0, 3, 5, 6, 7, 8, 9, 10] 11 [] trivial (by kernel_rfl) ?_); simp only [v8Y, Nat.beq, Nat.ble, seval, tabs, GOM_set, FA, toU8_bL, wL.eq_def, datF.eq_def, List.drop_zero]; (try simp (disch := omega) only [v8W]); (repeat' (first | with_reducible intro _ | ((with_reducible refine And.intro ?_ ?_); exact sX4) | ((with_reducible refine askT_both (fun hb => ?_) (fun hb => ?_)) <;> ((try simp only [Bool.not_not, Bool.not_eq_true', Bool.not_eq_false'] at hb); simp only [hb, v8Y, Nat.beq, Nat.ble, seval, v8S, IntKind.bits, tabs, GOM_set, FA, toU8_bL, wL.eq_def, datF.eq_def, List.drop_zero]; (try simp (disch := omega) only [v8W]))))); (all_goals ((refine hN _ _ ?_); (clear hN N); (try simp (disch := omega) only [v8W]))))
 all_goals first
  | ((refine Vc.cond T0_ok (t := true) (by rfl) (fun _ => ?_) (fun h => Bool.noConfusion h)); (((repeat (first | (with_reducible refine Vc.seq fun N hN => ?_) | ((with_reducible refine And.intro ?_ ?_); exact sX0) | ((first | ((with_reducible refine Vc.fin ?_); dsimp only [thenK, blockK, retK, resS, resOne, resAll]) | ((with_reducible refine Vc.hold ?_); first | refine Vc.regiont T0_ok GOM_ok ?_)); (try simp only [v8Y, Nat.beq, Nat.ble, seval, tabs, GOM_set])) | ((with_reducible refine hN _ _ ?_); clear hN N))); (try ((with_reducible refine Fin.of ?_); (try with_reducible exact True.intro)))); (refine ⟨by simp, ?_⟩); (congr 1; rw [show chkO x = true from by unfold chkO tlO tgO wrO sfO spO z20; simp_all <;> omega]; rfl)))
  | ((refine Vc.cond T0_ok (t := false) (by rfl) (fun h => Bool.noConfusion h) (fun _ => ?_)); (refine Vc.skip ?_; dsimp only [thenK, blockK, Nat.beq]; refine hN _ _ ?_; clear hN N))
  | ((refine Vc.cond T0_ok (by rfl) (fun hb => ?_) (fun hb => ?_)); (focus (((repeat (first | (with_reducible first | refine Vc.seq fun N hN => ?_ | refine Vc.block ?_) | ((with_reducible first | refine Vc.skip ?_ | refine Vc.exit ?_); dsimp only [thenK, blockK, Nat.beq]; (first | (refine hN _ _ ?_; clear hN N) | skip)) | (with_reducible intro _) | ((with_reducible refine And.intro ?_ ?_); exact sX0) | ((first | ((with_reducible refine askT_of ?_ (fun hb => ?_)); exact sX0; (try simp only [hb])) | ((with_reducible refine Vc.fin ?_); dsimp only [thenK, blockK, retK, resS, resOne, resAll]) | ((with_reducible refine Vc.hold ?_); first | refine Vc.regiont T0_ok GOM_ok ?_ | refine Vc.drawt (id := 5) T0_ok GOM_ok (by kernel_rfl) [1, 2, 4, 0, 3, 5, 6, 7, 8, 9, 10] 11 [] trivial (by kernel_rfl) ?_)); (try simp only [v8Y, Nat.beq, Nat.ble, seval, tabs, GOM_set]); (try simp (disch := omega) only [v8W])) | ((with_reducible refine hN _ _ ?_); clear hN N; (try simp (disch := omega) only [v8W])))); (try ((with_reducible refine Fin.of ?_); (try with_reducible exact True.intro)))); (refine ⟨by simp, ?_⟩); (congr 1; rw [show chkO x = true from by unfold chkO tlO tgO wrO sfO spO z20; simp_all <;> omega]; rfl))); (refine Vc.skip ?_; dsimp only [thenK, blockK, Nat.beq]; refine hN _ _ ?_; clear hN N))
 all_goals ((repeat (first | (with_reducible refine Vc.seq fun N hN => ?_) | ((with_reducible refine And.intro ?_ ?_); exact sX0) | ((first | ((with_reducible refine Vc.fin ?_); dsimp only [thenK, blockK, retK, resS, resOne, resAll]) | ((with_reducible refine Vc.hold ?_); first | refine Vc.regiont T0_ok GOM_ok ?_)); (try simp only [v8Y, Nat.beq, Nat.ble, seval, tabs, GOM_set])) | ((with_reducible refine hN _ _ ?_); clear hN N))); (try ((with_reducible refine Fin.of ?_); (try with_reducible exact True.intro))))
 all_goals refine ⟨by simp, ?_⟩
 all_goals (congr 1; rw [show chkO x = false from by unfold chkO tlO tgO wrO sfO spO z20; simp_all <;> omega]; rfl)
noncomputable def g_rcheck (args : List SV) (m : List Blk) : CR :=
 match args with
 | [.agg l] => .pure (∃ x, OpR (HM m) l x) (.int .i64 (if chkO (opOf l) = true then 150 else 0))
 | _ => .none
theorem g_rcheck_ok (w0 : World) (B : List Nat) (args : List SV) (m : List Blk) : CROk Tryd.prog w0 B 14 args m (g_rcheck args m) := by
 unfold g_rcheck
 split
 ·rename_i l
  intro ⟨x, hO⟩ w hm
  rw [opOf_eq hO]
  exact calls_pure Tryd.func14 rfl rfl (rcheck_vc l x w (hO.mono fun b o h => hm.hm h))
 ·exact trivial
def mayO (x : OpD) : Bool := opLe x 1000 && !chkO x
noncomputable def GON : Ctr := fun f args m => match f with
 | 11 => g_Op args m
 | 14 => g_rcheck args m
 | _ => .none
theorem GON_ok : GOk Tryd.prog GON := by
 intro w0 B f args m; unfold GON; split
 ·exact g_Op_ok _ _ _ _
 ·exact g_rcheck_ok _ _ _ _
 ·exact trivial
theorem GON_Op : GON 11 = g_Op := by funext args m; rfl
theorem GON_rcheck : GON 14 = g_rcheck := by funext args m; rfl
def GON_set := And.intro (And.intro (@GON_Op) (@g_Op.eq_def)) (And.intro (@GON_rcheck) (@g_rcheck.eq_def))

set_option maxRecDepth 20000 in
theorem may_vc (l : List SV) (x : OpD) (w : World) (hO : OpR (H0 w) l x) : Calls Tryd.prog 15 (cvs [.agg l]).toArray w (fun en w' => ∃ u, en = .returned u ∧ ∃ v' m', u = cv v' ∧ MemOk w [] m' w' ∧ v' = .bool (mayO x)) := by
 have hOx : ∀ m, allOld w ∈ m → OpR (HM m) l x := fun m hin => hO.mono (H0.hm hin)
 have hop := opOf_eq hO
 obtain ⟨f1, f2, f3, c0, c20, c24, c25, d25, ⟨v1, c45, a1, n1, k1, rfl, p11, p12, p13, p14, p15, p16⟩, ⟨v2, c46, a2, n2, k2, rfl, p21, p22, p23, p24, p25, p26⟩, c47, c48, c49, c50, c54, c58, c59, d59, c79, c80, ⟨v3, c81, a3, n3, k3, rfl, p31, p32, p33, p34, p35, p36⟩, ⟨v4, c82, a4, n4, k4, rfl, p41, p42, p43, p44, p45, p46⟩, ls, lf, lp, bs, bf, bp, wn, wf, wt, u1, u2, u3, u4, u5⟩ := hO
 have L1 : ∀ m, allOld w ∈ m → LiesH (HM m) a1 (cc (.ints .u8 x.fd)) := fun m hin => p14.mono (H0.hm hin)
 have T1 : x.fd.take n1 = x.fd := List.take_of_length_le (by omega)
 have L2 : ∀ m, allOld w ∈ m → LiesH (HM m) a2 (cc (.ints .u8 x.cd)) := fun m hin => p24.mono (H0.hm hin)
 have T2 : x.cd.take n2 = x.cd := List.take_of_length_le (by omega)
 have L3 : ∀ m, allOld w ∈ m → LiesH (HM m) a3 (cc (.ints .u8 x.pd)) := fun m hin => p34.mono (H0.hm hin)
 have T3 : x.pd.take n3 = x.pd := List.take_of_length_le (by omega)
 have L4 : ∀ m, allOld w ∈ m → LiesH (HM m) a4 (cc (.ints .u8 x.sg)) := fun m hin => p44.mono (H0.hm hin)
 have T4 : x.sg.take n4 = x.sg := List.take_of_length_le (by omega)
 have N1 := numI_lm wn
 have N2 := numI_lm wf
 have N3 := numI_lm wt
 have FA := And.intro f2 <| And.intro f3 <| And.intro c0 <| And.intro c20 <| And.intro c24 <| And.intro c25 <| And.intro d25 <| And.intro c45 <| And.intro c46 <| And.intro c47 <| And.intro c48 <| And.intro c49 <| And.intro c50 <| And.intro c54 <| And.intro c58 <| And.intro c59 <| And.intro d59 <| And.intro c79 <| And.intro c80 <| And.intro c81 <| And.intro c82 <| And.intro N1 <| And.intro N2 <| And.intro N3 <| And.intro T1 <| And.intro T2 <| And.intro T3 T4
 unfold u64I at u1 u2 u3 u4 u5
 cases hc : chkO x with
 | true =>
  have e1 : (if True then (150 : Int) else 0) = 150 := rfl
  refine Vc.calls T0_ok Tryd.func15 rfl rfl (args := [.agg l]) (k := 9) rfl (old_start w) ?_; change Vc _ _ (c8 (.agg l) .undef .undef .undef .undef .undef .undef .undef ([.undef, .undef])) _ _
  ((with_reducible refine Vc.seq fun N hN => ?_); (refine Vc.regiont T0_ok GON_ok ?_); simp only [v8Y, Nat.beq, Nat.ble, seval, tabs, GON_set, FA, toU8_bL, wL.eq_def, datF.eq_def, List.drop_zero]; (try simp (disch := omega) only [v8W]); (repeat (first | with_reducible intro _ | ((with_reducible refine And.intro ?_ ?_); exact sX0))); (first | (refine hN _ _ ?_; clear hN N; (try simp (disch := omega) only [v8W])) | skip))
  ((repeat with_reducible refine Vc.seq fun N hN => ?_); (first | refine Vc.regiont T0_ok GON_ok ?_); simp only [v8Y, Nat.beq, Nat.ble, seval, tabs, GON_set, hop, hc, if_true, FA, toU8_bL, wL.eq_def, datF.eq_def, List.drop_zero]; (try simp (disch := omega) only [v8W]); (repeat' (first | with_reducible intro _ | ((with_reducible refine And.intro ?_ ?_); exact sX4) | ((with_reducible refine askT_both (fun hb => ?_) (fun hb => ?_)) <;> ((try simp only [Bool.not_not, Bool.not_eq_true', Bool.not_eq_false'] at hb); simp only [hb, v8Y, Nat.beq, Nat.ble, seval, v8S, IntKind.bits, tabs, GON_set, hop, hc, if_true, FA, toU8_bL, wL.eq_def, datF.eq_def, List.drop_zero]; (try simp (disch := omega) only [v8W]))))); (all_goals ((refine hN _ _ ?_); (clear hN N); (try simp (disch := omega) only [v8W]))))
  all_goals ((repeat (first | ((first | ((with_reducible refine Vc.fin ?_); dsimp only [thenK, blockK, retK, resS, resOne, resAll])); (try simp only [v8Y, Nat.beq, Nat.ble, seval, tabs, GON_set])))); (try ((with_reducible refine Fin.of ?_); (try with_reducible exact True.intro))))
  all_goals refine ⟨by simp, ?_⟩
  all_goals (congr 1; unfold mayO; simp_all)
 | false =>
  refine Vc.calls T0_ok Tryd.func15 rfl rfl (args := [.agg l]) (k := 9) rfl (old_start w) ?_; change Vc _ _ (c8 (.agg l) .undef .undef .undef .undef .undef .undef .undef ([.undef, .undef])) _ _
  ((with_reducible refine Vc.seq fun N hN => ?_); (refine Vc.regiont T0_ok GON_ok ?_); simp only [v8Y, Nat.beq, Nat.ble, seval, tabs, GON_set, FA, toU8_bL, wL.eq_def, datF.eq_def, List.drop_zero]; (try simp (disch := omega) only [v8W]); (repeat (first | with_reducible intro _ | ((with_reducible refine And.intro ?_ ?_); exact sX0))); (first | (refine hN _ _ ?_; clear hN N; (try simp (disch := omega) only [v8W])) | skip))
  ((repeat with_reducible refine Vc.seq fun N hN => ?_); (first | refine Vc.regiont T0_ok GON_ok ?_); simp only [v8Y, Nat.beq, Nat.ble, seval, tabs, GON_set, hop, hc, Bool.false_eq_true, if_false, FA, toU8_bL, wL.eq_def, datF.eq_def, List.drop_zero]; (try simp (disch := omega) only [v8W]); (repeat' (first | with_reducible intro _ | ((with_reducible refine And.intro ?_ ?_); exact sX4) | ((with_reducible refine askT_both (fun hb => ?_) (fun hb => ?_)) <;> ((try simp only [Bool.not_not, Bool.not_eq_true', Bool.not_eq_false'] at hb); simp only [hb, v8Y, Nat.beq, Nat.ble, seval, v8S, IntKind.bits, tabs, GON_set, hop, hc, Bool.false_eq_true, if_false, FA, toU8_bL, wL.eq_def, datF.eq_def, List.drop_zero]; (try simp (disch := omega) only [v8W]))))); (all_goals ((refine hN _ _ ?_); (clear hN N); (try simp (disch := omega) only [v8W]))))
  all_goals ((repeat (first | ((first | ((with_reducible refine Vc.fin ?_); dsimp only [thenK, blockK, retK, resS, resOne, resAll])); (try simp only [v8Y, Nat.beq, Nat.ble, seval, tabs, GON_set])))); (try ((with_reducible refine Fin.of ?_); (try with_reducible exact True.intro))))
  all_goals refine ⟨by simp, ?_⟩
  all_goals (congr 1; unfold mayO; simp_all)
noncomputable def g_may (args : List SV) (m : List Blk) : CR :=
 match args with
 | [.agg l] => .pure (∃ x, OpR (HM m) l x) (.bool (mayO (opOf l)))
 | _ => .none
theorem g_may_ok (w0 : World) (B : List Nat) (args : List SV) (m : List Blk) : CROk Tryd.prog w0 B 15 args m (g_may args m) := by
 unfold g_may
 split
 ·rename_i l
  intro ⟨x, hO⟩ w hm
  rw [opOf_eq hO]
  exact calls_pure Tryd.func15 rfl rfl (may_vc l x w (hO.mono fun b o h => hm.hm h))
 ·exact trivial
end Go.Proofs.YthdpgfdfgidokaaDoor
