/-
 Package userop: Price; the document's answers for layer 15 (package quaestorref15: Gas, Prefund, Price), walked. No condition.
-/
import Derived.Test.YtjonbbmnjbnefaaDoorRN
import Derived.Test.YtjonbbmnjbnefaaDoorRM
import Derived.Test.YtjonbbmnjbnefaaDoorX1
import Derived.Test.YtjonbbmnjbnefaaDoorOI
set_option maxRecDepth 10000
set_option maxHeartbeats 4000000
set_option linter.defProp false
set_option linter.unusedVariables false
set_option linter.unusedSimpArgs false
namespace Go.Proofs.YtjonbbmnjbnefaaDoor
open Go.RowKit
def g_rMul (args : List SV) (_m : List Blk) : CR := match args with | [.word a, .word b] => .pure (a < W ∧ b < W) (.tup [.word (mulN a b), .bool (mulB a b)]) | _ => .none
theorem g_rMul_ok (w0 : World) (B : List Nat) (args : List SV) (m : List Blk) : CROk Tryd.prog w0 B 42 args m (g_rMul args m) := by
 unfold g_rMul; split
 ·rename_i a b; exact fun h w _ => calls_pure Tryd.func42 rfl rfl (rmul_vc a b h.1 h.2 w)
 ·exact trivial
end Go.Proofs.YtjonbbmnjbnefaaDoor
namespace Go.Proofs.YtjonbbmnjbnefaaDoor
open Go.RowKit
def prN (x : OpD) (base : Nat) : Nat := if (addB x.mt base || decide (0 < cmpI (addN x.mt base) x.mf)) = true then x.mf else addN x.mt base
noncomputable def GOV : Ctr := fun f args m => match f with
 | 52 => g_From args m
 | 43 => g_rFrom args m
 | 141 => g_Small args m
 | 109 => g_lowByte args m
 | 120 => g_Shl args m
 | 89 => g_Shr args m
 | 54 => g_Cmp args m
 | 53 => g_Add args m
 | 51 => g_Mul args m
 | _ => .none
theorem GOV_ok : GOk Tryd.prog GOV := by
 intro w0 B f args m; unfold GOV; split
 ·exact g_From_ok _ _ _ _
 ·exact g_rFrom_ok _ _ _ _
 ·exact g_Small_ok _ _ _ _
 ·exact g_lowByte_ok _ _ _ _
 ·exact g_Shl_ok _ _ _ _
 ·exact g_Shr_ok _ _ _ _
 ·exact g_Cmp_ok _ _ _ _
 ·exact g_Add_ok _ _ _ _
 ·exact g_Mul_ok _ _ _ _
 ·exact trivial
theorem GOV_From : GOV 52 = g_From := by funext args m; rfl
theorem GOV_rFrom : GOV 43 = g_rFrom := by funext args m; rfl
theorem GOV_Small : GOV 141 = g_Small := by funext args m; rfl
theorem GOV_lowByte : GOV 109 = g_lowByte := by funext args m; rfl
theorem GOV_Shl : GOV 120 = g_Shl := by funext args m; rfl
theorem GOV_Shr : GOV 89 = g_Shr := by funext args m; rfl
theorem GOV_Cmp : GOV 54 = g_Cmp := by funext args m; rfl
theorem GOV_Add : GOV 53 = g_Add := by funext args m; rfl
theorem GOV_Mul : GOV 51 = g_Mul := by funext args m; rfl
def GOV_set := And.intro (And.intro (And.intro (And.intro (@GOV_From) (@g_From.eq_def)) (And.intro (@GOV_rFrom) (@g_rFrom.eq_def))) (And.intro (And.intro (@GOV_Small) (@g_Small.eq_def)) (And.intro (@GOV_lowByte) (And.intro (@g_lowByte.eq_def) (@GOV_Shl))))) (And.intro (And.intro (And.intro (@g_Shl.eq_def) (@GOV_Shr)) (And.intro (@g_Shr.eq_def) (@GOV_Cmp))) (And.intro (And.intro (@g_Cmp.eq_def) (@GOV_Add)) (And.intro (@g_Add.eq_def) (And.intro (@GOV_Mul) (@g_Mul.eq_def)))))

set_option maxRecDepth 20000 in
theorem price_vc (l : List SV) (x : OpD) (base : Nat) (hb0 : base < W) (w : World) (hO : OpR (H0 w) l x) : Calls Tryd.prog 20 (cvs [.agg l, .word base]).toArray w (fun en w' => ∃ u, en = .returned u ∧ ∃ v' m', u = cv v' ∧ MemOk w [] m' w' ∧ v' = .word (prN x base)) := by
 have hOx : ∀ m, allOld w ∈ m → OpR (HM m) l x := fun m hin => hO.mono (H0.hm hin)
 have hop := opOf_eq hO
 obtain ⟨f1, f2, f3, c0, c20, c24, c25, d25, ⟨v1, c45, a1, n1, k1, rfl, p11, p12, p13, p14, p15, p16⟩, ⟨v2, c46, a2, n2, k2, rfl, p21, p22, p23, p24, p25, p26⟩, c47, c48, c49, c50, c54, c58, c59, d59, c79, c80, ⟨v3, c81, a3, n3, k3, rfl, p31, p32, p33, p34, p35, p36⟩, ⟨v4, c82, a4, n4, k4, rfl, p41, p42, p43, p44, p45, p46⟩, ls, lf, lp, bs, bf, bp, wn, wf, wt, u1, u2, u3, u4, u5⟩ := hO
 have L1 : ∀ m, allOld w ∈ m → LiesH (HM m) a1 (cc (.ints .u8 x.fd)) := fun m hin => p14.mono (H0.hm hin)
 have T1 : x.fd.take n1 = x.fd := List.take_of_length_le (by omega)
 have L2 : ∀ m, allOld w ∈ m → LiesH (HM m) a2 (cc (.ints .u8 x.cd)) := fun m hin => p24.mono (H0.hm hin)
 have T2 : x.cd.take n2 = x.cd := List.take_of_length_le (by omega)
 have L3 : ∀ m, allOld w ∈ m → LiesH (HM m) a3 (cc (.ints .u8 x.pd)) := fun m hin => p34.mono (H0.hm hin)
 have T3 : x.pd.take n3 = x.pd := List.take_of_length_le (by omega)
 have L4 : ∀ m, allOld w ∈ m → LiesH (HM m) a4 (cc (.ints .u8 x.sg)) := fun m hin => p44.mono (H0.hm hin)
 have T4 : x.sg.take n4 = x.sg := List.take_of_length_le (by omega)
 have N1 := numI_lm wn
 have N2 := numI_lm wf
 have N3 := numI_lm wt
 unfold u64I at u1 u2 u3 u4 u5
 have sl := addN_lt x.mt base
 have M1 := numI_lm sl
 refine Vc.calls T0_ok Tryd.func20 rfl rfl (args := [.agg l, .word base]) (k := 23) rfl (old_start w) ?_; change Vc _ _ (c8 (.agg l) (.word base) .undef .undef .undef .undef .undef .undef (c8 .undef .undef .undef .undef .undef .undef .undef .undef (c8 .undef .undef .undef .undef .undef .undef .undef .undef ([.undef])))) _ _
 ((with_reducible refine Vc.seq fun N hN => ?_); (refine Vc.regiont T0_ok GOV_ok ?_); simp only [v8Y, Nat.beq, Nat.ble, Int.reduceToNat, Int.reduceLE, Int.reduceLT, Nat.reduceLT, Nat.reduceLeDiff, Nat.reduceAdd, Nat.reduceMul, Nat.reduceSub, Int.reduceAdd, Int.reduceSub, Int.reduceMul, v8S, IntKind.bits, tabs, GOV_set, f2, f3, c0, c20, c24, c25, d25, c45, c46, c47, c48, c49, c50, c54, c58, c59, d59, c79, c80, c81, c82, N1, N2, N3, T1, T2, T3, T4, toU8_bL, wL.eq_def, datF.eq_def, List.drop_zero]; (try simp (disch := omega) only [v8W]); (repeat (first | with_reducible intro _ | ((with_reducible refine And.intro ?_ ?_); (focus (first | ((repeat' with_reducible apply And.intro) <;> first | exact sideQ | (exact ⟨x, hOx _ (by simp)⟩) | (exact ⟨x, hOx _ (by simp), hg⟩) | (exact allU_lm _) | (simp [allU]; done)) | exact sd0))) | ((with_reducible refine askT_of ?_ (fun hb => ?_)); (focus (first | ((repeat' with_reducible apply And.intro) <;> first | exact sideQ | (exact ⟨x, hOx _ (by simp)⟩) | (exact ⟨x, hOx _ (by simp), hg⟩) | (exact allU_lm _) | (simp [allU]; done)) | exact sd0)); simp only [hb, v8Y, Nat.beq, Nat.ble, Int.reduceToNat, Int.reduceLE, Int.reduceLT, Nat.reduceLT, Nat.reduceLeDiff, Nat.reduceAdd, Nat.reduceMul, Nat.reduceSub, Int.reduceAdd, Int.reduceSub, Int.reduceMul, v8S, IntKind.bits, tabs, GOV_set, f2, f3, c0, c20, c24, c25, d25, c45, c46, c47, c48, c49, c50, c54, c58, c59, d59, c79, c80, c81, c82, N1, N2, N3, T1, T2, T3, T4, toU8_bL, wL.eq_def, datF.eq_def, List.drop_zero]; (try simp (disch := omega) only [v8W])))); (first | (refine hN _ _ ?_; clear hN N; (try simp (disch := omega) only [v8W])) | skip))
 ((with_reducible refine Vc.seq fun N hN => ?_); (refine Vc.regiont T0_ok GOV_ok ?_); simp only [v8Y, Nat.beq, Nat.ble, Int.reduceToNat, Int.reduceLE, Int.reduceLT, Nat.reduceLT, Nat.reduceLeDiff, Nat.reduceAdd, Nat.reduceMul, Nat.reduceSub, Int.reduceAdd, Int.reduceSub, Int.reduceMul, v8S, IntKind.bits, tabs, GOV_set, M1, f2, f3, c0, c20, c24, c25, d25, c45, c46, c47, c48, c49, c50, c54, c58, c59, d59, c79, c80, c81, c82, N1, N2, N3, T1, T2, T3, T4, toU8_bL, wL.eq_def, datF.eq_def, List.drop_zero]; (try simp (disch := omega) only [v8W]); (repeat (first | with_reducible intro _ | ((with_reducible refine And.intro ?_ ?_); (focus (first | ((repeat' with_reducible apply And.intro) <;> first | exact sideQ | (exact ⟨x, hOx _ (by simp)⟩) | (exact ⟨x, hOx _ (by simp), hg⟩) | (exact allU_lm _) | (simp [allU]; done)) | exact sd0))) | ((with_reducible refine askT_of ?_ (fun hb => ?_)); (focus (first | ((repeat' with_reducible apply And.intro) <;> first | exact sideQ | (exact ⟨x, hOx _ (by simp)⟩) | (exact ⟨x, hOx _ (by simp), hg⟩) | (exact allU_lm _) | (simp [allU]; done)) | exact sd0)); simp only [hb, v8Y, Nat.beq, Nat.ble, Int.reduceToNat, Int.reduceLE, Int.reduceLT, Nat.reduceLT, Nat.reduceLeDiff, Nat.reduceAdd, Nat.reduceMul, Nat.reduceSub, Int.reduceAdd, Int.reduceSub, Int.reduceMul, v8S, IntKind.bits, tabs, GOV_set, M1, f2, f3, c0, c20, c24, c25, d25, c45, c46, c47, c48, c49, c50, c54, c58, c59, d59, c79, c80, c81, c82, N1, N2, N3, T1, T2, T3, T4, toU8_bL, wL.eq_def, datF.eq_def, List.drop_zero]; (try simp (disch := omega) only [v8W])))); (first | (refine hN _ _ ?_; clear hN N; (try simp (disch := omega) only [v8W])) | skip))
 ((repeat with_reducible refine Vc.seq fun N hN => ?_); (first | refine Vc.regiont T0_ok GOV_ok ?_); simp only [v8Y, Nat.beq, Nat.ble, Int.reduceToNat, Int.reduceLE, Int.reduceLT, Nat.reduceLT, Nat.reduceLeDiff, Nat.reduceAdd, Nat.reduceMul, Nat.reduceSub, Int.reduceAdd, Int.reduceSub, Int.reduceMul, v8S, IntKind.bits, tabs, GOV_set, M1, f2, f3, c0, c20, c24, c25, d25, c45, c46, c47, c48, c49, c50, c54, c58, c59, d59, c79, c80, c81, c82, N1, N2, N3, T1, T2, T3, T4, toU8_bL, wL.eq_def, datF.eq_def, List.drop_zero]; (try simp (disch := omega) only [v8W]); (repeat' (first | with_reducible intro _ | ((with_reducible refine And.intro ?_ ?_); (focus (first | ((repeat' with_reducible apply And.intro) <;> first | exact sideQ | (exact ⟨x, hOx _ (by simp)⟩) | (exact ⟨x, hOx _ (by simp), hg⟩) | (exact allU_lm _) | (simp [allU]; done)) | exact sd0))) | ((with_reducible refine askT_both (fun hb => ?_) (fun hb => ?_)) <;> ((try simp only [Bool.not_not, Bool.not_eq_true', Bool.not_eq_false'] at hb); simp only [hb, v8Y, Nat.beq, Nat.ble, Int.reduceToNat, Int.reduceLE, Int.reduceLT, Nat.reduceLT, Nat.reduceLeDiff, Nat.reduceAdd, Nat.reduceMul, Nat.reduceSub, Int.reduceAdd, Int.reduceSub, Int.reduceMul, v8S, IntKind.bits, tabs, GOV_set, M1, f2, f3, c0, c20, c24, c25, d25, c45, c46, c47, c48, c49, c50, c54, c58, c59, d59, c79, c80, c81, c82, N1, N2, N3, T1, T2, T3, T4, toU8_bL, wL.eq_def, datF.eq_def, List.drop_zero]; (try simp (disch := omega) only [v8W]))))); (all_goals ((refine hN _ _ ?_); (clear hN N); (try simp (disch := omega) only [v8W]))))
 all_goals first
  | ((refine Vc.cond T0_ok (t := true) (by rfl) (fun _ => ?_) (fun h => Bool.noConfusion h)); (((repeat (first | (with_reducible first | refine Vc.seq fun N hN => ?_ | refine Vc.block ?_) | ((with_reducible first | refine Vc.skip ?_ | refine Vc.exit ?_); dsimp only [thenK, blockK, Nat.beq]; (first | (refine hN _ _ ?_; clear hN N) | skip)) | (with_reducible intro _) | ((with_reducible refine And.intro ?_ ?_); (focus (first | ((repeat' with_reducible apply And.intro) <;> first | exact sideQ | (exact ⟨x, hOx _ (by simp)⟩) | (exact ⟨x, hOx _ (by simp), hg⟩) | (exact allU_lm _) | (simp [allU]; done)) | exact sd0))) | ((first | ((with_reducible refine askT_of ?_ (fun hb => ?_)); (focus (first | ((repeat' with_reducible apply And.intro) <;> first | exact sideQ | (exact ⟨x, hOx _ (by simp)⟩) | (exact ⟨x, hOx _ (by simp), hg⟩) | (exact allU_lm _) | (simp [allU]; done)) | exact sd0)); (try simp only [hb])) | ((with_reducible refine Vc.fin ?_); dsimp only [thenK, blockK, retK, resS, resOne, resAll]) | ((with_reducible refine Vc.hold ?_); first | refine Vc.regiont T0_ok GOV_ok ?_)); (try simp only [v8Y, Nat.beq, Nat.ble, Int.reduceToNat, Int.reduceLE, Int.reduceLT, Nat.reduceLT, Nat.reduceLeDiff, Nat.reduceAdd, Nat.reduceMul, Nat.reduceSub, Int.reduceAdd, Int.reduceSub, Int.reduceMul, v8S, IntKind.bits, tabs, GOV_set, M1, f2, f3, c0, c20, c24, c25, d25, c45, c46, c47, c48, c49, c50, c54, c58, c59, d59, c79, c80, c81, c82, N1, N2, N3, T1, T2, T3, T4, toU8_bL, wL.eq_def, datF.eq_def, List.drop_zero]); (try simp (disch := omega) only [v8W])) | ((with_reducible refine hN _ _ ?_); clear hN N; (try simp (disch := omega) only [v8W])))); (try ((with_reducible refine Fin.of ?_); (try with_reducible exact True.intro)))); (refine ⟨by simp, ?_⟩); (congr 1; unfold prN; simp_all <;> (intro hq; omega))))
  | ((refine Vc.cond T0_ok (t := false) (by rfl) (fun h => Bool.noConfusion h) (fun _ => ?_)); (((repeat (first | (with_reducible first | refine Vc.seq fun N hN => ?_ | refine Vc.block ?_) | ((with_reducible first | refine Vc.skip ?_ | refine Vc.exit ?_); dsimp only [thenK, blockK, Nat.beq]; (first | (refine hN _ _ ?_; clear hN N) | skip)) | (with_reducible intro _) | ((with_reducible refine And.intro ?_ ?_); (focus (first | ((repeat' with_reducible apply And.intro) <;> first | exact sideQ | (exact ⟨x, hOx _ (by simp)⟩) | (exact ⟨x, hOx _ (by simp), hg⟩) | (exact allU_lm _) | (simp [allU]; done)) | exact sd0))) | ((first | ((with_reducible refine askT_of ?_ (fun hb => ?_)); (focus (first | ((repeat' with_reducible apply And.intro) <;> first | exact sideQ | (exact ⟨x, hOx _ (by simp)⟩) | (exact ⟨x, hOx _ (by simp), hg⟩) | (exact allU_lm _) | (simp [allU]; done)) | exact sd0)); (try simp only [hb])) | ((with_reducible refine Vc.fin ?_); dsimp only [thenK, blockK, retK, resS, resOne, resAll]) | ((with_reducible refine Vc.hold ?_); first | refine Vc.regiont T0_ok GOV_ok ?_)); (try simp only [v8Y, Nat.beq, Nat.ble, Int.reduceToNat, Int.reduceLE, Int.reduceLT, Nat.reduceLT, Nat.reduceLeDiff, Nat.reduceAdd, Nat.reduceMul, Nat.reduceSub, Int.reduceAdd, Int.reduceSub, Int.reduceMul, v8S, IntKind.bits, tabs, GOV_set, M1, f2, f3, c0, c20, c24, c25, d25, c45, c46, c47, c48, c49, c50, c54, c58, c59, d59, c79, c80, c81, c82, N1, N2, N3, T1, T2, T3, T4, toU8_bL, wL.eq_def, datF.eq_def, List.drop_zero]); (try simp (disch := omega) only [v8W])) | ((with_reducible refine hN _ _ ?_); clear hN N; (try simp (disch := omega) only [v8W])))); (try ((with_reducible refine Fin.of ?_); (try with_reducible exact True.intro)))); (refine ⟨by simp, ?_⟩); (congr 1; unfold prN; simp_all <;> (intro hq; omega))))
  | ((refine Vc.cond T0_ok (by rfl) (fun hb => ?_) (fun hb => ?_)) <;> (((repeat (first | (with_reducible first | refine Vc.seq fun N hN => ?_ | refine Vc.block ?_) | ((with_reducible first | refine Vc.skip ?_ | refine Vc.exit ?_); dsimp only [thenK, blockK, Nat.beq]; (first | (refine hN _ _ ?_; clear hN N) | skip)) | (with_reducible intro _) | ((with_reducible refine And.intro ?_ ?_); (focus (first | ((repeat' with_reducible apply And.intro) <;> first | exact sideQ | (exact ⟨x, hOx _ (by simp)⟩) | (exact ⟨x, hOx _ (by simp), hg⟩) | (exact allU_lm _) | (simp [allU]; done)) | exact sd0))) | ((first | ((with_reducible refine askT_of ?_ (fun hb => ?_)); (focus (first | ((repeat' with_reducible apply And.intro) <;> first | exact sideQ | (exact ⟨x, hOx _ (by simp)⟩) | (exact ⟨x, hOx _ (by simp), hg⟩) | (exact allU_lm _) | (simp [allU]; done)) | exact sd0)); (try simp only [hb])) | ((with_reducible refine Vc.fin ?_); dsimp only [thenK, blockK, retK, resS, resOne, resAll]) | ((with_reducible refine Vc.hold ?_); first | refine Vc.regiont T0_ok GOV_ok ?_)); (try simp only [v8Y, Nat.beq, Nat.ble, Int.reduceToNat, Int.reduceLE, Int.reduceLT, Nat.reduceLT, Nat.reduceLeDiff, Nat.reduceAdd, Nat.reduceMul, Nat.reduceSub, Int.reduceAdd, Int.reduceSub, Int.reduceMul, v8S, IntKind.bits, tabs, GOV_set, M1, f2, f3, c0, c20, c24, c25, d25, c45, c46, c47, c48, c49, c50, c54, c58, c59, d59, c79, c80, c81, c82, N1, N2, N3, T1, T2, T3, T4, toU8_bL, wL.eq_def, datF.eq_def, List.drop_zero]); (try simp (disch := omega) only [v8W])) | ((with_reducible refine hN _ _ ?_); clear hN N; (try simp (disch := omega) only [v8W])))); (try ((with_reducible refine Fin.of ?_); (try with_reducible exact True.intro)))); (refine ⟨by simp, ?_⟩); (congr 1; unfold prN; simp_all <;> (intro hq; omega))))
noncomputable def g_price (args : List SV) (m : List Blk) : CR :=
 match args with
 | [.agg l, .word base] => .pure ((∃ x, OpR (HM m) l x) ∧ base < W) (.word (prN (opOf l) base))
 | _ => .none
theorem g_price_ok (w0 : World) (B : List Nat) (args : List SV) (m : List Blk) : CROk Tryd.prog w0 B 20 args m (g_price args m) := by
 unfold g_price
 split
 ·rename_i l base
  intro ⟨⟨x, hO⟩, hb⟩ w hm
  rw [opOf_eq hO]
  exact calls_pure Tryd.func20 rfl rfl (price_vc l x base hb w (hO.mono fun b o h => hm.hm h))
 ·exact trivial
theorem mulN_comm (a b : Nat) : mulN a b = mulN b a := by unfold mulN; rw [Nat.mul_comm]
end Go.Proofs.YtjonbbmnjbnefaaDoor
