/-
 The document's sameness of operations (quaestorref00.SameOp), walked. No condition.
-/
import Derived.Test.YtjonbbmnjbnefaaDoorKC
import Derived.Test.YtjonbbmnjbnefaaDoorR9
set_option maxRecDepth 10000
set_option maxHeartbeats 4000000
set_option linter.defProp false
set_option linter.unusedVariables false
set_option linter.unusedSimpArgs false
namespace Go.Proofs.YtjonbbmnjbnefaaDoor
open Go.RowKit
def sm1 (x y : OpD) : Bool := decide (x.snd = y.snd) && (eqW x.non y.non && ((x.hf == y.hf) && (decide (x.fac = y.fac) && (decide (x.cg = y.cg) && (decide (x.vg = y.vg) && decide (x.pg = y.pg))))))
def sm2 (x y : OpD) : Bool := eqW x.mf y.mf && (eqW x.mt y.mt && ((x.hp == y.hp) && (decide (x.pay = y.pay) && (decide (x.pv = y.pv) && decide (x.po = y.po)))))
def sm3 (x y : OpD) : Bool := decide (x.fd = y.fd) && (decide (x.cd = y.cd) && (decide (x.pd = y.pd) && decide (x.sg = y.sg)))
def smO (x y : OpD) : Bool := sm1 x y && (sm2 x y && sm3 x y)
noncomputable def GNA : Ctr := fun f args m => match f with
 | 29 => g_same args m
 | _ => .none
theorem GNA_ok : GOk Tryd.prog GNA := by
 intro w0 B f args m; unfold GNA; split
 ·exact g_same_ok _ _ _ _
 ·exact trivial
theorem GNA_same : GNA 29 = g_same := by funext args m; rfl
def GNA_set := And.intro (@GNA_same) (@g_same.eq_def)

set_option maxRecDepth 20000 in
theorem sameop_vc (l lb : List SV) (x xb : OpD) (w : World) (hO : OpR (H0 w) l x) (hO2 : OpR (H0 w) lb xb) : Calls Tryd.prog 28 (cvs [.agg l, .agg lb]).toArray w (fun en w' => ∃ u, en = .returned u ∧ ∃ v' m', u = cv v' ∧ MemOk w [] m' w' ∧ v' = .bool (smO x xb)) := by
 have hOx : ∀ m, allOld w ∈ m → OpR (HM m) l x := fun m hin => hO.mono (H0.hm hin)
 have hop := opOf_eq hO
 obtain ⟨f1, f2, f3, c0, c20, c24, c25, d25, ⟨v1, c45, a1, n1, k1, rfl, p11, p12, p13, p14, p15, p16⟩, ⟨v2, c46, a2, n2, k2, rfl, p21, p22, p23, p24, p25, p26⟩, c47, c48, c49, c50, c54, c58, c59, d59, c79, c80, ⟨v3, c81, a3, n3, k3, rfl, p31, p32, p33, p34, p35, p36⟩, ⟨v4, c82, a4, n4, k4, rfl, p41, p42, p43, p44, p45, p46⟩, ls, lf, lp, bs, bf, bp, wn, wf, wt, u1, u2, u3, u4, u5⟩ := hO
 have L1 : ∀ m, allOld w ∈ m → LiesH (HM m) a1 (cc (.ints .u8 x.fd)) := fun m hin => p14.mono (H0.hm hin)
 have T1 : x.fd.take n1 = x.fd := List.take_of_length_le (by omega)
 have L2 : ∀ m, allOld w ∈ m → LiesH (HM m) a2 (cc (.ints .u8 x.cd)) := fun m hin => p24.mono (H0.hm hin)
 have T2 : x.cd.take n2 = x.cd := List.take_of_length_le (by omega)
 have L3 : ∀ m, allOld w ∈ m → LiesH (HM m) a3 (cc (.ints .u8 x.pd)) := fun m hin => p34.mono (H0.hm hin)
 have T3 : x.pd.take n3 = x.pd := List.take_of_length_le (by omega)
 have L4 : ∀ m, allOld w ∈ m → LiesH (HM m) a4 (cc (.ints .u8 x.sg)) := fun m hin => p44.mono (H0.hm hin)
 have T4 : x.sg.take n4 = x.sg := List.take_of_length_le (by omega)
 have N1 := numI_lm wn
 have N2 := numI_lm wf
 have N3 := numI_lm wt
 have FA := And.intro f2 <| And.intro f3 <| And.intro c0 <| And.intro c20 <| And.intro c24 <| And.intro c25 <| And.intro d25 <| And.intro c45 <| And.intro c46 <| And.intro c47 <| And.intro c48 <| And.intro c49 <| And.intro c50 <| And.intro c54 <| And.intro c58 <| And.intro c59 <| And.intro d59 <| And.intro c79 <| And.intro c80 <| And.intro c81 <| And.intro c82 <| And.intro N1 <| And.intro N2 <| And.intro N3 <| And.intro T1 <| And.intro T2 <| And.intro T3 T4
 unfold u64I at u1 u2 u3 u4 u5
 obtain ⟨f1b, f2b, f3b, c0b, c20b, c24b, c25b, d25b, ⟨v1b, c45b, a1b, n1b, k1b, rfl, p11b, p12b, p13b, p14b, p15b, p16b⟩, ⟨v2b, c46b, a2b, n2b, k2b, rfl, p21b, p22b, p23b, p24b, p25b, p26b⟩, c47b, c48b, c49b, c50b, c54b, c58b, c59b, d59b, c79b, c80b, ⟨v3b, c81b, a3b, n3b, k3b, rfl, p31b, p32b, p33b, p34b, p35b, p36b⟩, ⟨v4b, c82b, a4b, n4b, k4b, rfl, p41b, p42b, p43b, p44b, p45b, p46b⟩, lsb, lfb, lpb, bsb, bfb, bpb, wnb, wfb, wtb, u1b, u2b, u3b, u4b, u5b⟩ := hO2
 have L1b : ∀ m, allOld w ∈ m → LiesH (HM m) a1b (cc (.ints .u8 xb.fd)) := fun m hin => p14b.mono (H0.hm hin)
 have T1b : xb.fd.take n1b = xb.fd := List.take_of_length_le (by omega)
 have L2b : ∀ m, allOld w ∈ m → LiesH (HM m) a2b (cc (.ints .u8 xb.cd)) := fun m hin => p24b.mono (H0.hm hin)
 have T2b : xb.cd.take n2b = xb.cd := List.take_of_length_le (by omega)
 have L3b : ∀ m, allOld w ∈ m → LiesH (HM m) a3b (cc (.ints .u8 xb.pd)) := fun m hin => p34b.mono (H0.hm hin)
 have T3b : xb.pd.take n3b = xb.pd := List.take_of_length_le (by omega)
 have L4b : ∀ m, allOld w ∈ m → LiesH (HM m) a4b (cc (.ints .u8 xb.sg)) := fun m hin => p44b.mono (H0.hm hin)
 have T4b : xb.sg.take n4b = xb.sg := List.take_of_length_le (by omega)
 have N1b := numI_lm wnb
 have N2b := numI_lm wfb
 have N3b := numI_lm wtb
 have FAb := And.intro f2b <| And.intro f3b <| And.intro c0b <| And.intro c20b <| And.intro c24b <| And.intro c25b <| And.intro d25b <| And.intro c45b <| And.intro c46b <| And.intro c47b <| And.intro c48b <| And.intro c49b <| And.intro c50b <| And.intro c54b <| And.intro c58b <| And.intro c59b <| And.intro d59b <| And.intro c79b <| And.intro c80b <| And.intro c81b <| And.intro c82b <| And.intro N1b <| And.intro N2b <| And.intro N3b <| And.intro T1b <| And.intro T2b <| And.intro T3b <| T4b
 unfold u64I at u1b u2b u3b u4b u5b
 refine Vc.calls T0_ok Tryd.func28 rfl rfl (args := [.agg l, .agg lb]) (k := 124) rfl (old_start w) ?_; change Vc _ _ (c8 (.agg l) (.agg lb) .undef .undef .undef .undef .undef .undef (c8 .undef .undef .undef .undef .undef .undef .undef .undef (c8 .undef .undef .undef .undef .undef .undef .undef .undef (c8 .undef .undef .undef .undef .undef .undef .undef .undef (c8 .undef .undef .undef .undef .undef .undef .undef .undef (c8 .undef .undef .undef .undef .undef .undef .undef .undef (c8 .undef .undef .undef .undef .undef .undef .undef .undef (c8 .undef .undef .undef .undef .undef .undef .undef .undef (c8 .undef .undef .undef .undef .undef .undef .undef .undef (c8 .undef .undef .undef .undef .undef .undef .undef .undef (c8 .undef .undef .undef .undef .undef .undef .undef .undef (c8 .undef .undef .undef .undef .undef .undef .undef .undef (c8 .undef .undef .undef .undef .undef .undef .undef .undef (c8 .undef .undef .undef .undef .undef .undef .undef .undef (c8 .undef .undef .undef .undef .undef .undef .undef .undef ([.undef, .undef, .undef, .undef, .undef, .undef])))))))))))))))) _ _
 ((with_reducible refine Vc.seq fun N hN => ?_); (refine Vc.regiont T0_ok GNA_ok ?_); simp only [v8Y, Nat.beq, Nat.ble, Int.reduceToNat, Int.reduceLE, Int.reduceLT, Nat.reduceLT, Nat.reduceLeDiff, Nat.reduceAdd, Nat.reduceMul, Nat.reduceSub, Int.reduceAdd, Int.reduceSub, Int.reduceMul, v8S, IntKind.bits, tabs, GNA_set, FA, toU8_bL, wL.eq_def, datF.eq_def, List.drop_zero, FAb]; (try simp (disch := omega) only [v8W]); (repeat (first | with_reducible intro _ | ((with_reducible refine And.intro ?_ ?_); (focus (first | ((repeat' with_reducible apply And.intro) <;> first | exact sideQ | (exact L1 _ (by simp)) | (exact L2 _ (by simp)) | (exact L3 _ (by simp)) | (exact L4 _ (by simp)) | (exact L1b _ (by simp)) | (exact L2b _ (by simp)) | (exact L3b _ (by simp)) | (exact L4b _ (by simp)) | (exact allU_lm _)) | exact sd0))) | ((with_reducible refine askT_of ?_ (fun hb => ?_)); (focus (first | ((repeat' with_reducible apply And.intro) <;> first | exact sideQ | (exact L1 _ (by simp)) | (exact L2 _ (by simp)) | (exact L3 _ (by simp)) | (exact L4 _ (by simp)) | (exact L1b _ (by simp)) | (exact L2b _ (by simp)) | (exact L3b _ (by simp)) | (exact L4b _ (by simp)) | (exact allU_lm _)) | exact sd0)); simp only [hb, v8Y, Nat.beq, Nat.ble, Int.reduceToNat, Int.reduceLE, Int.reduceLT, Nat.reduceLT, Nat.reduceLeDiff, Nat.reduceAdd, Nat.reduceMul, Nat.reduceSub, Int.reduceAdd, Int.reduceSub, Int.reduceMul, v8S, IntKind.bits, tabs, GNA_set, FA, toU8_bL, wL.eq_def, datF.eq_def, List.drop_zero, FAb]; (try simp (disch := omega) only [v8W])))); (first | (refine hN _ _ ?_; clear hN N; (try simp (disch := omega) only [v8W])) | skip))
 ((repeat with_reducible refine Vc.seq fun N hN => ?_); (first | refine Vc.regiont T0_ok GNA_ok ?_); simp only [v8Y, Nat.beq, Nat.ble, Int.reduceToNat, Int.reduceLE, Int.reduceLT, Nat.reduceLT, Nat.reduceLeDiff, Nat.reduceAdd, Nat.reduceMul, Nat.reduceSub, Int.reduceAdd, Int.reduceSub, Int.reduceMul, v8S, IntKind.bits, tabs, GNA_set, FA, toU8_bL, wL.eq_def, datF.eq_def, List.drop_zero, FAb]; (try simp (disch := omega) only [v8W]); (repeat' (first | with_reducible intro _ | ((with_reducible refine And.intro ?_ ?_); (focus (first | ((repeat' with_reducible apply And.intro) <;> first | exact sideQ | (exact L1 _ (by simp)) | (exact L2 _ (by simp)) | (exact L3 _ (by simp)) | (exact L4 _ (by simp)) | (exact L1b _ (by simp)) | (exact L2b _ (by simp)) | (exact L3b _ (by simp)) | (exact L4b _ (by simp)) | (exact allU_lm _)) | exact sd0))) | ((with_reducible refine askT_both (fun hb => ?_) (fun hb => ?_)) <;> ((try simp only [Bool.not_not, Bool.not_eq_true', Bool.not_eq_false'] at hb); simp only [hb, v8Y, Nat.beq, Nat.ble, Int.reduceToNat, Int.reduceLE, Int.reduceLT, Nat.reduceLT, Nat.reduceLeDiff, Nat.reduceAdd, Nat.reduceMul, Nat.reduceSub, Int.reduceAdd, Int.reduceSub, Int.reduceMul, v8S, IntKind.bits, tabs, GNA_set, FA, toU8_bL, wL.eq_def, datF.eq_def, List.drop_zero, FAb]; (try simp (disch := omega) only [v8W]))))); (all_goals ((refine hN _ _ ?_); (clear hN N); (try simp (disch := omega) only [v8W]))))
 all_goals ((repeat with_reducible refine Vc.seq fun N hN => ?_); (first | refine Vc.regiont T0_ok GNA_ok ?_); simp only [v8Y, Nat.beq, Nat.ble, Int.reduceToNat, Int.reduceLE, Int.reduceLT, Nat.reduceLT, Nat.reduceLeDiff, Nat.reduceAdd, Nat.reduceMul, Nat.reduceSub, Int.reduceAdd, Int.reduceSub, Int.reduceMul, v8S, IntKind.bits, tabs, GNA_set, FA, toU8_bL, wL.eq_def, datF.eq_def, List.drop_zero, FAb]; (try simp (disch := omega) only [v8W]); (repeat' (first | with_reducible intro _ | ((with_reducible refine And.intro ?_ ?_); (focus (first | ((repeat' with_reducible apply And.intro) <;> first | exact sideQ | (exact L1 _ (by simp)) | (exact L2 _ (by simp)) | (exact L3 _ (by simp)) | (exact L4 _ (by simp)) | (exact L1b _ (by simp)) | (exact L2b _ (by simp)) | (exact L3b _ (by simp)) | (exact L4b _ (by simp)) | (exact allU_lm _)) | exact sd0))) | ((with_reducible refine askT_both (fun hb => ?_) (fun hb => ?_)) <;> ((try simp only [Bool.not_not, Bool.not_eq_true', Bool.not_eq_false'] at hb); simp only [hb, v8Y, Nat.beq, Nat.ble, Int.reduceToNat, Int.reduceLE, Int.reduceLT, Nat.reduceLT, Nat.reduceLeDiff, Nat.reduceAdd, Nat.reduceMul, Nat.reduceSub, Int.reduceAdd, Int.reduceSub, Int.reduceMul, v8S, IntKind.bits, tabs, GNA_set, FA, toU8_bL, wL.eq_def, datF.eq_def, List.drop_zero, FAb]; (try simp (disch := omega) only [v8W]))))); (all_goals ((refine hN _ _ ?_); (clear hN N); (try simp (disch := omega) only [v8W]))))
 all_goals ((repeat with_reducible refine Vc.seq fun N hN => ?_); (first | refine Vc.regiont T0_ok GNA_ok ?_); simp only [v8Y, Nat.beq, Nat.ble, Int.reduceToNat, Int.reduceLE, Int.reduceLT, Nat.reduceLT, Nat.reduceLeDiff, Nat.reduceAdd, Nat.reduceMul, Nat.reduceSub, Int.reduceAdd, Int.reduceSub, Int.reduceMul, v8S, IntKind.bits, tabs, GNA_set, FA, toU8_bL, wL.eq_def, datF.eq_def, List.drop_zero, FAb]; (try simp (disch := omega) only [v8W]); (repeat' (first | with_reducible intro _ | ((with_reducible refine And.intro ?_ ?_); (focus (first | ((repeat' with_reducible apply And.intro) <;> first | exact sideQ | (exact L1 _ (by simp)) | (exact L2 _ (by simp)) | (exact L3 _ (by simp)) | (exact L4 _ (by simp)) | (exact L1b _ (by simp)) | (exact L2b _ (by simp)) | (exact L3b _ (by simp)) | (exact L4b _ (by simp)) | (exact allU_lm _)) | exact sd0))) | ((with_reducible refine askT_both (fun hb => ?_) (fun hb => ?_)) <;> ((try simp only [Bool.not_not, Bool.not_eq_true', Bool.not_eq_false'] at hb); simp only [hb, v8Y, Nat.beq, Nat.ble, Int.reduceToNat, Int.reduceLE, Int.reduceLT, Nat.reduceLT, Nat.reduceLeDiff, Nat.reduceAdd, Nat.reduceMul, Nat.reduceSub, Int.reduceAdd, Int.reduceSub, Int.reduceMul, v8S, IntKind.bits, tabs, GNA_set, FA, toU8_bL, wL.eq_def, datF.eq_def, List.drop_zero, FAb]; (try simp (disch := omega) only [v8W]))))); (all_goals ((refine hN _ _ ?_); (clear hN N); (try simp (disch := omega) only [v8W]))))
 all_goals ((repeat (first | (with_reducible first | refine Vc.seq fun N hN => ?_ | refine Vc.block ?_) | ((with_reducible first | refine Vc.skip ?_ | refine Vc.exit ?_); dsimp only [thenK, blockK, Nat.beq]; (first | (refine hN _ _ ?_; clear hN N) | skip)) | (with_reducible intro _) | ((with_reducible refine And.intro ?_ ?_); exact sdB) | ((first | ((with_reducible refine askT_of ?_ (fun hb => ?_)); exact sdB; (try simp only [hb])) | ((with_reducible refine Vc.fin ?_); dsimp only [thenK, blockK, retK, resS, resOne, resAll]) | ((with_reducible refine Vc.hold ?_); first | refine Vc.regiont T0_ok GNA_ok ?_)); (try simp only [v8Y, Nat.beq, Nat.ble, Int.reduceToNat, Int.reduceLE, Int.reduceLT, Nat.reduceLT, Nat.reduceLeDiff, Nat.reduceAdd, Nat.reduceMul, Nat.reduceSub, Int.reduceAdd, Int.reduceSub, Int.reduceMul, v8S, IntKind.bits, tabs, GNA_set]); (try simp (disch := omega) only [v8W])) | ((with_reducible refine hN _ _ ?_); clear hN N; (try simp (disch := omega) only [v8W])))); (try ((with_reducible refine Fin.of ?_); (try with_reducible exact True.intro))))
 all_goals refine ⟨by simp, ?_⟩
 all_goals (congr 1; unfold smO sm1 sm2 sm3; simp_all)
end Go.Proofs.YtjonbbmnjbnefaaDoor
