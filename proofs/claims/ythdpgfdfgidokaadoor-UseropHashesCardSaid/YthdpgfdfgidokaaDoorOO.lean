/-
 SameParts (package quaestorref00), of the same parts. No condition.
-/
import Derived.Test.YthdpgfdfgidokaaDoorOC
import Derived.Test.YthdpgfdfgidokaaDoorR9
set_option maxRecDepth 10000
set_option maxHeartbeats 4000000
set_option linter.defProp false
set_option linter.unusedVariables false
set_option linter.unusedSimpArgs false
namespace Go.Proofs.YthdpgfdfgidokaaDoor
open Go.RowKit
def sm1 (x y : OpD) : Bool := decide (x.snd = y.snd) && (eqW x.non y.non && ((x.hf == y.hf) && (decide (x.fac = y.fac) && (decide (x.cg = y.cg) && (decide (x.vg = y.vg) && decide (x.pg = y.pg))))))
def sm2 (x y : OpD) : Bool := eqW x.mf y.mf && (eqW x.mt y.mt && ((x.hp == y.hp) && (decide (x.pay = y.pay) && (decide (x.pv = y.pv) && decide (x.po = y.po)))))
def sm3 (x y : OpD) : Bool := decide (x.fd = y.fd) && (decide (x.cd = y.cd) && (decide (x.pd = y.pd) && decide (x.sg = y.sg)))
def smO (x y : OpD) : Bool := sm1 x y && (sm2 x y && sm3 x y)
noncomputable def GNA : Ctr := fun f args m => match f with
 | 29 => g_same args m
 | _ => .none
theorem GNA_ok : GOk Tryd.prog GNA := by
 intro w0 B f args m; unfold GNA; split
 ·exact g_same_ok _ _ _ _
 ·exact trivial
theorem GNA_same : GNA 29 = g_same := by funext args m; rfl
def GNA_set := And.intro (@GNA_same) (@g_same.eq_def)

set_option maxRecDepth 20000 in
theorem sameop_vc (l lb : List SV) (x xb : OpD) (w : World) (hO : OpR (H0 w) l x) (hO2 : OpR (H0 w) lb xb) : Calls Tryd.prog 28 (cvs [.agg l, .agg lb]).toArray w (fun en w' => ∃ u, en = .returned u ∧ ∃ v' m', u = cv v' ∧ MemOk w [] m' w' ∧ v' = .bool (smO x xb)) := by
 have hOx : ∀ m, allOld w ∈ m → OpR (HM m) l x := fun m hin => hO.mono (H0.hm hin)
 have hop := opOf_eq hO
 obtain ⟨f1, f2, f3, c0, c20, c24, c25, d25, ⟨v1, c45, a1, n1, k1, rfl, p11, p12, p13, p14, p15, p16⟩, ⟨v2, c46, a2, n2, k2, rfl, p21, p22, p23, p24, p25, p26⟩, c47, c48, c49, c50, c54, c58, c59, d59, c79, c80, ⟨v3, c81, a3, n3, k3, rfl, p31, p32, p33, p34, p35, p36⟩, ⟨v4, c82, a4, n4, k4, rfl, p41, p42, p43, p44, p45, p46⟩, ls, lf, lp, bs, bf, bp, wn, wf, wt, u1, u2, u3, u4, u5⟩ := hO
 have L1 : ∀ m, allOld w ∈ m → LiesH (HM m) a1 (cc (.ints .u8 x.fd)) := fun m hin => p14.mono (H0.hm hin)
 have T1 : x.fd.take n1 = x.fd := List.take_of_length_le (by omega)
 have L2 : ∀ m, allOld w ∈ m → LiesH (HM m) a2 (cc (.ints .u8 x.cd)) := fun m hin => p24.mono (H0.hm hin)
 have T2 : x.cd.take n2 = x.cd := List.take_of_length_le (by omega)
 have L3 : ∀ m, allOld w ∈ m → LiesH (HM m) a3 (cc (.ints .u8 x.pd)) := fun m hin => p34.mono (H0.hm hin)
 have T3 : x.pd.take n3 = x.pd := List.take_of_length_le (by omega)
 have L4 : ∀ m, allOld w ∈ m → LiesH (HM m) a4 (cc (.ints .u8 x.sg)) := fun m hin => p44.mono (H0.hm hin)
 have T4 : x.sg.take n4 = x.sg := List.take_of_length_le (by omega)
 have N1 := numI_lm wn
 have N2 := numI_lm wf
 have N3 := numI_lm wt
 have FA := And.intro f2 <| And.intro f3 <| And.intro c0 <| And.intro c20 <| And.intro c24 <| And.intro c25 <| And.intro d25 <| And.intro c45 <| And.intro c46 <| And.intro c47 <| And.intro c48 <| And.intro c49 <| And.intro c50 <| And.intro c54 <| And.intro c58 <| And.intro c59 <| And.intro d59 <| And.intro c79 <| And.intro c80 <| And.intro c81 <| And.intro c82 <| And.intro N1 <| And.intro N2 <| And.intro N3 <| And.intro T1 <| And.intro T2 <| And.intro T3 T4
 unfold u64I at u1 u2 u3 u4 u5
 obtain ⟨f1b, f2b, f3b, c0b, c20b, c24b, c25b, d25b, ⟨v1b, c45b, a1b, n1b, k1b, rfl, p11b, p12b, p13b, p14b, p15b, p16b⟩, ⟨v2b, c46b, a2b, n2b, k2b, rfl, p21b, p22b, p23b, p24b, p25b, p26b⟩, c47b, c48b, c49b, c50b, c54b, c58b, c59b, d59b, c79b, c80b, ⟨v3b, c81b, a3b, n3b, k3b, rfl, p31b, p32b, p33b, p34b, p35b, p36b⟩, ⟨v4b, c82b, a4b, n4b, k4b, rfl, p41b, p42b, p43b, p44b, p45b, p46b⟩, lsb, lfb, lpb, bsb, bfb, bpb, wnb, wfb, wtb, u1b, u2b, u3b, u4b, u5b⟩ := hO2
 have L1b : ∀ m, allOld w ∈ m → LiesH (HM m) a1b (cc (.ints .u8 xb.fd)) := fun m hin => p14b.mono (H0.hm hin)
 have T1b : xb.fd.take n1b = xb.fd := List.take_of_length_le (by omega)
 have L2b : ∀ m, allOld w ∈ m → LiesH (HM m) a2b (cc (.ints .u8 xb.cd)) := fun m hin => p24b.mono (H0.hm hin)
 have T2b : xb.cd.take n2b = xb.cd := List.take_of_length_le (by omega)
 have L3b : ∀ m, allOld w ∈ m → LiesH (HM m) a3b (cc (.ints .u8 xb.pd)) := fun m hin => p34b.mono (H0.hm hin)
 have T3b : xb.pd.take n3b = xb.pd := List.take_of_length_le (by omega)
 have L4b : ∀ m, allOld w ∈ m → LiesH (HM m) a4b (cc (.ints .u8 xb.sg)) := fun m hin => p44b.mono (H0.hm hin)
 have T4b : xb.sg.take n4b = xb.sg := List.take_of_length_le (by omega)
 have N1b := numI_lm wnb
 have N2b := numI_lm wfb
 have N3b := numI_lm wtb
 have FAb := And.intro f2b <| And.intro f3b <| And.intro c0b <| And.intro c20b <| And.intro c24b <| And.intro c25b <| And.intro d25b <| And.intro c45b <| And.intro c46b <| And.intro c47b <| And.intro c48b <| And.intro c49b <| And.intro c50b <| And.intro c54b <| And.intro c58b <| And.intro c59b <| And.intro d59b <| And.intro c79b <| And.intro c80b <| And.intro c81b <| And.intro c82b <| And.intro N1b <| And.intro N2b <| And.intro N3b <| And.intro T1b <| And.intro T2b <| And.intro T3b <| T4b
 unfold u64I at u1b u2b u3b u4b u5b
 refine Vc.calls T0_ok Tryd.func28 rfl rfl (args := [.agg l, .agg lb]) (k := 124) rfl (old_start w) ?_; change Vc _ _ (c8 (.agg l) (.agg lb) .undef .undef .undef .undef .undef .undef (c8 .undef .undef .undef .undef .undef .undef .undef .undef (c8 .undef .undef .undef .undef .undef .undef .undef .undef (c8 .undef .undef .undef .undef .undef .undef .undef .undef (c8 .undef .undef .undef .undef .undef .undef .undef .undef (c8 .undef .undef .undef .undef .undef .undef .undef .undef (c8 .undef .undef .undef .undef .undef .undef .undef .undef (c8 .undef .undef .undef .undef .undef .undef .undef .undef (c8 .undef .undef .undef .undef .undef .undef .undef .undef (c8 .undef .undef .undef .undef .undef .undef .undef .undef (c8 .undef .undef .undef .undef .undef .undef .undef .undef (c8 .undef .undef .undef .undef .undef .undef .undef .undef (c8 .undef .undef .undef .undef .undef .undef .undef .undef (c8 .undef .undef .undef .undef .undef .undef .undef .undef (c8 .undef .undef .undef .undef .undef .undef .undef .undef ([.undef, .undef, .undef, .undef, .undef, .undef])))))))))))))))) _ _
 ((with_reducible refine Vc.seq fun N hN => ?_); (refine Vc.regiont T0_ok GNA_ok ?_); simp only [v8Y, Nat.beq, Nat.ble, seval, tabs, GNA_set, FA, toU8_bL, wL.eq_def, datF.eq_def, List.drop_zero, FAb]; (try simp (disch := omega) only [v8W]); (repeat (first | with_reducible intro _ | ((with_reducible refine And.intro ?_ ?_); exact sX9))); (first | (refine hN _ _ ?_; clear hN N; (try simp (disch := omega) only [v8W])) | skip))
 ((repeat with_reducible refine Vc.seq fun N hN => ?_); (first | refine Vc.regiont T0_ok GNA_ok ?_); simp only [v8Y, Nat.beq, Nat.ble, seval, tabs, GNA_set, FA, toU8_bL, wL.eq_def, datF.eq_def, List.drop_zero, FAb]; (try simp (disch := omega) only [v8W]); (repeat' (first | with_reducible intro _ | ((with_reducible refine And.intro ?_ ?_); exact sX9) | ((with_reducible refine askT_both (fun hb => ?_) (fun hb => ?_)) <;> ((try simp only [Bool.not_not, Bool.not_eq_true', Bool.not_eq_false'] at hb); simp only [hb, v8Y, Nat.beq, Nat.ble, seval, v8S, IntKind.bits, tabs, GNA_set, FA, toU8_bL, wL.eq_def, datF.eq_def, List.drop_zero, FAb]; (try simp (disch := omega) only [v8W]))))); (all_goals ((refine hN _ _ ?_); (clear hN N); (try simp (disch := omega) only [v8W]))))
 all_goals ((repeat with_reducible refine Vc.seq fun N hN => ?_); (first | refine Vc.regiont T0_ok GNA_ok ?_); simp only [v8Y, Nat.beq, Nat.ble, seval, tabs, GNA_set, FA, toU8_bL, wL.eq_def, datF.eq_def, List.drop_zero, FAb]; (try simp (disch := omega) only [v8W]); (repeat' (first | with_reducible intro _ | ((with_reducible refine And.intro ?_ ?_); exact sX9) | ((with_reducible refine askT_both (fun hb => ?_) (fun hb => ?_)) <;> ((try simp only [Bool.not_not, Bool.not_eq_true', Bool.not_eq_false'] at hb); simp only [hb, v8Y, Nat.beq, Nat.ble, seval, v8S, IntKind.bits, tabs, GNA_set, FA, toU8_bL, wL.eq_def, datF.eq_def, List.drop_zero, FAb]; (try simp (disch := omega) only [v8W]))))); (all_goals ((refine hN _ _ ?_); (clear hN N); (try simp (disch := omega) only [v8W]))))
 all_goals ((repeat with_reducible refine Vc.seq fun N hN => ?_); (first | refine Vc.regiont T0_ok GNA_ok ?_); simp only [v8Y, Nat.beq, Nat.ble, seval, tabs, GNA_set, FA, toU8_bL, wL.eq_def, datF.eq_def, List.drop_zero, FAb]; (try simp (disch := omega) only [v8W]); (repeat' (first | with_reducible intro _ | ((with_reducible refine And.intro ?_ ?_); exact sX9) | ((with_reducible refine askT_both (fun hb => ?_) (fun hb => ?_)) <;> ((try simp only [Bool.not_not, Bool.not_eq_true', Bool.not_eq_false'] at hb); simp only [hb, v8Y, Nat.beq, Nat.ble, seval, v8S, IntKind.bits, tabs, GNA_set, FA, toU8_bL, wL.eq_def, datF.eq_def, List.drop_zero, FAb]; (try simp (disch := omega) only [v8W]))))); (all_goals ((refine hN _ _ ?_); (clear hN N); (try simp (disch := omega) only [v8W]))))
 all_goals ((repeat (first | ((first | ((with_reducible refine Vc.fin ?_); dsimp only [thenK, blockK, retK, resS, resOne, resAll])); (try simp only [v8Y, Nat.beq, Nat.ble, seval, tabs, GNA_set])))); (try ((with_reducible refine Fin.of ?_); (try with_reducible exact True.intro))))
 all_goals refine ⟨by simp, ?_⟩
 all_goals (congr 1; unfold smO sm1 sm2 sm3; simp_all)
end Go.Proofs.YthdpgfdfgidokaaDoor
namespace Go.Proofs.YthdpgfdfgidokaaDoor
open Go.RowKit
def fixR : List SV → List SV
 | [d, x0, x1, x2, x3, .nilsl] => [d, x0, x1, x2, x3, .gh none 0 0 (.ints .u8 [])]
 | r => r
theorem cvs_fixR (r : List SV) : cvs (fixR r) = cvs r := by
 unfold fixR; split <;> rfl
theorem cc_fixR (rs : List (List SV)) : cc (.rows 6 (rs.map fixR)) = cc (.rows 6 rs) := by
 simp only [cc]
 induction rs with
 | nil => rfl
 | cons r rs ih => simp only [List.map_cons, List.flatMap_cons, ih, cvs_fixR]
noncomputable def GOO : Ctr := fun f args m => match f with
 | 29 => g_same args m
 | _ => .none
theorem GOO_ok : GOk Tryd.prog GOO := by
 intro w0 B f args m; unfold GOO; split
 ·exact g_same_ok _ _ _ _
 ·exact trivial
theorem GOO_same : GOO 29 = g_same := by funext args m; rfl
def GOO_set := And.intro (@GOO_same) (@g_same.eq_def)

set_option maxRecDepth 20000 in
theorem sameP_vc (a1 a2 : Option Addr) (n c1 c2 : Nat) (rs1 rs2 : List (List SV)) (l : List Prt) (hl : l.length = n) (k1 : n ≤ c1) (k2 : n ≤ c2) (ha1 : adr a1 n c1) (ha2 : adr a2 n c2) (hm : n ≤ 1000000) (w : World) (h1 : LiesH (H0 w) a1 (cc (.rows 6 rs1))) (h2 : LiesH (H0 w) a2 (cc (.rows 6 rs2))) (hR1 : PsR (H0 w) rs1 l) (hR2 : PsR (H0 w) rs2 l) :
  Calls Tryd.prog 23 (cvs [.gh a1 n c1 (.rows 6 rs1), .gh a2 n c2 (.rows 6 rs2)]).toArray w (fun en w' => ∃ u, en = .returned u ∧ ∃ v' m', u = cv v' ∧ MemOk w [] m' w' ∧ v' = .bool true) := by
 obtain ⟨r1, r2, r3⟩ := hR1
 obtain ⟨s1, s2, s3⟩ := hR2
 have hL1 : ∀ m, allOld w ∈ m → LiesH (HM m) a1 (cc (.rows 6 rs1)) := fun m hin => h1.mono (H0.hm hin)
 have hL2 : ∀ m, allOld w ∈ m → LiesH (HM m) a2 (cc (.rows 6 rs2)) := fun m hin => h2.mono (H0.hm hin)
 have d0 : decide ((n : Int) = (n : Int)) = true := decide_eq_true rfl
 refine Vc.calls T0_ok Tryd.func23 rfl rfl (args := [.gh a1 n c1 (.rows 6 rs1), .gh a2 n c2 (.rows 6 rs2)]) (k := 53) rfl (old_start w) ?_; change Vc _ _ (c8 (.gh a1 n c1 (.rows 6 rs1)) (.gh a2 n c2 (.rows 6 rs2)) .undef .undef .undef .undef .undef .undef (c8 .undef .undef .undef .undef .undef .undef .undef .undef (c8 .undef .undef .undef .undef .undef .undef .undef .undef (c8 .undef .undef .undef .undef .undef .undef .undef .undef (c8 .undef .undef .undef .undef .undef .undef .undef .undef (c8 .undef .undef .undef .undef .undef .undef .undef .undef ([.undef, .undef, .undef, .undef, .undef, .undef, .undef]))))))) _ _
 ((repeat (first | (with_reducible first | refine Vc.seq fun N hN => ?_ | refine Vc.block ?_) | ((first | with_reducible refine Vc.skip ?_); dsimp only [thenK, blockK, Nat.beq]; (first | (refine hN _ _ ?_; clear hN N))) | ((with_reducible refine And.intro ?_ ?_); exact sdB) | ((first | ((with_reducible refine Vc.hold ?_); first | refine Vc.regiont T0_ok GOO_ok ?_)); (try simp only [v8Y, Nat.beq, Nat.ble, seval, tabs, GOO_set, d0])) | ((with_reducible refine hN _ _ ?_); clear hN N))))
 (refine Vc.cond T0_ok (t := false) (by rfl) (fun h => Bool.noConfusion h) (fun _ => ?_))
 ((repeat (first | (with_reducible first | refine Vc.seq fun N hN => ?_ | refine Vc.block ?_) | ((first | with_reducible refine Vc.skip ?_); dsimp only [thenK, blockK, Nat.beq]; (first | (refine hN _ _ ?_; clear hN N))) | ((with_reducible refine And.intro ?_ ?_); exact sdB) | ((first | ((with_reducible refine Vc.hold ?_); first | refine Vc.regiont T0_ok GOO_ok ?_)); (try simp only [v8Y, Nat.beq, Nat.ble, seval, tabs, GOO_set, d0])) | ((with_reducible refine hN _ _ ?_); clear hN N))))
 (revert N; intro N1 hN1)
 refine Vc.loop 5 55 (fun (k : Nat) => [(5, .int .i64 (k : Nat))]) (fun k => [allOld w]) (fun k => k ≤ n) (fun k => n - k) 0 ⟨Nat.zero_le _, ?_, ?_⟩ (fun k junk hk1 => ?_)
 ·((try simp only [v8Y, Nat.beq, Nat.ble, seval, tabs]); (repeat' with_reducible apply And.intro) <;> first | with_reducible exact True.intro | rfl | with_reducible rfl | (congr 1 <;> omega) | trivial)
 ·((try simp only [v8Y, Nat.beq, Nat.ble, seval, tabs]); (repeat' with_reducible apply And.intro) <;> first | with_reducible exact True.intro | rfl | with_reducible rfl | (congr 1 <;> omega) | trivial)
 ·(simp only [v8Y, Nat.beq, Nat.ble, seval, tabs])
  by_cases hc1 : k < n
  ·have e0 : decide ((k : Int) < (n : Int)) = true := decide_eq_true (by omega)
   have tk : ((k : Nat) : Int).toNat = k := by omega
   have e1 := List.getElem?_eq_getElem (show k < rs1.length by omega)
   have e2 := List.getElem?_eq_getElem (show k < rs2.length by omega)
   have e3 := List.getElem?_eq_getElem (show k < l.length by omega)
   have hp := r3 k _ _ e1 e3
   have hq := s3 k _ _ e2 e3
   have hgd := getD_of e1
   have hgd2 := getD_of e2
   generalize rs1[k] = r at *
   generalize rs2[k] = s at *
   generalize l[k] = p at *
   obtain ⟨x0, x1, x2, x3, pa, pn, pc, rfl, g1, g2, g3, g4, g5, g6, g7, g8⟩ := hp
   obtain ⟨y0, y1, y2, y3, qa, qn, qc, rfl, f1, f2, f3, f4, f5, f6, f7, f8⟩ := hq
   have hB1 : ∀ m, allOld w ∈ m → LiesH (HM m) pa (cc (.ints .u8 p.bs)) := fun m hin => g6.mono (H0.hm hin)
   have hB2 : ∀ m, allOld w ∈ m → LiesH (HM m) qa (cc (.ints .u8 p.bs)) := fun m hin => f6.mono (H0.hm hin)
   have hw : eqW p.w p.w = true := eqW_of rfl
   have hd : (p.d == p.d) = true := by cases p.d <;> rfl
   have t1 : p.bs.take pn = p.bs := List.take_of_length_le (by omega)
   have t2 : p.bs.take qn = p.bs := List.take_of_length_le (by omega)
   have d3 : decide (p.bs = p.bs) = true := decide_eq_true rfl
   ((repeat (first | (with_reducible refine Vc.seq fun N hN => ?_) | ((with_reducible refine And.intro ?_ ?_); exact sdB) | ((first | ((with_reducible refine Vc.hold ?_); first | refine Vc.regiont T0_ok GOO_ok ?_)); (try simp only [v8Y, Nat.beq, Nat.ble, seval, tabs, GOO_set, e0])) | ((with_reducible refine hN _ _ ?_); clear hN N))))
   (refine Vc.cond T0_ok (t := true) (by rfl) (fun _ => ?_) (fun h => Bool.noConfusion h))
   ((repeat (first | (with_reducible first | refine Vc.seq fun N hN => ?_ | refine Vc.block ?_) | ((first | with_reducible refine Vc.skip ?_); dsimp only [thenK, blockK, Nat.beq]; (first | (refine hN _ _ ?_; clear hN N))) | ((with_reducible refine And.intro ?_ ?_); (focus (first | ((repeat' with_reducible apply And.intro) <;> first | exact sideQ | (exact hL1 _ (by simp)) | (exact hL2 _ (by simp)) | (exact hB1 _ (by simp)) | (exact hB2 _ (by simp))) | exact sd0))) | ((first | ((with_reducible refine Vc.hold ?_); first | refine Vc.drawt (id := 6) T0_ok GOO_ok (by kernel_rfl) [0, 1, 2, 3, 4, 5, 6, 7, 8, 9, 10, 11, 12, 13, 14, 15, 16, 17, 18, 19, 20, 21, 22, 23, 24, 25, 26, 27, 28, 29, 30, 31, 32, 33, 34] 35 [] trivial (by kernel_rfl) ?_)); (try simp only [v8Y, Nat.beq, Nat.ble, seval, tabs, GOO_set, e0, tk, hgd, hgd2, g2, f2, hw, hd, t1, t2, d3, List.drop_zero])) | ((with_reducible refine hN _ _ ?_); clear hN N))))
   (refine Vc.cond T0_ok (t := false) (by rfl) (fun h => Bool.noConfusion h) (fun _ => ?_))
   ((repeat (first | ((first | with_reducible refine Vc.skip ?_); dsimp only [thenK, blockK, Nat.beq]; (first | (refine hN _ _ ?_; clear hN N))) | ((with_reducible refine And.intro ?_ ?_); exact sdB) | ((first | ((with_reducible refine Vc.hold ?_); first | refine Vc.regiont T0_ok GOO_ok ?_)); (try simp only [v8Y, Nat.beq, Nat.ble, seval, tabs, GOO_set, ])))))
   refine ⟨k + 1, by omega, ?_, ?_, by omega⟩
   ·((try simp only [v8Y, Nat.beq, Nat.ble, seval, tabs]); (repeat' with_reducible apply And.intro) <;> first | with_reducible exact True.intro | rfl | (congr 1 <;> omega))
   ·((try simp only [v8Y, Nat.beq, Nat.ble, seval, tabs]); (repeat' with_reducible apply And.intro) <;> first | with_reducible exact True.intro | rfl | (congr 1 <;> omega))
  ·have e0 : decide ((k : Int) < (n : Int)) = false := decide_eq_false (by omega)
   ((repeat (first | (with_reducible refine Vc.seq fun N hN => ?_) | ((with_reducible refine And.intro ?_ ?_); exact sdB) | ((first | ((with_reducible refine Vc.hold ?_); first | refine Vc.regiont T0_ok GOO_ok ?_)); (try simp only [v8Y, Nat.beq, Nat.ble, seval, tabs, GOO_set, e0])) | ((with_reducible refine hN _ _ ?_); clear hN N))))
   (refine Vc.cond T0_ok (t := false) (by rfl) (fun h => Bool.noConfusion h) (fun _ => ?_))
   ((repeat (first | (with_reducible refine Vc.seq fun N hN => ?_) | ((first | with_reducible refine Vc.exit ?_); dsimp only [thenK, blockK, Nat.beq]; (first | skip)) | ((with_reducible refine And.intro ?_ ?_); exact sdB) | ((first | ((with_reducible refine Vc.fin ?_); dsimp only [thenK, blockK, retK, resS, resOne, resAll]) | ((with_reducible refine Vc.hold ?_); first | refine Vc.regiont T0_ok GOO_ok ?_)); (try simp only [v8Y, Nat.beq, Nat.ble, seval, tabs, GOO_set])) | ((with_reducible refine hN _ _ ?_); clear hN N))); (try ((with_reducible refine Fin.of ?_); (try with_reducible exact True.intro))))
   (refine hN1 _ _ ?_; (try clear hN N); clear hN1 N1)
   ((repeat (first | (with_reducible refine Vc.seq fun N hN => ?_) | ((first | with_reducible refine Vc.exit ?_); dsimp only [thenK, blockK, Nat.beq]; (first | skip)) | ((with_reducible refine And.intro ?_ ?_); exact sdB) | ((first | ((with_reducible refine Vc.fin ?_); dsimp only [thenK, blockK, retK, resS, resOne, resAll]) | ((with_reducible refine Vc.hold ?_); first | refine Vc.regiont T0_ok GOO_ok ?_)); (try simp only [v8Y, Nat.beq, Nat.ble, seval, tabs, GOO_set])) | ((with_reducible refine hN _ _ ?_); clear hN N))); (try ((with_reducible refine Fin.of ?_); (try with_reducible exact True.intro))))
   exact ⟨by simp, trivial⟩
def g_SameP (args : List SV) (m : List Blk) : CR :=
 match args with
 | [s1, s2] => match srcC s1 m, srcC s2 m with
  | some (q1, k1, .rows 6 rs1), some (q2, k2, .rows 6 rs2) => .pure ((q1 ∧ q2) ∧ (∃ l, PsR (HM m) (rs1.map fixR) l ∧ PsR (HM m) (rs2.map fixR) l) ∧ k1 ≤ 1000000) (.bool true)
  | _, _ => .none
 | _ => .none
theorem rows_len {l : List (List SV)} (h : ∀ r ∈ l, r.length = 6) : (cc (.rows 6 l)).length = l.length * 6 := by
 simp only [cc]
 induction l with
 | nil => rfl
 | cons r l ih =>
  rw [List.flatMap_cons, List.length_append, ih (fun r hr => h r (List.mem_cons_of_mem _ hr)), cvs_len, h r List.mem_cons_self, List.length_cons]; omega
theorem g_SameP_ok (w0 : World) (B : List Nat) (args : List SV) (m : List Blk) : CROk Tryd.prog w0 B 23 args m (g_SameP args m) := by
 unfold g_SameP
 split
 ·rename_i s1 s2
  split
  ·rename_i q1 k1 rs1 q2 k2 rs2 hs1 hs2
   intro ⟨⟨g1, g2⟩, ⟨l, hR1, hR2⟩, g3⟩ w hm
   obtain ⟨h1, a, cp, h2, h4, h6, h7⟩ := src_ro hs1 g1 hm
   obtain ⟨j1, b, cq, j2, j4, j6, j7⟩ := src_ro hs2 g2 hm
   have e : cvs [s1, s2] = cvs [.gh a k1 cp (.rows 6 (rs1.map fixR)), .gh b k2 cq (.rows 6 (rs2.map fixR))] := by simp only [cvs]; rw [h2, j2, cv_sl0, cv_sl0]; rfl
   have l1 : l.length = k1 := by
    rw [← cc_fixR, rows_len hR1.2.1, hR1.1] at h1; simp only [conEs] at h1; omega
   have l2 : l.length = k2 := by
    rw [← cc_fixR, rows_len hR2.2.1, hR2.1] at j1; simp only [conEs] at j1; omega
   obtain rfl : k1 = k2 := by omega
   have H1 := lies_of_ro h6
   have H2 := lies_of_ro j6
   rw [← cc_fixR] at H1 H2
   rw [e]
   exact calls_pure Tryd.func23 rfl rfl (sameP_vc a b k1 cp cq _ _ l l1 h4 j4 h7 j7 g3 w H1 H2 (hR1.mono fun b o h => hm.hm h) (hR2.mono fun b o h => hm.hm h))
  ·exact trivial
 ·exact trivial
end Go.Proofs.YthdpgfdfgidokaaDoor
