/-
 The law UseropPrices of package quaestorlaw15, walked. No condition.
-/
import Derived.Test.YtjonbbmnjbnefaaDoorOU
set_option maxRecDepth 10000
set_option maxHeartbeats 4000000
set_option linter.defProp false
set_option linter.unusedVariables false
set_option linter.unusedSimpArgs false
namespace Go.Proofs.YtjonbbmnjbnefaaDoor
open Go.RowKit
theorem cmpI_le (a b : Nat) : (cmpI a b ≤ 0) = (a ≤ b) := by
 unfold cmpI
 by_cases h : a = b
 ·rw [if_pos h]; exact propext ⟨fun _ => by omega, fun _ => by omega⟩
 ·rw [if_neg h]
  by_cases h2 : a < b
  ·rw [if_pos h2]; exact propext ⟨fun _ => by omega, fun _ => by omega⟩
  ·rw [if_neg h2]; exact propext ⟨fun h => by omega, fun h => by omega⟩
theorem cmpI_ge (a b : Nat) : (0 ≤ cmpI a b) = (b ≤ a) := by
 unfold cmpI
 by_cases h : a = b
 ·rw [if_pos h]; exact propext ⟨fun _ => by omega, fun _ => by omega⟩
 ·rw [if_neg h]
  by_cases h2 : a < b
  ·rw [if_pos h2]; exact propext ⟨fun h => by omega, fun h => by omega⟩
  ·rw [if_neg h2]; exact propext ⟨fun _ => by omega, fun _ => by omega⟩
theorem cmpI_lt' (a b : Nat) : (cmpI a b < 0) = (a < b) := by
 have h := cmpI_ge a b
 refine propext ⟨fun h1 => ?_, fun h1 => ?_⟩
 ·by_cases h2 : a < b
  ·exact h2
  ·have h3 : 0 ≤ cmpI a b := by rw [h]; omega
   omega
 ·by_cases h2 : cmpI a b < 0
  ·exact h2
  ·have h3 : 0 ≤ cmpI a b := by omega
   rw [h] at h3; omega
theorem shdO_0 {a : Nat} (n : Nat) (ha : a < W) : shdM n a 0 = a / 2 ^ (min n 256) := by
 unfold shdM shdN extN
 rw [sp_eq, if_pos rfl, Nat.mul_zero, Nat.add_zero]
 exact Nat.mod_eq_of_lt (Nat.lt_of_le_of_lt (Nat.div_le_self _ _) ha)
theorem may_mf {x : OpD} (h : mayO x = true) (hw : x.mf < W) : x.mf < 2 ^ 120 := by
 simp only [mayO, chkO, wrO, Bool.and_eq_true, Bool.not_eq_true', Bool.or_eq_false_iff, Bool.not_eq_false'] at h
 have h1 := h.2.2.2.1.1
 rw [shdO_0 120 hw] at h1
 have hd : x.mf / 2 ^ min 120 256 < W := Nat.lt_of_le_of_lt (Nat.div_le_self _ _) hw
 rw [eqW_dec hd (by decide +kernel)] at h1
 have h2 := of_decide_eq_true h1
 have h3 : min 120 256 = 120 := rfl
 rw [h3] at h2
 have := Nat.div_eq_zero_iff.1 h2
 rcases this with h4 | h4
 ·exact absurd h4 (by decide)
 ·exact h4
theorem prN_le (x : OpD) (base : Nat) : prN x base ≤ x.mf := by
 unfold prN
 split
 ·exact Nat.le_refl _
 ·rename_i h
  simp only [Bool.or_eq_true, decide_eq_true_eq, not_or] at h
  have h1 := h.2
  rw [Int.not_lt, cmpI_le] at h1
  exact h1
theorem prN_ge (x : OpD) (base : Nat) (least : Nat) (h1 : least ≤ x.mf) (h2 : least ≤ base) (hs : x.mt + base < W ∨ W ≤ x.mt + base) : least ≤ prN x base := by
 unfold prN
 split
 ·exact h1
 ·rename_i h
  simp only [Bool.or_eq_true, decide_eq_true_eq, not_or, addB] at h
  have h3 : addN x.mt base = x.mt + base := Nat.mod_eq_of_lt (by omega)
  rw [h3]; omega
noncomputable def GOZ : Ctr := fun f args m => match f with
 | 15 => g_may args m
 | 12 => g_ulK args m
 | 16 => g_gasAll args m
 | 18 => g_prefund args m
 | 20 => g_price args m
 | 41 => g_rCmp args m
 | 42 => g_rMul args m
 | 43 => g_rFrom args m
 | _ => .none
theorem GOZ_ok : GOk Tryd.prog GOZ := by
 intro w0 B f args m; unfold GOZ; split
 ·exact g_may_ok _ _ _ _
 ·exact g_ulK_ok _ _ _ _
 ·exact g_gasAll_ok _ _ _ _
 ·exact g_prefund_ok _ _ _ _
 ·exact g_price_ok _ _ _ _
 ·exact g_rCmp_ok _ _ _ _
 ·exact g_rMul_ok _ _ _ _
 ·exact g_rFrom_ok _ _ _ _
 ·exact trivial
theorem GOZ_may : GOZ 15 = g_may := by funext args m; rfl
theorem GOZ_ulK : GOZ 12 = g_ulK := by funext args m; rfl
theorem GOZ_gasAll : GOZ 16 = g_gasAll := by funext args m; rfl
theorem GOZ_prefund : GOZ 18 = g_prefund := by funext args m; rfl
theorem GOZ_price : GOZ 20 = g_price := by funext args m; rfl
theorem GOZ_rCmp : GOZ 41 = g_rCmp := by funext args m; rfl
theorem GOZ_rMul : GOZ 42 = g_rMul := by funext args m; rfl
theorem GOZ_rFrom : GOZ 43 = g_rFrom := by funext args m; rfl
def GOZ_set := And.intro (And.intro (And.intro (And.intro (@GOZ_may) (@g_may.eq_def)) (And.intro (@GOZ_ulK) (@g_ulK.eq_def))) (And.intro (And.intro (@GOZ_gasAll) (@g_gasAll.eq_def)) (And.intro (@GOZ_prefund) (@g_prefund.eq_def)))) (And.intro (And.intro (And.intro (@GOZ_price) (@g_price.eq_def)) (And.intro (@GOZ_rCmp) (@g_rCmp.eq_def))) (And.intro (And.intro (@GOZ_rMul) (@g_rMul.eq_def)) (And.intro (@GOZ_rFrom) (@g_rFrom.eq_def))))

set_option maxRecDepth 20000 in
theorem prices_law (l : List SV) (x : OpD) (base : Nat) (hb0 : base < W) (w : World) (hm : MemOk w [] [.ro (some ⟨1, 0, none⟩) (.ints .u64 kKeys), .ro (some ⟨2, 0, none⟩) (.ints .u8 kPathI), allOld w] w) (hO : OpR (H0 w) l x) : Calls Tryd.prog 10 (cvs [.agg l, .word base]).toArray w (Yes w) := by
 have hOx : ∀ m, allOld w ∈ m → OpR (HM m) l x := fun m hin => hO.mono (H0.hm hin)
 have hop := opOf_eq hO
 obtain ⟨f1, f2, f3, c0, c20, c24, c25, d25, ⟨v1, c45, a1, n1, k1, rfl, p11, p12, p13, p14, p15, p16⟩, ⟨v2, c46, a2, n2, k2, rfl, p21, p22, p23, p24, p25, p26⟩, c47, c48, c49, c50, c54, c58, c59, d59, c79, c80, ⟨v3, c81, a3, n3, k3, rfl, p31, p32, p33, p34, p35, p36⟩, ⟨v4, c82, a4, n4, k4, rfl, p41, p42, p43, p44, p45, p46⟩, ls, lf, lp, bs, bf, bp, wn, wf, wt, u1, u2, u3, u4, u5⟩ := hO
 have L1 : ∀ m, allOld w ∈ m → LiesH (HM m) a1 (cc (.ints .u8 x.fd)) := fun m hin => p14.mono (H0.hm hin)
 have T1 : x.fd.take n1 = x.fd := List.take_of_length_le (by omega)
 have L2 : ∀ m, allOld w ∈ m → LiesH (HM m) a2 (cc (.ints .u8 x.cd)) := fun m hin => p24.mono (H0.hm hin)
 have T2 : x.cd.take n2 = x.cd := List.take_of_length_le (by omega)
 have L3 : ∀ m, allOld w ∈ m → LiesH (HM m) a3 (cc (.ints .u8 x.pd)) := fun m hin => p34.mono (H0.hm hin)
 have T3 : x.pd.take n3 = x.pd := List.take_of_length_le (by omega)
 have L4 : ∀ m, allOld w ∈ m → LiesH (HM m) a4 (cc (.ints .u8 x.sg)) := fun m hin => p44.mono (H0.hm hin)
 have T4 : x.sg.take n4 = x.sg := List.take_of_length_le (by omega)
 have N1 := numI_lm wn
 have N2 := numI_lm wf
 have N3 := numI_lm wt
 unfold u64I at u1 u2 u3 u4 u5
 cases hc : mayO x with
 | false =>
  refine Vc.calls T0_ok Tryd.func10 rfl rfl (args := [.agg l, .word base]) (k := 58) rfl hm ?_; change Vc _ _ (c8 (.agg l) (.word base) .undef .undef .undef .undef .undef .undef (c8 .undef .undef .undef .undef .undef .undef .undef .undef (c8 .undef .undef .undef .undef .undef .undef .undef .undef (c8 .undef .undef .undef .undef .undef .undef .undef .undef (c8 .undef .undef .undef .undef .undef .undef .undef .undef (c8 .undef .undef .undef .undef .undef .undef .undef .undef (c8 .undef .undef .undef .undef .undef .undef .undef .undef ([.undef, .undef, .undef, .undef])))))))) _ _
  ((repeat (first | (with_reducible first | refine Vc.seq fun N hN => ?_ | refine Vc.block ?_) | ((with_reducible first | refine Vc.skip ?_ | refine Vc.exit ?_); dsimp only [thenK, blockK, Nat.beq]; (first | (refine hN _ _ ?_; clear hN N) | skip)) | (with_reducible intro _) | ((with_reducible refine And.intro ?_ ?_); (focus (first | ((repeat' with_reducible apply And.intro) <;> first | exact sideQ | (exact ⟨x, hOx _ (by simp)⟩) | (exact ⟨x, hOx _ (by simp), hg⟩)) | exact sd0))) | ((first | ((with_reducible refine askT_of ?_ (fun hb => ?_)); (focus (first | ((repeat' with_reducible apply And.intro) <;> first | exact sideQ | (exact ⟨x, hOx _ (by simp)⟩) | (exact ⟨x, hOx _ (by simp), hg⟩)) | exact sd0)); (try simp only [hb])) | ((with_reducible refine Vc.fin ?_); dsimp only [thenK, blockK, retK, resS, resOne, resAll]) | ((with_reducible refine Vc.hold ?_); first | refine Vc.regiont T0_ok GOZ_ok ?_ | refine Vc.drawt (id := 8) T0_ok GOZ_ok (by kernel_rfl) [0, 1, 2, 3, 4, 5, 6, 7] 9 [⟨8, 8, 26, _⟩] ⟨⟨⟨_, _, rfl⟩, zc_26⟩, trivial⟩ (by kernel_rfl) ?_ | refine Vc.drawt (id := 9) T0_ok GOZ_ok (by kernel_rfl) [0, 1, 2, 3, 4, 5, 6, 7, 8, 9, 10, 11, 12, 13, 14, 15, 16, 17, 18] 19 [] trivial (by kernel_rfl) ?_)); (try simp only [v8Y, Nat.beq, Nat.ble, Int.reduceToNat, Int.reduceLE, Int.reduceLT, Nat.reduceLT, Nat.reduceLeDiff, Nat.reduceAdd, Nat.reduceMul, Nat.reduceSub, Int.reduceAdd, Int.reduceSub, Int.reduceMul, v8S, IntKind.bits, tabs, GOZ_set, hop, f3, hc]); (try simp (disch := omega) only [v8W])) | ((with_reducible refine hN _ _ ?_); clear hN N; (try simp (disch := omega) only [v8W])))); (try ((with_reducible refine Fin.of ?_); (try with_reducible exact True.intro))))
  (refine Vc.cond T0_ok (t := true) (by rfl) (fun _ => ?_) (fun h => Bool.noConfusion h))
  ((repeat (first | (with_reducible first | refine Vc.seq fun N hN => ?_ | refine Vc.block ?_) | ((with_reducible first | refine Vc.skip ?_ | refine Vc.exit ?_); dsimp only [thenK, blockK, Nat.beq]; (first | (refine hN _ _ ?_; clear hN N) | skip)) | (with_reducible intro _) | ((with_reducible refine And.intro ?_ ?_); (focus (first | ((repeat' with_reducible apply And.intro) <;> first | exact sideQ | (exact ⟨x, hOx _ (by simp)⟩) | (exact ⟨x, hOx _ (by simp), hg⟩)) | exact sd0))) | ((first | ((with_reducible refine askT_of ?_ (fun hb => ?_)); (focus (first | ((repeat' with_reducible apply And.intro) <;> first | exact sideQ | (exact ⟨x, hOx _ (by simp)⟩) | (exact ⟨x, hOx _ (by simp), hg⟩)) | exact sd0)); (try simp only [hb])) | ((with_reducible refine Vc.fin ?_); dsimp only [thenK, blockK, retK, resS, resOne, resAll]) | ((with_reducible refine Vc.hold ?_); first | refine Vc.regiont T0_ok GOZ_ok ?_ | refine Vc.drawt (id := 8) T0_ok GOZ_ok (by kernel_rfl) [0, 1, 2, 3, 4, 5, 6, 7] 9 [⟨8, 8, 26, _⟩] ⟨⟨⟨_, _, rfl⟩, zc_26⟩, trivial⟩ (by kernel_rfl) ?_ | refine Vc.drawt (id := 9) T0_ok GOZ_ok (by kernel_rfl) [0, 1, 2, 3, 4, 5, 6, 7, 8, 9, 10, 11, 12, 13, 14, 15, 16, 17, 18] 19 [] trivial (by kernel_rfl) ?_)); (try simp only [v8Y, Nat.beq, Nat.ble, Int.reduceToNat, Int.reduceLE, Int.reduceLT, Nat.reduceLT, Nat.reduceLeDiff, Nat.reduceAdd, Nat.reduceMul, Nat.reduceSub, Int.reduceAdd, Int.reduceSub, Int.reduceMul, v8S, IntKind.bits, tabs, GOZ_set]); (try simp (disch := omega) only [v8W])) | ((with_reducible refine hN _ _ ?_); clear hN N; (try simp (disch := omega) only [v8W])))); (try ((with_reducible refine Fin.of ?_); (try with_reducible exact True.intro))))
  exact ⟨by simp, trivial⟩
 | true =>
  have hg := may_tg hc
  obtain ⟨b1, b2, b3, b4, b5⟩ := tgO_no hg
  have g1 : 0 ≤ gasN x ∧ gasN x ≤ 18446744073709551615 := by unfold gasN; omega
  have g3 : (gasN x).toNat ≤ 5242880 := by unfold gasN; omega
  have g2 : (gasN x).toNat < W := by unfold W; omega
  have hmf := may_mf hc wf
  have hple := prN_le x base
  have hpw : prN x base < W := Nat.lt_of_le_of_lt hple wf
  have hmul : ∀ p, p ≤ x.mf → p * (gasN x).toNat < W := fun p hp => by
   have k1 : p * (gasN x).toNat ≤ 2 ^ 120 * 5242880 := Nat.mul_le_mul (by omega) g3
   exact Nat.lt_of_le_of_lt k1 (by decide +kernel)
  have M1 := numI_lm hpw
  have M2 := numI_lm hb0
  have hml : mulN (prN x base) (gasN x).toNat < W := mulN_lt _ _
  have M4 := numI_lm hml
  have hpl : pfN x < W := mulN_lt _ _
  have d1 : decide (cmpI (prN x base) x.mf ≤ 0) = true := decide_eq_true (by rw [cmpI_le]; exact hple)
  have d3 : mulB (prN x base) (gasN x).toNat = false := decide_eq_false (by have := hmul _ hple; omega)
  have d4 : decide (cmpI (mulN (prN x base) (gasN x).toNat) (pfN x) ≤ 0) = true := decide_eq_true (by
   rw [cmpI_le]
   have e1 : mulN (prN x base) (gasN x).toNat = prN x base * (gasN x).toNat := Nat.mod_eq_of_lt (hmul _ hple)
   have e2 : pfN x = x.mf * (gasN x).toNat := by
    have : pfN x = mulN x.mf (gasN x).toNat := mulN_comm _ _
    rw [this]; exact Nat.mod_eq_of_lt (hmul _ (Nat.le_refl _))
   rw [e1, e2]
   exact Nat.mul_le_mul_right _ hple)
  by_cases hlt : x.mf < base
  ·have c1 : decide (cmpI x.mf base < 0) = true := decide_eq_true (by rw [cmpI_lt']; exact hlt)
   have d2 : decide (0 ≤ cmpI (prN x base) x.mf) = true := decide_eq_true (by rw [cmpI_ge]; exact prN_ge x base _ (Nat.le_refl _) (by omega) (by omega))
   refine Vc.calls T0_ok Tryd.func10 rfl rfl (args := [.agg l, .word base]) (k := 58) rfl hm ?_; change Vc _ _ (c8 (.agg l) (.word base) .undef .undef .undef .undef .undef .undef (c8 .undef .undef .undef .undef .undef .undef .undef .undef (c8 .undef .undef .undef .undef .undef .undef .undef .undef (c8 .undef .undef .undef .undef .undef .undef .undef .undef (c8 .undef .undef .undef .undef .undef .undef .undef .undef (c8 .undef .undef .undef .undef .undef .undef .undef .undef (c8 .undef .undef .undef .undef .undef .undef .undef .undef ([.undef, .undef, .undef, .undef])))))))) _ _
   ((repeat (first | (with_reducible first | refine Vc.seq fun N hN => ?_ | refine Vc.block ?_) | ((with_reducible first | refine Vc.skip ?_ | refine Vc.exit ?_); dsimp only [thenK, blockK, Nat.beq]; (first | (refine hN _ _ ?_; clear hN N) | skip)) | (with_reducible intro _) | ((with_reducible refine And.intro ?_ ?_); (focus (first | ((repeat' with_reducible apply And.intro) <;> first | exact sideQ | (exact ⟨x, hOx _ (by simp)⟩) | (exact ⟨x, hOx _ (by simp), hg⟩) | (exact allU_lm _) | (simp [allU]; done)) | exact sd0))) | ((first | ((with_reducible refine askT_of ?_ (fun hb => ?_)); (focus (first | ((repeat' with_reducible apply And.intro) <;> first | exact sideQ | (exact ⟨x, hOx _ (by simp)⟩) | (exact ⟨x, hOx _ (by simp), hg⟩) | (exact allU_lm _) | (simp [allU]; done)) | exact sd0)); (try simp only [hb])) | ((with_reducible refine Vc.fin ?_); dsimp only [thenK, blockK, retK, resS, resOne, resAll]) | ((with_reducible refine Vc.hold ?_); first | refine Vc.regiont T0_ok GOZ_ok ?_ | refine Vc.drawt (id := 8) T0_ok GOZ_ok (by kernel_rfl) [0, 1, 2, 3, 4, 5, 6, 7] 9 [⟨8, 8, 26, _⟩] ⟨⟨⟨_, _, rfl⟩, zc_26⟩, trivial⟩ (by kernel_rfl) ?_ | refine Vc.drawt (id := 9) T0_ok GOZ_ok (by kernel_rfl) [0, 1, 2, 3, 4, 5, 6, 7, 8, 9, 10, 11, 12, 13, 14, 15, 16, 17, 18] 19 [] trivial (by kernel_rfl) ?_)); (try simp only [v8Y, Nat.beq, Nat.ble, Int.reduceToNat, Int.reduceLE, Int.reduceLT, Nat.reduceLT, Nat.reduceLeDiff, Nat.reduceAdd, Nat.reduceMul, Nat.reduceSub, Int.reduceAdd, Int.reduceSub, Int.reduceMul, v8S, IntKind.bits, tabs, GOZ_set, hop, hc, f2, f3, c0, c20, c24, c25, d25, c45, c46, c47, c48, c49, c50, c54, c58, c59, d59, c79, c80, c81, c82, N1, N2, N3, T1, T2, T3, T4, toU8_bL, wL.eq_def, datF.eq_def, List.drop_zero]); (try simp (disch := omega) only [v8W])) | ((with_reducible refine hN _ _ ?_); clear hN N; (try simp (disch := omega) only [v8W])))); (try ((with_reducible refine Fin.of ?_); (try with_reducible exact True.intro))))
   (refine Vc.cond T0_ok (t := false) (by rfl) (fun h => Bool.noConfusion h) (fun _ => ?_))
   ((repeat (first | (with_reducible first | refine Vc.seq fun N hN => ?_ | refine Vc.block ?_) | ((with_reducible first | refine Vc.skip ?_ | refine Vc.exit ?_); dsimp only [thenK, blockK, Nat.beq]; (first | (refine hN _ _ ?_; clear hN N) | skip)) | (with_reducible intro _) | ((with_reducible refine And.intro ?_ ?_); (focus (first | ((repeat' with_reducible apply And.intro) <;> first | exact sideQ | (exact ⟨x, hOx _ (by simp)⟩) | (exact ⟨x, hOx _ (by simp), hg⟩) | (exact allU_lm _) | (simp [allU]; done)) | exact sd0))) | ((first | ((with_reducible refine askT_of ?_ (fun hb => ?_)); (focus (first | ((repeat' with_reducible apply And.intro) <;> first | exact sideQ | (exact ⟨x, hOx _ (by simp)⟩) | (exact ⟨x, hOx _ (by simp), hg⟩) | (exact allU_lm _) | (simp [allU]; done)) | exact sd0)); (try simp only [hb])) | ((with_reducible refine Vc.fin ?_); dsimp only [thenK, blockK, retK, resS, resOne, resAll]) | ((with_reducible refine Vc.hold ?_); first | refine Vc.regiont T0_ok GOZ_ok ?_ | refine Vc.drawt (id := 8) T0_ok GOZ_ok (by kernel_rfl) [0, 1, 2, 3, 4, 5, 6, 7] 9 [⟨8, 8, 26, _⟩] ⟨⟨⟨_, _, rfl⟩, zc_26⟩, trivial⟩ (by kernel_rfl) ?_ | refine Vc.drawt (id := 9) T0_ok GOZ_ok (by kernel_rfl) [0, 1, 2, 3, 4, 5, 6, 7, 8, 9, 10, 11, 12, 13, 14, 15, 16, 17, 18] 19 [] trivial (by kernel_rfl) ?_)); (try simp only [v8Y, Nat.beq, Nat.ble, Int.reduceToNat, Int.reduceLE, Int.reduceLT, Nat.reduceLT, Nat.reduceLeDiff, Nat.reduceAdd, Nat.reduceMul, Nat.reduceSub, Int.reduceAdd, Int.reduceSub, Int.reduceMul, v8S, IntKind.bits, tabs, GOZ_set, c1, M1, M2, f2, f3, c0, c20, c24, c25, d25, c45, c46, c47, c48, c49, c50, c54, c58, c59, d59, c79, c80, c81, c82, N1, N2, N3, T1, T2, T3, T4, toU8_bL, wL.eq_def, datF.eq_def, List.drop_zero]); (try simp (disch := omega) only [v8W])) | ((with_reducible refine hN _ _ ?_); clear hN N; (try simp (disch := omega) only [v8W])))); (try ((with_reducible refine Fin.of ?_); (try with_reducible exact True.intro))))
   (refine Vc.cond T0_ok (t := true) (by rfl) (fun _ => ?_) (fun h => Bool.noConfusion h))
   ((repeat (first | (with_reducible first | refine Vc.seq fun N hN => ?_ | refine Vc.block ?_) | ((with_reducible first | refine Vc.skip ?_ | refine Vc.exit ?_); dsimp only [thenK, blockK, Nat.beq]; (first | (refine hN _ _ ?_; clear hN N) | skip)) | (with_reducible intro _) | ((with_reducible refine And.intro ?_ ?_); (focus (first | ((repeat' with_reducible apply And.intro) <;> first | exact sideQ | (exact ⟨x, hOx _ (by simp)⟩) | (exact ⟨x, hOx _ (by simp), hg⟩) | (exact allU_lm _) | (simp [allU]; done)) | exact sd0))) | ((first | ((with_reducible refine askT_of ?_ (fun hb => ?_)); (focus (first | ((repeat' with_reducible apply And.intro) <;> first | exact sideQ | (exact ⟨x, hOx _ (by simp)⟩) | (exact ⟨x, hOx _ (by simp), hg⟩) | (exact allU_lm _) | (simp [allU]; done)) | exact sd0)); (try simp only [hb])) | ((with_reducible refine Vc.fin ?_); dsimp only [thenK, blockK, retK, resS, resOne, resAll]) | ((with_reducible refine Vc.hold ?_); first | refine Vc.regiont T0_ok GOZ_ok ?_ | refine Vc.drawt (id := 8) T0_ok GOZ_ok (by kernel_rfl) [0, 1, 2, 3, 4, 5, 6, 7] 9 [⟨8, 8, 26, _⟩] ⟨⟨⟨_, _, rfl⟩, zc_26⟩, trivial⟩ (by kernel_rfl) ?_ | refine Vc.drawt (id := 9) T0_ok GOZ_ok (by kernel_rfl) [0, 1, 2, 3, 4, 5, 6, 7, 8, 9, 10, 11, 12, 13, 14, 15, 16, 17, 18] 19 [] trivial (by kernel_rfl) ?_)); (try simp only [v8Y, Nat.beq, Nat.ble, Int.reduceToNat, Int.reduceLE, Int.reduceLT, Nat.reduceLT, Nat.reduceLeDiff, Nat.reduceAdd, Nat.reduceMul, Nat.reduceSub, Int.reduceAdd, Int.reduceSub, Int.reduceMul, v8S, IntKind.bits, tabs, GOZ_set, d1, d2, d3, d4, hop, M1, M2, M4, f2, f3, c0, c20, c24, c25, d25, c45, c46, c47, c48, c49, c50, c54, c58, c59, d59, c79, c80, c81, c82, N1, N2, N3, T1, T2, T3, T4, toU8_bL, wL.eq_def, datF.eq_def, List.drop_zero]); (try simp (disch := omega) only [v8W])) | ((with_reducible refine hN _ _ ?_); clear hN N; (try simp (disch := omega) only [v8W])))); (try ((with_reducible refine Fin.of ?_); (try with_reducible exact True.intro))))
   exact ⟨by simp, trivial⟩
  ·have c1 : decide (cmpI x.mf base < 0) = false := decide_eq_false (by rw [cmpI_lt']; exact hlt)
   have d2 : decide (0 ≤ cmpI (prN x base) base) = true := decide_eq_true (by rw [cmpI_ge]; exact prN_ge x base _ (by omega) (Nat.le_refl _) (by omega))
   refine Vc.calls T0_ok Tryd.func10 rfl rfl (args := [.agg l, .word base]) (k := 58) rfl hm ?_; change Vc _ _ (c8 (.agg l) (.word base) .undef .undef .undef .undef .undef .undef (c8 .undef .undef .undef .undef .undef .undef .undef .undef (c8 .undef .undef .undef .undef .undef .undef .undef .undef (c8 .undef .undef .undef .undef .undef .undef .undef .undef (c8 .undef .undef .undef .undef .undef .undef .undef .undef (c8 .undef .undef .undef .undef .undef .undef .undef .undef (c8 .undef .undef .undef .undef .undef .undef .undef .undef ([.undef, .undef, .undef, .undef])))))))) _ _
   ((repeat (first | (with_reducible first | refine Vc.seq fun N hN => ?_ | refine Vc.block ?_) | ((with_reducible first | refine Vc.skip ?_ | refine Vc.exit ?_); dsimp only [thenK, blockK, Nat.beq]; (first | (refine hN _ _ ?_; clear hN N) | skip)) | (with_reducible intro _) | ((with_reducible refine And.intro ?_ ?_); (focus (first | ((repeat' with_reducible apply And.intro) <;> first | exact sideQ | (exact ⟨x, hOx _ (by simp)⟩) | (exact ⟨x, hOx _ (by simp), hg⟩) | (exact allU_lm _) | (simp [allU]; done)) | exact sd0))) | ((first | ((with_reducible refine askT_of ?_ (fun hb => ?_)); (focus (first | ((repeat' with_reducible apply And.intro) <;> first | exact sideQ | (exact ⟨x, hOx _ (by simp)⟩) | (exact ⟨x, hOx _ (by simp), hg⟩) | (exact allU_lm _) | (simp [allU]; done)) | exact sd0)); (try simp only [hb])) | ((with_reducible refine Vc.fin ?_); dsimp only [thenK, blockK, retK, resS, resOne, resAll]) | ((with_reducible refine Vc.hold ?_); first | refine Vc.regiont T0_ok GOZ_ok ?_ | refine Vc.drawt (id := 8) T0_ok GOZ_ok (by kernel_rfl) [0, 1, 2, 3, 4, 5, 6, 7] 9 [⟨8, 8, 26, _⟩] ⟨⟨⟨_, _, rfl⟩, zc_26⟩, trivial⟩ (by kernel_rfl) ?_ | refine Vc.drawt (id := 9) T0_ok GOZ_ok (by kernel_rfl) [0, 1, 2, 3, 4, 5, 6, 7, 8, 9, 10, 11, 12, 13, 14, 15, 16, 17, 18] 19 [] trivial (by kernel_rfl) ?_)); (try simp only [v8Y, Nat.beq, Nat.ble, Int.reduceToNat, Int.reduceLE, Int.reduceLT, Nat.reduceLT, Nat.reduceLeDiff, Nat.reduceAdd, Nat.reduceMul, Nat.reduceSub, Int.reduceAdd, Int.reduceSub, Int.reduceMul, v8S, IntKind.bits, tabs, GOZ_set, hop, hc, f2, f3, c0, c20, c24, c25, d25, c45, c46, c47, c48, c49, c50, c54, c58, c59, d59, c79, c80, c81, c82, N1, N2, N3, T1, T2, T3, T4, toU8_bL, wL.eq_def, datF.eq_def, List.drop_zero]); (try simp (disch := omega) only [v8W])) | ((with_reducible refine hN _ _ ?_); clear hN N; (try simp (disch := omega) only [v8W])))); (try ((with_reducible refine Fin.of ?_); (try with_reducible exact True.intro))))
   (refine Vc.cond T0_ok (t := false) (by rfl) (fun h => Bool.noConfusion h) (fun _ => ?_))
   ((repeat (first | (with_reducible first | refine Vc.seq fun N hN => ?_ | refine Vc.block ?_) | ((with_reducible first | refine Vc.skip ?_ | refine Vc.exit ?_); dsimp only [thenK, blockK, Nat.beq]; (first | (refine hN _ _ ?_; clear hN N) | skip)) | (with_reducible intro _) | ((with_reducible refine And.intro ?_ ?_); (focus (first | ((repeat' with_reducible apply And.intro) <;> first | exact sideQ | (exact ⟨x, hOx _ (by simp)⟩) | (exact ⟨x, hOx _ (by simp), hg⟩) | (exact allU_lm _) | (simp [allU]; done)) | exact sd0))) | ((first | ((with_reducible refine askT_of ?_ (fun hb => ?_)); (focus (first | ((repeat' with_reducible apply And.intro) <;> first | exact sideQ | (exact ⟨x, hOx _ (by simp)⟩) | (exact ⟨x, hOx _ (by simp), hg⟩) | (exact allU_lm _) | (simp [allU]; done)) | exact sd0)); (try simp only [hb])) | ((with_reducible refine Vc.fin ?_); dsimp only [thenK, blockK, retK, resS, resOne, resAll]) | ((with_reducible refine Vc.hold ?_); first | refine Vc.regiont T0_ok GOZ_ok ?_ | refine Vc.drawt (id := 8) T0_ok GOZ_ok (by kernel_rfl) [0, 1, 2, 3, 4, 5, 6, 7] 9 [⟨8, 8, 26, _⟩] ⟨⟨⟨_, _, rfl⟩, zc_26⟩, trivial⟩ (by kernel_rfl) ?_ | refine Vc.drawt (id := 9) T0_ok GOZ_ok (by kernel_rfl) [0, 1, 2, 3, 4, 5, 6, 7, 8, 9, 10, 11, 12, 13, 14, 15, 16, 17, 18] 19 [] trivial (by kernel_rfl) ?_)); (try simp only [v8Y, Nat.beq, Nat.ble, Int.reduceToNat, Int.reduceLE, Int.reduceLT, Nat.reduceLT, Nat.reduceLeDiff, Nat.reduceAdd, Nat.reduceMul, Nat.reduceSub, Int.reduceAdd, Int.reduceSub, Int.reduceMul, v8S, IntKind.bits, tabs, GOZ_set, c1, M1, M2, f2, f3, c0, c20, c24, c25, d25, c45, c46, c47, c48, c49, c50, c54, c58, c59, d59, c79, c80, c81, c82, N1, N2, N3, T1, T2, T3, T4, toU8_bL, wL.eq_def, datF.eq_def, List.drop_zero]); (try simp (disch := omega) only [v8W])) | ((with_reducible refine hN _ _ ?_); clear hN N; (try simp (disch := omega) only [v8W])))); (try ((with_reducible refine Fin.of ?_); (try with_reducible exact True.intro))))
   (refine Vc.cond T0_ok (t := false) (by rfl) (fun h => Bool.noConfusion h) (fun _ => ?_))
   ((repeat (first | (with_reducible first | refine Vc.seq fun N hN => ?_ | refine Vc.block ?_) | ((with_reducible first | refine Vc.skip ?_ | refine Vc.exit ?_); dsimp only [thenK, blockK, Nat.beq]; (first | (refine hN _ _ ?_; clear hN N) | skip)) | (with_reducible intro _) | ((with_reducible refine And.intro ?_ ?_); (focus (first | ((repeat' with_reducible apply And.intro) <;> first | exact sideQ | (exact ⟨x, hOx _ (by simp)⟩) | (exact ⟨x, hOx _ (by simp), hg⟩) | (exact allU_lm _) | (simp [allU]; done)) | exact sd0))) | ((first | ((with_reducible refine askT_of ?_ (fun hb => ?_)); (focus (first | ((repeat' with_reducible apply And.intro) <;> first | exact sideQ | (exact ⟨x, hOx _ (by simp)⟩) | (exact ⟨x, hOx _ (by simp), hg⟩) | (exact allU_lm _) | (simp [allU]; done)) | exact sd0)); (try simp only [hb])) | ((with_reducible refine Vc.fin ?_); dsimp only [thenK, blockK, retK, resS, resOne, resAll]) | ((with_reducible refine Vc.hold ?_); first | refine Vc.regiont T0_ok GOZ_ok ?_ | refine Vc.drawt (id := 8) T0_ok GOZ_ok (by kernel_rfl) [0, 1, 2, 3, 4, 5, 6, 7] 9 [⟨8, 8, 26, _⟩] ⟨⟨⟨_, _, rfl⟩, zc_26⟩, trivial⟩ (by kernel_rfl) ?_ | refine Vc.drawt (id := 9) T0_ok GOZ_ok (by kernel_rfl) [0, 1, 2, 3, 4, 5, 6, 7, 8, 9, 10, 11, 12, 13, 14, 15, 16, 17, 18] 19 [] trivial (by kernel_rfl) ?_)); (try simp only [v8Y, Nat.beq, Nat.ble, Int.reduceToNat, Int.reduceLE, Int.reduceLT, Nat.reduceLT, Nat.reduceLeDiff, Nat.reduceAdd, Nat.reduceMul, Nat.reduceSub, Int.reduceAdd, Int.reduceSub, Int.reduceMul, v8S, IntKind.bits, tabs, GOZ_set, d1, d2, d3, d4, hop, M1, M2, M4, f2, f3, c0, c20, c24, c25, d25, c45, c46, c47, c48, c49, c50, c54, c58, c59, d59, c79, c80, c81, c82, N1, N2, N3, T1, T2, T3, T4, toU8_bL, wL.eq_def, datF.eq_def, List.drop_zero]); (try simp (disch := omega) only [v8W])) | ((with_reducible refine hN _ _ ?_); clear hN N; (try simp (disch := omega) only [v8W])))); (try ((with_reducible refine Fin.of ?_); (try with_reducible exact True.intro))))
   exact ⟨by simp, trivial⟩
end Go.Proofs.YtjonbbmnjbnefaaDoor
