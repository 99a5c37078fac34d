/-
 The document's answers for layer 15 (package quaestorref15): Pack, walked. No condition.
-/
import Derived.Test.YthdpgfdfgidokaaDoorO1
set_option maxRecDepth 10000
set_option maxHeartbeats 4000000
set_option linter.defProp false
set_option linter.unusedVariables false
set_option linter.unusedSimpArgs false
namespace Go.Proofs.YthdpgfdfgidokaaDoor
open Go.RowKit
noncomputable def GP3 : Ctr := fun f args m => match f with
 | 59 => g_raddress args m
 | 60 => g_rhalf args m
 | 61 => g_rword args m
 | 63 => g_rdata args m
 | 64 => g_rhalves args m
 | 43 => g_rFrom args m
 | 62 => g_rWide args m
 | _ => .none
theorem GP3_ok : GOk Tryd.prog GP3 := by
 intro w0 B f args m; unfold GP3; split
 ·exact g_raddress_ok _ _ _ _
 ·exact g_rhalf_ok _ _ _ _
 ·exact g_rword_ok _ _ _ _
 ·exact g_rdata_ok _ _ _ _
 ·exact g_rhalves_ok _ _ _ _
 ·exact g_rFrom_ok _ _ _ _
 ·exact g_rWide_ok _ _ _ _
 ·exact trivial
theorem GP3_raddress : GP3 59 = g_raddress := by funext args m; rfl
theorem GP3_rhalf : GP3 60 = g_rhalf := by funext args m; rfl
theorem GP3_rword : GP3 61 = g_rword := by funext args m; rfl
theorem GP3_rdata : GP3 63 = g_rdata := by funext args m; rfl
theorem GP3_rhalves : GP3 64 = g_rhalves := by funext args m; rfl
theorem GP3_rFrom : GP3 43 = g_rFrom := by funext args m; rfl
theorem GP3_rWide : GP3 62 = g_rWide := by funext args m; rfl
def GP3_set := And.intro (And.intro (And.intro (@GP3_raddress) (And.intro (@g_raddress.eq_def) (@GP3_rhalf))) (And.intro (And.intro (@g_rhalf.eq_def) (@GP3_rword)) (And.intro (@g_rword.eq_def) (@GP3_rdata)))) (And.intro (And.intro (@g_rdata.eq_def) (And.intro (@GP3_rhalves) (@g_rhalves.eq_def))) (And.intro (And.intro (@GP3_rFrom) (@g_rFrom.eq_def)) (And.intro (@GP3_rWide) (@g_rWide.eq_def))))

def RpPost (x : OpD) (v' : SV) (m' : List Blk) : Prop := ∃ k b rs q, v' = .sl k (some ⟨b, 0, none⟩) 0 0 6 9 9 ∧ bget m' k = .blk b 59 (.rows 6 rs) ∧ prtXs (byO m') rs = some (q, pkP x) ∧ q
set_option maxRecDepth 20000 in
theorem rpack_vc (l : List SV) (x : OpD) (w : World) (hO : OpR (H0 w) l x) (hS : OpS 10000 x) : Calls Tryd.prog 25 (cvs [.agg l]).toArray w (fun en w' => ∃ u, en = .returned u ∧ ∃ v' m', u = cv v' ∧ MemOk w [] m' w' ∧ RpPost x v' m') := by
 have hOx : ∀ m, allOld w ∈ m → OpR (HM m) l x := fun m hin => hO.mono (H0.hm hin)
 have hop := opOf_eq hO
 have hS0 := hS
 obtain ⟨f1, f2, f3, c0, c20, c24, c25, d25, ⟨v1, c45, a1, n1, k1, rfl, p11, p12, p13, p14, p15, p16⟩, ⟨v2, c46, a2, n2, k2, rfl, p21, p22, p23, p24, p25, p26⟩, c47, c48, c49, c50, c54, c58, c59, d59, c79, c80, ⟨v3, c81, a3, n3, k3, rfl, p31, p32, p33, p34, p35, p36⟩, ⟨v4, c82, a4, n4, k4, rfl, p41, p42, p43, p44, p45, p46⟩, ls, lf, lp, bs, bf, bp, wn, wf, wt, u1, u2, u3, u4, u5⟩ := hO
 have L1 : ∀ m, allOld w ∈ m → LiesH (HM m) a1 (cc (.ints .u8 x.fd)) := fun m hin => p14.mono (H0.hm hin)
 have T1 : x.fd.take n1 = x.fd := List.take_of_length_le (by omega)
 have L2 : ∀ m, allOld w ∈ m → LiesH (HM m) a2 (cc (.ints .u8 x.cd)) := fun m hin => p24.mono (H0.hm hin)
 have T2 : x.cd.take n2 = x.cd := List.take_of_length_le (by omega)
 have L3 : ∀ m, allOld w ∈ m → LiesH (HM m) a3 (cc (.ints .u8 x.pd)) := fun m hin => p34.mono (H0.hm hin)
 have T3 : x.pd.take n3 = x.pd := List.take_of_length_le (by omega)
 have L4 : ∀ m, allOld w ∈ m → LiesH (HM m) a4 (cc (.ints .u8 x.sg)) := fun m hin => p44.mono (H0.hm hin)
 have T4 : x.sg.take n4 = x.sg := List.take_of_length_le (by omega)
 have N1 := numI_lm wn
 have N2 := numI_lm wf
 have N3 := numI_lm wt
 unfold u64I at u1 u2 u3 u4 u5
 simp only [OpS] at hS
 have fb := facB_all bf p15
 have pb := payB_all bp p35
 have wv : x.vg.toNat < W := by unfold W; omega
 have wc : x.cg.toNat < W := by unfold W; omega
 have wg : x.pg.toNat < W := by unfold W; omega
 have wr : rdI x.snd < W := Nat.lt_of_lt_of_le (rdI_lt bs) (by rw [ls]; decide +kernel)
 have M1 := numI_lm wr
 have M2 := numI_lm (pairW_lt x.vg.toNat x.cg.toNat)
 have M3 := numI_lm wg
 have M4 := numI_lm (pairW_lt x.mt x.mf)
 have U0 := allU_0z
 have U1 := allU_lm (rdI x.snd)
 have U2 := allU_lm x.non
 have U3 := allU_lm (pairW x.vg.toNat x.cg.toNat)
 have U4 := allU_lm x.pg.toNat
 have U5 := allU_lm (pairW x.mt x.mf)
 have P1 := pairW_lt x.vg.toNat x.cg.toNat
 have wS := pairW_lt x.mt x.mf
 have TF : (bytI (rdI x.fac) 32).drop 12 = x.fac := adr_tail lf bf
 have TP : (bytI (rdI x.pay) 32).drop 12 = x.pay := adr_tail lp bp
 have hEnd : ∀ (k b j1 j2 j3 j4 i1 i2 i3 i4 : Nat) (s1 s2 s3 s4 : Value) (m : List Blk), bget m j1 = .own s1 i1 5 1 (.ints .u8 (facB x)) → bget m j2 = .own s2 i2 5 1 (.ints .u8 x.cd) → bget m j3 = .own s3 i3 5 1 (.ints .u8 (payB x)) → bget m j4 = .own s4 i4 5 1 (.ints .u8 x.sg) →
   bget m k = .blk b 59 (.rows 6 [[.bool false, .int .u64 (lm (rdI x.snd) 0 : Nat), .int .u64 (lm (rdI x.snd) 1 : Nat), .int .u64 (lm (rdI x.snd) 2 : Nat), .int .u64 (lm (rdI x.snd) 3 : Nat), .nilsl], [.bool false, .int .u64 (lm (x.non) 0 : Nat), .int .u64 (lm (x.non) 1 : Nat), .int .u64 (lm (x.non) 2 : Nat), .int .u64 (lm (x.non) 3 : Nat), .nilsl], [.bool true, .int .u64 0, .int .u64 0, .int .u64 0, .int .u64 0, .own j1 s1 i1], [.bool true, .int .u64 0, .int .u64 0, .int .u64 0, .int .u64 0, .own j2 s2 i2], [.bool false, .int .u64 (lm (pairW x.vg.toNat x.cg.toNat) 0 : Nat), .int .u64 (lm (pairW x.vg.toNat x.cg.toNat) 1 : Nat), .int .u64 (lm (pairW x.vg.toNat x.cg.toNat) 2 : Nat), .int .u64 (lm (pairW x.vg.toNat x.cg.toNat) 3 : Nat), .nilsl], [.bool false, .int .u64 (lm (x.pg.toNat) 0 : Nat), .int .u64 (lm (x.pg.toNat) 1 : Nat), .int .u64 (lm (x.pg.toNat) 2 : Nat), .int .u64 (lm (x.pg.toNat) 3 : Nat), .nilsl], [.bool false, .int .u64 (lm (pairW x.mt x.mf) 0 : Nat), .int .u64 (lm (pairW x.mt x.mf) 1 : Nat), .int .u64 (lm (pairW x.mt x.mf) 2 : Nat), .int .u64 (lm (pairW x.mt x.mf) 3 : Nat), .nilsl], [.bool true, .int .u64 0, .int .u64 0, .int .u64 0, .int .u64 0, .own j3 s3 i3], [.bool true, .int .u64 0, .int .u64 0, .int .u64 0, .int .u64 0, .own j4 s4 i4]]) → RpPost x (.sl k (some ⟨b, 0, none⟩) 0 0 6 9 9) m := by
  intro k b j1 j2 j3 j4 i1 i2 i3 i4 s1 s2 s3 s4 m g1 g2 g3 g4 g5
  refine ⟨k, b, _, _, rfl, g5, by simp only [prtS, g1, g2, g3, g4, M1, N1, M2, M3, M4, numI_0]; rfl, ?_⟩
  simp only [and_true, true_and]
  exact ⟨U1, U2, ⟨fb, U0⟩, ⟨p25, U0⟩, U3, U4, U5, ⟨pb, U0⟩, p45, U0⟩
 have T12 : True := trivial
 have T22 : True := trivial
 cases hhf : x.hf <;> cases hhp : x.hp <;> rw [hhf] at c24 <;> rw [hhp] at c58
 ·refine Vc.calls T0_ok Tryd.func25 rfl rfl (args := [.agg l]) (k := 66) rfl (old_start w) ?_; change Vc _ _ (c8 (.agg l) .undef .undef .undef .undef .undef .undef .undef (c8 .undef .undef .undef .undef .undef .undef .undef .undef (c8 .undef .undef .undef .undef .undef .undef .undef .undef (c8 .undef .undef .undef .undef .undef .undef .undef .undef (c8 .undef .undef .undef .undef .undef .undef .undef .undef (c8 .undef .undef .undef .undef .undef .undef .undef .undef (c8 .undef .undef .undef .undef .undef .undef .undef .undef (c8 .undef .undef .undef .undef .undef .undef .undef .undef ([.undef, .undef, .undef]))))))))) _ _
  ((repeat (first | (with_reducible refine Vc.seq fun N hN => ?_) | (with_reducible intro _) | ((with_reducible refine And.intro ?_ ?_); exact sX1) | ((first | ((with_reducible refine Vc.hold ?_); first | refine Vc.regiont T0_ok GP3_ok ?_ | refine Vc.drawt (id := 3) T0_ok GP3_ok (by kernel_rfl) [0, 1, 3, 4, 2] 5 [] trivial (by kernel_rfl) ?_)); (try simp only [v8Y, Nat.beq, Nat.ble, seval, tabs, GP3_set, f2, f3, c0, c20, c24, c25, d25, c45, c46, c47, c48, c49, c50, c54, c58, c59, d59, c79, c80, c81, c82, N1, N2, N3, T1, T2, T3, T4, toU8_bL, wL.eq_def, datF.eq_def, List.drop_zero, T12, T22, hlfB_take, List.append_nil, List.nil_append, TF, TP, List.drop_left, List.take_left, tlG.eq_def, tlF.eq_def])) | ((with_reducible refine hN _ _ ?_); clear hN N))))
  (refine Vc.cond T0_ok (t := false) (by rfl) (fun h => Bool.noConfusion h) (fun _ => ?_))
  (refine Vc.skip ?_; dsimp only [thenK, blockK, Nat.beq]; refine hN _ _ ?_; clear hN N)
  ((repeat (first | (with_reducible refine Vc.seq fun N hN => ?_) | (with_reducible intro _) | ((with_reducible refine And.intro ?_ ?_); exact sX1) | ((first | ((with_reducible refine Vc.hold ?_); first | refine Vc.regiont T0_ok GP3_ok ?_ | refine Vc.drawt (id := 3) T0_ok GP3_ok (by kernel_rfl) [0, 1, 3, 4, 2] 5 [] trivial (by kernel_rfl) ?_)); (try simp only [v8Y, Nat.beq, Nat.ble, seval, tabs, GP3_set, f2, f3, c0, c20, c24, c25, d25, c45, c46, c47, c48, c49, c50, c54, c58, c59, d59, c79, c80, c81, c82, N1, N2, N3, T1, T2, T3, T4, toU8_bL, wL.eq_def, datF.eq_def, List.drop_zero, T12, T22, hlfB_take, List.append_nil, List.nil_append, TF, TP, List.drop_left, List.take_left, tlG.eq_def, tlF.eq_def])) | ((with_reducible refine hN _ _ ?_); clear hN N))))
  have A2 : True := trivial
  have hfb : ([] : List Int) = facB x := by unfold facB; rw [hhf]; rfl
  (refine Vc.cond T0_ok (t := false) (by rfl) (fun h => Bool.noConfusion h) (fun _ => ?_))
  (refine Vc.skip ?_; dsimp only [thenK, blockK, Nat.beq]; refine hN _ _ ?_; clear hN N)
  have hpb : ([] : List Int) = payB x := by unfold payB; rw [hhp]; rfl
  ((repeat (first | (with_reducible refine Vc.seq fun N hN => ?_) | (with_reducible intro _) | ((with_reducible refine And.intro ?_ ?_); exact sX1) | ((first | ((with_reducible refine Vc.fin ?_); dsimp only [thenK, blockK, retK, resS, resOne, resAll]) | ((with_reducible refine Vc.hold ?_); first | refine Vc.drawt (id := 8) T0_ok GP3_ok (by kernel_rfl) [0, 1, 4, 5, 7, 9, 10, 12, 13, 15, 16, 20, 21, 24, 25, 26, 27, 30, 32, 33, 2, 3, 6, 8, 11, 14, 17, 18, 19, 22, 23, 28, 29, 31] 34 [] trivial (by kernel_rfl) ?_)); (try simp only [v8Y, Nat.beq, Nat.ble, seval, tabs, GP3_set, f2, f3, c0, c20, c24, c25, d25, c45, c46, c47, c48, c49, c50, c54, c58, c59, d59, c79, c80, c81, c82, N1, N2, N3, T1, T2, T3, T4, toU8_bL, wL.eq_def, datF.eq_def, List.drop_zero, T12, T22, hlfB_take, List.append_nil, List.nil_append, TF, TP, List.drop_left, List.take_left, tlG.eq_def, tlF.eq_def, A2])) | ((with_reducible refine hN _ _ ?_); clear hN N))); (try ((with_reducible refine Fin.of ?_); (try with_reducible exact True.intro))))
  refine ⟨trivial, hEnd _ _ _ _ _ _ _ _ _ _ _ _ _ _ _ ?_ ?_ ?_ ?_ rfl⟩
  ·rw [← hfb]; rfl
  ·rfl
  ·rw [← hpb]; rfl
  ·rfl
 ·refine Vc.calls T0_ok Tryd.func25 rfl rfl (args := [.agg l]) (k := 66) rfl (old_start w) ?_; change Vc _ _ (c8 (.agg l) .undef .undef .undef .undef .undef .undef .undef (c8 .undef .undef .undef .undef .undef .undef .undef .undef (c8 .undef .undef .undef .undef .undef .undef .undef .undef (c8 .undef .undef .undef .undef .undef .undef .undef .undef (c8 .undef .undef .undef .undef .undef .undef .undef .undef (c8 .undef .undef .undef .undef .undef .undef .undef .undef (c8 .undef .undef .undef .undef .undef .undef .undef .undef (c8 .undef .undef .undef .undef .undef .undef .undef .undef ([.undef, .undef, .undef]))))))))) _ _
  ((repeat (first | (with_reducible refine Vc.seq fun N hN => ?_) | (with_reducible intro _) | ((with_reducible refine And.intro ?_ ?_); exact sX1) | ((first | ((with_reducible refine Vc.hold ?_); first | refine Vc.regiont T0_ok GP3_ok ?_ | refine Vc.drawt (id := 3) T0_ok GP3_ok (by kernel_rfl) [0, 1, 3, 4, 2] 5 [] trivial (by kernel_rfl) ?_)); (try simp only [v8Y, Nat.beq, Nat.ble, seval, tabs, GP3_set, f2, f3, c0, c20, c24, c25, d25, c45, c46, c47, c48, c49, c50, c54, c58, c59, d59, c79, c80, c81, c82, N1, N2, N3, T1, T2, T3, T4, toU8_bL, wL.eq_def, datF.eq_def, List.drop_zero, T12, T22, hlfB_take, List.append_nil, List.nil_append, TF, TP, List.drop_left, List.take_left, tlG.eq_def, tlF.eq_def])) | ((with_reducible refine hN _ _ ?_); clear hN N))))
  (refine Vc.cond T0_ok (t := false) (by rfl) (fun h => Bool.noConfusion h) (fun _ => ?_))
  (refine Vc.skip ?_; dsimp only [thenK, blockK, Nat.beq]; refine hN _ _ ?_; clear hN N)
  ((repeat (first | (with_reducible refine Vc.seq fun N hN => ?_) | (with_reducible intro _) | ((with_reducible refine And.intro ?_ ?_); exact sX1) | ((first | ((with_reducible refine Vc.hold ?_); first | refine Vc.regiont T0_ok GP3_ok ?_ | refine Vc.drawt (id := 3) T0_ok GP3_ok (by kernel_rfl) [0, 1, 3, 4, 2] 5 [] trivial (by kernel_rfl) ?_)); (try simp only [v8Y, Nat.beq, Nat.ble, seval, tabs, GP3_set, f2, f3, c0, c20, c24, c25, d25, c45, c46, c47, c48, c49, c50, c54, c58, c59, d59, c79, c80, c81, c82, N1, N2, N3, T1, T2, T3, T4, toU8_bL, wL.eq_def, datF.eq_def, List.drop_zero, T12, T22, hlfB_take, List.append_nil, List.nil_append, TF, TP, List.drop_left, List.take_left, tlG.eq_def, tlF.eq_def])) | ((with_reducible refine hN _ _ ?_); clear hN N))))
  have A2 : True := trivial
  have hfb : ([] : List Int) = facB x := by unfold facB; rw [hhf]; rfl
  (refine Vc.cond T0_ok (t := true) (by rfl) (fun _ => ?_) (fun h => Bool.noConfusion h))
  have A3 : (x.pay ++ hlfB x.pv ++ hlfB x.po ++ x.pd).take (52 + n3) = x.pay ++ hlfB x.pv ++ hlfB x.po ++ x.pd := List.take_of_length_le (by simp only [List.length_append, hlfB_len]; omega)
  have hpb : x.pay ++ hlfB x.pv ++ hlfB x.po ++ x.pd = payB x := by unfold payB; rw [hhp]; rfl
  ((repeat (first | (with_reducible refine Vc.seq fun N hN => ?_) | (with_reducible intro _) | ((with_reducible refine And.intro ?_ ?_); exact sX1) | ((first | ((with_reducible refine Vc.fin ?_); dsimp only [thenK, blockK, retK, resS, resOne, resAll]) | ((with_reducible refine Vc.hold ?_); first | refine Vc.regiont T0_ok GP3_ok ?_ | refine Vc.drawt (id := 5) T0_ok GP3_ok (by kernel_rfl) [0, 1, 3, 4, 2] 5 [] trivial (by kernel_rfl) ?_ | refine Vc.drawt (id := 8) T0_ok GP3_ok (by kernel_rfl) [0, 1, 4, 5, 7, 9, 10, 12, 13, 15, 16, 20, 21, 24, 25, 26, 27, 30, 32, 33, 2, 3, 6, 8, 11, 14, 17, 18, 19, 22, 23, 28, 29, 31] 34 [] trivial (by kernel_rfl) ?_)); (try simp only [v8Y, Nat.beq, Nat.ble, seval, tabs, GP3_set, f2, f3, c0, c20, c24, c25, d25, c45, c46, c47, c48, c49, c50, c54, c58, c59, d59, c79, c80, c81, c82, N1, N2, N3, T1, T2, T3, T4, toU8_bL, wL.eq_def, datF.eq_def, List.drop_zero, T12, T22, hlfB_take, List.append_nil, List.nil_append, TF, TP, List.drop_left, List.take_left, tlG.eq_def, tlF.eq_def, A2, A3])) | ((with_reducible refine hN _ _ ?_); clear hN N))); (try ((with_reducible refine Fin.of ?_); (try with_reducible exact True.intro))))
  refine ⟨trivial, hEnd _ _ _ _ _ _ _ _ _ _ _ _ _ _ _ ?_ ?_ ?_ ?_ rfl⟩
  ·rw [← hfb]; rfl
  ·rfl
  ·rw [← hpb]; rfl
  ·rfl
 ·refine Vc.calls T0_ok Tryd.func25 rfl rfl (args := [.agg l]) (k := 66) rfl (old_start w) ?_; change Vc _ _ (c8 (.agg l) .undef .undef .undef .undef .undef .undef .undef (c8 .undef .undef .undef .undef .undef .undef .undef .undef (c8 .undef .undef .undef .undef .undef .undef .undef .undef (c8 .undef .undef .undef .undef .undef .undef .undef .undef (c8 .undef .undef .undef .undef .undef .undef .undef .undef (c8 .undef .undef .undef .undef .undef .undef .undef .undef (c8 .undef .undef .undef .undef .undef .undef .undef .undef (c8 .undef .undef .undef .undef .undef .undef .undef .undef ([.undef, .undef, .undef]))))))))) _ _
  ((repeat (first | (with_reducible refine Vc.seq fun N hN => ?_) | (with_reducible intro _) | ((with_reducible refine And.intro ?_ ?_); exact sX1) | ((first | ((with_reducible refine Vc.hold ?_); first | refine Vc.regiont T0_ok GP3_ok ?_ | refine Vc.drawt (id := 3) T0_ok GP3_ok (by kernel_rfl) [0, 1, 3, 4, 2] 5 [] trivial (by kernel_rfl) ?_)); (try simp only [v8Y, Nat.beq, Nat.ble, seval, tabs, GP3_set, f2, f3, c0, c20, c24, c25, d25, c45, c46, c47, c48, c49, c50, c54, c58, c59, d59, c79, c80, c81, c82, N1, N2, N3, T1, T2, T3, T4, toU8_bL, wL.eq_def, datF.eq_def, List.drop_zero, T12, T22, hlfB_take, List.append_nil, List.nil_append, TF, TP, List.drop_left, List.take_left, tlG.eq_def, tlF.eq_def])) | ((with_reducible refine hN _ _ ?_); clear hN N))))
  (refine Vc.cond T0_ok (t := true) (by rfl) (fun _ => ?_) (fun h => Bool.noConfusion h))
  ((repeat (first | (with_reducible refine Vc.seq fun N hN => ?_) | (with_reducible intro _) | ((with_reducible refine And.intro ?_ ?_); exact sX1) | ((first | ((with_reducible refine Vc.hold ?_); first | refine Vc.regiont T0_ok GP3_ok ?_ | refine Vc.drawt (id := 3) T0_ok GP3_ok (by kernel_rfl) [0, 1, 3, 4, 2] 5 [] trivial (by kernel_rfl) ?_)); (try simp only [v8Y, Nat.beq, Nat.ble, seval, tabs, GP3_set, f2, f3, c0, c20, c24, c25, d25, c45, c46, c47, c48, c49, c50, c54, c58, c59, d59, c79, c80, c81, c82, N1, N2, N3, T1, T2, T3, T4, toU8_bL, wL.eq_def, datF.eq_def, List.drop_zero, T12, T22, hlfB_take, List.append_nil, List.nil_append, TF, TP, List.drop_left, List.take_left, tlG.eq_def, tlF.eq_def])) | ((with_reducible refine hN _ _ ?_); clear hN N))))
  have A2 : (x.fac ++ x.fd).take (20 + n1) = x.fac ++ x.fd := List.take_of_length_le (by rw [List.length_append]; omega)
  have hfb : x.fac ++ x.fd = facB x := by unfold facB; rw [hhf]; rfl
  (refine Vc.cond T0_ok (t := false) (by rfl) (fun h => Bool.noConfusion h) (fun _ => ?_))
  (refine Vc.skip ?_; dsimp only [thenK, blockK, Nat.beq]; refine hN _ _ ?_; clear hN N)
  have hpb : ([] : List Int) = payB x := by unfold payB; rw [hhp]; rfl
  ((repeat (first | (with_reducible refine Vc.seq fun N hN => ?_) | (with_reducible intro _) | ((with_reducible refine And.intro ?_ ?_); exact sX1) | ((first | ((with_reducible refine Vc.fin ?_); dsimp only [thenK, blockK, retK, resS, resOne, resAll]) | ((with_reducible refine Vc.hold ?_); first | refine Vc.drawt (id := 8) T0_ok GP3_ok (by kernel_rfl) [0, 1, 4, 5, 7, 9, 10, 12, 13, 15, 16, 20, 21, 24, 25, 26, 27, 30, 32, 33, 2, 3, 6, 8, 11, 14, 17, 18, 19, 22, 23, 28, 29, 31] 34 [] trivial (by kernel_rfl) ?_)); (try simp only [v8Y, Nat.beq, Nat.ble, seval, tabs, GP3_set, f2, f3, c0, c20, c24, c25, d25, c45, c46, c47, c48, c49, c50, c54, c58, c59, d59, c79, c80, c81, c82, N1, N2, N3, T1, T2, T3, T4, toU8_bL, wL.eq_def, datF.eq_def, List.drop_zero, T12, T22, hlfB_take, List.append_nil, List.nil_append, TF, TP, List.drop_left, List.take_left, tlG.eq_def, tlF.eq_def, A2])) | ((with_reducible refine hN _ _ ?_); clear hN N))); (try ((with_reducible refine Fin.of ?_); (try with_reducible exact True.intro))))
  refine ⟨trivial, hEnd _ _ _ _ _ _ _ _ _ _ _ _ _ _ _ ?_ ?_ ?_ ?_ rfl⟩
  ·rw [← hfb]; rfl
  ·rfl
  ·rw [← hpb]; rfl
  ·rfl
 ·refine Vc.calls T0_ok Tryd.func25 rfl rfl (args := [.agg l]) (k := 66) rfl (old_start w) ?_; change Vc _ _ (c8 (.agg l) .undef .undef .undef .undef .undef .undef .undef (c8 .undef .undef .undef .undef .undef .undef .undef .undef (c8 .undef .undef .undef .undef .undef .undef .undef .undef (c8 .undef .undef .undef .undef .undef .undef .undef .undef (c8 .undef .undef .undef .undef .undef .undef .undef .undef (c8 .undef .undef .undef .undef .undef .undef .undef .undef (c8 .undef .undef .undef .undef .undef .undef .undef .undef (c8 .undef .undef .undef .undef .undef .undef .undef .undef ([.undef, .undef, .undef]))))))))) _ _
  ((repeat (first | (with_reducible refine Vc.seq fun N hN => ?_) | (with_reducible intro _) | ((with_reducible refine And.intro ?_ ?_); exact sX1) | ((first | ((with_reducible refine Vc.hold ?_); first | refine Vc.regiont T0_ok GP3_ok ?_ | refine Vc.drawt (id := 3) T0_ok GP3_ok (by kernel_rfl) [0, 1, 3, 4, 2] 5 [] trivial (by kernel_rfl) ?_)); (try simp only [v8Y, Nat.beq, Nat.ble, seval, tabs, GP3_set, f2, f3, c0, c20, c24, c25, d25, c45, c46, c47, c48, c49, c50, c54, c58, c59, d59, c79, c80, c81, c82, N1, N2, N3, T1, T2, T3, T4, toU8_bL, wL.eq_def, datF.eq_def, List.drop_zero, T12, T22, hlfB_take, List.append_nil, List.nil_append, TF, TP, List.drop_left, List.take_left, tlG.eq_def, tlF.eq_def])) | ((with_reducible refine hN _ _ ?_); clear hN N))))
  (refine Vc.cond T0_ok (t := true) (by rfl) (fun _ => ?_) (fun h => Bool.noConfusion h))
  ((repeat (first | (with_reducible refine Vc.seq fun N hN => ?_) | (with_reducible intro _) | ((with_reducible refine And.intro ?_ ?_); exact sX1) | ((first | ((with_reducible refine Vc.hold ?_); first | refine Vc.regiont T0_ok GP3_ok ?_ | refine Vc.drawt (id := 3) T0_ok GP3_ok (by kernel_rfl) [0, 1, 3, 4, 2] 5 [] trivial (by kernel_rfl) ?_)); (try simp only [v8Y, Nat.beq, Nat.ble, seval, tabs, GP3_set, f2, f3, c0, c20, c24, c25, d25, c45, c46, c47, c48, c49, c50, c54, c58, c59, d59, c79, c80, c81, c82, N1, N2, N3, T1, T2, T3, T4, toU8_bL, wL.eq_def, datF.eq_def, List.drop_zero, T12, T22, hlfB_take, List.append_nil, List.nil_append, TF, TP, List.drop_left, List.take_left, tlG.eq_def, tlF.eq_def])) | ((with_reducible refine hN _ _ ?_); clear hN N))))
  have A2 : (x.fac ++ x.fd).take (20 + n1) = x.fac ++ x.fd := List.take_of_length_le (by rw [List.length_append]; omega)
  have hfb : x.fac ++ x.fd = facB x := by unfold facB; rw [hhf]; rfl
  (refine Vc.cond T0_ok (t := true) (by rfl) (fun _ => ?_) (fun h => Bool.noConfusion h))
  have A3 : (x.pay ++ hlfB x.pv ++ hlfB x.po ++ x.pd).take (52 + n3) = x.pay ++ hlfB x.pv ++ hlfB x.po ++ x.pd := List.take_of_length_le (by simp only [List.length_append, hlfB_len]; omega)
  have hpb : x.pay ++ hlfB x.pv ++ hlfB x.po ++ x.pd = payB x := by unfold payB; rw [hhp]; rfl
  ((repeat (first | (with_reducible refine Vc.seq fun N hN => ?_) | (with_reducible intro _) | ((with_reducible refine And.intro ?_ ?_); exact sX1) | ((first | ((with_reducible refine Vc.fin ?_); dsimp only [thenK, blockK, retK, resS, resOne, resAll]) | ((with_reducible refine Vc.hold ?_); first | refine Vc.regiont T0_ok GP3_ok ?_ | refine Vc.drawt (id := 5) T0_ok GP3_ok (by kernel_rfl) [0, 1, 3, 4, 2] 5 [] trivial (by kernel_rfl) ?_ | refine Vc.drawt (id := 8) T0_ok GP3_ok (by kernel_rfl) [0, 1, 4, 5, 7, 9, 10, 12, 13, 15, 16, 20, 21, 24, 25, 26, 27, 30, 32, 33, 2, 3, 6, 8, 11, 14, 17, 18, 19, 22, 23, 28, 29, 31] 34 [] trivial (by kernel_rfl) ?_)); (try simp only [v8Y, Nat.beq, Nat.ble, seval, tabs, GP3_set, f2, f3, c0, c20, c24, c25, d25, c45, c46, c47, c48, c49, c50, c54, c58, c59, d59, c79, c80, c81, c82, N1, N2, N3, T1, T2, T3, T4, toU8_bL, wL.eq_def, datF.eq_def, List.drop_zero, T12, T22, hlfB_take, List.append_nil, List.nil_append, TF, TP, List.drop_left, List.take_left, tlG.eq_def, tlF.eq_def, A2, A3])) | ((with_reducible refine hN _ _ ?_); clear hN N))); (try ((with_reducible refine Fin.of ?_); (try with_reducible exact True.intro))))
  refine ⟨trivial, hEnd _ _ _ _ _ _ _ _ _ _ _ _ _ _ _ ?_ ?_ ?_ ?_ rfl⟩
  ·rw [← hfb]; rfl
  ·rfl
  ·rw [← hpb]; rfl
  ·rfl
end Go.Proofs.YthdpgfdfgidokaaDoor
