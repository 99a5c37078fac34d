/-
 SameParts (package quaestorref00), of the same parts. No condition.
-/
import Derived.Test.YthdpgfdfgidokaaDoorOC
import Derived.Test.YthdpgfdfgidokaaDoorR9
set_option maxRecDepth 10000
set_option maxHeartbeats 4000000
set_option linter.defProp false
set_option linter.unusedVariables false
set_option linter.unusedSimpArgs false
namespace Go.Proofs.YthdpgfdfgidokaaDoor
open Go.RowKit
def fixR : List SV → List SV
 | [d, x0, x1, x2, x3, .nilsl] => [d, x0, x1, x2, x3, .gh none 0 0 (.ints .u8 [])]
 | r => r
theorem cvs_fixR (r : List SV) : cvs (fixR r) = cvs r := by
 unfold fixR; split <;> rfl
theorem cc_fixR (rs : List (List SV)) : cc (.rows 6 (rs.map fixR)) = cc (.rows 6 rs) := by
 simp only [cc]
 induction rs with
 | nil => rfl
 | cons r rs ih => simp only [List.map_cons, List.flatMap_cons, ih, cvs_fixR]
noncomputable def GOO : Ctr := fun f args m => match f with
 | 29 => g_same args m
 | _ => .none
theorem GOO_ok : GOk Tryd.prog GOO := by
 intro w0 B f args m; unfold GOO; split
 ·exact g_same_ok _ _ _ _
 ·exact trivial
theorem GOO_same : GOO 29 = g_same := by funext args m; rfl
def GOO_set := And.intro (@GOO_same) (@g_same.eq_def)

set_option maxRecDepth 20000 in
theorem sameP_vc (a1 a2 : Option Addr) (n c1 c2 : Nat) (rs1 rs2 : List (List SV)) (l : List Prt) (hl : l.length = n) (k1 : n ≤ c1) (k2 : n ≤ c2) (ha1 : adr a1 n c1) (ha2 : adr a2 n c2) (hm : n ≤ 1000000) (w : World) (h1 : LiesH (H0 w) a1 (cc (.rows 6 rs1))) (h2 : LiesH (H0 w) a2 (cc (.rows 6 rs2))) (hR1 : PsR (H0 w) rs1 l) (hR2 : PsR (H0 w) rs2 l) :
  Calls Tryd.prog 23 (cvs [.gh a1 n c1 (.rows 6 rs1), .gh a2 n c2 (.rows 6 rs2)]).toArray w (fun en w' => ∃ u, en = .returned u ∧ ∃ v' m', u = cv v' ∧ MemOk w [] m' w' ∧ v' = .bool true) := by
 obtain ⟨r1, r2, r3⟩ := hR1
 obtain ⟨s1, s2, s3⟩ := hR2
 have hL1 : ∀ m, allOld w ∈ m → LiesH (HM m) a1 (cc (.rows 6 rs1)) := fun m hin => h1.mono (H0.hm hin)
 have hL2 : ∀ m, allOld w ∈ m → LiesH (HM m) a2 (cc (.rows 6 rs2)) := fun m hin => h2.mono (H0.hm hin)
 have d0 : decide ((n : Int) = (n : Int)) = true := decide_eq_true rfl
 refine Vc.calls T0_ok Tryd.func23 rfl rfl (args := [.gh a1 n c1 (.rows 6 rs1), .gh a2 n c2 (.rows 6 rs2)]) (k := 53) rfl (old_start w) ?_; change Vc _ _ (c8 (.gh a1 n c1 (.rows 6 rs1)) (.gh a2 n c2 (.rows 6 rs2)) .undef .undef .undef .undef .undef .undef (c8 .undef .undef .undef .undef .undef .undef .undef .undef (c8 .undef .undef .undef .undef .undef .undef .undef .undef (c8 .undef .undef .undef .undef .undef .undef .undef .undef (c8 .undef .undef .undef .undef .undef .undef .undef .undef (c8 .undef .undef .undef .undef .undef .undef .undef .undef ([.undef, .undef, .undef, .undef, .undef, .undef, .undef]))))))) _ _
 ((repeat (first | (with_reducible first | refine Vc.seq fun N hN => ?_ | refine Vc.block ?_) | ((with_reducible first | refine Vc.skip ?_ | refine Vc.exit ?_); dsimp only [thenK, blockK, Nat.beq]; (first | (refine hN _ _ ?_; clear hN N) | skip)) | (with_reducible intro _) | ((with_reducible refine And.intro ?_ ?_); exact sdB) | ((first | ((with_reducible refine askT_of ?_ (fun hb => ?_)); exact sdB; (try simp only [hb])) | ((with_reducible refine Vc.fin ?_); dsimp only [thenK, blockK, retK, resS, resOne, resAll]) | ((with_reducible refine Vc.hold ?_); first | refine Vc.regiont T0_ok GOO_ok ?_ | refine Vc.drawt (id := 6) T0_ok GOO_ok (by kernel_rfl) [0, 1, 2, 3, 4, 5, 6, 7, 8, 9, 10, 11, 12, 13, 14, 15, 16, 17, 18, 19, 20, 21, 22, 23, 24, 25, 26, 27, 28, 29, 30, 31, 32, 33, 34] 35 [] trivial (by kernel_rfl) ?_)); (try simp only [v8Y, Nat.beq, Nat.ble, seval, v8S, IntKind.bits, tabs, GOO_set, d0]); (try simp (disch := omega) only [v8W])) | ((with_reducible refine hN _ _ ?_); clear hN N; (try simp (disch := omega) only [v8W])))); (try ((with_reducible refine Fin.of ?_); (try with_reducible exact True.intro))))
 (refine Vc.cond T0_ok (t := false) (by rfl) (fun h => Bool.noConfusion h) (fun _ => ?_))
 ((repeat (first | (with_reducible first | refine Vc.seq fun N hN => ?_ | refine Vc.block ?_) | ((with_reducible first | refine Vc.skip ?_ | refine Vc.exit ?_); dsimp only [thenK, blockK, Nat.beq]; (first | (refine hN _ _ ?_; clear hN N) | skip)) | (with_reducible intro _) | ((with_reducible refine And.intro ?_ ?_); exact sdB) | ((first | ((with_reducible refine askT_of ?_ (fun hb => ?_)); exact sdB; (try simp only [hb])) | ((with_reducible refine Vc.fin ?_); dsimp only [thenK, blockK, retK, resS, resOne, resAll]) | ((with_reducible refine Vc.hold ?_); first | refine Vc.regiont T0_ok GOO_ok ?_ | refine Vc.drawt (id := 6) T0_ok GOO_ok (by kernel_rfl) [0, 1, 2, 3, 4, 5, 6, 7, 8, 9, 10, 11, 12, 13, 14, 15, 16, 17, 18, 19, 20, 21, 22, 23, 24, 25, 26, 27, 28, 29, 30, 31, 32, 33, 34] 35 [] trivial (by kernel_rfl) ?_)); (try simp only [v8Y, Nat.beq, Nat.ble, seval, v8S, IntKind.bits, tabs, GOO_set, d0]); (try simp (disch := omega) only [v8W])) | ((with_reducible refine hN _ _ ?_); clear hN N; (try simp (disch := omega) only [v8W])))); (try ((with_reducible refine Fin.of ?_); (try with_reducible exact True.intro))))
 (revert N; intro N1 hN1)
 refine Vc.loop 5 55 (fun (k : Nat) => [(5, .int .i64 (k : Nat))]) (fun k => [allOld w]) (fun k => k ≤ n) (fun k => n - k) 0 ⟨Nat.zero_le _, ?_, ?_⟩ (fun k junk hk1 => ?_)
 ·((try simp only [v8Y, Nat.beq, Nat.ble, seval, v8S, IntKind.bits, tabs]); (repeat' with_reducible apply And.intro) <;> first | with_reducible exact True.intro | rfl | with_reducible rfl | (congr 1 <;> omega) | trivial)
 ·((try simp only [v8Y, Nat.beq, Nat.ble, seval, v8S, IntKind.bits, tabs]); (repeat' with_reducible apply And.intro) <;> first | with_reducible exact True.intro | rfl | with_reducible rfl | (congr 1 <;> omega) | trivial)
 ·(simp only [v8Y, Nat.beq, Nat.ble, seval, v8S, IntKind.bits, tabs])
  by_cases hc1 : k < n
  ·have e0 : decide ((k : Int) < (n : Int)) = true := decide_eq_true (by omega)
   have tk : ((k : Nat) : Int).toNat = k := by omega
   have e1 := List.getElem?_eq_getElem (show k < rs1.length by omega)
   have e2 := List.getElem?_eq_getElem (show k < rs2.length by omega)
   have e3 := List.getElem?_eq_getElem (show k < l.length by omega)
   have hp := r3 k _ _ e1 e3
   have hq := s3 k _ _ e2 e3
   have hgd := getD_of e1
   have hgd2 := getD_of e2
   generalize rs1[k] = r at *
   generalize rs2[k] = s at *
   generalize l[k] = p at *
   obtain ⟨x0, x1, x2, x3, pa, pn, pc, rfl, g1, g2, g3, g4, g5, g6, g7, g8⟩ := hp
   obtain ⟨y0, y1, y2, y3, qa, qn, qc, rfl, f1, f2, f3, f4, f5, f6, f7, f8⟩ := hq
   have hB1 : ∀ m, allOld w ∈ m → LiesH (HM m) pa (cc (.ints .u8 p.bs)) := fun m hin => g6.mono (H0.hm hin)
   have hB2 : ∀ m, allOld w ∈ m → LiesH (HM m) qa (cc (.ints .u8 p.bs)) := fun m hin => f6.mono (H0.hm hin)
   have hw : eqW p.w p.w = true := eqW_of rfl
   have hd : (p.d == p.d) = true := by cases p.d <;> rfl
   have t1 : p.bs.take pn = p.bs := List.take_of_length_le (by omega)
   have t2 : p.bs.take qn = p.bs := List.take_of_length_le (by omega)
   have d3 : decide (p.bs = p.bs) = true := decide_eq_true rfl
   ((repeat (first | (with_reducible first | refine Vc.seq fun N hN => ?_ | refine Vc.block ?_) | ((with_reducible first | refine Vc.skip ?_ | refine Vc.exit ?_); dsimp only [thenK, blockK, Nat.beq]; (first | (refine hN _ _ ?_; clear hN N) | skip)) | (with_reducible intro _) | ((with_reducible refine And.intro ?_ ?_); exact sdB) | ((first | ((with_reducible refine askT_of ?_ (fun hb => ?_)); exact sdB; (try simp only [hb])) | ((with_reducible refine Vc.fin ?_); dsimp only [thenK, blockK, retK, resS, resOne, resAll]) | ((with_reducible refine Vc.hold ?_); first | refine Vc.regiont T0_ok GOO_ok ?_ | refine Vc.drawt (id := 6) T0_ok GOO_ok (by kernel_rfl) [0, 1, 2, 3, 4, 5, 6, 7, 8, 9, 10, 11, 12, 13, 14, 15, 16, 17, 18, 19, 20, 21, 22, 23, 24, 25, 26, 27, 28, 29, 30, 31, 32, 33, 34] 35 [] trivial (by kernel_rfl) ?_)); (try simp only [v8Y, Nat.beq, Nat.ble, seval, v8S, IntKind.bits, tabs, GOO_set, e0]); (try simp (disch := omega) only [v8W])) | ((with_reducible refine hN _ _ ?_); clear hN N; (try simp (disch := omega) only [v8W])))); (try ((with_reducible refine Fin.of ?_); (try with_reducible exact True.intro))))
   (refine Vc.cond T0_ok (t := true) (by rfl) (fun _ => ?_) (fun h => Bool.noConfusion h))
   ((repeat (first | (with_reducible first | refine Vc.seq fun N hN => ?_ | refine Vc.block ?_) | ((with_reducible first | refine Vc.skip ?_ | refine Vc.exit ?_); dsimp only [thenK, blockK, Nat.beq]; (first | (refine hN _ _ ?_; clear hN N) | skip)) | (with_reducible intro _) | ((with_reducible refine And.intro ?_ ?_); exact sX34) | ((first | ((with_reducible refine askT_of ?_ (fun hb => ?_)); exact sX34; (try simp only [hb])) | ((with_reducible refine Vc.fin ?_); dsimp only [thenK, blockK, retK, resS, resOne, resAll]) | ((with_reducible refine Vc.hold ?_); first | refine Vc.regiont T0_ok GOO_ok ?_ | refine Vc.drawt (id := 6) T0_ok GOO_ok (by kernel_rfl) [0, 1, 2, 3, 4, 5, 6, 7, 8, 9, 10, 11, 12, 13, 14, 15, 16, 17, 18, 19, 20, 21, 22, 23, 24, 25, 26, 27, 28, 29, 30, 31, 32, 33, 34] 35 [] trivial (by kernel_rfl) ?_)); (try simp only [v8Y, Nat.beq, Nat.ble, seval, v8S, IntKind.bits, tabs, GOO_set, e0, tk, hgd, hgd2, g2, f2, hw, hd, t1, t2, d3, List.drop_zero]); (try simp (disch := omega) only [v8W])) | ((with_reducible refine hN _ _ ?_); clear hN N; (try simp (disch := omega) only [v8W])))); (try ((with_reducible refine Fin.of ?_); (try with_reducible exact True.intro))))
   (refine Vc.cond T0_ok (t := false) (by rfl) (fun h => Bool.noConfusion h) (fun _ => ?_))
   ((repeat (first | (with_reducible first | refine Vc.seq fun N hN => ?_ | refine Vc.block ?_) | ((with_reducible first | refine Vc.skip ?_ | refine Vc.exit ?_); dsimp only [thenK, blockK, Nat.beq]; (first | (refine hN _ _ ?_; clear hN N) | skip)) | (with_reducible intro _) | ((with_reducible refine And.intro ?_ ?_); exact sdB) | ((first | ((with_reducible refine askT_of ?_ (fun hb => ?_)); exact sdB; (try simp only [hb])) | ((with_reducible refine Vc.fin ?_); dsimp only [thenK, blockK, retK, resS, resOne, resAll]) | ((with_reducible refine Vc.hold ?_); first | refine Vc.regiont T0_ok GOO_ok ?_ | refine Vc.drawt (id := 6) T0_ok GOO_ok (by kernel_rfl) [0, 1, 2, 3, 4, 5, 6, 7, 8, 9, 10, 11, 12, 13, 14, 15, 16, 17, 18, 19, 20, 21, 22, 23, 24, 25, 26, 27, 28, 29, 30, 31, 32, 33, 34] 35 [] trivial (by kernel_rfl) ?_)); (try simp only [v8Y, Nat.beq, Nat.ble, seval, v8S, IntKind.bits, tabs, GOO_set, ]); (try simp (disch := omega) only [v8W])) | ((with_reducible refine hN _ _ ?_); clear hN N; (try simp (disch := omega) only [v8W])))); (try ((with_reducible refine Fin.of ?_); (try with_reducible exact True.intro))))
   refine ⟨k + 1, by omega, ?_, ?_, by omega⟩
   ·((try simp only [v8Y, Nat.beq, Nat.ble, seval, v8S, IntKind.bits, tabs]); (repeat' with_reducible apply And.intro) <;> first | with_reducible exact True.intro | rfl | (congr 1 <;> omega))
   ·((try simp only [v8Y, Nat.beq, Nat.ble, seval, v8S, IntKind.bits, tabs]); (repeat' with_reducible apply And.intro) <;> first | with_reducible exact True.intro | rfl | (congr 1 <;> omega))
  ·have e0 : decide ((k : Int) < (n : Int)) = false := decide_eq_false (by omega)
   ((repeat (first | (with_reducible first | refine Vc.seq fun N hN => ?_ | refine Vc.block ?_) | ((with_reducible first | refine Vc.skip ?_ | refine Vc.exit ?_); dsimp only [thenK, blockK, Nat.beq]; (first | (refine hN _ _ ?_; clear hN N) | skip)) | (with_reducible intro _) | ((with_reducible refine And.intro ?_ ?_); exact sdB) | ((first | ((with_reducible refine askT_of ?_ (fun hb => ?_)); exact sdB; (try simp only [hb])) | ((with_reducible refine Vc.fin ?_); dsimp only [thenK, blockK, retK, resS, resOne, resAll]) | ((with_reducible refine Vc.hold ?_); first | refine Vc.regiont T0_ok GOO_ok ?_ | refine Vc.drawt (id := 6) T0_ok GOO_ok (by kernel_rfl) [0, 1, 2, 3, 4, 5, 6, 7, 8, 9, 10, 11, 12, 13, 14, 15, 16, 17, 18, 19, 20, 21, 22, 23, 24, 25, 26, 27, 28, 29, 30, 31, 32, 33, 34] 35 [] trivial (by kernel_rfl) ?_)); (try simp only [v8Y, Nat.beq, Nat.ble, seval, v8S, IntKind.bits, tabs, GOO_set, e0]); (try simp (disch := omega) only [v8W])) | ((with_reducible refine hN _ _ ?_); clear hN N; (try simp (disch := omega) only [v8W])))); (try ((with_reducible refine Fin.of ?_); (try with_reducible exact True.intro))))
   (refine Vc.cond T0_ok (t := false) (by rfl) (fun h => Bool.noConfusion h) (fun _ => ?_))
   ((repeat (first | (with_reducible first | refine Vc.seq fun N hN => ?_ | refine Vc.block ?_) | ((with_reducible first | refine Vc.skip ?_ | refine Vc.exit ?_); dsimp only [thenK, blockK, Nat.beq]; (first | (refine hN _ _ ?_; clear hN N) | skip)) | (with_reducible intro _) | ((with_reducible refine And.intro ?_ ?_); exact sdB) | ((first | ((with_reducible refine askT_of ?_ (fun hb => ?_)); exact sdB; (try simp only [hb])) | ((with_reducible refine Vc.fin ?_); dsimp only [thenK, blockK, retK, resS, resOne, resAll]) | ((with_reducible refine Vc.hold ?_); first | refine Vc.regiont T0_ok GOO_ok ?_ | refine Vc.drawt (id := 6) T0_ok GOO_ok (by kernel_rfl) [0, 1, 2, 3, 4, 5, 6, 7, 8, 9, 10, 11, 12, 13, 14, 15, 16, 17, 18, 19, 20, 21, 22, 23, 24, 25, 26, 27, 28, 29, 30, 31, 32, 33, 34] 35 [] trivial (by kernel_rfl) ?_)); (try simp only [v8Y, Nat.beq, Nat.ble, seval, v8S, IntKind.bits, tabs, GOO_set]); (try simp (disch := omega) only [v8W])) | ((with_reducible refine hN _ _ ?_); clear hN N; (try simp (disch := omega) only [v8W])))); (try ((with_reducible refine Fin.of ?_); (try with_reducible exact True.intro))))
   (refine hN1 _ _ ?_; (try clear hN N); clear hN1 N1)
   ((repeat (first | (with_reducible first | refine Vc.seq fun N hN => ?_ | refine Vc.block ?_) | ((with_reducible first | refine Vc.skip ?_ | refine Vc.exit ?_); dsimp only [thenK, blockK, Nat.beq]; (first | (refine hN _ _ ?_; clear hN N) | skip)) | (with_reducible intro _) | ((with_reducible refine And.intro ?_ ?_); exact sdB) | ((first | ((with_reducible refine askT_of ?_ (fun hb => ?_)); exact sdB; (try simp only [hb])) | ((with_reducible refine Vc.fin ?_); dsimp only [thenK, blockK, retK, resS, resOne, resAll]) | ((with_reducible refine Vc.hold ?_); first | refine Vc.regiont T0_ok GOO_ok ?_ | refine Vc.drawt (id := 6) T0_ok GOO_ok (by kernel_rfl) [0, 1, 2, 3, 4, 5, 6, 7, 8, 9, 10, 11, 12, 13, 14, 15, 16, 17, 18, 19, 20, 21, 22, 23, 24, 25, 26, 27, 28, 29, 30, 31, 32, 33, 34] 35 [] trivial (by kernel_rfl) ?_)); (try simp only [v8Y, Nat.beq, Nat.ble, seval, v8S, IntKind.bits, tabs, GOO_set]); (try simp (disch := omega) only [v8W])) | ((with_reducible refine hN _ _ ?_); clear hN N; (try simp (disch := omega) only [v8W])))); (try ((with_reducible refine Fin.of ?_); (try with_reducible exact True.intro))))
   exact ⟨by simp, trivial⟩
def g_SameP (args : List SV) (m : List Blk) : CR :=
 match args with
 | [s1, s2] => match srcC s1 m, srcC s2 m with
  | some (q1, k1, .rows 6 rs1), some (q2, k2, .rows 6 rs2) => .pure ((q1 ∧ q2) ∧ (∃ l, PsR (HM m) (rs1.map fixR) l ∧ PsR (HM m) (rs2.map fixR) l) ∧ k1 ≤ 1000000) (.bool true)
  | _, _ => .none
 | _ => .none
theorem rows_len {l : List (List SV)} (h : ∀ r ∈ l, r.length = 6) : (cc (.rows 6 l)).length = l.length * 6 := by
 simp only [cc]
 induction l with
 | nil => rfl
 | cons r l ih =>
  rw [List.flatMap_cons, List.length_append, ih (fun r hr => h r (List.mem_cons_of_mem _ hr)), cvs_len, h r List.mem_cons_self, List.length_cons]; omega
theorem g_SameP_ok (w0 : World) (B : List Nat) (args : List SV) (m : List Blk) : CROk Tryd.prog w0 B 23 args m (g_SameP args m) := by
 unfold g_SameP
 split
 ·rename_i s1 s2
  split
  ·rename_i q1 k1 rs1 q2 k2 rs2 hs1 hs2
   intro ⟨⟨g1, g2⟩, ⟨l, hR1, hR2⟩, g3⟩ w hm
   obtain ⟨h1, a, cp, h2, h4, h6, h7⟩ := src_ro hs1 g1 hm
   obtain ⟨j1, b, cq, j2, j4, j6, j7⟩ := src_ro hs2 g2 hm
   have e : cvs [s1, s2] = cvs [.gh a k1 cp (.rows 6 (rs1.map fixR)), .gh b k2 cq (.rows 6 (rs2.map fixR))] := by simp only [cvs]; rw [h2, j2, cv_sl0, cv_sl0]; rfl
   have l1 : l.length = k1 := by
    rw [← cc_fixR, rows_len hR1.2.1, hR1.1] at h1; simp only [conEs] at h1; omega
   have l2 : l.length = k2 := by
    rw [← cc_fixR, rows_len hR2.2.1, hR2.1] at j1; simp only [conEs] at j1; omega
   obtain rfl : k1 = k2 := by omega
   have H1 := lies_of_ro h6
   have H2 := lies_of_ro j6
   rw [← cc_fixR] at H1 H2
   rw [e]
   exact calls_pure Tryd.func23 rfl rfl (sameP_vc a b k1 cp cq _ _ l l1 h4 j4 h7 j7 g3 w H1 H2 (hR1.mono fun b o h => hm.hm h) (hR2.mono fun b o h => hm.hm h))
  ·exact trivial
 ·exact trivial
end Go.Proofs.YthdpgfdfgidokaaDoor
