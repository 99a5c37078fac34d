/-
 Package quaestorlaw17: RulesEach, walked. No condition.
-/
import Derived.Test.YtoadeekdgikghaaDoorJL
set_option maxRecDepth 20000
set_option maxHeartbeats 4000000
set_option linter.defProp false
set_option linter.unusedVariables false
set_option linter.unusedSimpArgs false
namespace Go.Proofs.YtoadeekdgikghaaDoor
open Go.RowKit
theorem rows_chk (E : JE) (L : Nat → List Evt) : ∀ k, rowsOk 3 (chkR E L k) = true
 | 0 => rfl
 | k + 1 => by simp only [chkR]; exact rowsOk_app (rows_chk E L k) (rows_brk _ _ _)
noncomputable def GJM : Ctr := fun f args m => match f with
 | 7 => g_kn args m
 | 6 => g_heavy args m
 | 8 => g_NewA args m
 | 9 => g_Check args m
 | _ => .none
theorem GJM_ok : GOk Tryd.prog GJM := by
 intro w0 B f args m; unfold GJM; split
 ·exact g_kn_ok _ _ _ _
 ·exact g_heavy_ok _ _ _ _
 ·exact g_NewA_ok _ _ _ _
 ·exact g_Check_ok _ _ _ _
 ·exact trivial
theorem GJM_kn : GJM 7 = g_kn := by funext args m; rfl
theorem GJM_heavy : GJM 6 = g_heavy := by funext args m; rfl
theorem GJM_NewA : GJM 8 = g_NewA := by funext args m; rfl
theorem GJM_Check : GJM 9 = g_Check := by funext args m; rfl
def GJM_set := And.intro (And.intro (And.intro (@GJM_kn) (@g_kn.eq_def)) (And.intro (@GJM_heavy) (@g_heavy.eq_def))) (And.intro (And.intro (@GJM_NewA) (@g_NewA.eq_def)) (And.intro (@GJM_Check) (@g_Check.eq_def)))

theorem each_big (ol : List SV) (x : OpD) (ea : Option Addr) (en ec : Nat) (rows : List (List SV)) (es : List EntV) (a1 a2 a3 : Option Addr) (n1 c1 n2 c2 n3 c3 : Nat) (r1 r2 r3 : List (List SV)) (l1 l2 l3 : List Evt) (s0 s1 s2 s3 : Bool) (w : World) (hO : OpR (H0 w) ol x) (hA : EnA (H0 w) ea en ec rows es) (he1 : EvL (H0 w) a1 n1 c1 r1 l1) (he2 : EvL (H0 w) a2 n2 c2 r2 l2) (he3 : EvL (H0 w) a3 n3 c3 r3 l3) (k0 : LiesH (H0 w) (some ⟨0, 0, none⟩) (cc (.ints .u64 kKeys))) (k1 : LiesH (H0 w) (some ⟨1, 0, none⟩) (cc (.ints .u8 kPathI))) (hh : hvy rows r1 = true ∨ hvy [] r2 = true ∨ hvy [] r3 = true) :
  Calls Tryd.prog 5 (cvs [.gh ea en ec (.rows 27 rows), .agg ol, .gh a1 n1 c1 (.rows 32 r1), .gh a2 n2 c2 (.rows 32 r2), .gh a3 n3 c3 (.rows 32 r3), .agg [.bool s0, .bool s1, .bool s2, .bool s3]]).toArray w (Yes w) := by
 have hK0 : ∀ m, allOld w ∈ m → LiesH (HM m) (some ⟨0, 0, none⟩) (cc (.ints .u64 kKeys)) := fun m hin => k0.mono (H0.hm hin)
 have hK1 : ∀ m, allOld w ∈ m → LiesH (HM m) (some ⟨1, 0, none⟩) (cc (.ints .u8 kPathI)) := fun m hin => k1.mono (H0.hm hin)
 have hEn : ∀ m, allOld w ∈ m → ∃ es, EnA (HM m) ea en ec rows es := fun m hin => ⟨es, hA.mono (H0.hm hin)⟩
 have hE1 : ∀ m, allOld w ∈ m → EvL (HM m) a1 n1 c1 r1 l1 := fun m hin => he1.mono (H0.hm hin)
 have hE2 : ∀ m, allOld w ∈ m → EvL (HM m) a2 n2 c2 r2 l2 := fun m hin => he2.mono (H0.hm hin)
 have hE3 : ∀ m, allOld w ∈ m → EvL (HM m) a3 n3 c3 r3 l3 := fun m hin => he3.mono (H0.hm hin)
 have hol : ∀ m, allOld w ∈ m → ∃ x, OpR (HM m) ol x := fun m hin => ⟨x, hO.mono (H0.hm hin)⟩
 have f2 := hO.one
 have f3 := hO.all
 cases d1 : hvy rows r1 <;> cases d2 : hvy [] r2 <;> cases d3 : hvy [] r3 <;> first | (exfalso; rw [d1, d2, d3] at hh; simp at hh; done) | skip
 all_goals
  refine Vc.calls T0_ok Tryd.func5 rfl rfl (args := [.gh ea en ec (.rows 27 rows), .agg ol, .gh a1 n1 c1 (.rows 32 r1), .gh a2 n2 c2 (.rows 32 r2), .gh a3 n3 c3 (.rows 32 r3), .agg [.bool s0, .bool s1, .bool s2, .bool s3]]) (k := 81) rfl (old_start w) ?_; change Vc _ _ (c8 (.gh ea en ec (.rows 27 rows)) (.agg ol) (.gh a1 n1 c1 (.rows 32 r1)) (.gh a2 n2 c2 (.rows 32 r2)) (.gh a3 n3 c3 (.rows 32 r3)) (.agg [.bool s0, .bool s1, .bool s2, .bool s3]) .undef .undef (c8 .undef .undef .undef .undef .undef .undef .undef .undef (c8 .undef .undef .undef .undef .undef .undef .undef .undef (c8 .undef .undef .undef .undef .undef .undef .undef .undef (c8 .undef .undef .undef .undef .undef .undef .undef .undef (c8 .undef .undef .undef .undef .undef .undef .undef .undef (c8 .undef .undef .undef .undef .undef .undef .undef .undef (c8 .undef .undef .undef .undef .undef .undef .undef .undef (c8 .undef .undef .undef .undef .undef .undef .undef .undef (c8 .undef .undef .undef .undef .undef .undef .undef .undef ([.undef, .undef, .undef, .undef, .undef, .undef, .undef]))))))))))) _ _
  ((repeat (first | (with_reducible refine Vc.seq fun N hN => ?_) | (with_reducible intro _) | ((with_reducible refine And.intro ?_ ?_); exact sX4) | ((first | ((with_reducible refine Vc.hold ?_); first | refine Vc.regiont T0_ok GJM_ok ?_)); (try simp only [v8Y, Nat.beq, Nat.ble, seval, tabs, GJM_set, d1, d2, d3, f2, f3, Bool.not_true])) | ((with_reducible refine hN _ _ ?_); clear hN N))))
  (refine Vc.cond T0_ok (t := true) (by rfl) (fun _ => ?_) (fun h => Bool.noConfusion h))
  ((repeat (first | (with_reducible refine Vc.seq fun N hN => ?_) | ((with_reducible refine And.intro ?_ ?_); exact sX4) | ((first | ((with_reducible refine Vc.fin ?_); dsimp only [thenK, blockK, retK, resS, resOne, resAll]) | ((with_reducible refine Vc.hold ?_); first | refine Vc.regiont T0_ok GJM_ok ?_)); (try simp only [v8Y, Nat.beq, Nat.ble, seval, tabs, GJM_set, ])) | ((with_reducible refine hN _ _ ?_); clear hN N))); (try ((with_reducible refine Fin.of ?_); (try with_reducible exact True.intro))))
  exact ⟨by simp, trivial⟩
set_option maxRecDepth 40000 in
theorem each_small (ol : List SV) (x : OpD) (ea : Option Addr) (en ec : Nat) (rows : List (List SV)) (es : List EntV) (a1 a2 a3 : Option Addr) (n1 c1 n2 c2 n3 c3 : Nat) (r1 r2 r3 : List (List SV)) (l1 l2 l3 : List Evt) (s0 s1 s2 s3 : Bool) (w : World) (hO : OpR (H0 w) ol x) (hA : EnA (H0 w) ea en ec rows es) (he1 : EvL (H0 w) a1 n1 c1 r1 l1) (he2 : EvL (H0 w) a2 n2 c2 r2 l2) (he3 : EvL (H0 w) a3 n3 c3 r3 l3) (k0 : LiesH (H0 w) (some ⟨0, 0, none⟩) (cc (.ints .u64 kKeys))) (k1 : LiesH (H0 w) (some ⟨1, 0, none⟩) (cc (.ints .u8 kPathI))) (d1 : hvy rows r1 = false) (d2 : hvy [] r2 = false) (d3 : hvy [] r3 = false) :
  Calls Tryd.prog 5 (cvs [.gh ea en ec (.rows 27 rows), .agg ol, .gh a1 n1 c1 (.rows 32 r1), .gh a2 n2 c2 (.rows 32 r2), .gh a3 n3 c3 (.rows 32 r3), .agg [.bool s0, .bool s1, .bool s2, .bool s3]]).toArray w (Yes w) := by
 have hK0 : ∀ m, allOld w ∈ m → LiesH (HM m) (some ⟨0, 0, none⟩) (cc (.ints .u64 kKeys)) := fun m hin => k0.mono (H0.hm hin)
 have hK1 : ∀ m, allOld w ∈ m → LiesH (HM m) (some ⟨1, 0, none⟩) (cc (.ints .u8 kPathI)) := fun m hin => k1.mono (H0.hm hin)
 have hEn : ∀ m, allOld w ∈ m → ∃ es, EnA (HM m) ea en ec rows es := fun m hin => ⟨es, hA.mono (H0.hm hin)⟩
 have hE1 : ∀ m, allOld w ∈ m → EvL (HM m) a1 n1 c1 r1 l1 := fun m hin => he1.mono (H0.hm hin)
 have hE2 : ∀ m, allOld w ∈ m → EvL (HM m) a2 n2 c2 r2 l2 := fun m hin => he2.mono (H0.hm hin)
 have hE3 : ∀ m, allOld w ∈ m → EvL (HM m) a3 n3 c3 r3 l3 := fun m hin => he3.mono (H0.hm hin)
 have hol : ∀ m, allOld w ∈ m → ∃ x, OpR (HM m) ol x := fun m hin => ⟨x, hO.mono (H0.hm hin)⟩
 have f2 := hO.one
 have f3 := hO.all
 obtain ⟨hn0, hl1, hz⟩ := hvy_no d1 hA he1.rows
 obtain ⟨_, hl2, _⟩ := hvy_no d2 (EnA_nil (H0 w)) he2.rows
 obtain ⟨_, hl3, _⟩ := hvy_no d3 (EnA_nil (H0 w)) he3.rows
 have hNw : ∀ m, allOld w ∈ m → ∃ es : List EntV, rows = es.map entL ∧ es.length = en ∧ en ≤ ec ∧ adr ea en ec ∧ en ≤ 1000000 ∧ (∀ z ∈ es, EntOk z ∧ EntLies (HM m) z) ∧ (∀ z ∈ es, z.c.length ≤ 1000000) ∧ LiesH (HM m) ea (cc (.rows 27 rows)) := fun m hin => by
  have hB := hA.mono (H0.hm hin)
  exact ⟨es, hB.1, hB.2.1, hB.2.2.1, hB.2.2.2.2.1, by omega, fun z hz' => ⟨(hz z hz').1, (hB.2.2.2.2.2.2 z hz').2⟩, fun z hz' => (hz z hz').2, hB.2.2.2.2.2.1⟩
 have hop := opOf_eq hO
 have v1 := evOf_eq he1.rows
 have v2 := evOf_eq he2.rows
 have v3 := evOf_eq he3.rows
 have hn1 : n1 ≤ 300 := by have := he1.len; omega
 have hn2 : n2 ≤ 300 := by have := he2.len; omega
 have hn3 : n3 ≤ 300 := by have := he3.len; omega
 refine Vc.calls T0_ok Tryd.func5 rfl rfl (args := [.gh ea en ec (.rows 27 rows), .agg ol, .gh a1 n1 c1 (.rows 32 r1), .gh a2 n2 c2 (.rows 32 r2), .gh a3 n3 c3 (.rows 32 r3), .agg [.bool s0, .bool s1, .bool s2, .bool s3]]) (k := 81) rfl (old_start w) ?_; change Vc _ _ (c8 (.gh ea en ec (.rows 27 rows)) (.agg ol) (.gh a1 n1 c1 (.rows 32 r1)) (.gh a2 n2 c2 (.rows 32 r2)) (.gh a3 n3 c3 (.rows 32 r3)) (.agg [.bool s0, .bool s1, .bool s2, .bool s3]) .undef .undef (c8 .undef .undef .undef .undef .undef .undef .undef .undef (c8 .undef .undef .undef .undef .undef .undef .undef .undef (c8 .undef .undef .undef .undef .undef .undef .undef .undef (c8 .undef .undef .undef .undef .undef .undef .undef .undef (c8 .undef .undef .undef .undef .undef .undef .undef .undef (c8 .undef .undef .undef .undef .undef .undef .undef .undef (c8 .undef .undef .undef .undef .undef .undef .undef .undef (c8 .undef .undef .undef .undef .undef .undef .undef .undef (c8 .undef .undef .undef .undef .undef .undef .undef .undef ([.undef, .undef, .undef, .undef, .undef, .undef, .undef]))))))))))) _ _
 ((repeat (first | (with_reducible refine Vc.seq fun N hN => ?_) | (with_reducible intro _) | ((with_reducible refine And.intro ?_ ?_); exact sX4) | ((first | ((with_reducible refine Vc.hold ?_); first | refine Vc.regiont T0_ok GJM_ok ?_)); (try simp only [v8Y, Nat.beq, Nat.ble, seval, tabs, GJM_set, d1, d2, d3, f2, f3, Bool.not_true])) | ((with_reducible refine hN _ _ ?_); clear hN N))))
 (refine Vc.cond T0_ok (t := false) (by rfl) (fun h => Bool.noConfusion h) (fun _ => ?_))
 (refine Vc.skip ?_; dsimp only [thenK, blockK, Nat.beq]; refine hN _ _ ?_; clear hN N)
 ((with_reducible refine Vc.seq fun N hN => ?_); (refine Vc.regiont T0_ok GJM_ok ?_); simp only [v8Y, Nat.beq, Nat.ble, seval, tabs, GJM_set]; (try simp (disch := omega) only [v8W]); (repeat (first | with_reducible intro _ | ((with_reducible refine And.intro ?_ ?_); exact sX4))); (first | (refine hN _ _ ?_; clear hN N; (try simp (disch := omega) only [v8W])) | skip))
 rename_i X hX
 ((with_reducible refine Vc.seq fun N hN => ?_); (refine Vc.regiont T0_ok GJM_ok ?_); simp only [v8Y, Nat.beq, Nat.ble, seval, tabs, GJM_set, hop, f3, evA.eq_def, v1, v2, v3]; (try simp (disch := omega) only [v8W]); (repeat (first | with_reducible intro _ | ((with_reducible refine And.intro ?_ ?_); exact sX4))); (first | (refine hN _ _ ?_; clear hN N; (try simp (disch := omega) only [v8W])) | skip))
 obtain ⟨E, hEE⟩ : ∃ E, chkE x (stkF s0 s1 s2 s3) X.2.acc = E := ⟨_, rfl⟩
 obtain ⟨A1, hA1⟩ : ∃ A, chkR E (lsF l1 [] []) 3 = A := ⟨_, rfl⟩
 obtain ⟨A2, hA2⟩ : ∃ A, chkR E (lsF [] l2 []) 3 = A := ⟨_, rfl⟩
 obtain ⟨A3, hA3⟩ : ∃ A, chkR E (lsF [] [] l3) 3 = A := ⟨_, rfl⟩
 obtain ⟨C, hC⟩ : ∃ C, chkR E (lsF l1 l2 l3) 3 = C := ⟨_, rfl⟩
 have hCC : C = A1 ++ A2 ++ A3 := by rw [← hC, chk_each, hA1, hA2, hA3]
 have hb1 : A1.length ≤ 24000000 := by rw [← hA1]; exact chkR_len E _ (fun i hi => by rcases hi with rfl | rfl | rfl <;> simp only [lsF, List.length_nil] <;> omega) 3 (Nat.le_refl _)
 have hb2 : A2.length ≤ 24000000 := by rw [← hA2]; exact chkR_len E _ (fun i hi => by rcases hi with rfl | rfl | rfl <;> simp only [lsF, List.length_nil] <;> omega) 3 (Nat.le_refl _)
 have hb3 : A3.length ≤ 24000000 := by rw [← hA3]; exact chkR_len E _ (fun i hi => by rcases hi with rfl | rfl | rfl <;> simp only [lsF, List.length_nil] <;> omega) 3 (Nat.le_refl _)
 have o1 : rowsOk 3 A1 = true := hA1 ▸ rows_chk E _ 3
 have o2 : rowsOk 3 A2 = true := hA2 ▸ rows_chk E _ 3
 have o3 : rowsOk 3 A3 = true := hA3 ▸ rows_chk E _ 3
 have g1 : A1.take A1.length = A1 := List.take_length
 have g2 : A2.take A2.length = A2 := List.take_length
 have g3 : A3.take A3.length = A3 := List.take_length
 have hcl : A1.length + A2.length + A3.length = C.length := by rw [hCC, List.length_append, List.length_append]
 simp only [hEE, hC]
 ((with_reducible refine Vc.seq fun N hN => ?_); (refine Vc.regiont T0_ok GJM_ok ?_); simp only [v8Y, Nat.beq, Nat.ble, seval, tabs, GJM_set]; (try simp (disch := omega) only [v8W]); (repeat (first | with_reducible intro _ | ((with_reducible refine And.intro ?_ ?_); exact sX4))); (first | (refine hN _ _ ?_; clear hN N; (try simp (disch := omega) only [v8W])) | skip))
 refine Vc.nilownJ 15 41 3 rfl ?_
 (simp only [v8Y, Nat.beq, Nat.ble, seval, tabs])
 ((with_reducible refine Vc.seq fun N hN => ?_); (refine Vc.regiont T0_ok GJM_ok ?_); simp only [v8Y, Nat.beq, Nat.ble, seval, tabs, GJM_set, hop, f3, evA.eq_def, v1, v2, v3, hEE, hA1, o1, g1, List.drop_zero, List.nil_append, Nat.zero_add]; (try simp (disch := omega) only [v8W]); (repeat (first | with_reducible intro _ | ((with_reducible refine And.intro ?_ ?_); exact sX4))); (first | (refine hN _ _ ?_; clear hN N; (try simp (disch := omega) only [v8W])) | skip))
 ((with_reducible refine Vc.seq fun N hN => ?_); (refine Vc.regiont T0_ok GJM_ok ?_); simp only [v8Y, Nat.beq, Nat.ble, seval, tabs, GJM_set, hop, f3, evA.eq_def, v1, v2, v3, hEE, hA2, o2, g2, List.drop_zero]; (try simp (disch := omega) only [v8W]); (repeat (first | with_reducible intro _ | ((with_reducible refine And.intro ?_ ?_); exact sX4))); (first | (refine hN _ _ ?_; clear hN N; (try simp (disch := omega) only [v8W])) | skip))
 ((with_reducible refine Vc.seq fun N hN => ?_); (refine Vc.regiont T0_ok GJM_ok ?_); simp only [v8Y, Nat.beq, Nat.ble, seval, tabs, GJM_set, hop, f3, evA.eq_def, v1, v2, v3, hEE, hA3, o3, g3, List.drop_zero]; (try simp (disch := omega) only [v8W]); (repeat (first | with_reducible intro _ | ((with_reducible refine And.intro ?_ ?_); exact sX4))); (first | (refine hN _ _ ?_; clear hN N; (try simp (disch := omega) only [v8W])) | skip))
 simp only [← hCC, hcl]
 rename_i B1 B2 _ V6 V5 V4 V3 V2 V1 V0
 have hlb : C.length ≤ 72000000 := by omega
 have dn : decide ((C.length : Int) = (C.length : Int)) = true := decide_eq_true rfl
 have hfm : ∀ r ∈ C, bfm r := fun r hr => chk_form E (lsF l1 l2 l3) (fun i => by unfold lsF; split <;> first | omega | simp) 3 (Nat.le_refl _) r (hC.symm ▸ hr)
 have hC3 : ∀ r ∈ C, r.length = 3 := fun r hr => by obtain ⟨_, _, _, rfl, _⟩ := hfm r hr; rfl
 clear hEE hA1 hA2 hA3 hC hCC hcl g1 g2 g3 o1 o2 o3
 ((repeat (first | (with_reducible refine Vc.seq fun N hN => ?_) | ((with_reducible refine And.intro ?_ ?_); exact sX4) | ((first | ((with_reducible refine Vc.hold ?_); first | refine Vc.regiont T0_ok GJM_ok ?_)); (try simp only [v8Y, Nat.beq, Nat.ble, seval, tabs, GJM_set, dn, Bool.not_true])) | ((with_reducible refine hN _ _ ?_); clear hN N))))
 (refine Vc.cond T0_ok (t := false) (by rfl) (fun h => Bool.noConfusion h) (fun _ => ?_))
 (refine Vc.skip ?_; dsimp only [thenK, blockK, Nat.beq]; refine hN _ _ ?_; clear hN N)
 ((repeat (first | (with_reducible first | refine Vc.seq fun N hN => ?_ | refine Vc.block ?_) | ((with_reducible refine And.intro ?_ ?_); exact sX4) | ((first | ((with_reducible refine Vc.hold ?_); first | refine Vc.regiont T0_ok GJM_ok ?_)); (try simp only [v8Y, Nat.beq, Nat.ble, seval, tabs, GJM_set, ])) | ((with_reducible refine hN _ _ ?_); clear hN N))))
 (revert N; intro N1 hN1)
 refine Vc.loop 16 87 (fun (k : Nat) => [(16, .int .i64 (k : Nat))]) (fun k => [allOld w, .blk B1 30 (.cells ol), .blk B2 32 (.cells [.bool s0, .bool s1, .bool s2, .bool s3]), .wd τ0 X.1.1 X.2 X.1.2, .own V6 C.length 41 3 (.rows 3 C), .own V0 C.length 41 3 (.rows 3 C)]) (fun k => k ≤ C.length) (fun k => C.length - k) 0 ⟨Nat.zero_le _, ?_, ?_⟩ (fun k junk hk => ?_)
 ·((try simp only [v8Y, Nat.beq, Nat.ble, seval, tabs]); (repeat' with_reducible apply And.intro) <;> first | with_reducible exact True.intro | rfl | with_reducible rfl | (congr 1 <;> omega) | trivial)
 ·((try simp only [v8Y, Nat.beq, Nat.ble, seval, tabs]); (repeat' with_reducible apply And.intro) <;> first | with_reducible exact True.intro | rfl | with_reducible rfl | (congr 1 <;> omega) | trivial)
 ·(simp only [v8Y, Nat.beq, Nat.ble, seval, tabs])
  by_cases hc1 : k < C.length
  ·have dk : decide ((k : Int) < (C.length : Int)) = true := decide_eq_true (by omega)
   have e1 := List.getElem?_eq_getElem hc1
   have hgd := getD_of e1
   have hfk := hfm _ (List.getElem_mem hc1)
   have tk : ((k : Nat) : Int).toNat = k := by omega
   generalize C[k] = r at *
   obtain ⟨b0, b1, b2, rfl, j0, j1, j2⟩ := hfk
   have e3 : eqL [.int .u8 b0, .int .u8 b1, .int .i64 b2] [.int .u8 b0, .int .u8 b1, .int .i64 b2] = true := by simp [eqL]
   ((repeat (first | (with_reducible refine Vc.seq fun N hN => ?_) | ((with_reducible refine And.intro ?_ ?_); exact sX4) | ((first | ((with_reducible refine Vc.hold ?_); first | refine Vc.regiont T0_ok GJM_ok ?_)); (try simp only [v8Y, Nat.beq, Nat.ble, seval, tabs, GJM_set, dk])) | ((with_reducible refine hN _ _ ?_); clear hN N))))
   (refine Vc.cond T0_ok (t := true) (by rfl) (fun _ => ?_) (fun h => Bool.noConfusion h))
   (refine Vc.skip ?_; dsimp only [thenK, blockK, Nat.beq]; refine hN _ _ ?_; clear hN N)
   ((repeat (first | (with_reducible first | refine Vc.seq fun N hN => ?_ | refine Vc.block ?_) | ((with_reducible refine And.intro ?_ ?_); exact sX4) | ((first | ((with_reducible refine Vc.hold ?_); first | refine Vc.drawt (id := 14) T0_ok GJM_ok (by kernel_rfl) [0, 1, 2, 3, 4, 5, 6, 7] 8 [] trivial (by kernel_rfl) ?_)); (try simp only [v8Y, Nat.beq, Nat.ble, seval, tabs, GJM_set, tk, hgd, e3, Bool.not_true])) | ((with_reducible refine hN _ _ ?_); clear hN N))))
   (refine Vc.cond T0_ok (t := false) (by rfl) (fun h => Bool.noConfusion h) (fun _ => ?_))
   ((repeat (first | (with_reducible refine Vc.seq fun N hN => ?_) | ((first | with_reducible refine Vc.skip ?_); dsimp only [thenK, blockK, Nat.beq]; (first | (refine hN _ _ ?_; clear hN N))) | ((with_reducible refine And.intro ?_ ?_); exact sX4) | ((first | ((with_reducible refine Vc.fin ?_); dsimp only [thenK, blockK, retK, resS, resOne, resAll]) | ((with_reducible refine Vc.hold ?_); first | refine Vc.regiont T0_ok GJM_ok ?_)); (try simp only [v8Y, Nat.beq, Nat.ble, seval, tabs, GJM_set, ])) | ((with_reducible refine hN _ _ ?_); clear hN N))); (try ((with_reducible refine Fin.of ?_); (try with_reducible exact True.intro))))
   refine ⟨k + 1, by omega, ?_, ?_, by omega⟩
   ·((try simp only [v8Y, Nat.beq, Nat.ble, seval, tabs]); (repeat' with_reducible apply And.intro) <;> first | with_reducible exact True.intro | rfl | with_reducible rfl | (congr 1 <;> omega) | trivial)
   ·((try simp only [v8Y, Nat.beq, Nat.ble, seval, tabs]); (repeat' with_reducible apply And.intro) <;> first | with_reducible exact True.intro | rfl | with_reducible rfl | (congr 1 <;> omega) | trivial)
  ·have dk : decide ((k : Int) < (C.length : Int)) = false := decide_eq_false (by omega)
   ((repeat (first | (with_reducible refine Vc.seq fun N hN => ?_) | ((with_reducible refine And.intro ?_ ?_); exact sX4) | ((first | ((with_reducible refine Vc.hold ?_); first | refine Vc.regiont T0_ok GJM_ok ?_)); (try simp only [v8Y, Nat.beq, Nat.ble, seval, tabs, GJM_set, dk])) | ((with_reducible refine hN _ _ ?_); clear hN N))))
   (refine Vc.cond T0_ok (t := false) (by rfl) (fun h => Bool.noConfusion h) (fun _ => ?_))
   (refine Vc.exit ?_; dsimp only [thenK, blockK, Nat.beq])
   (refine hN1 _ _ ?_; (try clear hN N); clear hN1 N1)
   ((repeat (first | (with_reducible refine Vc.seq fun N hN => ?_) | ((first | with_reducible refine Vc.skip ?_); dsimp only [thenK, blockK, Nat.beq]; (first | (refine hN _ _ ?_; clear hN N))) | ((with_reducible refine And.intro ?_ ?_); exact sX4) | ((first | ((with_reducible refine Vc.fin ?_); dsimp only [thenK, blockK, retK, resS, resOne, resAll]) | ((with_reducible refine Vc.hold ?_); first | refine Vc.regiont T0_ok GJM_ok ?_)); (try simp only [v8Y, Nat.beq, Nat.ble, seval, tabs, GJM_set, ])) | ((with_reducible refine hN _ _ ?_); clear hN N))); (try ((with_reducible refine Fin.of ?_); (try with_reducible exact True.intro))))
   exact ⟨by simp, trivial⟩
end Go.Proofs.YtoadeekdgikghaaDoor
