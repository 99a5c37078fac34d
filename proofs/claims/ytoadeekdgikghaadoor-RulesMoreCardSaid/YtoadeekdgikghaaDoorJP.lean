/-
 Package quaestorlaw17: RulesMore, walked. No condition.
-/
import Derived.Test.YtoadeekdgikghaaDoorJO
set_option maxRecDepth 20000
set_option maxHeartbeats 4000000
set_option linter.defProp false
set_option linter.unusedVariables false
set_option linter.unusedSimpArgs false
namespace Go.Proofs.YtoadeekdgikghaaDoor
open Go.RowKit
noncomputable def T2 : Tab := { T0 with zc := fun t => if t = 35 then some (.cells [.nilsl, .nilsl, .nilsl, .nilsl]) else if t = 32 then some (.cells [.bool false, .bool false, .bool false, .bool false]) else T0.zc t }
theorem T2_zc : T2.zc 35 = some (.cells [.nilsl, .nilsl, .nilsl, .nilsl]) := rfl
theorem T2_zb : T2.zc 32 = some (.cells [.bool false, .bool false, .bool false, .bool false]) := rfl
theorem T2_ty : T2.ty = T0.ty := rfl
theorem T2_gl : T2.gl = T0.gl := rfl
theorem T2_zr : T2.zr = T0.zr := rfl
theorem T2_lv : T2.lv = T0.lv := rfl
theorem T2_zcs : ∀ t c, T2.zc t = some c → ∃ i z, Tryd.prog.info? t = some i ∧ i.zero = some z ∧ z.cells = (cc c).toArray := fun t c h => by
 by_cases ht : t = 35
 ·subst ht
  rw [T2_zc] at h
  obtain rfl := Option.some.inj h
  exact zc_mk (by kernel_rfl)
 ·by_cases hb : t = 32
  ·subst hb
   rw [T2_zb] at h
   obtain rfl := Option.some.inj h
   exact zc_mk (by kernel_rfl)
  ·have h2 : T2.zc t = T0.zc t := (if_neg ht).trans (if_neg hb)
   rw [h2] at h
   exact T0_ok.zc t c h
theorem T2_ok : TabOk Tryd.prog T2 := { b8 := T0_ok.b8, sz := T0_ok.sz, ty := T0_ok.ty, gl := T0_ok.gl, zr := T0_ok.zr, lv := T0_ok.lv, zc := T2_zcs }
noncomputable def GJP : Ctr := fun f args m => match f with
 | 7 => g_kn args m
 | 6 => g_heavy args m
 | 8 => g_NewA args m
 | 9 => g_Check args m
 | _ => .none
theorem GJP_ok : GOk Tryd.prog GJP := by
 intro w0 B f args m; unfold GJP; split
 ·exact g_kn_ok _ _ _ _
 ·exact g_heavy_ok _ _ _ _
 ·exact g_NewA_ok _ _ _ _
 ·exact g_Check_ok _ _ _ _
 ·exact trivial
theorem GJP_kn : GJP 7 = g_kn := by funext args m; rfl
theorem GJP_heavy : GJP 6 = g_heavy := by funext args m; rfl
theorem GJP_NewA : GJP 8 = g_NewA := by funext args m; rfl
theorem GJP_Check : GJP 9 = g_Check := by funext args m; rfl
def GJP_set := And.intro (And.intro (And.intro (@GJP_kn) (@g_kn.eq_def)) (And.intro (@GJP_heavy) (@g_heavy.eq_def))) (And.intro (And.intro (@GJP_NewA) (@g_NewA.eq_def)) (And.intro (@GJP_Check) (@g_Check.eq_def)))

theorem more_big (ol : List SV) (x : OpD) (ea : Option Addr) (en ec : Nat) (rows : List (List SV)) (es : List EntV) (a1 : Option Addr) (n1 c1 : Nat) (r1 : List (List SV)) (l1 : List Evt) (s0 s1 s2 s3 : Bool) (role : Int) (w : World) (hr : 0 ≤ role ∧ role ≤ 255) (hO : OpR (H0 w) ol x) (hA : EnA (H0 w) ea en ec rows es) (he1 : EvL (H0 w) a1 n1 c1 r1 l1) (k0 : LiesH (H0 w) (some ⟨0, 0, none⟩) (cc (.ints .u64 kKeys))) (k1 : LiesH (H0 w) (some ⟨1, 0, none⟩) (cc (.ints .u8 kPathI))) (d1 : hvy rows r1 = true) :
  Calls Tryd.prog 3 (cvs [.gh ea en ec (.rows 27 rows), .agg ol, .gh a1 n1 c1 (.rows 32 r1), .agg [.bool s0, .bool s1, .bool s2, .bool s3], .int .u8 role]).toArray w (Yes w) := by
 have hK0 : ∀ m, allOld w ∈ m → LiesH (HM m) (some ⟨0, 0, none⟩) (cc (.ints .u64 kKeys)) := fun m hin => k0.mono (H0.hm hin)
 have hK1 : ∀ m, allOld w ∈ m → LiesH (HM m) (some ⟨1, 0, none⟩) (cc (.ints .u8 kPathI)) := fun m hin => k1.mono (H0.hm hin)
 have hEn : ∀ m, allOld w ∈ m → ∃ es, EnA (HM m) ea en ec rows es := fun m hin => ⟨es, hA.mono (H0.hm hin)⟩
 have hE1 : ∀ m, allOld w ∈ m → EvL (HM m) a1 n1 c1 r1 l1 := fun m hin => he1.mono (H0.hm hin)
 have hol : ∀ m, allOld w ∈ m → ∃ x, OpR (HM m) ol x := fun m hin => ⟨x, hO.mono (H0.hm hin)⟩
 have f2 := hO.one
 have f3 := hO.all
 refine Vc.calls T0_ok Tryd.func3 rfl rfl (args := [.gh ea en ec (.rows 27 rows), .agg ol, .gh a1 n1 c1 (.rows 32 r1), .agg [.bool s0, .bool s1, .bool s2, .bool s3], .int .u8 role]) (k := 81) rfl (old_start w) ?_; change Vc _ _ (c8 (.gh ea en ec (.rows 27 rows)) (.agg ol) (.gh a1 n1 c1 (.rows 32 r1)) (.agg [.bool s0, .bool s1, .bool s2, .bool s3]) (.int .u8 role) .undef .undef .undef (c8 .undef .undef .undef .undef .undef .undef .undef .undef (c8 .undef .undef .undef .undef .undef .undef .undef .undef (c8 .undef .undef .undef .undef .undef .undef .undef .undef (c8 .undef .undef .undef .undef .undef .undef .undef .undef (c8 .undef .undef .undef .undef .undef .undef .undef .undef (c8 .undef .undef .undef .undef .undef .undef .undef .undef (c8 .undef .undef .undef .undef .undef .undef .undef .undef (c8 .undef .undef .undef .undef .undef .undef .undef .undef (c8 .undef .undef .undef .undef .undef .undef .undef .undef ([.undef, .undef, .undef, .undef, .undef, .undef]))))))))))) _ _
 ((repeat (first | (with_reducible refine Vc.seq fun N hN => ?_) | (with_reducible intro _) | ((with_reducible refine And.intro ?_ ?_); exact sX1) | ((first | ((with_reducible refine Vc.hold ?_); first | refine Vc.regiont T0_ok GJP_ok ?_)); (try simp only [v8Y, Nat.beq, Nat.ble, seval, tabs, GJP_set, d1, f2, f3, Bool.not_true])) | ((with_reducible refine hN _ _ ?_); clear hN N))))
 (refine Vc.cond T0_ok (t := true) (by rfl) (fun _ => ?_) (fun h => Bool.noConfusion h))
 ((repeat (first | (with_reducible refine Vc.seq fun N hN => ?_) | ((with_reducible refine And.intro ?_ ?_); exact sX1) | ((first | ((with_reducible refine Vc.fin ?_); dsimp only [thenK, blockK, retK, resS, resOne, resAll]) | ((with_reducible refine Vc.hold ?_); first | refine Vc.regiont T0_ok GJP_ok ?_)); (try simp only [v8Y, Nat.beq, Nat.ble, seval, tabs, GJP_set, ])) | ((with_reducible refine hN _ _ ?_); clear hN N))); (try ((with_reducible refine Fin.of ?_); (try with_reducible exact True.intro))))
 exact ⟨by simp, trivial⟩
set_option maxRecDepth 40000 in
theorem more_small (ol : List SV) (x : OpD) (ea : Option Addr) (en ec : Nat) (rows : List (List SV)) (es : List EntV) (a1 : Option Addr) (n1 c1 : Nat) (r1 : List (List SV)) (l1 : List Evt) (s0 s1 s2 s3 : Bool) (role : Int) (w : World) (hr : 0 ≤ role ∧ role ≤ 255) (hO : OpR (H0 w) ol x) (hA : EnA (H0 w) ea en ec rows es) (he1 : EvL (H0 w) a1 n1 c1 r1 l1) (k0 : LiesH (H0 w) (some ⟨0, 0, none⟩) (cc (.ints .u64 kKeys))) (k1 : LiesH (H0 w) (some ⟨1, 0, none⟩) (cc (.ints .u8 kPathI))) (d1 : hvy rows r1 = false) :
  Calls Tryd.prog 3 (cvs [.gh ea en ec (.rows 27 rows), .agg ol, .gh a1 n1 c1 (.rows 32 r1), .agg [.bool s0, .bool s1, .bool s2, .bool s3], .int .u8 role]).toArray w (Yes w) := by
 have hK0 : ∀ m, allOld w ∈ m → LiesH (HM m) (some ⟨0, 0, none⟩) (cc (.ints .u64 kKeys)) := fun m hin => k0.mono (H0.hm hin)
 have hK1 : ∀ m, allOld w ∈ m → LiesH (HM m) (some ⟨1, 0, none⟩) (cc (.ints .u8 kPathI)) := fun m hin => k1.mono (H0.hm hin)
 have hEn : ∀ m, allOld w ∈ m → ∃ es, EnA (HM m) ea en ec rows es := fun m hin => ⟨es, hA.mono (H0.hm hin)⟩
 have hE1 : ∀ m, allOld w ∈ m → EvL (HM m) a1 n1 c1 r1 l1 := fun m hin => he1.mono (H0.hm hin)
 have hol : ∀ m, allOld w ∈ m → ∃ x, OpR (HM m) ol x := fun m hin => ⟨x, hO.mono (H0.hm hin)⟩
 have f2 := hO.one
 have f3 := hO.all
 obtain ⟨hn0, hl1, hz⟩ := hvy_no d1 hA he1.rows
 have hNw : ∀ m, allOld w ∈ m → ∃ es : List EntV, rows = es.map entL ∧ es.length = en ∧ en ≤ ec ∧ adr ea en ec ∧ en ≤ 1000000 ∧ (∀ z ∈ es, EntOk z ∧ EntLies (HM m) z) ∧ (∀ z ∈ es, z.c.length ≤ 1000000) ∧ LiesH (HM m) ea (cc (.rows 27 rows)) := fun m hin => by
  have hB := hA.mono (H0.hm hin)
  exact ⟨es, hB.1, hB.2.1, hB.2.2.1, hB.2.2.2.2.1, by omega, fun z hz' => ⟨(hz z hz').1, (hB.2.2.2.2.2.2 z hz').2⟩, fun z hz' => (hz z hz').2, hB.2.2.2.2.2.1⟩
 have hop := opOf_eq hO
 have v1 := evOf_eq he1.rows
 have hn1 : n1 ≤ 300 := by have := he1.len; omega
 have hq3 : ∃ (q : Int) (C4 : List SV) (L : Nat → List Evt), role % 3 + 1 = q ∧ ((q = 1 ∧ [.nilsl, .gh a1 n1 c1 (.rows 32 r1), .nilsl, .nilsl] = C4 ∧ lsF l1 [] [] = L) ∨ (q = 2 ∧ [.nilsl, .nilsl, .gh a1 n1 c1 (.rows 32 r1), .nilsl] = C4 ∧ lsF [] l1 [] = L) ∨ (q = 3 ∧ [.nilsl, .nilsl, .nilsl, .gh a1 n1 c1 (.rows 32 r1)] = C4 ∧ lsF [] [] l1 = L)) := by
  rcases (show role % 3 = 0 ∨ role % 3 = 1 ∨ role % 3 = 2 by omega) with h | h | h
  ·exact ⟨1, _, _, by omega, .inl ⟨rfl, rfl, rfl⟩⟩
  ·exact ⟨2, _, _, by omega, .inr (.inl ⟨rfl, rfl, rfl⟩)⟩
  ·exact ⟨3, _, _, by omega, .inr (.inr ⟨rfl, rfl, rfl⟩)⟩
 obtain ⟨q, C4, L, hq, hq3⟩ := hq3
 have hLl : ∀ i, (L i).length ≤ 1000000 := fun i => by
  rcases hq3 with ⟨_, _, rfl⟩ | ⟨_, _, rfl⟩ | ⟨_, _, rfl⟩ <;> unfold lsF <;> split <;> first | omega | simp
 rcases hq3 with ⟨rfl, h4, hL⟩ | ⟨rfl, h4, hL⟩ | ⟨rfl, h4, hL⟩
 all_goals
  refine Vc.calls T0_ok Tryd.func3 rfl rfl (args := [.gh ea en ec (.rows 27 rows), .agg ol, .gh a1 n1 c1 (.rows 32 r1), .agg [.bool s0, .bool s1, .bool s2, .bool s3], .int .u8 role]) (k := 81) rfl (old_start w) ?_; change Vc _ _ (c8 (.gh ea en ec (.rows 27 rows)) (.agg ol) (.gh a1 n1 c1 (.rows 32 r1)) (.agg [.bool s0, .bool s1, .bool s2, .bool s3]) (.int .u8 role) .undef .undef .undef (c8 .undef .undef .undef .undef .undef .undef .undef .undef (c8 .undef .undef .undef .undef .undef .undef .undef .undef (c8 .undef .undef .undef .undef .undef .undef .undef .undef (c8 .undef .undef .undef .undef .undef .undef .undef .undef (c8 .undef .undef .undef .undef .undef .undef .undef .undef (c8 .undef .undef .undef .undef .undef .undef .undef .undef (c8 .undef .undef .undef .undef .undef .undef .undef .undef (c8 .undef .undef .undef .undef .undef .undef .undef .undef (c8 .undef .undef .undef .undef .undef .undef .undef .undef ([.undef, .undef, .undef, .undef, .undef, .undef]))))))))))) _ _
  ((repeat (first | (with_reducible refine Vc.seq fun N hN => ?_) | (with_reducible intro _) | ((with_reducible refine And.intro ?_ ?_); exact sX1) | ((first | ((with_reducible refine Vc.hold ?_); first | refine Vc.regiont T0_ok GJP_ok ?_)); (try simp only [v8Y, Nat.beq, Nat.ble, seval, tabs, GJP_set, d1, f2, f3, Bool.not_true])) | ((with_reducible refine hN _ _ ?_); clear hN N))))
  (refine Vc.cond T0_ok (t := false) (by rfl) (fun h => Bool.noConfusion h) (fun _ => ?_))
  (refine Vc.skip ?_; dsimp only [thenK, blockK, Nat.beq]; refine hN _ _ ?_; clear hN N)
  ((with_reducible refine Vc.seq fun N hN => ?_); (refine Vc.regiont T0_ok GJP_ok ?_); simp only [v8Y, Nat.beq, Nat.ble, seval, tabs, GJP_set, hq]; (try simp (disch := omega) only [v8W]); (repeat (first | ((with_reducible refine And.intro ?_ ?_); exact sX1))); (first | (refine hN _ _ ?_; clear hN N; (try simp (disch := omega) only [v8W])) | skip))
  (with_reducible refine Vc.seq fun N hN => ?_)
  (refine Vc.regiont T2_ok GJP_ok ?_)
  (simp only [v8Y, Nat.beq, Nat.ble, seval, tabs, GJP_set, T2_zc]; (try simp (disch := omega) only [v8W]); (repeat (first | with_reducible intro _)); (first | (refine hN _ _ ?_; clear hN N; (try simp (disch := omega) only [v8W])) | skip))
  ((with_reducible refine Vc.seq fun N hN => ?_); (refine Vc.regiont T0_ok GJP_ok ?_); simp only [v8Y, Nat.beq, Nat.ble, seval, tabs, GJP_set, hq]; (try simp (disch := omega) only [v8W]); (repeat (first | ((with_reducible refine And.intro ?_ ?_); exact sX1))); (first | (refine hN _ _ ?_; clear hN N; (try simp (disch := omega) only [v8W])) | skip))
  simp only [h4]
  (with_reducible refine Vc.seq fun N hN => ?_)
  (refine Vc.regiont T2_ok GJP_ok ?_)
  (simp only [v8Y, Nat.beq, Nat.ble, seval, tabs, GJP_set, T2_zb, T2_ty, T2_gl, T2_zr, T2_lv]; (try simp (disch := omega) only [v8W]); (repeat (first | with_reducible intro _ | ((with_reducible refine And.intro ?_ ?_); exact sX1))); (first | (refine hN _ _ ?_; clear hN N; (try simp (disch := omega) only [v8W])) | skip))
  rename_i B1 B2 _ B3 B4
  ((repeat (first | (with_reducible first | refine Vc.seq fun N hN => ?_ | refine Vc.block ?_) | ((with_reducible refine And.intro ?_ ?_); exact sX1) | ((first | ((with_reducible refine Vc.hold ?_); first | refine Vc.regiont T0_ok GJP_ok ?_)); (try simp only [v8Y, Nat.beq, Nat.ble, seval, tabs, GJP_set, ])) | ((with_reducible refine hN _ _ ?_); clear hN N))))
  (revert N; intro N1 hN1)
  refine Vc.loop 14 43 (fun (y : Nat × Bool × Bool × Bool) => [(14, .int .i64 (y.1 : Nat))]) (fun y => [allOld w, .blk B1 30 (.cells ol), .blk B2 32 (.cells [.bool s0, .bool s1, .bool s2, .bool s3]), .blk B3 35 (.cells C4), .blk B4 32 (.cells [.bool s0, .bool y.2.1, .bool y.2.2.1, .bool y.2.2.2])]) (fun y => 1 ≤ y.1 ∧ y.1 ≤ 4 ∧ (1 < y.1 → y.2.1 = true) ∧ (2 < y.1 → y.2.2.1 = true) ∧ (3 < y.1 → y.2.2.2 = true)) (fun y => 4 - y.1) (1, s1, s2, s3) ⟨⟨Nat.le_refl _, by show (1 : Nat) ≤ 4; omega, fun h => by simp at h, fun h => by simp at h, fun h => by simp at h⟩, ?_, ?_⟩ (fun y junk hy => ?_)
  ·((try simp only [v8Y, Nat.beq, Nat.ble, seval, tabs]); (repeat' with_reducible apply And.intro) <;> first | with_reducible exact True.intro | rfl | with_reducible rfl | (congr 1 <;> omega) | trivial)
  ·((try simp only [v8Y, Nat.beq, Nat.ble, seval, tabs]); (repeat' with_reducible apply And.intro) <;> first | with_reducible exact True.intro | rfl | with_reducible rfl | (congr 1 <;> omega) | trivial)
  ·obtain ⟨k, u1, u2, u3⟩ := y
   dsimp only at hy ⊢
   obtain ⟨hy1, hy2, hy3, hy4, hy5⟩ := hy
   (simp only [v8Y, Nat.beq, Nat.ble, seval, tabs])
   by_cases hc1 : k < 4
   ·rcases (show k = 1 ∨ k = 2 ∨ k = 3 by omega) with rfl | rfl | rfl
    all_goals
     ((repeat (first | (with_reducible first | refine Vc.seq fun N hN => ?_ | refine Vc.block ?_) | ((first | with_reducible refine Vc.skip ?_); dsimp only [thenK, blockK, Nat.beq]; (first | (refine hN _ _ ?_; clear hN N))) | ((with_reducible refine And.intro ?_ ?_); exact sX1) | ((first | ((with_reducible refine Vc.hold ?_); first | refine Vc.regiont T0_ok GJP_ok ?_)); (try simp only [v8Y, Nat.beq, Nat.ble, seval, tabs, GJP_set, ])) | ((with_reducible refine hN _ _ ?_); clear hN N))))
     (refine Vc.cond T0_ok (t := true) (by rfl) (fun _ => ?_) (fun h => Bool.noConfusion h))
     ((repeat (first | (with_reducible first | refine Vc.seq fun N hN => ?_ | refine Vc.block ?_) | ((first | with_reducible refine Vc.skip ?_); dsimp only [thenK, blockK, Nat.beq]; (first | (refine hN _ _ ?_; clear hN N))) | ((with_reducible refine And.intro ?_ ?_); exact sX1) | ((first | ((with_reducible refine Vc.hold ?_); first | refine Vc.regiont T0_ok GJP_ok ?_)); (try simp only [v8Y, Nat.beq, Nat.ble, seval, tabs, GJP_set, ])) | ((with_reducible refine hN _ _ ?_); clear hN N))))
    ·refine ⟨(2, true, u2, u3), ⟨by dsimp only; omega, by dsimp only; omega, fun _ => rfl, fun h => by simp at h, fun h => by simp at h⟩, ?_, ?_, by dsimp only; omega⟩
     ·((try simp only [v8Y, Nat.beq, Nat.ble, seval, tabs]); (repeat' with_reducible apply And.intro) <;> first | with_reducible exact True.intro | rfl | with_reducible rfl | (congr 1 <;> omega) | trivial)
     ·((try simp only [v8Y, Nat.beq, Nat.ble, seval, tabs]); (repeat' with_reducible apply And.intro) <;> first | with_reducible exact True.intro | rfl | with_reducible rfl | (congr 1 <;> omega) | trivial)
    ·refine ⟨(3, u1, true, u3), ⟨by dsimp only; omega, by dsimp only; omega, fun _ => hy3 (by omega), fun _ => rfl, fun h => by simp at h⟩, ?_, ?_, by dsimp only; omega⟩
     ·((try simp only [v8Y, Nat.beq, Nat.ble, seval, tabs]); (repeat' with_reducible apply And.intro) <;> first | with_reducible exact True.intro | rfl | with_reducible rfl | (congr 1 <;> omega) | trivial)
     ·((try simp only [v8Y, Nat.beq, Nat.ble, seval, tabs]); (repeat' with_reducible apply And.intro) <;> first | with_reducible exact True.intro | rfl | with_reducible rfl | (congr 1 <;> omega) | trivial)
    ·refine ⟨(4, u1, u2, true), ⟨by dsimp only; omega, by dsimp only; omega, fun _ => hy3 (by omega), fun _ => hy4 (by omega), fun _ => rfl⟩, ?_, ?_, by dsimp only; omega⟩
     ·((try simp only [v8Y, Nat.beq, Nat.ble, seval, tabs]); (repeat' with_reducible apply And.intro) <;> first | with_reducible exact True.intro | rfl | with_reducible rfl | (congr 1 <;> omega) | trivial)
     ·((try simp only [v8Y, Nat.beq, Nat.ble, seval, tabs]); (repeat' with_reducible apply And.intro) <;> first | with_reducible exact True.intro | rfl | with_reducible rfl | (congr 1 <;> omega) | trivial)
   ·obtain rfl : k = 4 := by omega
    obtain rfl := hy3 (by decide)
    obtain rfl := hy4 (by decide)
    obtain rfl := hy5 (by decide)
    ((repeat (first | (with_reducible first | refine Vc.seq fun N hN => ?_ | refine Vc.block ?_) | ((with_reducible refine And.intro ?_ ?_); exact sX1) | ((first | ((with_reducible refine Vc.hold ?_); first | refine Vc.regiont T0_ok GJP_ok ?_)); (try simp only [v8Y, Nat.beq, Nat.ble, seval, tabs, GJP_set, ])) | ((with_reducible refine hN _ _ ?_); clear hN N))))
    (refine Vc.cond T0_ok (t := false) (by rfl) (fun h => Bool.noConfusion h) (fun _ => ?_))
    (refine Vc.exit ?_; dsimp only [thenK, blockK, Nat.beq])
    (refine hN1 _ _ ?_; (try clear hN N); clear hN1 N1)
    obtain ⟨C5, h5⟩ : ∃ C5, C5 = C4 := ⟨_, rfl⟩
    subst h4
    ((with_reducible refine Vc.seq fun N hN => ?_); (refine Vc.regiont T0_ok GJP_ok ?_); simp only [v8Y, Nat.beq, Nat.ble, seval, tabs, GJP_set]; (try simp (disch := omega) only [v8W]); (repeat (first | with_reducible intro _ | ((with_reducible refine And.intro ?_ ?_); exact sX1))); (first | (refine hN _ _ ?_; clear hN N; (try simp (disch := omega) only [v8W])) | skip))
    rename_i X hX
    obtain ⟨A, hA9⟩ : ∃ A, chkR (chkE x (stkF s0 true true true) X.2.acc) L 3 = A := ⟨_, rfl⟩
    obtain ⟨B, hB9⟩ : ∃ B, chkR (chkE x (stkF s0 s1 s2 s3) X.2.acc) L 3 = B := ⟨_, rfl⟩
    have hAB : A.Sublist B := by rw [← hA9, ← hB9]; exact chk_more x s0 s1 s2 s3 X.2.acc L
    have hbb : B.length ≤ 24000000 := by rw [← hB9]; exact chkR_len _ L (fun i _ => hLl i) 3 (Nat.le_refl _)
    have hfm : ∀ r ∈ B, bfm r := fun r hr => chk_form _ L hLl 3 (Nat.le_refl _) r (hB9.symm ▸ hr)
    have hab := hAB.length_le
    have hB3 : ∀ r ∈ B, r.length = 3 := fun r hr => by obtain ⟨_, _, _, rfl, _⟩ := hfm r hr; rfl
    have hA3 : ∀ r ∈ A, r.length = 3 := fun r hr => hB3 r (hAB.subset hr)
    ((with_reducible refine Vc.seq fun N hN => ?_); (refine Vc.regiont T0_ok GJP_ok ?_); simp only [v8Y, Nat.beq, Nat.ble, seval, tabs, GJP_set, hop, f3, evA.eq_def, v1, hL, hA9]; (try simp (disch := omega) only [v8W]); (repeat (first | with_reducible intro _ | ((with_reducible refine And.intro ?_ ?_); exact sX1))); (first | (refine hN _ _ ?_; clear hN N; (try simp (disch := omega) only [v8W])) | skip))
    ((with_reducible refine Vc.seq fun N hN => ?_); (refine Vc.regiont T0_ok GJP_ok ?_); simp only [v8Y, Nat.beq, Nat.ble, seval, tabs, GJP_set, hop, f3, evA.eq_def, v1, hL, hB9]; (try simp (disch := omega) only [v8W]); (repeat (first | with_reducible intro _ | ((with_reducible refine And.intro ?_ ?_); exact sX1))); (first | (refine hN _ _ ?_; clear hN N; (try simp (disch := omega) only [v8W])) | skip))
    rename_i VA VB
    clear hA9 hB9
    simp only [← h5]
    clear h5
    ((repeat (first | (with_reducible first | refine Vc.seq fun N hN => ?_ | refine Vc.block ?_) | ((with_reducible refine And.intro ?_ ?_); exact sX1) | ((first | ((with_reducible refine Vc.hold ?_); first | refine Vc.regiont T0_ok GJP_ok ?_)); (try simp only [v8Y, Nat.beq, Nat.ble, seval, tabs, GJP_set, ])) | ((with_reducible refine hN _ _ ?_); clear hN N))))
    (revert N; intro N1 hN1)
    refine Vc.loop 18 86 (fun (k : Nat) => [(18, .int .i64 (k : Nat))]) (fun k => [allOld w, .blk B1 30 (.cells ol), .blk B2 32 (.cells [.bool s0, .bool s1, .bool s2, .bool s3]), .blk B3 35 (.cells C5), .blk B4 32 (.cells [.bool s0, .bool true, .bool true, .bool true]), .wd τ0 X.1.1 X.2 X.1.2, .own VA A.length 41 3 (.rows 3 A), .own VB B.length 41 3 (.rows 3 B)]) (fun k => k ≤ A.length) (fun k => A.length - k) 0 ⟨Nat.zero_le _, ?_, ?_⟩ (fun k junk hk => ?_)
    ·((try simp only [v8Y, Nat.beq, Nat.ble, seval, tabs]); (repeat' with_reducible apply And.intro) <;> first | with_reducible exact True.intro | rfl | with_reducible rfl | (congr 1 <;> omega) | trivial)
    ·((try simp only [v8Y, Nat.beq, Nat.ble, seval, tabs]); (repeat' with_reducible apply And.intro) <;> first | with_reducible exact True.intro | rfl | with_reducible rfl | (congr 1 <;> omega) | trivial)
    ·(simp only [v8Y, Nat.beq, Nat.ble, seval, tabs])
     by_cases hc2 : k < A.length
     ·have dk : decide ((k : Int) < (A.length : Int)) = true := decide_eq_true (by omega)
      have e1 := List.getElem?_eq_getElem hc2
      have hgd := getD_of e1
      have hrB := hAB.subset (List.getElem_mem hc2)
      have tk : ((k : Nat) : Int).toNat = k := by omega
      generalize A[k] = r at *
      obtain ⟨q0, q1, q2, rfl, j0, j1, j2⟩ := hfm r hrB
      have e3 : eqL [.int .u8 q0, .int .u8 q1, .int .i64 q2] [.int .u8 q0, .int .u8 q1, .int .i64 q2] = true := by simp [eqL]
      have hall : B.any (fun r => eqL r [.int .u8 q0, .int .u8 q1, .int .i64 q2]) = true := List.any_eq_true.2 ⟨_, hrB, e3⟩
      ((repeat (first | (with_reducible refine Vc.seq fun N hN => ?_) | ((with_reducible refine And.intro ?_ ?_); exact sX1) | ((first | ((with_reducible refine Vc.hold ?_); first | refine Vc.regiont T0_ok GJP_ok ?_)); (try simp only [v8Y, Nat.beq, Nat.ble, seval, tabs, GJP_set, dk])) | ((with_reducible refine hN _ _ ?_); clear hN N))))
      (refine Vc.cond T0_ok (t := true) (by rfl) (fun _ => ?_) (fun h => Bool.noConfusion h))
      ((repeat (first | (with_reducible first | refine Vc.seq fun N hN => ?_ | refine Vc.block ?_) | ((first | with_reducible refine Vc.skip ?_); dsimp only [thenK, blockK, Nat.beq]; (first | (refine hN _ _ ?_; clear hN N))) | ((with_reducible refine And.intro ?_ ?_); exact sX1) | ((first | ((with_reducible refine Vc.hold ?_); first | refine Vc.regiont T0_ok GJP_ok ?_)); (try simp only [v8Y, Nat.beq, Nat.ble, seval, tabs, GJP_set, ])) | ((with_reducible refine hN _ _ ?_); clear hN N))))
      (revert N; intro N2 hN2)
      refine Vc.loop 19 86 (fun (y : Nat × Bool) => [(19, .bool y.2), (20, .int .i64 (y.1 : Nat))]) (fun y => [allOld w, .blk B1 30 (.cells ol), .blk B2 32 (.cells [.bool s0, .bool s1, .bool s2, .bool s3]), .blk B3 35 (.cells C5), .blk B4 32 (.cells [.bool s0, .bool true, .bool true, .bool true]), .wd τ0 X.1.1 X.2 X.1.2, .own VA A.length 41 3 (.rows 3 A), .own VB B.length 41 3 (.rows 3 B)]) (fun y => y.1 ≤ B.length ∧ y.2 = (B.take y.1).any (fun r => eqL r [.int .u8 q0, .int .u8 q1, .int .i64 q2])) (fun y => B.length - y.1) (0, false) ⟨⟨Nat.zero_le _, by simp⟩, ?_, ?_⟩ (fun y junk2 hy => ?_)
      ·((try simp only [v8Y, Nat.beq, Nat.ble, seval, tabs]); (repeat' with_reducible apply And.intro) <;> first | with_reducible exact True.intro | rfl | with_reducible rfl | (congr 1 <;> omega) | trivial)
      ·((try simp only [v8Y, Nat.beq, Nat.ble, seval, tabs]); (repeat' with_reducible apply And.intro) <;> first | with_reducible exact True.intro | rfl | with_reducible rfl | (congr 1 <;> omega) | trivial)
      ·obtain ⟨j, f⟩ := y
       dsimp only at hy ⊢
       obtain ⟨hy1, hy2⟩ := hy
       (simp only [v8Y, Nat.beq, Nat.ble, seval, tabs])
       by_cases hc3 : j < B.length
       ·have dj : decide ((j : Int) < (B.length : Int)) = true := decide_eq_true (by omega)
        have e1' := List.getElem?_eq_getElem hc3
        have hgd' := getD_of e1'
        have hfj := hfm _ (List.getElem_mem hc3)
        have tj : ((j : Nat) : Int).toNat = j := by omega
        have htm : (B.take (j + 1)).any (fun r => eqL r [.int .u8 q0, .int .u8 q1, .int .i64 q2]) = (f || eqL B[j] [.int .u8 q0, .int .u8 q1, .int .i64 q2]) := by rw [take_more e1', List.any_append, ← hy2]; simp
        generalize B[j] = r' at *
        obtain ⟨p0, p1, p2, rfl, i0, i1, i2⟩ := hfj
        obtain ⟨dv, hdv⟩ : ∃ dv, eqL [.int .u8 p0, .int .u8 p1, .int .i64 p2] [.int .u8 q0, .int .u8 q1, .int .i64 q2] = dv := ⟨_, rfl⟩
        rw [hdv] at htm
        cases f
        ·((repeat (first | (with_reducible refine Vc.seq fun N hN => ?_) | ((with_reducible refine And.intro ?_ ?_); exact sX1) | ((first | ((with_reducible refine Vc.hold ?_); first | refine Vc.regiont T0_ok GJP_ok ?_)); (try simp only [v8Y, Nat.beq, Nat.ble, seval, tabs, GJP_set, dj])) | ((with_reducible refine hN _ _ ?_); clear hN N))))
         (refine Vc.cond T0_ok (t := true) (by rfl) (fun _ => ?_) (fun h => Bool.noConfusion h))
         ((repeat (first | (with_reducible first | refine Vc.seq fun N hN => ?_ | refine Vc.block ?_) | ((first | with_reducible refine Vc.skip ?_); dsimp only [thenK, blockK, Nat.beq]; (first | (refine hN _ _ ?_; clear hN N))) | ((with_reducible refine And.intro ?_ ?_); exact sX1) | ((first | ((with_reducible refine Vc.hold ?_); first | refine Vc.regiont T0_ok GJP_ok ?_ | refine Vc.drawt (id := 21) T0_ok GJP_ok (by kernel_rfl) [0, 1, 2, 3, 4, 5, 6, 7, 8, 9] 10 [] trivial (by kernel_rfl) ?_)); (try simp only [v8Y, Nat.beq, Nat.ble, seval, tabs, GJP_set, tk, tj, hgd, hgd', hdv])) | ((with_reducible refine hN _ _ ?_); clear hN N))))
         refine ⟨(j + 1, dv), ⟨by dsimp only; omega, by rw [htm, Bool.false_or]⟩, ?_, ?_, by dsimp only; omega⟩
         ·((try simp only [v8Y, Nat.beq, Nat.ble, seval, tabs]); (repeat' with_reducible apply And.intro) <;> first | with_reducible exact True.intro | rfl | with_reducible rfl | (congr 1 <;> omega) | trivial)
         ·((try simp only [v8Y, Nat.beq, Nat.ble, seval, tabs]); (repeat' with_reducible apply And.intro) <;> first | with_reducible exact True.intro | rfl | with_reducible rfl | (congr 1 <;> omega) | trivial)
        ·((repeat (first | (with_reducible refine Vc.seq fun N hN => ?_) | ((with_reducible refine And.intro ?_ ?_); exact sX1) | ((first | ((with_reducible refine Vc.hold ?_); first | refine Vc.regiont T0_ok GJP_ok ?_)); (try simp only [v8Y, Nat.beq, Nat.ble, seval, tabs, GJP_set, dj])) | ((with_reducible refine hN _ _ ?_); clear hN N))))
         (refine Vc.cond T0_ok (t := true) (by rfl) (fun _ => ?_) (fun h => Bool.noConfusion h))
         ((repeat (first | (with_reducible first | refine Vc.seq fun N hN => ?_ | refine Vc.block ?_) | ((first | with_reducible refine Vc.skip ?_); dsimp only [thenK, blockK, Nat.beq]; (first | (refine hN _ _ ?_; clear hN N))) | ((with_reducible refine And.intro ?_ ?_); exact sX1) | ((first | ((with_reducible refine Vc.hold ?_); first | refine Vc.regiont T0_ok GJP_ok ?_ | refine Vc.drawt (id := 21) T0_ok GJP_ok (by kernel_rfl) [0, 1, 2, 3, 4, 5, 6, 7, 8, 9] 10 [] trivial (by kernel_rfl) ?_)); (try simp only [v8Y, Nat.beq, Nat.ble, seval, tabs, GJP_set, tk, tj, hgd, hgd', hdv])) | ((with_reducible refine hN _ _ ?_); clear hN N))))
         refine ⟨(j + 1, true), ⟨by dsimp only; omega, by rw [htm, Bool.true_or]⟩, ?_, ?_, by dsimp only; omega⟩
         ·((try simp only [v8Y, Nat.beq, Nat.ble, seval, tabs]); (repeat' with_reducible apply And.intro) <;> first | with_reducible exact True.intro | rfl | with_reducible rfl | (congr 1 <;> omega) | trivial)
         ·((try simp only [v8Y, Nat.beq, Nat.ble, seval, tabs]); (repeat' with_reducible apply And.intro) <;> first | with_reducible exact True.intro | rfl | with_reducible rfl | (congr 1 <;> omega) | trivial)
       ·have dj : decide ((j : Int) < (B.length : Int)) = false := decide_eq_false (by omega)
        rw [List.take_of_length_le (by omega), hall] at hy2
        subst hy2
        ((repeat (first | (with_reducible refine Vc.seq fun N hN => ?_) | ((with_reducible refine And.intro ?_ ?_); exact sX1) | ((first | ((with_reducible refine Vc.hold ?_); first | refine Vc.regiont T0_ok GJP_ok ?_)); (try simp only [v8Y, Nat.beq, Nat.ble, seval, tabs, GJP_set, dj])) | ((with_reducible refine hN _ _ ?_); clear hN N))))
        (refine Vc.cond T0_ok (t := false) (by rfl) (fun h => Bool.noConfusion h) (fun _ => ?_))
        (refine Vc.exit ?_; dsimp only [thenK, blockK, Nat.beq])
        (refine hN2 _ _ ?_; (try clear hN N); clear hN2 N2)
        ((repeat (first | (with_reducible refine Vc.seq fun N hN => ?_) | ((with_reducible refine And.intro ?_ ?_); exact sX1) | ((first | ((with_reducible refine Vc.hold ?_); first | refine Vc.regiont T0_ok GJP_ok ?_)); (try simp only [v8Y, Nat.beq, Nat.ble, seval, tabs, GJP_set, Bool.not_true])) | ((with_reducible refine hN _ _ ?_); clear hN N))))
        (refine Vc.cond T0_ok (t := false) (by rfl) (fun h => Bool.noConfusion h) (fun _ => ?_))
        ((repeat (first | ((first | with_reducible refine Vc.skip ?_); dsimp only [thenK, blockK, Nat.beq]; (first | (refine hN _ _ ?_; clear hN N))) | ((with_reducible refine And.intro ?_ ?_); exact sX1) | ((first | ((with_reducible refine Vc.hold ?_); first | refine Vc.regiont T0_ok GJP_ok ?_)); (try simp only [v8Y, Nat.beq, Nat.ble, seval, tabs, GJP_set, ])))))
        refine ⟨k + 1, by omega, ?_, ?_, by omega⟩
        ·((try simp only [v8Y, Nat.beq, Nat.ble, seval, tabs]); (repeat' with_reducible apply And.intro) <;> first | with_reducible exact True.intro | rfl | with_reducible rfl | (congr 1 <;> omega) | trivial)
        ·((try simp only [v8Y, Nat.beq, Nat.ble, seval, tabs]); (repeat' with_reducible apply And.intro) <;> first | with_reducible exact True.intro | rfl | with_reducible rfl | (congr 1 <;> omega) | trivial)
     ·have dk : decide ((k : Int) < (A.length : Int)) = false := decide_eq_false (by omega)
      have dle : decide ((A.length : Int) ≤ (B.length : Int)) = true := decide_eq_true (by omega)
      ((repeat (first | (with_reducible refine Vc.seq fun N hN => ?_) | ((with_reducible refine And.intro ?_ ?_); exact sX1) | ((first | ((with_reducible refine Vc.hold ?_); first | refine Vc.regiont T0_ok GJP_ok ?_)); (try simp only [v8Y, Nat.beq, Nat.ble, seval, tabs, GJP_set, dk])) | ((with_reducible refine hN _ _ ?_); clear hN N))))
      (refine Vc.cond T0_ok (t := false) (by rfl) (fun h => Bool.noConfusion h) (fun _ => ?_))
      (refine Vc.exit ?_; dsimp only [thenK, blockK, Nat.beq])
      (refine hN1 _ _ ?_; (try clear hN N); clear hN1 N1)
      ((repeat (first | (with_reducible refine Vc.seq fun N hN => ?_) | ((with_reducible refine And.intro ?_ ?_); exact sX1) | ((first | ((with_reducible refine Vc.fin ?_); dsimp only [thenK, blockK, retK, resS, resOne, resAll]) | ((with_reducible refine Vc.hold ?_); first | refine Vc.regiont T0_ok GJP_ok ?_)); (try simp only [v8Y, Nat.beq, Nat.ble, seval, tabs, GJP_set, dle])) | ((with_reducible refine hN _ _ ?_); clear hN N))); (try ((with_reducible refine Fin.of ?_); (try with_reducible exact True.intro))))
      exact ⟨by simp, trivial⟩
end Go.Proofs.YtoadeekdgikghaaDoor
