/-
 Package quaestorlaw17: RulesQuiet, walked. No condition.
-/
import Derived.Test.YtoadeekdgikghaaDoorJE
set_option maxRecDepth 20000
set_option maxHeartbeats 4000000
set_option linter.defProp false
set_option linter.unusedVariables false
set_option linter.unusedSimpArgs false
namespace Go.Proofs.YtoadeekdgikghaaDoor
open Go.RowKit
noncomputable def T1 : Tab := { T0 with zc := fun t => if t = 35 then some (.cells [.nilsl, .nilsl, .nilsl, .nilsl]) else T0.zc t }
theorem T1_zc : T1.zc 35 = some (.cells [.nilsl, .nilsl, .nilsl, .nilsl]) := rfl
theorem T1_zcs : ∀ t c, T1.zc t = some c → ∃ i z, Tryd.prog.info? t = some i ∧ i.zero = some z ∧ z.cells = (cc c).toArray := fun t c h => by
 by_cases ht : t = 35
 ·subst ht
  rw [T1_zc] at h
  obtain rfl := Option.some.inj h
  exact zc_mk (by kernel_rfl)
 ·have h2 : T1.zc t = T0.zc t := if_neg ht
  rw [h2] at h
  exact T0_ok.zc t c h
theorem T1_ok : TabOk Tryd.prog T1 := { b8 := T0_ok.b8, sz := T0_ok.sz, ty := T0_ok.ty, gl := T0_ok.gl, zr := T0_ok.zr, lv := T0_ok.lv, zc := T1_zcs }
def arrK (q : Int) (s : SV) : List SV := if q = 0 then [.nilsl, s, .nilsl, .nilsl] else if q = 1 then [.nilsl, .nilsl, s, .nilsl] else [.nilsl, .nilsl, .nilsl, s]
theorem opQ (x : Int) : x < 49 ∨ x = 51 ∨ x = 52 ∨ x = 53 ∨ x = 54 ∨ x = 55 ∨ (49 ≤ x ∧ x < 80 ∧ x ≠ 51 ∧ x ≠ 52 ∧ x ≠ 53 ∧ x ≠ 54 ∧ x ≠ 55) ∨ x = 84 ∨ x = 85 ∨ x = 90 ∨ 240 ≤ x ∨ (80 ≤ x ∧ x < 240 ∧ x ≠ 84 ∧ x ≠ 85 ∧ x ≠ 90) := by omega
noncomputable def GJG : Ctr := fun f args m => match f with
 | 7 => g_kn args m
 | 8 => g_NewA args m
 | 9 => g_Check args m
 | _ => .none
theorem GJG_ok : GOk Tryd.prog GJG := by
 intro w0 B f args m; unfold GJG; split
 ·exact g_kn_ok _ _ _ _
 ·exact g_NewA_ok _ _ _ _
 ·exact g_Check_ok _ _ _ _
 ·exact trivial
theorem GJG_kn : GJG 7 = g_kn := by funext args m; rfl
theorem GJG_NewA : GJG 8 = g_NewA := by funext args m; rfl
theorem GJG_Check : GJG 9 = g_Check := by funext args m; rfl
def GJG_set := And.intro (And.intro (@GJG_kn) (And.intro (@g_kn.eq_def) (@GJG_NewA))) (And.intro (@g_NewA.eq_def) (And.intro (@GJG_Check) (@g_Check.eq_def)))

theorem quiet_big (ol : List SV) (x : OpD) (a1 a2 : Option Addr) (n1 c1 n2 c2 : Nat) (bs : List Int) (fs : List Bool) (role : Int) (w : World) (h300 : ¬ (n1 : Int) ≤ 300) (hO : OpR (H0 w) ol x) (k0 : LiesH (H0 w) (some ⟨0, 0, none⟩) (cc (.ints .u64 kKeys))) (k1 : LiesH (H0 w) (some ⟨1, 0, none⟩) (cc (.ints .u8 kPathI))) :
  Calls Tryd.prog 4 (cvs [.agg ol, .gh a1 n1 c1 (.ints .u8 bs), .gh a2 n2 c2 (.cells (fs.map SV.bool)), .int .u8 role]).toArray w (Yes w) := by
 have hK0 : ∀ m, allOld w ∈ m → LiesH (HM m) (some ⟨0, 0, none⟩) (cc (.ints .u64 kKeys)) := fun m hin => k0.mono (H0.hm hin)
 have hK1 : ∀ m, allOld w ∈ m → LiesH (HM m) (some ⟨1, 0, none⟩) (cc (.ints .u8 kPathI)) := fun m hin => k1.mono (H0.hm hin)
 have d1 : decide ((300 : Int) < (n1 : Int)) = true := decide_eq_true (by omega)
 have f2 := hO.one
 have f3 := hO.all
 refine Vc.calls T0_ok Tryd.func4 rfl rfl (args := [.agg ol, .gh a1 n1 c1 (.ints .u8 bs), .gh a2 n2 c2 (.cells (fs.map SV.bool)), .int .u8 role]) (k := 109) rfl (old_start w) ?_; change Vc _ _ (c8 (.agg ol) (.gh a1 n1 c1 (.ints .u8 bs)) (.gh a2 n2 c2 (.cells (fs.map SV.bool))) (.int .u8 role) .undef .undef .undef .undef (c8 .undef .undef .undef .undef .undef .undef .undef .undef (c8 .undef .undef .undef .undef .undef .undef .undef .undef (c8 .undef .undef .undef .undef .undef .undef .undef .undef (c8 .undef .undef .undef .undef .undef .undef .undef .undef (c8 .undef .undef .undef .undef .undef .undef .undef .undef (c8 .undef .undef .undef .undef .undef .undef .undef .undef (c8 .undef .undef .undef .undef .undef .undef .undef .undef (c8 .undef .undef .undef .undef .undef .undef .undef .undef (c8 .undef .undef .undef .undef .undef .undef .undef .undef (c8 .undef .undef .undef .undef .undef .undef .undef .undef (c8 .undef .undef .undef .undef .undef .undef .undef .undef (c8 .undef .undef .undef .undef .undef .undef .undef .undef (c8 .undef .undef .undef .undef .undef .undef .undef .undef ([.undef]))))))))))))))) _ _
 ((repeat (first | (with_reducible refine Vc.seq fun N hN => ?_) | (with_reducible intro _) | ((with_reducible refine And.intro ?_ ?_); exact sX4) | ((first | ((with_reducible refine Vc.hold ?_); first | refine Vc.regiont T0_ok GJG_ok ?_)); (try simp only [v8Y, Nat.beq, Nat.ble, seval, tabs, GJG_set, d1, f2, f3])) | ((with_reducible refine hN _ _ ?_); clear hN N))))
 (refine Vc.cond T0_ok (t := true) (by rfl) (fun _ => ?_) (fun h => Bool.noConfusion h))
 ((repeat (first | (with_reducible refine Vc.seq fun N hN => ?_) | ((with_reducible refine And.intro ?_ ?_); exact sX4) | ((first | ((with_reducible refine Vc.fin ?_); dsimp only [thenK, blockK, retK, resS, resOne, resAll]) | ((with_reducible refine Vc.hold ?_); first | refine Vc.regiont T0_ok GJG_ok ?_)); (try simp only [v8Y, Nat.beq, Nat.ble, seval, tabs, GJG_set, ])) | ((with_reducible refine hN _ _ ?_); clear hN N))); (try ((with_reducible refine Fin.of ?_); (try with_reducible exact True.intro))))
 exact ⟨by simp, trivial⟩
set_option maxRecDepth 40000 in
theorem quiet_small (ol : List SV) (x : OpD) (a1 a2 : Option Addr) (n1 c1 n2 c2 : Nat) (bs : List Int) (fs : List Bool) (role : Int) (w : World) (h300 : (n1 : Int) ≤ 300) (hr : 0 ≤ role ∧ role ≤ 255) (hO : OpR (H0 w) ol x) (k0 : LiesH (H0 w) (some ⟨0, 0, none⟩) (cc (.ints .u64 kKeys))) (k1 : LiesH (H0 w) (some ⟨1, 0, none⟩) (cc (.ints .u8 kPathI)))
  (hb1 : bs.length = n1) (hb2 : n1 ≤ c1) (hb3 : adr a1 n1 c1) (hb4 : LiesH (H0 w) a1 (cc (.ints .u8 bs))) (hb5 : allB bs) (hf1 : fs.length = n2) (hf2 : n2 ≤ c2) (hf3 : adr a2 n2 c2) (hf4 : LiesH (H0 w) a2 (cc (.cells (fs.map SV.bool)))) :
  Calls Tryd.prog 4 (cvs [.agg ol, .gh a1 n1 c1 (.ints .u8 bs), .gh a2 n2 c2 (.cells (fs.map SV.bool)), .int .u8 role]).toArray w (Yes w) := by
 have hK0 : ∀ m, allOld w ∈ m → LiesH (HM m) (some ⟨0, 0, none⟩) (cc (.ints .u64 kKeys)) := fun m hin => k0.mono (H0.hm hin)
 have hK1 : ∀ m, allOld w ∈ m → LiesH (HM m) (some ⟨1, 0, none⟩) (cc (.ints .u8 kPathI)) := fun m hin => k1.mono (H0.hm hin)
 have hB : ∀ m, allOld w ∈ m → LiesH (HM m) a1 (cc (.ints .u8 bs)) := fun m hin => hb4.mono (H0.hm hin)
 have hF : ∀ m, allOld w ∈ m → LiesH (HM m) a2 (cc (.cells (fs.map SV.bool))) := fun m hin => hf4.mono (H0.hm hin)
 have hol : ∀ m, allOld w ∈ m → ∃ x, OpR (HM m) ol x := fun m hin => ⟨x, hO.mono (H0.hm hin)⟩
 have hop := opOf_eq hO
 have f2 := hO.one
 have f3 := hO.all
 have d1 : decide ((300 : Int) < (n1 : Int)) = false := decide_eq_false (by omega)
 have hc0 := hO.c0
 obtain ⟨x0, x1, x2, x3, x4, x5, x6, x7, x8, x9, x10, x11, x12, x13, x14, x15, x16, x17, x18, x19, hsnd⟩ := okA_lit ⟨hO.ls, hO.bs⟩
 have hsl := hO.ls
 have hsb := hO.bs
 rw [hsnd] at hsl hsb
 obtain ⟨q, hq, hq3⟩ : ∃ q : Int, role % 3 = q ∧ (q = 0 ∨ q = 1 ∨ q = 2) := ⟨_, rfl, by omega⟩
 obtain ⟨kk, hkk⟩ : ∃ kk : Int, role % 3 + 1 = kk := ⟨_, rfl⟩
 have hk2 : kk = q + 1 := by omega
 have hk3 : 0 ≤ kk ∧ kk < 4 := by omega
 rcases hq3 with rfl | rfl | rfl
 all_goals
  (first | have hkt : (role % 3 + 1).toNat = 1 := by omega | have hkt : (role % 3 + 1).toNat = 2 := by omega | have hkt : (role % 3 + 1).toNat = 3 := by omega)
  (first | have ak : ∀ s, arrK (kk - 1) s = [.nilsl, s, .nilsl, .nilsl] := fun s => by (rw [hk2]; rfl) | have ak : ∀ s, arrK (kk - 1) s = [.nilsl, .nilsl, s, .nilsl] := fun s => by (rw [hk2]; rfl) | have ak : ∀ s, arrK (kk - 1) s = [.nilsl, .nilsl, .nilsl, s] := fun s => by (rw [hk2]; rfl))
  refine Vc.calls T0_ok Tryd.func4 rfl rfl (args := [.agg ol, .gh a1 n1 c1 (.ints .u8 bs), .gh a2 n2 c2 (.cells (fs.map SV.bool)), .int .u8 role]) (k := 109) rfl (old_start w) ?_; change Vc _ _ (c8 (.agg ol) (.gh a1 n1 c1 (.ints .u8 bs)) (.gh a2 n2 c2 (.cells (fs.map SV.bool))) (.int .u8 role) .undef .undef .undef .undef (c8 .undef .undef .undef .undef .undef .undef .undef .undef (c8 .undef .undef .undef .undef .undef .undef .undef .undef (c8 .undef .undef .undef .undef .undef .undef .undef .undef (c8 .undef .undef .undef .undef .undef .undef .undef .undef (c8 .undef .undef .undef .undef .undef .undef .undef .undef (c8 .undef .undef .undef .undef .undef .undef .undef .undef (c8 .undef .undef .undef .undef .undef .undef .undef .undef (c8 .undef .undef .undef .undef .undef .undef .undef .undef (c8 .undef .undef .undef .undef .undef .undef .undef .undef (c8 .undef .undef .undef .undef .undef .undef .undef .undef (c8 .undef .undef .undef .undef .undef .undef .undef .undef (c8 .undef .undef .undef .undef .undef .undef .undef .undef (c8 .undef .undef .undef .undef .undef .undef .undef .undef ([.undef]))))))))))))))) _ _
  ((repeat (first | (with_reducible refine Vc.seq fun N hN => ?_) | (with_reducible intro _) | ((with_reducible refine And.intro ?_ ?_); exact sX4) | ((first | ((with_reducible refine Vc.hold ?_); first | refine Vc.regiont T0_ok GJG_ok ?_)); (try simp only [v8Y, Nat.beq, Nat.ble, seval, tabs, GJG_set, d1, f2, f3, Bool.not_true])) | ((with_reducible refine hN _ _ ?_); clear hN N))))
  (refine Vc.cond T0_ok (t := false) (by rfl) (fun h => Bool.noConfusion h) (fun _ => ?_))
  (refine Vc.skip ?_; dsimp only [thenK, blockK, Nat.beq]; refine hN _ _ ?_; clear hN N)
  ((with_reducible refine Vc.seq fun N hN => ?_); (refine Vc.regiont T0_ok GJG_ok ?_); simp only [v8Y, Nat.beq, Nat.ble, seval, tabs, GJG_set, hkk]; (try simp (disch := omega) only [v8W]); (repeat (first | ((with_reducible refine And.intro ?_ ?_); exact sX4))); (first | (refine hN _ _ ?_; clear hN N; (try simp (disch := omega) only [v8W])) | skip))
  (with_reducible refine Vc.seq fun N hN => ?_)
  (refine Vc.regiont T1_ok GJG_ok ?_)
  (simp only [v8Y, Nat.beq, Nat.ble, seval, tabs, GJG_set, T1_zc]; (try simp (disch := omega) only [v8W]); (repeat (first | with_reducible intro _)); (first | (refine hN _ _ ?_; clear hN N; (try simp (disch := omega) only [v8W])) | skip))
  rename_i b4 _ b10
  refine Vc.pushnil 47 32 ?_
  (simp only [v8Y, Nat.beq, Nat.ble, seval, tabs])
  ((repeat (first | (with_reducible first | refine Vc.seq fun N hN => ?_ | refine Vc.block ?_) | ((with_reducible refine And.intro ?_ ?_); exact sX4) | ((first | ((with_reducible refine Vc.hold ?_); first | refine Vc.regiont T0_ok GJG_ok ?_)); (try simp only [v8Y, Nat.beq, Nat.ble, seval, tabs, GJG_set])) | ((with_reducible refine hN _ _ ?_); clear hN N))))
  (revert N; intro N1 hN1)
  refine Vc.recon 2 (.cells (arrK (kk - 1) (.own 3 (.slice none 0 0) 0))) rfl (by subst hk2; rfl) ?_
  (simp only [v8Y, Nat.beq, Nat.ble, seval, tabs])
  refine Vc.loop 11 113 (fun (x : Nat × List (Int × Int) × Value) => [(11, .int .i64 (x.1 : Nat))]) (fun x => [allOld w, .blk b4 30 (.cells ol), .blk b10 35 (.cells (arrK (kk - 1) (.own 3 x.2.2 x.2.1.length))), .own x.2.2 x.2.1.length 47 32 (.rows 32 (x.2.1.map (rowQ .nilsl [x0, x1, x2, x3, x4, x5, x6, x7, x8, x9, x10, x11, x12, x13, x14, x15, x16, x17, x18, x19])))]) (fun x => x.1 ≤ n1 ∧ x.2.1.length = x.1 ∧ ∀ e ∈ x.2.1, okQ e) (fun x => n1 - x.1) (0, [], .slice none 0 0) ⟨⟨Nat.zero_le _, rfl, fun e he => absurd he List.not_mem_nil⟩, ?_, ?_⟩ (fun x junk hx => ?_)
  ·((try simp only [v8Y, Nat.beq, Nat.ble, seval, tabs]); (repeat' with_reducible apply And.intro) <;> first | with_reducible exact True.intro | rfl | with_reducible rfl | (congr 1 <;> omega) | trivial)
  ·((try simp only [v8Y, Nat.beq, Nat.ble, seval, tabs]); (repeat' with_reducible apply And.intro) <;> first | with_reducible exact True.intro | rfl | with_reducible rfl | (congr 1 <;> omega) | trivial)
  ·obtain ⟨i, es, v⟩ := x
   dsimp only at hx ⊢
   obtain ⟨hi1, hi2, hi3⟩ := hx
   (simp only [v8Y, Nat.beq, Nat.ble, seval, tabs])
   by_cases hc1 : i < n1
   ·have d2 : decide ((i : Int) < (n1 : Int)) = true := decide_eq_true (by omega)
    have ti : ((i : Nat) : Int).toNat = i := by omega
    have hio : i < bs.length := by omega
    have ho := hb5 _ (List.getElem_mem hio)
    have hog : bs.getD i 0 = bs[i] := by rw [List.getD_eq_getElem?_getD, List.getElem?_eq_getElem hio]; rfl
    rw [← hog] at ho
    generalize hoo : bs.getD i 0 = o at ho
    ((repeat (first | (with_reducible refine Vc.seq fun N hN => ?_) | ((with_reducible refine And.intro ?_ ?_); exact sX4) | ((first | ((with_reducible refine Vc.hold ?_); first | refine Vc.regiont T0_ok GJG_ok ?_)); (try simp only [v8Y, Nat.beq, Nat.ble, seval, tabs, GJG_set, d2])) | ((with_reducible refine hN _ _ ?_); clear hN N))))
    (refine Vc.cond T0_ok (t := true) (by rfl) (fun _ => ?_) (fun h => Bool.noConfusion h))
    (refine Vc.skip ?_; dsimp only [thenK, blockK, Nat.beq]; refine hN _ _ ?_; clear hN N)
    (repeat (first | (with_reducible first | refine Vc.seq fun N hN => ?_ | refine Vc.block ?_)))
    refine Vc.regiont T0_ok GJG_ok ?_
    (simp only [v8Y, Nat.beq, Nat.ble, seval, tabs, GJG_set, ti, hoo]; (try simp (disch := omega) only [v8W]); (repeat (first | ((with_reducible refine And.intro ?_ ?_); exact sX4))); (first | (refine hN _ _ ?_; clear hN N; (try simp (disch := omega) only [v8W])) | skip))
    refine Vc.cut1 (fun env' m' => ∃ (o' : Int) (j36 j37 j38 j39 j40 j41 j42 j43 j44 j45 j46 j47 j48 j49 j50 j51 j52 j53 j54 j55 j56 j57 j58 j59 j60 j61 j62 j63 j64 j65 j66 j67 j68 j69 j70 j71 j72 j73 j74 j75 j76 j77 : SV), goodO o' ∧ o' ≤ 255 ∧ env' = c8 (.agg ol) (.gh a1 n1 c1 (.ints .u8 bs)) (.gh a2 n2 c2 (.cells (fs.map SV.bool))) (.int .u8 role) (.ptr 1 b4 0 0 0 0) .undef .undef .undef (c8 (.bool false) (.int .i64 (role % 3 + 1)) (.ptr 2 b10 0 0 0 0) (.int .i64 (i : Nat)) (.int .u8 o') (junk 13) (junk 14) (junk 15) (c8 (junk 16) (junk 17) (junk 18) (junk 19) (junk 20) (junk 21) (junk 22) (junk 23) (c8 (junk 24) (junk 25) (.int .i64 (i : Nat)) (.gh a1 n1 c1 (.ints .u8 bs)) (.int .i64 (n1 : Nat)) (.bool true) (junk 30) (junk 31) (c8 (.gh a1 n1 c1 (.ints .u8 bs)) (.int .i64 (i : Nat)) (.gp a1 (.ints .u8 bs) 0 0 i) (.int .u8 o) j36 j37 j38 j39 (c8 j40 j41 j42 j43 j44 j45 j46 j47 (c8 j48 j49 j50 j51 j52 j53 j54 j55 (c8 j56 j57 j58 j59 j60 j61 j62 j63 (c8 j64 j65 j66 j67 j68 j69 j70 j71 (c8 j72 j73 j74 j75 j76 j77 (junk 78) (junk 79) (c8 (junk 80) (junk 81) (junk 82) (junk 83) (junk 84) (junk 85) (junk 86) (junk 87) (c8 (junk 88) (junk 89) (junk 90) (junk 91) (junk 92) (junk 93) (junk 94) (junk 95) (c8 (junk 96) (junk 97) (junk 98) (junk 99) (junk 100) (junk 101) (junk 102) (junk 103) (c8 (junk 104) (junk 105) (junk 106) (junk 107) (junk 108) (junk 109) (junk 110) (junk 111) ([junk 112])))))))))))))) ∧ m' = [allOld w, .blk b4 30 (.cells ol), .blk b10 35 (.cells (arrK (kk - 1) (.own 3 v es.length))), .own v es.length 47 32 (.rows 32 (es.map (rowQ .nilsl [x0, x1, x2, x3, x4, x5, x6, x7, x8, x9, x10, x11, x12, x13, x14, x15, x16, x17, x18, x19])))]) ?_ ?_
    ·rintro _ _ ⟨o', j36, j37, j38, j39, j40, j41, j42, j43, j44, j45, j46, j47, j48, j49, j50, j51, j52, j53, j54, j55, j56, j57, j58, j59, j60, j61, j62, j63, j64, j65, j66, j67, j68, j69, j70, j71, j72, j73, j74, j75, j76, j77, hg, hg2, rfl, rfl⟩
     by_cases hi4 : i < n2
     ·have d4 : decide ((i : Int) < (n2 : Int)) = true := decide_eq_true (by omega)
      have hfi : nth? (fs.map SV.bool) i = some (.bool (fs[i]'(by omega))) := by rw [nth?_get, List.getElem?_map, List.getElem?_eq_getElem (by omega)]; rfl
      generalize fs[i]'(by omega) = f at hfi
      cases f
      ·((repeat (first | (with_reducible refine Vc.seq fun N hN => ?_) | (with_reducible intro _) | ((with_reducible refine And.intro ?_ ?_); exact sX4) | ((first | ((with_reducible refine Vc.hold ?_); first | refine Vc.regiont T0_ok GJG_ok ?_)); (try simp only [v8Y, Nat.beq, Nat.ble, seval, tabs, GJG_set, ti, d4, hfi, hoo, hc0, hsnd, toU8_bL, hkt, ak, List.drop_zero, List.take_succ_cons, List.take_zero])) | ((with_reducible refine hN _ _ ?_); clear hN N))))
       (refine Vc.cond T0_ok (t := false) (by rfl) (fun h => Bool.noConfusion h) (fun _ => ?_))
       ((repeat (first | (with_reducible refine Vc.seq fun N hN => ?_) | ((first | with_reducible refine Vc.skip ?_); dsimp only [thenK, blockK, Nat.beq]; (first | (refine hN _ _ ?_; clear hN N))) | (with_reducible intro _) | ((with_reducible refine And.intro ?_ ?_); exact sX4) | ((first | ((with_reducible refine Vc.hold ?_); first | refine Vc.regiont T0_ok GJG_ok ?_ | refine Vc.drawt (id := 15) T0_ok GJG_ok (by kernel_rfl) [0, 1, 2, 3, 4, 5] 6 [] trivial (by kernel_rfl) ?_)); (try simp only [v8Y, Nat.beq, Nat.ble, seval, tabs, GJG_set, ti, d4, hfi, hoo, hc0, hsnd, toU8_bL, hkt, ak, List.drop_zero, List.take_succ_cons, List.take_zero])) | ((with_reducible refine hN _ _ ?_); clear hN N))))
       rename_i v6
       refine ⟨(i + 1, es ++ [(o', 0)], v6), ⟨by dsimp only; omega, by simp [hi2], fun e he => ?_⟩, ?_, ?_, by dsimp only; omega⟩
       ·rcases List.mem_append.1 he with he | he
        ·exact hi3 e he
        ·obtain rfl := List.mem_singleton.1 he
         exact .inl ⟨rfl, hg⟩
       ·((try simp only [v8Y, Nat.beq, Nat.ble, seval, tabs]); (repeat' with_reducible apply And.intro) <;> first | with_reducible exact True.intro | rfl | (congr 1 <;> omega))
       ·simp only [ak, List.length_append, List.length_cons, List.length_nil, List.map_append, List.map_cons, List.map_nil, Nat.zero_add]; (repeat' with_reducible apply And.intro) <;> first | exact trivial | rfl
      ·((repeat (first | (with_reducible refine Vc.seq fun N hN => ?_) | (with_reducible intro _) | ((with_reducible refine And.intro ?_ ?_); exact sX4) | ((first | ((with_reducible refine Vc.hold ?_); first | refine Vc.regiont T0_ok GJG_ok ?_)); (try simp only [v8Y, Nat.beq, Nat.ble, seval, tabs, GJG_set, ti, d4, hfi, hoo, hc0, hsnd, toU8_bL, hkt, ak, List.drop_zero, List.take_succ_cons, List.take_zero])) | ((with_reducible refine hN _ _ ?_); clear hN N))))
       (refine Vc.cond T0_ok (t := true) (by rfl) (fun _ => ?_) (fun h => Bool.noConfusion h))
       ((repeat (first | (with_reducible refine Vc.seq fun N hN => ?_) | ((first | with_reducible refine Vc.skip ?_); dsimp only [thenK, blockK, Nat.beq]; (first | (refine hN _ _ ?_; clear hN N))) | (with_reducible intro _) | ((with_reducible refine And.intro ?_ ?_); exact sX4) | ((first | ((with_reducible refine Vc.hold ?_); first | refine Vc.regiont T0_ok GJG_ok ?_ | refine Vc.drawt (id := 15) T0_ok GJG_ok (by kernel_rfl) [0, 1, 2, 3, 4, 5] 6 [] trivial (by kernel_rfl) ?_)); (try simp only [v8Y, Nat.beq, Nat.ble, seval, tabs, GJG_set, ti, d4, hfi, hoo, hc0, hsnd, toU8_bL, hkt, ak, List.drop_zero, List.take_succ_cons, List.take_zero])) | ((with_reducible refine hN _ _ ?_); clear hN N))))
       rename_i v6
       refine ⟨(i + 1, es ++ [(o, 133)], v6), ⟨by dsimp only; omega, by simp [hi2], fun e he => ?_⟩, ?_, ?_, by dsimp only; omega⟩
       ·rcases List.mem_append.1 he with he | he
        ·exact hi3 e he
        ·obtain rfl := List.mem_singleton.1 he
         exact .inr ⟨rfl, ho.1, ho.2⟩
       ·((try simp only [v8Y, Nat.beq, Nat.ble, seval, tabs]); (repeat' with_reducible apply And.intro) <;> first | with_reducible exact True.intro | rfl | (congr 1 <;> omega))
       ·simp only [ak, List.length_append, List.length_cons, List.length_nil, List.map_append, List.map_cons, List.map_nil, Nat.zero_add]; (repeat' with_reducible apply And.intro) <;> first | exact trivial | rfl
     ·have hfi : True := trivial
      have d4 : decide ((i : Int) < (n2 : Int)) = false := decide_eq_false (by omega)
      ((repeat (first | (with_reducible refine Vc.seq fun N hN => ?_) | ((first | with_reducible refine Vc.skip ?_); dsimp only [thenK, blockK, Nat.beq]; (first | (refine hN _ _ ?_; clear hN N))) | (with_reducible intro _) | ((with_reducible refine And.intro ?_ ?_); exact sX4) | ((first | ((with_reducible refine Vc.hold ?_); first | refine Vc.regiont T0_ok GJG_ok ?_ | refine Vc.drawt (id := 15) T0_ok GJG_ok (by kernel_rfl) [0, 1, 2, 3, 4, 5] 6 [] trivial (by kernel_rfl) ?_)); (try simp only [v8Y, Nat.beq, Nat.ble, seval, tabs, GJG_set, ti, d4, hfi, hoo, hc0, hsnd, toU8_bL, hkt, ak, List.drop_zero, List.take_succ_cons, List.take_zero])) | ((with_reducible refine hN _ _ ?_); clear hN N))))
      (refine Vc.cond T0_ok (t := false) (by rfl) (fun h => Bool.noConfusion h) (fun _ => ?_))
      ((repeat (first | (with_reducible refine Vc.seq fun N hN => ?_) | ((first | with_reducible refine Vc.skip ?_); dsimp only [thenK, blockK, Nat.beq]; (first | (refine hN _ _ ?_; clear hN N))) | (with_reducible intro _) | ((with_reducible refine And.intro ?_ ?_); exact sX4) | ((first | ((with_reducible refine Vc.hold ?_); first | refine Vc.regiont T0_ok GJG_ok ?_ | refine Vc.drawt (id := 15) T0_ok GJG_ok (by kernel_rfl) [0, 1, 2, 3, 4, 5] 6 [] trivial (by kernel_rfl) ?_)); (try simp only [v8Y, Nat.beq, Nat.ble, seval, tabs, GJG_set, ti, d4, hfi, hoo, hc0, hsnd, toU8_bL, hkt, ak, List.drop_zero, List.take_succ_cons, List.take_zero])) | ((with_reducible refine hN _ _ ?_); clear hN N))))
      rename_i v6
      refine ⟨(i + 1, es ++ [(o', 0)], v6), ⟨by dsimp only; omega, by simp [hi2], fun e he => ?_⟩, ?_, ?_, by dsimp only; omega⟩
      ·rcases List.mem_append.1 he with he | he
       ·exact hi3 e he
       ·obtain rfl := List.mem_singleton.1 he
        exact .inl ⟨rfl, hg⟩
      ·((try simp only [v8Y, Nat.beq, Nat.ble, seval, tabs]); (repeat' with_reducible apply And.intro) <;> first | with_reducible exact True.intro | rfl | (congr 1 <;> omega))
      ·simp only [ak, List.length_append, List.length_cons, List.length_nil, List.map_append, List.map_cons, List.map_nil, Nat.zero_add]; (repeat' with_reducible apply And.intro) <;> first | exact trivial | rfl
    ·intro N9 h9
     rcases opQ o with h | h | h | h | h | h | h | h | h | h | h | h
     all_goals
      (first | have e51 : decide (o = 51) = true := decide_eq_true (by omega) | have e51 : decide (o = 51) = false := decide_eq_false (by omega))
      (first | have e52 : decide (o = 52) = true := decide_eq_true (by omega) | have e52 : decide (o = 52) = false := decide_eq_false (by omega))
      (first | have e53 : decide (o = 53) = true := decide_eq_true (by omega) | have e53 : decide (o = 53) = false := decide_eq_false (by omega))
      (first | have e54 : decide (o = 54) = true := decide_eq_true (by omega) | have e54 : decide (o = 54) = false := decide_eq_false (by omega))
      (first | have e55 : decide (o = 55) = true := decide_eq_true (by omega) | have e55 : decide (o = 55) = false := decide_eq_false (by omega))
      (first | have e84 : decide (o = 84) = true := decide_eq_true (by omega) | have e84 : decide (o = 84) = false := decide_eq_false (by omega))
      (first | have e85 : decide (o = 85) = true := decide_eq_true (by omega) | have e85 : decide (o = 85) = false := decide_eq_false (by omega))
      (first | have e90 : decide (o = 90) = true := decide_eq_true (by omega) | have e90 : decide (o = 90) = false := decide_eq_false (by omega))
      (first | have e49 : decide (49 ≤ o) = true := decide_eq_true (by omega) | have e49 : decide (49 ≤ o) = false := decide_eq_false (by omega))
      (first | have e80 : decide (o < 80) = true := decide_eq_true (by omega) | have e80 : decide (o < 80) = false := decide_eq_false (by omega))
      (first | have e240 : decide (240 ≤ o) = true := decide_eq_true (by omega) | have e240 : decide (240 ≤ o) = false := decide_eq_false (by omega))
      (with_reducible refine Vc.seq fun N hN => ?_)
      refine Vc.regiont T0_ok GJG_ok ?_
      (simp only [v8Y, Nat.beq, Nat.ble, seval, tabs, GJG_set, e51, e52, e53, e54, e55, e84, e85, e90, e49, e80, e240, Bool.not_true, Bool.not_false]; (try simp (disch := omega) only [v8W]); (repeat (first | ((with_reducible refine And.intro ?_ ?_); exact sX4))); (first | (refine hN _ _ ?_; clear hN N; (try simp (disch := omega) only [v8W])) | skip))
     all_goals first | ((refine Vc.cond T0_ok (t := true) (by rfl) (fun _ => ?_) (fun h => Bool.noConfusion h)); refine Vc.regiont T0_ok GJG_ok ?_; (simp only [v8Y, Nat.beq, Nat.ble, seval, tabs, GJG_set]; (try simp (disch := omega) only [v8W]); (repeat (first | ((with_reducible refine And.intro ?_ ?_); exact sX4))); (first | (refine hN _ _ ?_; clear hN N; (try simp (disch := omega) only [v8W])) | skip))) | ((refine Vc.cond T0_ok (t := false) (by rfl) (fun h => Bool.noConfusion h) (fun _ => ?_)); refine Vc.skip ?_; dsimp only [thenK])
     all_goals refine h9 _ _ ⟨_, _, _, _, _, _, _, _, _, _, _, _, _, _, _, _, _, _, _, _, _, _, _, _, _, _, _, _, _, _, _, _, _, _, _, _, _, _, _, _, _, _, _, ?_, ?_, rfl, rfl⟩
     all_goals first | omega | (unfold goodO; omega)
   ·have d2 : decide ((i : Int) < (n1 : Int)) = false := decide_eq_false (by omega)
    have hE4 : ∀ H, ∃ l, EvsR H (es.map (rowQ (.gh none 0 0 (.ints .u8 [])) [x0, x1, x2, x3, x4, x5, x6, x7, x8, x9, x10, x11, x12, x13, x14, x15, x16, x17, x18, x19])) l := fun H => ⟨_, rowQ_evs hsl hsb hi3⟩
    have hev4 : evOf (es.map (rowQ (.gh none 0 0 (.ints .u8 [])) [x0, x1, x2, x3, x4, x5, x6, x7, x8, x9, x10, x11, x12, x13, x14, x15, x16, x17, x18, x19])) = es.map (evQ [x0, x1, x2, x3, x4, x5, x6, x7, x8, x9, x10, x11, x12, x13, x14, x15, x16, x17, x18, x19]) := evOf_eq (rowQ_evs (H := fun _ _ => True) hsl hsb hi3)
    have hq1 : ∀ E, chkR E (lsF (es.map (evQ [x0, x1, x2, x3, x4, x5, x6, x7, x8, x9, x10, x11, x12, x13, x14, x15, x16, x17, x18, x19])) [] []) 3 = [] := fun E => (chk_quiet hi3).1
    have hq2 : ∀ E, chkR E (lsF [] (es.map (evQ [x0, x1, x2, x3, x4, x5, x6, x7, x8, x9, x10, x11, x12, x13, x14, x15, x16, x17, x18, x19])) []) 3 = [] := fun E => (chk_quiet hi3).2.1
    have hq3 : ∀ E, chkR E (lsF [] [] (es.map (evQ [x0, x1, x2, x3, x4, x5, x6, x7, x8, x9, x10, x11, x12, x13, x14, x15, x16, x17, x18, x19]))) 3 = [] := fun E => (chk_quiet hi3).2.2
    have hac : ∀ S, S = newS [] → AcOk S := fun S h => h ▸ new_AcOk (fun z hz => absurd hz List.not_mem_nil) (fun z hz => absurd hz List.not_mem_nil)
    have d0 : decide (((0 : Nat) : Int) = 0) = true := by decide
    have hel : es.length ≤ 1000000 := by omega
    ((repeat (first | (with_reducible refine Vc.seq fun N hN => ?_) | ((with_reducible refine And.intro ?_ ?_); exact sX4) | ((first | ((with_reducible refine Vc.hold ?_); first | refine Vc.regiont T0_ok GJG_ok ?_)); (try simp only [v8Y, Nat.beq, Nat.ble, seval, tabs, GJG_set, d2])) | ((with_reducible refine hN _ _ ?_); clear hN N))))
    (refine Vc.cond T0_ok (t := false) (by rfl) (fun h => Bool.noConfusion h) (fun _ => ?_))
    (refine Vc.exit ?_; dsimp only [thenK, blockK, Nat.beq])
    (refine hN1 _ _ ?_; (try clear hN N); clear hN1 N1)
    refine Vc.ownCon 3 (.rows 32 (es.map (rowQ (.gh none 0 0 (.ints .u8 [])) [x0, x1, x2, x3, x4, x5, x6, x7, x8, x9, x10, x11, x12, x13, x14, x15, x16, x17, x18, x19]))) rfl (rowQ_cc _ _) ?_
    (simp only [v8Y, Nat.beq, Nat.ble, seval, tabs])
    ((repeat (first | (with_reducible refine Vc.seq fun N hN => ?_) | (with_reducible intro _) | ((with_reducible refine And.intro ?_ ?_); (focus (first | ((repeat' with_reducible apply And.intro) <;> first | exact sideQ | (with_reducible exact hK0 _ (by simp)) | (with_reducible exact hK1 _ (by simp)) | (with_reducible exact hB _ (by simp)) | (with_reducible exact hF _ (by simp)) | (with_reducible exact hol _ (by simp)) | (simp only [inK]; omega) | (exact hE4 _) | (exact hac _ (by assumption))) | exact sd0))) | ((first | ((with_reducible refine Vc.fin ?_); dsimp only [thenK, blockK, retK, resS, resOne, resAll]) | ((with_reducible refine Vc.hold ?_); first | refine Vc.drawt (id := 16) T0_ok GJG_ok (by kernel_rfl) [1, 2, 3, 0] 4 [] trivial (by kernel_rfl) ?_)); (try simp only [v8Y, Nat.beq, Nat.ble, seval, tabs, GJG_set, hop, f3, ak, evA.eq_def, hev4, hq1, hq2, hq3, d0, List.length_nil])) | ((with_reducible refine hN _ _ ?_); clear hN N))); (try ((with_reducible refine Fin.of ?_); (try with_reducible exact True.intro))))
    exact ⟨by simp, trivial⟩
end Go.Proofs.YtoadeekdgikghaaDoor
