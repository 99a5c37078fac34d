/-
 Package rules: the rules, each walked. No condition.
-/
import Derived.Test.YtoadeekdgikghaaDoorJ2
set_option maxRecDepth 20000
set_option maxHeartbeats 4000000
set_option linter.defProp false
set_option linter.unusedVariables false
set_option linter.unusedSimpArgs false
namespace Go.Proofs.YtoadeekdgikghaaDoor
open Go.RowKit
noncomputable def GJ4 : Ctr := fun f args m => match f with
 | 67 => g_Addr args m
 | 60 => g_jself args m
 | 61 => g_bi args m
 | _ => .none
theorem GJ4_ok : GOk Tryd.prog GJ4 := by
 intro w0 B f args m; unfold GJ4; split
 ·exact g_Addr_ok _ _ _ _
 ·exact g_jself_ok _ _ _ _
 ·exact g_bi_ok _ _ _ _
 ·exact trivial
theorem GJ4_Addr : GJ4 67 = g_Addr := by funext args m; rfl
theorem GJ4_jself : GJ4 60 = g_jself := by funext args m; rfl
theorem GJ4_bi : GJ4 61 = g_bi := by funext args m; rfl
def GJ4_set := And.intro (And.intro (@GJ4_Addr) (And.intro (@g_Addr.eq_def) (@GJ4_jself))) (And.intro (@g_jself.eq_def) (And.intro (@GJ4_bi) (@g_bi.eq_def)))

set_option maxRecDepth 20000 in
theorem oth_vc (E : JE) (st : List SV) (w : World) (hS : StOk E (H0 w) st) : Calls Tryd.prog 59 (cvs [.agg st]).toArray w (fun en w' => ∃ u, en = .returned u ∧ ∃ v' m', u = cv v' ∧ MemOk w [] m' w' ∧ v' = .ints .u8 (othE E)) := by
 have hSt : ∀ m, allOld w ∈ m → StOk E (HM m) st := fun m hin => hS.mono (H0.hm hin)
 obtain ⟨s1, s2, s3, c0, c2, ⟨x0, x1, x2, x3, c22, a22, n22⟩, ⟨y0, y1, y2, y3, c26, a26, n26⟩, ⟨ba, bn, bc, c30, b1, b2, b3, b4, b5, b6⟩, c31, ⟨pb, P, c32, hP⟩, c33, q1, q2, q3, q4, q5, q6, k0, k1⟩ := hS
 obtain ⟨p1, p2, p3, ⟨wp, wc, r0, hW⟩, ⟨ol, r1, hO⟩, rS, r25, r84, rl, r85, r86, r87, r88, ⟨la, ln, lc, r89, hL⟩, ⟨sa, sn, sc, r90, hV⟩, r91, ⟨hb, ha, hn, hc, hr, r92, h1, h2, h3⟩⟩ := hP
 have hPl : ∀ m, allOld w ∈ m → LiesH (HM m) (some ⟨pb, 0, none⟩) (cc (.cells P)) := fun m hin => p1.mono (H0.hm hin)
 have hLo : ∀ m, allOld w ∈ m → SlI (HM m) la ln lc E.lo := fun m hin => hL.mono (H0.hm hin)
 have hSv : ∀ m, allOld w ∈ m → SlI (HM m) sa sn sc E.sv := fun m hin => hV.mono (H0.hm hin)
 have hBs : ∀ m, allOld w ∈ m → LiesH (HM m) ba (cc (.ints .u8 E.e.bs)) := fun m hin => b4.mono (H0.hm hin)
 have hHb : ∀ m, allOld w ∈ m → LiesH (HM m) (some ⟨hb, 0, none⟩) (cc (.cells [.gh ha hn hc (.rows 32 hr)])) := fun m hin => h1.mono (H0.hm hin)
 have hHs : ∀ m, allOld w ∈ m → EvL (HM m) ha hn hc hr E.hs := fun m hin => h2.mono (H0.hm hin)
 have hK0 : ∀ m, allOld w ∈ m → LiesH (HM m) (some ⟨0, 0, none⟩) (cc (.ints .u64 kKeys)) := fun m hin => k0.mono (H0.hm hin)
 have hK1 : ∀ m, allOld w ∈ m → LiesH (HM m) (some ⟨1, 0, none⟩) (cc (.ints .u8 kPathI)) := fun m hin => k1.mono (H0.hm hin)
 have hWd : ∀ m, allOld w ∈ m → WdH (HM m) E.acc wp wc := fun m hin => hW.mono (H0.hm hin)
 have hOp : ∀ m, allOld w ∈ m → OpR (HM m) ol E.x := fun m hin => hO.mono (H0.hm hin)
 have hev := evOf_eq h2.rows
 have hop := opOf_eq hO
 have hov := hO.bs
 have hol := hO.ls
 have bt : E.e.bs.take bn = E.e.bs := List.take_of_length_le (by omega)
 have aW : E.e.arg < W := by rw [← n22]; exact numI_ltE a22
 have vW : E.e.val < W := by rw [← n26]; exact numI_ltE a26
 have hbl := bytI_len E.e.arg 20
 refine Vc.calls T0_ok Tryd.func59 rfl rfl (args := [.agg st]) (k := 6) rfl (old_start w) ?_; change Vc _ _ ([.agg st, .undef, .undef, .undef, .undef, .undef, .undef]) _ _
 ((repeat (first | (with_reducible refine Vc.seq fun N hN => ?_) | (with_reducible intro _) | ((with_reducible refine And.intro ?_ ?_); (focus (first | ((repeat' with_reducible apply And.intro) <;> first | exact sideQ | (exact hSt _ (by simp)) | (exact hPl _ (by simp)) | (exact hLo _ (by simp)) | (exact hSv _ (by simp)) | (exact hBs _ (by simp)) | (exact hHb _ (by simp)) | (exact ⟨_, hHs _ (by simp)⟩) | (exact hK0 _ (by simp)) | (exact hK1 _ (by simp)) | (exact ⟨_, hOp _ (by simp)⟩) | (simp [allU]; done)) | exact sd0))) | ((first | ((with_reducible refine Vc.fin ?_); dsimp only [thenK, blockK, retK, resS, resOne, resAll]) | ((with_reducible refine Vc.hold ?_); first | refine Vc.regiont T0_ok GJ4_ok ?_)); (try simp only [v8Y, Nat.beq, Nat.ble, seval, tabs, GJ4_set, s2, s3, c0, c2, c22, c26, c30, c31, c32, c33, r0, r1, rS, r25, r84, r85, r86, r87, r88, r89, r90, r91, r92, n22, n26, toU8_bL, List.drop_zero])) | ((with_reducible refine hN _ _ ?_); clear hN N))); (try ((with_reducible refine Fin.of ?_); (try with_reducible exact True.intro))))
 exact ⟨by first | trivial | simp, by first | rfl | trivial⟩
noncomputable def g_oth (E : JE) (args : List SV) (m : List Blk) : CR := match args with
 | [.agg st] => .pure (StOk E (HM m) st) (.ints .u8 (othE E))
 | _ => .none
theorem g_oth_ok (E : JE) (w0 : World) (B : List Nat) (args : List SV) (m : List Blk) : CROk Tryd.prog w0 B 59 args m (g_oth E args m) := by
 unfold g_oth; split
 ·rename_i st
  intro h w hm
  exact calls_pure Tryd.func59 rfl rfl (oth_vc E st w (h.mono fun b o h => hm.hm h))
 ·exact trivial

theorem isStk_vc (E : JE) (pb : Nat) (P : List SV) (w : World) (hP : PaR (H0 w) E pb P) : Calls Tryd.prog 57 (cvs [.gp (some ⟨pb, 0, none⟩) (.cells P) 0 0 0]).toArray w (fun en w' => ∃ u, en = .returned u ∧ ∃ v' m', u = cv v' ∧ MemOk w [] m' w' ∧ v' = .bool (stakedE E)) := by
 obtain ⟨p1, p2, p3, ⟨wp, wc, r0, hW⟩, ⟨ol, r1, hO⟩, rS, r25, r84, rl, r85, r86, r87, r88, ⟨la, ln, lc, r89, hL⟩, ⟨sa, sn, sc, r90, hV⟩, r91, ⟨hb, ha, hn, hc, hr, r92, h1, h2, h3⟩⟩ := hP
 have hPl : ∀ m, allOld w ∈ m → LiesH (HM m) (some ⟨pb, 0, none⟩) (cc (.cells P)) := fun m hin => p1.mono (H0.hm hin)
 unfold stakedE
 rcases rl with rl | rl | rl <;> rw [rl] at r84 ⊢
 all_goals
  refine Vc.calls T0_ok Tryd.func57 rfl rfl (args := [.gp (some ⟨pb, 0, none⟩) (.cells P) 0 0 0]) (k := 11) rfl (old_start w) ?_; change Vc _ _ (c8 (.gp (some ⟨pb, 0, none⟩) (.cells P) 0 0 0) .undef .undef .undef .undef .undef .undef .undef ([.undef, .undef, .undef, .undef])) _ _
  ((repeat (first | (with_reducible refine Vc.seq fun N hN => ?_) | ((with_reducible refine And.intro ?_ ?_); (focus (first | ((repeat' with_reducible apply And.intro) <;> first | exact sideQ | (exact hPl _ (by simp))) | exact sd0))) | ((first | ((with_reducible refine Vc.fin ?_); dsimp only [thenK, blockK, retK, resS, resOne, resAll]) | ((with_reducible refine Vc.hold ?_); first | refine Vc.regiont T0_ok GJ4_ok ?_ | refine Vc.drawt (id := 1) T0_ok GJ4_ok (by kernel_rfl) [0, 1, 2, 3, 4, 5, 6] 7 [] trivial (by kernel_rfl) ?_)); (try simp only [v8Y, Nat.beq, Nat.ble, seval, tabs, GJ4_set, r84, r85, r86, r87, r88])) | ((with_reducible refine hN _ _ ?_); clear hN N))); (try ((with_reducible refine Fin.of ?_); (try with_reducible exact True.intro))))
  exact ⟨by first | trivial | simp, by first | rfl | trivial⟩
noncomputable def g_isStk (E : JE) (args : List SV) (m : List Blk) : CR := match args with
 | [.gp (some ⟨pb, 0, none⟩) (.cells P) 0 0 0] => .pure (PaR (HM m) E pb P) (.bool (stakedE E))
 | _ => .none
theorem g_isStk_ok (E : JE) (w0 : World) (B : List Nat) (args : List SV) (m : List Blk) : CROk Tryd.prog w0 B 57 args m (g_isStk E args m) := by
 unfold g_isStk; split
 ·rename_i pb P
  intro h w hm
  exact calls_pure Tryd.func57 rfl rfl (isStk_vc E pb P w (h.mono fun b o h => hm.hm h))
 ·exact trivial
noncomputable def GJ5 (E : JE) : Ctr := fun f args m => match f with
 | 67 => g_Addr args m
 | 60 => g_jself args m
 | 61 => g_bi args m
 | 59 => g_oth E args m
 | 57 => g_isStk E args m
 | 58 => g_among args m
 | _ => .none
theorem GJ5_mk {E : JE} : GOk Tryd.prog (GJ5 E) := by
 intro w0 B f args m; unfold GJ5; split
 ·exact g_Addr_ok _ _ _ _
 ·exact g_jself_ok _ _ _ _
 ·exact g_bi_ok _ _ _ _
 ·exact g_oth_ok E _ _ _ _
 ·exact g_isStk_ok E _ _ _ _
 ·exact g_among_ok _ _ _ _
 ·exact trivial
theorem GJ5_Addr {E : JE} : GJ5 E 67 = g_Addr := by funext args m; rfl
theorem GJ5_jself {E : JE} : GJ5 E 60 = g_jself := by funext args m; rfl
theorem GJ5_bi {E : JE} : GJ5 E 61 = g_bi := by funext args m; rfl
theorem GJ5_oth {E : JE} : GJ5 E 59 = g_oth E := by funext args m; rfl
theorem GJ5_isStk {E : JE} : GJ5 E 57 = g_isStk E := by funext args m; rfl
theorem GJ5_among {E : JE} : GJ5 E 58 = g_among := by funext args m; rfl
def GJ5_set := And.intro (And.intro (And.intro (@GJ5_Addr) (And.intro (@g_Addr.eq_def) (@GJ5_jself))) (And.intro (@g_jself.eq_def) (And.intro (@GJ5_bi) (@g_bi.eq_def)))) (And.intro (And.intro (@GJ5_oth) (And.intro (@g_oth.eq_def) (@GJ5_isStk))) (And.intro (@g_isStk.eq_def) (And.intro (@GJ5_among) (@g_among.eq_def))))

theorem opcA (x : Int) : x = 50 ∨ x = 58 ∨ x = 64 ∨ x = 65 ∨ x = 66 ∨ x = 67 ∨ x = 68 ∨ x = 69 ∨ x = 72 ∨ x = 255 ∨ x = 49 ∨ x = 71 ∨ (x ≠ 50 ∧ x ≠ 58 ∧ x ≠ 64 ∧ x ≠ 65 ∧ x ≠ 66 ∧ x ≠ 67 ∧ x ≠ 68 ∧ x ≠ 69 ∧ x ≠ 72 ∧ x ≠ 255 ∧ x ≠ 49 ∧ x ≠ 71) := by omega
set_option maxRecDepth 20000 in
theorem r0_vc (E : JE) (st : List SV) (w : World) (hS : StOk E (H0 w) st) : Calls Tryd.prog 44 (cvs [.agg st]).toArray w (fun en w' => ∃ u, en = .returned u ∧ ∃ v' m', u = cv v' ∧ MemOk w [] m' w' ∧ v' = .bool (ruleE E 0)) := by
 have hSt : ∀ m, allOld w ∈ m → StOk E (HM m) st := fun m hin => hS.mono (H0.hm hin)
 obtain ⟨s1, s2, s3, c0, c2, ⟨x0, x1, x2, x3, c22, a22, n22⟩, ⟨y0, y1, y2, y3, c26, a26, n26⟩, ⟨ba, bn, bc, c30, b1, b2, b3, b4, b5, b6⟩, c31, ⟨pb, P, c32, hPP⟩, c33, q1, q2, q3, q4, q5, q6, k0, k1⟩ := hS
 obtain ⟨p1, p2, p3, ⟨wp, wc, r0, hW⟩, ⟨ol, r1, hO⟩, rS, r25, r84, rl, r85, r86, r87, r88, ⟨la, ln, lc, r89, hL⟩, ⟨sa, sn, sc, r90, hV⟩, r91, ⟨hb, ha, hn, hc, hr, r92, h1, h2, h3⟩⟩ := id hPP
 have hPl : ∀ m, allOld w ∈ m → LiesH (HM m) (some ⟨pb, 0, none⟩) (cc (.cells P)) := fun m hin => p1.mono (H0.hm hin)
 have hLo : ∀ m, allOld w ∈ m → SlI (HM m) la ln lc E.lo := fun m hin => hL.mono (H0.hm hin)
 have hSv : ∀ m, allOld w ∈ m → SlI (HM m) sa sn sc E.sv := fun m hin => hV.mono (H0.hm hin)
 have hBs : ∀ m, allOld w ∈ m → LiesH (HM m) ba (cc (.ints .u8 E.e.bs)) := fun m hin => b4.mono (H0.hm hin)
 have hHb : ∀ m, allOld w ∈ m → LiesH (HM m) (some ⟨hb, 0, none⟩) (cc (.cells [.gh ha hn hc (.rows 32 hr)])) := fun m hin => h1.mono (H0.hm hin)
 have hHs : ∀ m, allOld w ∈ m → EvL (HM m) ha hn hc hr E.hs := fun m hin => h2.mono (H0.hm hin)
 have hK0 : ∀ m, allOld w ∈ m → LiesH (HM m) (some ⟨0, 0, none⟩) (cc (.ints .u64 kKeys)) := fun m hin => k0.mono (H0.hm hin)
 have hK1 : ∀ m, allOld w ∈ m → LiesH (HM m) (some ⟨1, 0, none⟩) (cc (.ints .u8 kPathI)) := fun m hin => k1.mono (H0.hm hin)
 have hWd : ∀ m, allOld w ∈ m → WdH (HM m) E.acc wp wc := fun m hin => hW.mono (H0.hm hin)
 have hOp : ∀ m, allOld w ∈ m → OpR (HM m) ol E.x := fun m hin => hO.mono (H0.hm hin)
 have hev := evOf_eq h2.rows
 have hop := opOf_eq hO
 have hov := hO.bs
 have hol := hO.ls
 have bt : E.e.bs.take bn = E.e.bs := List.take_of_length_le (by omega)
 have aW : E.e.arg < W := by rw [← n22]; exact numI_ltE a22
 have vW : E.e.val < W := by rw [← n26]; exact numI_ltE a26
 have hPa : ∀ m, allOld w ∈ m → PaR (HM m) E pb P := fun m hin => hPP.mono (H0.hm hin)
 have GJ5_ok := GJ5_mk (E := E)
 rcases opcA E.e.op with h | h | h | h | h | h | h | h | h | h | h | h | h
 all_goals
  (first | have d50 : decide (E.e.op = 50) = true := decide_eq_true (by omega) | have d50 : decide (E.e.op = 50) = false := decide_eq_false (by omega))
  (first | have d58 : decide (E.e.op = 58) = true := decide_eq_true (by omega) | have d58 : decide (E.e.op = 58) = false := decide_eq_false (by omega))
  (first | have d64 : decide (E.e.op = 64) = true := decide_eq_true (by omega) | have d64 : decide (E.e.op = 64) = false := decide_eq_false (by omega))
  (first | have d65 : decide (E.e.op = 65) = true := decide_eq_true (by omega) | have d65 : decide (E.e.op = 65) = false := decide_eq_false (by omega))
  (first | have d66 : decide (E.e.op = 66) = true := decide_eq_true (by omega) | have d66 : decide (E.e.op = 66) = false := decide_eq_false (by omega))
  (first | have d67 : decide (E.e.op = 67) = true := decide_eq_true (by omega) | have d67 : decide (E.e.op = 67) = false := decide_eq_false (by omega))
  (first | have d68 : decide (E.e.op = 68) = true := decide_eq_true (by omega) | have d68 : decide (E.e.op = 68) = false := decide_eq_false (by omega))
  (first | have d69 : decide (E.e.op = 69) = true := decide_eq_true (by omega) | have d69 : decide (E.e.op = 69) = false := decide_eq_false (by omega))
  (first | have d72 : decide (E.e.op = 72) = true := decide_eq_true (by omega) | have d72 : decide (E.e.op = 72) = false := decide_eq_false (by omega))
  (first | have d255 : decide (E.e.op = 255) = true := decide_eq_true (by omega) | have d255 : decide (E.e.op = 255) = false := decide_eq_false (by omega))
  (first | have d49 : decide (E.e.op = 49) = true := decide_eq_true (by omega) | have d49 : decide (E.e.op = 49) = false := decide_eq_false (by omega))
  (first | have d71 : decide (E.e.op = 71) = true := decide_eq_true (by omega) | have d71 : decide (E.e.op = 71) = false := decide_eq_false (by omega))
  refine Vc.calls T0_ok Tryd.func44 rfl rfl (args := [.agg st]) (k := 23) rfl (old_start w) ?_; change Vc _ _ (c8 (.agg st) .undef .undef .undef .undef .undef .undef .undef (c8 .undef .undef .undef .undef .undef .undef .undef .undef (c8 .undef .undef .undef .undef .undef .undef .undef .undef ([])))) _ _
  ((with_reducible refine Vc.seq fun N hN => ?_); (refine Vc.regiont T0_ok GJ5_ok ?_); simp only [v8Y, Nat.beq, Nat.ble, seval, tabs, GJ5_set, s2, s3, c0, c2, c22, c26, c30, c31, c32, c33, r0, r1, rS, r25, r84, r85, r86, r87, r88, r89, r90, r91, r92, n22, n26, toU8_bL, List.drop_zero, Bool.or_false, Bool.or_true, Bool.true_or, Bool.false_or, Bool.not_true, Bool.not_false, Bool.and_false, Bool.false_and, Bool.and_true, Bool.true_and, d50, d58, d64, d65, d66, d67, d68, d69, d72, d255, d49, d71]; (try simp (disch := omega) only [v8W]); (repeat (first | with_reducible intro _ | ((with_reducible refine And.intro ?_ ?_); exact sX12))); (first | (refine hN _ _ ?_; clear hN N; (try simp (disch := omega) only [v8W])) | skip))
  ((repeat (first | (with_reducible first | refine Vc.seq fun N hN => ?_ | refine Vc.block ?_) | ((with_reducible refine And.intro ?_ ?_); exact sX12) | ((first | ((with_reducible refine Vc.hold ?_); first | refine Vc.regiont T0_ok GJ5_ok ?_)); (try simp only [v8Y, Nat.beq, Nat.ble, seval, tabs, GJ5_set, s2, s3, c0, c2, c22, c26, c30, c31, c32, c33, r0, r1, rS, r25, r84, r85, r86, r87, r88, r89, r90, r91, r92, n22, n26, toU8_bL, List.drop_zero, Bool.or_false, Bool.or_true, Bool.true_or, Bool.false_or, Bool.not_true, Bool.not_false, Bool.and_false, Bool.false_and, Bool.and_true, Bool.true_and, d50, d58, d64, d65, d66, d67, d68, d69, d72, d255, d49, d71])) | ((with_reducible refine hN _ _ ?_); clear hN N))))
  (repeat (first | ((refine Vc.cond T0_ok (t := true) (by rfl) (fun _ => ?_) (fun h => Bool.noConfusion h)); ((repeat (first | (with_reducible refine Vc.seq fun N hN => ?_) | ((first | with_reducible refine Vc.skip ?_); dsimp only [thenK, blockK, Nat.beq]; (first | (refine hN _ _ ?_; clear hN N))) | ((with_reducible refine And.intro ?_ ?_); exact sX12) | ((first | ((with_reducible refine Vc.fin ?_); dsimp only [thenK, blockK, retK, resS, resOne, resAll]) | ((with_reducible refine Vc.hold ?_); first | refine Vc.regiont T0_ok GJ5_ok ?_)); (try simp only [v8Y, Nat.beq, Nat.ble, seval, tabs, GJ5_set, s2, s3, c0, c2, c22, c26, c30, c31, c32, c33, r0, r1, rS, r25, r84, r85, r86, r87, r88, r89, r90, r91, r92, n22, n26, toU8_bL, List.drop_zero, Bool.or_false, Bool.or_true, Bool.true_or, Bool.false_or, Bool.not_true, Bool.not_false, Bool.and_false, Bool.false_and, Bool.and_true, Bool.true_and, d50, d58, d64, d65, d66, d67, d68, d69, d72, d255, d49, d71])) | ((with_reducible refine hN _ _ ?_); clear hN N))); (try ((with_reducible refine Fin.of ?_))))) | ((refine Vc.cond T0_ok (t := false) (by rfl) (fun h => Bool.noConfusion h) (fun _ => ?_)); ((repeat (first | (with_reducible refine Vc.seq fun N hN => ?_) | ((first | with_reducible refine Vc.skip ?_); dsimp only [thenK, blockK, Nat.beq]; (first | (refine hN _ _ ?_; clear hN N))) | ((with_reducible refine And.intro ?_ ?_); exact sX12) | ((first | ((with_reducible refine Vc.fin ?_); dsimp only [thenK, blockK, retK, resS, resOne, resAll]) | ((with_reducible refine Vc.hold ?_); first | refine Vc.regiont T0_ok GJ5_ok ?_)); (try simp only [v8Y, Nat.beq, Nat.ble, seval, tabs, GJ5_set, s2, s3, c0, c2, c22, c26, c30, c31, c32, c33, r0, r1, rS, r25, r84, r85, r86, r87, r88, r89, r90, r91, r92, n22, n26, toU8_bL, List.drop_zero, Bool.or_false, Bool.or_true, Bool.true_or, Bool.false_or, Bool.not_true, Bool.not_false, Bool.and_false, Bool.false_and, Bool.and_true, Bool.true_and, d50, d58, d64, d65, d66, d67, d68, d69, d72, d255, d49, d71])) | ((with_reducible refine hN _ _ ?_); clear hN N))); (try ((with_reducible refine Fin.of ?_))))) | (clear hN N)))
  refine ⟨by first | trivial | simp, ?_⟩
  (congr 1; simp only [ruleE, isOp, List.any_cons, List.any_nil, stakedE, d50, d58, d64, d65, d66, d67, d68, d69, d72, d255, d49, d71, Bool.or_false, Bool.or_true, Bool.true_or, Bool.false_or, Bool.not_true, Bool.not_false, Bool.and_false, Bool.false_and, Bool.and_true, Bool.true_and]; try first | done | rfl)
noncomputable def g_r0 (E : JE) (args : List SV) (m : List Blk) : CR := match args with
 | [.agg st] => .pure (StOk E (HM m) st) (.bool (ruleE E 0))
 | _ => .none
theorem g_r0_ok (E : JE) (w0 : World) (B : List Nat) (args : List SV) (m : List Blk) : CROk Tryd.prog w0 B 44 args m (g_r0 E args m) := by
 unfold g_r0; split
 ·rename_i st
  intro h w hm
  exact calls_pure Tryd.func44 rfl rfl (r0_vc E st w (h.mono fun b o h => hm.hm h))
 ·exact trivial
set_option maxRecDepth 20000 in
theorem r1_vc (E : JE) (st : List SV) (w : World) (hS : StOk E (H0 w) st) : Calls Tryd.prog 45 (cvs [.agg st]).toArray w (fun en w' => ∃ u, en = .returned u ∧ ∃ v' m', u = cv v' ∧ MemOk w [] m' w' ∧ v' = .bool (ruleE E 1)) := by
 have hSt : ∀ m, allOld w ∈ m → StOk E (HM m) st := fun m hin => hS.mono (H0.hm hin)
 obtain ⟨s1, s2, s3, c0, c2, ⟨x0, x1, x2, x3, c22, a22, n22⟩, ⟨y0, y1, y2, y3, c26, a26, n26⟩, ⟨ba, bn, bc, c30, b1, b2, b3, b4, b5, b6⟩, c31, ⟨pb, P, c32, hPP⟩, c33, q1, q2, q3, q4, q5, q6, k0, k1⟩ := hS
 obtain ⟨p1, p2, p3, ⟨wp, wc, r0, hW⟩, ⟨ol, r1, hO⟩, rS, r25, r84, rl, r85, r86, r87, r88, ⟨la, ln, lc, r89, hL⟩, ⟨sa, sn, sc, r90, hV⟩, r91, ⟨hb, ha, hn, hc, hr, r92, h1, h2, h3⟩⟩ := id hPP
 have hPl : ∀ m, allOld w ∈ m → LiesH (HM m) (some ⟨pb, 0, none⟩) (cc (.cells P)) := fun m hin => p1.mono (H0.hm hin)
 have hLo : ∀ m, allOld w ∈ m → SlI (HM m) la ln lc E.lo := fun m hin => hL.mono (H0.hm hin)
 have hSv : ∀ m, allOld w ∈ m → SlI (HM m) sa sn sc E.sv := fun m hin => hV.mono (H0.hm hin)
 have hBs : ∀ m, allOld w ∈ m → LiesH (HM m) ba (cc (.ints .u8 E.e.bs)) := fun m hin => b4.mono (H0.hm hin)
 have hHb : ∀ m, allOld w ∈ m → LiesH (HM m) (some ⟨hb, 0, none⟩) (cc (.cells [.gh ha hn hc (.rows 32 hr)])) := fun m hin => h1.mono (H0.hm hin)
 have hHs : ∀ m, allOld w ∈ m → EvL (HM m) ha hn hc hr E.hs := fun m hin => h2.mono (H0.hm hin)
 have hK0 : ∀ m, allOld w ∈ m → LiesH (HM m) (some ⟨0, 0, none⟩) (cc (.ints .u64 kKeys)) := fun m hin => k0.mono (H0.hm hin)
 have hK1 : ∀ m, allOld w ∈ m → LiesH (HM m) (some ⟨1, 0, none⟩) (cc (.ints .u8 kPathI)) := fun m hin => k1.mono (H0.hm hin)
 have hWd : ∀ m, allOld w ∈ m → WdH (HM m) E.acc wp wc := fun m hin => hW.mono (H0.hm hin)
 have hOp : ∀ m, allOld w ∈ m → OpR (HM m) ol E.x := fun m hin => hO.mono (H0.hm hin)
 have hev := evOf_eq h2.rows
 have hop := opOf_eq hO
 have hov := hO.bs
 have hol := hO.ls
 have bt : E.e.bs.take bn = E.e.bs := List.take_of_length_le (by omega)
 have aW : E.e.arg < W := by rw [← n22]; exact numI_ltE a22
 have vW : E.e.val < W := by rw [← n26]; exact numI_ltE a26
 have hPa : ∀ m, allOld w ∈ m → PaR (HM m) E pb P := fun m hin => hPP.mono (H0.hm hin)
 have GJ5_ok := GJ5_mk (E := E)
 refine Vc.calls T0_ok Tryd.func45 rfl rfl (args := [.agg st]) (k := 10) rfl (old_start w) ?_; change Vc _ _ (c8 (.agg st) .undef .undef .undef .undef .undef .undef .undef ([.undef, .undef, .undef])) _ _
 ((repeat (first | (with_reducible refine Vc.seq fun N hN => ?_) | (with_reducible intro _) | ((with_reducible refine And.intro ?_ ?_); exact sX12) | ((first | ((with_reducible refine Vc.fin ?_); dsimp only [thenK, blockK, retK, resS, resOne, resAll]) | ((with_reducible refine Vc.hold ?_); first | refine Vc.regiont T0_ok GJ5_ok ?_ | refine Vc.drawt (id := 1) T0_ok GJ5_ok (by kernel_rfl) [0, 1, 2, 3, 4, 5, 6] 7 [] trivial (by kernel_rfl) ?_)); (try simp only [v8Y, Nat.beq, Nat.ble, seval, tabs, GJ5_set, s2, s3, c0, c2, c22, c26, c30, c31, c32, c33, r0, r1, rS, r25, r84, r85, r86, r87, r88, r89, r90, r91, r92, n22, n26, toU8_bL, List.drop_zero])) | ((with_reducible refine hN _ _ ?_); clear hN N))); (try ((with_reducible refine Fin.of ?_); (try with_reducible exact True.intro))))
 exact ⟨by first | trivial | simp, by first | rfl | trivial⟩
noncomputable def g_r1 (E : JE) (args : List SV) (m : List Blk) : CR := match args with
 | [.agg st] => .pure (StOk E (HM m) st) (.bool (ruleE E 1))
 | _ => .none
theorem g_r1_ok (E : JE) (w0 : World) (B : List Nat) (args : List SV) (m : List Blk) : CROk Tryd.prog w0 B 45 args m (g_r1 E args m) := by
 unfold g_r1; split
 ·rename_i st
  intro h w hm
  exact calls_pure Tryd.func45 rfl rfl (r1_vc E st w (h.mono fun b o h => hm.hm h))
 ·exact trivial
set_option maxRecDepth 20000 in
theorem r2_vc (E : JE) (st : List SV) (w : World) (hS : StOk E (H0 w) st) : Calls Tryd.prog 46 (cvs [.agg st]).toArray w (fun en w' => ∃ u, en = .returned u ∧ ∃ v' m', u = cv v' ∧ MemOk w [] m' w' ∧ v' = .bool (ruleE E 2)) := by
 have hSt : ∀ m, allOld w ∈ m → StOk E (HM m) st := fun m hin => hS.mono (H0.hm hin)
 obtain ⟨s1, s2, s3, c0, c2, ⟨x0, x1, x2, x3, c22, a22, n22⟩, ⟨y0, y1, y2, y3, c26, a26, n26⟩, ⟨ba, bn, bc, c30, b1, b2, b3, b4, b5, b6⟩, c31, ⟨pb, P, c32, hPP⟩, c33, q1, q2, q3, q4, q5, q6, k0, k1⟩ := hS
 obtain ⟨p1, p2, p3, ⟨wp, wc, r0, hW⟩, ⟨ol, r1, hO⟩, rS, r25, r84, rl, r85, r86, r87, r88, ⟨la, ln, lc, r89, hL⟩, ⟨sa, sn, sc, r90, hV⟩, r91, ⟨hb, ha, hn, hc, hr, r92, h1, h2, h3⟩⟩ := id hPP
 have hPl : ∀ m, allOld w ∈ m → LiesH (HM m) (some ⟨pb, 0, none⟩) (cc (.cells P)) := fun m hin => p1.mono (H0.hm hin)
 have hLo : ∀ m, allOld w ∈ m → SlI (HM m) la ln lc E.lo := fun m hin => hL.mono (H0.hm hin)
 have hSv : ∀ m, allOld w ∈ m → SlI (HM m) sa sn sc E.sv := fun m hin => hV.mono (H0.hm hin)
 have hBs : ∀ m, allOld w ∈ m → LiesH (HM m) ba (cc (.ints .u8 E.e.bs)) := fun m hin => b4.mono (H0.hm hin)
 have hHb : ∀ m, allOld w ∈ m → LiesH (HM m) (some ⟨hb, 0, none⟩) (cc (.cells [.gh ha hn hc (.rows 32 hr)])) := fun m hin => h1.mono (H0.hm hin)
 have hHs : ∀ m, allOld w ∈ m → EvL (HM m) ha hn hc hr E.hs := fun m hin => h2.mono (H0.hm hin)
 have hK0 : ∀ m, allOld w ∈ m → LiesH (HM m) (some ⟨0, 0, none⟩) (cc (.ints .u64 kKeys)) := fun m hin => k0.mono (H0.hm hin)
 have hK1 : ∀ m, allOld w ∈ m → LiesH (HM m) (some ⟨1, 0, none⟩) (cc (.ints .u8 kPathI)) := fun m hin => k1.mono (H0.hm hin)
 have hWd : ∀ m, allOld w ∈ m → WdH (HM m) E.acc wp wc := fun m hin => hW.mono (H0.hm hin)
 have hOp : ∀ m, allOld w ∈ m → OpR (HM m) ol E.x := fun m hin => hO.mono (H0.hm hin)
 have hev := evOf_eq h2.rows
 have hop := opOf_eq hO
 have hov := hO.bs
 have hol := hO.ls
 have bt : E.e.bs.take bn = E.e.bs := List.take_of_length_le (by omega)
 have aW : E.e.arg < W := by rw [← n22]; exact numI_ltE a22
 have vW : E.e.val < W := by rw [← n26]; exact numI_ltE a26
 have hPa : ∀ m, allOld w ∈ m → PaR (HM m) E pb P := fun m hin => hPP.mono (H0.hm hin)
 have GJ5_ok := GJ5_mk (E := E)
 refine Vc.calls T0_ok Tryd.func46 rfl rfl (args := [.agg st]) (k := 10) rfl (old_start w) ?_; change Vc _ _ (c8 (.agg st) .undef .undef .undef .undef .undef .undef .undef ([.undef, .undef, .undef])) _ _
 ((repeat (first | (with_reducible refine Vc.seq fun N hN => ?_) | (with_reducible intro _) | ((with_reducible refine And.intro ?_ ?_); exact sX12) | ((first | ((with_reducible refine Vc.fin ?_); dsimp only [thenK, blockK, retK, resS, resOne, resAll]) | ((with_reducible refine Vc.hold ?_); first | refine Vc.regiont T0_ok GJ5_ok ?_ | refine Vc.drawt (id := 1) T0_ok GJ5_ok (by kernel_rfl) [0, 1, 2, 3, 4, 5, 6] 7 [] trivial (by kernel_rfl) ?_)); (try simp only [v8Y, Nat.beq, Nat.ble, seval, tabs, GJ5_set, s2, s3, c0, c2, c22, c26, c30, c31, c32, c33, r0, r1, rS, r25, r84, r85, r86, r87, r88, r89, r90, r91, r92, n22, n26, toU8_bL, List.drop_zero])) | ((with_reducible refine hN _ _ ?_); clear hN N))); (try ((with_reducible refine Fin.of ?_); (try with_reducible exact True.intro))))
 exact ⟨by first | trivial | simp, by first | rfl | trivial⟩
noncomputable def g_r2 (E : JE) (args : List SV) (m : List Blk) : CR := match args with
 | [.agg st] => .pure (StOk E (HM m) st) (.bool (ruleE E 2))
 | _ => .none
theorem g_r2_ok (E : JE) (w0 : World) (B : List Nat) (args : List SV) (m : List Blk) : CROk Tryd.prog w0 B 46 args m (g_r2 E args m) := by
 unfold g_r2; split
 ·rename_i st
  intro h w hm
  exact calls_pure Tryd.func46 rfl rfl (r2_vc E st w (h.mono fun b o h => hm.hm h))
 ·exact trivial
end Go.Proofs.YtoadeekdgikghaaDoor
