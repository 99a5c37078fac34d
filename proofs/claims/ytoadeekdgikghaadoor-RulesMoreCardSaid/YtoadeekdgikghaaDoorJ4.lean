/-
 Package rules: the rules on accounts and calls, each walked. No condition.
-/
import Derived.Test.YtoadeekdgikghaaDoorJ3
set_option maxRecDepth 20000
set_option maxHeartbeats 4000000
set_option linter.defProp false
set_option linter.unusedVariables false
set_option linter.unusedSimpArgs false
namespace Go.Proofs.YtoadeekdgikghaaDoor
open Go.RowKit
theorem depS_all : allB depS := by
 have h : depS.all (fun y => decide (0 ≤ y ∧ y ≤ 255)) = true := by decide +kernel
 intro y hy
 exact of_decide_eq_true (List.all_eq_true.1 h y hy)
theorem depS_len : depS.length ≤ 1000000 := by decide
theorem selB_len (xs : List Int) : (selB xs).length = 4 := by unfold selB; rw [List.length_take, bytI_len]; rfl
theorem selB_all (xs : List Int) : allB (selB xs) := fun y hy => bytI_all _ _ y (List.mem_of_mem_take hy)
noncomputable def GJ6 (E : JE) : Ctr := fun f args m => match f with
 | 67 => g_Addr args m
 | 60 => g_jself args m
 | 61 => g_bi args m
 | 59 => g_oth E args m
 | 57 => g_isStk E args m
 | 58 => g_among args m
 | 62 => g_Code E args m
 | 63 => g_SelW args m
 | 55 => g_byEqual args m
 | _ => .none
theorem GJ6_mk {E : JE} : GOk Tryd.prog (GJ6 E) := by
 intro w0 B f args m; unfold GJ6; split
 ·exact g_Addr_ok _ _ _ _
 ·exact g_jself_ok _ _ _ _
 ·exact g_bi_ok _ _ _ _
 ·exact g_oth_ok E _ _ _ _
 ·exact g_isStk_ok E _ _ _ _
 ·exact g_among_ok _ _ _ _
 ·exact g_Code_ok E _ _ _ _
 ·exact g_SelW_ok _ _ _ _
 ·exact g_byEqual_ok _ _ _ _
 ·exact trivial
theorem GJ6_Addr {E : JE} : GJ6 E 67 = g_Addr := by funext args m; rfl
theorem GJ6_jself {E : JE} : GJ6 E 60 = g_jself := by funext args m; rfl
theorem GJ6_bi {E : JE} : GJ6 E 61 = g_bi := by funext args m; rfl
theorem GJ6_oth {E : JE} : GJ6 E 59 = g_oth E := by funext args m; rfl
theorem GJ6_isStk {E : JE} : GJ6 E 57 = g_isStk E := by funext args m; rfl
theorem GJ6_among {E : JE} : GJ6 E 58 = g_among := by funext args m; rfl
theorem GJ6_Code {E : JE} : GJ6 E 62 = g_Code E := by funext args m; rfl
theorem GJ6_SelW {E : JE} : GJ6 E 63 = g_SelW := by funext args m; rfl
theorem GJ6_byEqual {E : JE} : GJ6 E 55 = g_byEqual := by funext args m; rfl
def GJ6_set := And.intro (And.intro (And.intro (And.intro (@GJ6_Addr) (@g_Addr.eq_def)) (And.intro (@GJ6_jself) (@g_jself.eq_def))) (And.intro (And.intro (@GJ6_bi) (@g_bi.eq_def)) (And.intro (@GJ6_oth) (And.intro (@g_oth.eq_def) (@GJ6_isStk))))) (And.intro (And.intro (And.intro (@g_isStk.eq_def) (@GJ6_among)) (And.intro (@g_among.eq_def) (@GJ6_Code))) (And.intro (And.intro (@g_Code.eq_def) (@GJ6_SelW)) (And.intro (@g_SelW.eq_def) (And.intro (@GJ6_byEqual) (@g_byEqual.eq_def)))))

theorem opcR3 (x : Int) : x = 240 ∨ x = 245 ∨ (x ≠ 240 ∧ x ≠ 245) := by omega
set_option maxRecDepth 20000 in
theorem r3_vc (E : JE) (st : List SV) (w : World) (hS : StOk E (H0 w) st) : Calls Tryd.prog 47 (cvs [.agg st]).toArray w (fun en w' => ∃ u, en = .returned u ∧ ∃ v' m', u = cv v' ∧ MemOk w [] m' w' ∧ v' = .bool (ruleE E 3)) := by
 have hSt : ∀ m, allOld w ∈ m → StOk E (HM m) st := fun m hin => hS.mono (H0.hm hin)
 obtain ⟨s1, s2, s3, c0, c2, ⟨x0, x1, x2, x3, c22, a22, n22⟩, ⟨y0, y1, y2, y3, c26, a26, n26⟩, ⟨ba, bn, bc, c30, b1, b2, b3, b4, b5, b6⟩, c31, ⟨pb, P, c32, hPP⟩, c33, q1, q2, q3, q4, q5, q6, k0, k1⟩ := hS
 obtain ⟨p1, p2, p3, ⟨wp, wc, r0, hW⟩, ⟨ol, r1, hO⟩, rS, r25, r84, rl, r85, r86, r87, r88, ⟨la, ln, lc, r89, hL⟩, ⟨sa, sn, sc, r90, hV⟩, r91, ⟨hb, ha, hn, hc, hr, r92, h1, h2, h3⟩⟩ := id hPP
 have hPl : ∀ m, allOld w ∈ m → LiesH (HM m) (some ⟨pb, 0, none⟩) (cc (.cells P)) := fun m hin => p1.mono (H0.hm hin)
 have hLo : ∀ m, allOld w ∈ m → SlI (HM m) la ln lc E.lo := fun m hin => hL.mono (H0.hm hin)
 have hSv : ∀ m, allOld w ∈ m → SlI (HM m) sa sn sc E.sv := fun m hin => hV.mono (H0.hm hin)
 have hBs : ∀ m, allOld w ∈ m → LiesH (HM m) ba (cc (.ints .u8 E.e.bs)) := fun m hin => b4.mono (H0.hm hin)
 have hHb : ∀ m, allOld w ∈ m → LiesH (HM m) (some ⟨hb, 0, none⟩) (cc (.cells [.gh ha hn hc (.rows 32 hr)])) := fun m hin => h1.mono (H0.hm hin)
 have hHs : ∀ m, allOld w ∈ m → EvL (HM m) ha hn hc hr E.hs := fun m hin => h2.mono (H0.hm hin)
 have hK0 : ∀ m, allOld w ∈ m → LiesH (HM m) (some ⟨0, 0, none⟩) (cc (.ints .u64 kKeys)) := fun m hin => k0.mono (H0.hm hin)
 have hK1 : ∀ m, allOld w ∈ m → LiesH (HM m) (some ⟨1, 0, none⟩) (cc (.ints .u8 kPathI)) := fun m hin => k1.mono (H0.hm hin)
 have hWd : ∀ m, allOld w ∈ m → WdH (HM m) E.acc wp wc := fun m hin => hW.mono (H0.hm hin)
 have hOp : ∀ m, allOld w ∈ m → OpR (HM m) ol E.x := fun m hin => hO.mono (H0.hm hin)
 have hev := evOf_eq h2.rows
 have hop := opOf_eq hO
 have hov := hO.bs
 have hol := hO.ls
 have bt : E.e.bs.take bn = E.e.bs := List.take_of_length_le (by omega)
 have aW : E.e.arg < W := by rw [← n22]; exact numI_ltE a22
 have vW : E.e.val < W := by rw [← n26]; exact numI_ltE a26
 have hPa : ∀ m, allOld w ∈ m → PaR (HM m) E pb P := fun m hin => hPP.mono (H0.hm hin)
 have GJ6_ok := GJ6_mk (E := E)
 have hoA : okA (othE E) := ⟨bytI_len _ _, bytI_all _ _⟩
 obtain ⟨hoL, hoB⟩ := id hoA
 have hsl := selfA_len
 have hsb := selfA_all
 generalize hz1 : decide (othE E = E.x.snd) = z1
 generalize hz2 : decide (E.i = E.mkr) = z2
 rcases opcR3 E.e.op with h | h | h
 all_goals
  (first | have d240 : decide (E.e.op = 240) = true := decide_eq_true (by omega) | have d240 : decide (E.e.op = 240) = false := decide_eq_false (by omega))
  (first | have d245 : decide (E.e.op = 245) = true := decide_eq_true (by omega) | have d245 : decide (E.e.op = 245) = false := decide_eq_false (by omega))
 all_goals (cases z2)
 all_goals
  refine Vc.calls T0_ok Tryd.func47 rfl rfl (args := [.agg st]) (k := 28) rfl (old_start w) ?_; change Vc _ _ (c8 (.agg st) .undef .undef .undef .undef .undef .undef .undef (c8 .undef .undef .undef .undef .undef .undef .undef .undef (c8 .undef .undef .undef .undef .undef .undef .undef .undef ([.undef, .undef, .undef, .undef, .undef])))) _ _
  ((with_reducible refine Vc.seq fun N hN => ?_); (refine Vc.regiont T0_ok GJ6_ok ?_); simp only [v8Y, Nat.beq, Nat.ble, seval, tabs, GJ6_set, s2, s3, c0, c2, c22, c26, c30, c31, c32, c33, r0, r1, rS, r25, r84, r85, r86, r87, r88, r89, r90, r91, r92, n22, n26, toU8_bL, List.drop_zero, Bool.or_false, Bool.or_true, Bool.true_or, Bool.false_or, Bool.not_true, Bool.not_false, Bool.and_false, Bool.false_and, Bool.and_true, Bool.true_and, d240, d245, hz1, hz2]; (try simp (disch := omega) only [v8W]); (repeat (first | with_reducible intro _ | ((with_reducible refine And.intro ?_ ?_); exact sX4))); (first | (refine hN _ _ ?_; clear hN N; (try simp (disch := omega) only [v8W])) | skip))
  ((repeat (first | (with_reducible first | refine Vc.seq fun N hN => ?_ | refine Vc.block ?_) | ((with_reducible refine And.intro ?_ ?_); exact sX4) | ((first | ((with_reducible refine Vc.hold ?_); first | refine Vc.regiont T0_ok GJ6_ok ?_)); (try simp only [v8Y, Nat.beq, Nat.ble, seval, tabs, GJ6_set, s2, s3, c0, c2, c22, c26, c30, c31, c32, c33, r0, r1, rS, r25, r84, r85, r86, r87, r88, r89, r90, r91, r92, n22, n26, toU8_bL, List.drop_zero, Bool.or_false, Bool.or_true, Bool.true_or, Bool.false_or, Bool.not_true, Bool.not_false, Bool.and_false, Bool.false_and, Bool.and_true, Bool.true_and, d240, d245, hz1, hz2])) | ((with_reducible refine hN _ _ ?_); clear hN N))))
  (repeat (first | ((refine Vc.cond T0_ok (t := true) (by rfl) (fun _ => ?_) (fun h => Bool.noConfusion h)); ((repeat (first | (with_reducible refine Vc.seq fun N hN => ?_) | ((with_reducible refine And.intro ?_ ?_); exact sX4) | ((first | ((with_reducible refine Vc.fin ?_); dsimp only [thenK, blockK, retK, resS, resOne, resAll]) | ((with_reducible refine Vc.hold ?_); first | refine Vc.regiont T0_ok GJ6_ok ?_ | refine Vc.drawt (id := 5) T0_ok GJ6_ok (by kernel_rfl) [0, 1, 2, 3, 4, 5, 6, 7, 8, 9, 11, 12, 13, 14, 15, 16, 10] 17 [] trivial (by kernel_rfl) ?_)); (try simp only [v8Y, Nat.beq, Nat.ble, seval, tabs, GJ6_set, s2, s3, c0, c2, c22, c26, c30, c31, c32, c33, r0, r1, rS, r25, r84, r85, r86, r87, r88, r89, r90, r91, r92, n22, n26, toU8_bL, List.drop_zero, Bool.or_false, Bool.or_true, Bool.true_or, Bool.false_or, Bool.not_true, Bool.not_false, Bool.and_false, Bool.false_and, Bool.and_true, Bool.true_and, d240, d245, hz1, hz2])) | ((with_reducible refine hN _ _ ?_); clear hN N))); (try ((with_reducible refine Fin.of ?_))))) | ((refine Vc.cond T0_ok (t := false) (by rfl) (fun h => Bool.noConfusion h) (fun _ => ?_)); ((repeat (first | (with_reducible refine Vc.seq fun N hN => ?_) | ((first | with_reducible refine Vc.skip ?_); dsimp only [thenK, blockK, Nat.beq]; (first | (refine hN _ _ ?_; clear hN N))) | ((with_reducible refine And.intro ?_ ?_); exact sX4) | ((first | ((with_reducible refine Vc.fin ?_); dsimp only [thenK, blockK, retK, resS, resOne, resAll]) | ((with_reducible refine Vc.hold ?_); first | refine Vc.regiont T0_ok GJ6_ok ?_)); (try simp only [v8Y, Nat.beq, Nat.ble, seval, tabs, GJ6_set, s2, s3, c0, c2, c22, c26, c30, c31, c32, c33, r0, r1, rS, r25, r84, r85, r86, r87, r88, r89, r90, r91, r92, n22, n26, toU8_bL, List.drop_zero, Bool.or_false, Bool.or_true, Bool.true_or, Bool.false_or, Bool.not_true, Bool.not_false, Bool.and_false, Bool.false_and, Bool.and_true, Bool.true_and, d240, d245, hz1, hz2])) | ((with_reducible refine hN _ _ ?_); clear hN N))); (try ((with_reducible refine Fin.of ?_))))) | (clear hN N)))
  refine ⟨by first | trivial | simp, ?_⟩
  (congr 1; simp only [ruleE, isOp, List.any_cons, List.any_nil, stakedE, d240, d245, hz1, hz2, Bool.or_false, Bool.or_true, Bool.true_or, Bool.false_or, Bool.not_true, Bool.not_false, Bool.and_false, Bool.false_and, Bool.and_true, Bool.true_and]; try first | done | rfl)
noncomputable def g_r3 (E : JE) (args : List SV) (m : List Blk) : CR := match args with
 | [.agg st] => .pure (StOk E (HM m) st) (.bool (ruleE E 3))
 | _ => .none
theorem g_r3_ok (E : JE) (w0 : World) (B : List Nat) (args : List SV) (m : List Blk) : CROk Tryd.prog w0 B 47 args m (g_r3 E args m) := by
 unfold g_r3; split
 ·rename_i st
  intro h w hm
  exact calls_pure Tryd.func47 rfl rfl (r3_vc E st w (h.mono fun b o h => hm.hm h))
 ·exact trivial
theorem opcR5 (x : Int) : x = 241 ∨ x = 242 ∨ (x ≠ 241 ∧ x ≠ 242) := by omega
set_option maxRecDepth 20000 in
theorem r5_vc (E : JE) (st : List SV) (w : World) (hS : StOk E (H0 w) st) : Calls Tryd.prog 49 (cvs [.agg st]).toArray w (fun en w' => ∃ u, en = .returned u ∧ ∃ v' m', u = cv v' ∧ MemOk w [] m' w' ∧ v' = .bool (ruleE E 5)) := by
 have hSt : ∀ m, allOld w ∈ m → StOk E (HM m) st := fun m hin => hS.mono (H0.hm hin)
 obtain ⟨s1, s2, s3, c0, c2, ⟨x0, x1, x2, x3, c22, a22, n22⟩, ⟨y0, y1, y2, y3, c26, a26, n26⟩, ⟨ba, bn, bc, c30, b1, b2, b3, b4, b5, b6⟩, c31, ⟨pb, P, c32, hPP⟩, c33, q1, q2, q3, q4, q5, q6, k0, k1⟩ := hS
 obtain ⟨p1, p2, p3, ⟨wp, wc, r0, hW⟩, ⟨ol, r1, hO⟩, rS, r25, r84, rl, r85, r86, r87, r88, ⟨la, ln, lc, r89, hL⟩, ⟨sa, sn, sc, r90, hV⟩, r91, ⟨hb, ha, hn, hc, hr, r92, h1, h2, h3⟩⟩ := id hPP
 have hPl : ∀ m, allOld w ∈ m → LiesH (HM m) (some ⟨pb, 0, none⟩) (cc (.cells P)) := fun m hin => p1.mono (H0.hm hin)
 have hLo : ∀ m, allOld w ∈ m → SlI (HM m) la ln lc E.lo := fun m hin => hL.mono (H0.hm hin)
 have hSv : ∀ m, allOld w ∈ m → SlI (HM m) sa sn sc E.sv := fun m hin => hV.mono (H0.hm hin)
 have hBs : ∀ m, allOld w ∈ m → LiesH (HM m) ba (cc (.ints .u8 E.e.bs)) := fun m hin => b4.mono (H0.hm hin)
 have hHb : ∀ m, allOld w ∈ m → LiesH (HM m) (some ⟨hb, 0, none⟩) (cc (.cells [.gh ha hn hc (.rows 32 hr)])) := fun m hin => h1.mono (H0.hm hin)
 have hHs : ∀ m, allOld w ∈ m → EvL (HM m) ha hn hc hr E.hs := fun m hin => h2.mono (H0.hm hin)
 have hK0 : ∀ m, allOld w ∈ m → LiesH (HM m) (some ⟨0, 0, none⟩) (cc (.ints .u64 kKeys)) := fun m hin => k0.mono (H0.hm hin)
 have hK1 : ∀ m, allOld w ∈ m → LiesH (HM m) (some ⟨1, 0, none⟩) (cc (.ints .u8 kPathI)) := fun m hin => k1.mono (H0.hm hin)
 have hWd : ∀ m, allOld w ∈ m → WdH (HM m) E.acc wp wc := fun m hin => hW.mono (H0.hm hin)
 have hOp : ∀ m, allOld w ∈ m → OpR (HM m) ol E.x := fun m hin => hO.mono (H0.hm hin)
 have hev := evOf_eq h2.rows
 have hop := opOf_eq hO
 have hov := hO.bs
 have hol := hO.ls
 have bt : E.e.bs.take bn = E.e.bs := List.take_of_length_le (by omega)
 have aW : E.e.arg < W := by rw [← n22]; exact numI_ltE a22
 have vW : E.e.val < W := by rw [← n26]; exact numI_ltE a26
 have hPa : ∀ m, allOld w ∈ m → PaR (HM m) E pb P := fun m hin => hPP.mono (H0.hm hin)
 have GJ6_ok := GJ6_mk (E := E)
 have hoA : okA (othE E) := ⟨bytI_len _ _, bytI_all _ _⟩
 obtain ⟨hoL, hoB⟩ := id hoA
 have hsl := selfA_len
 have hsb := selfA_all
 generalize hz1 : decide (othE E = selfA) = z1
 generalize hz2 : eqW E.e.val 0 = z2
 rcases opcR5 E.e.op with h | h | h
 all_goals
  (first | have d241 : decide (E.e.op = 241) = true := decide_eq_true (by omega) | have d241 : decide (E.e.op = 241) = false := decide_eq_false (by omega))
  (first | have d242 : decide (E.e.op = 242) = true := decide_eq_true (by omega) | have d242 : decide (E.e.op = 242) = false := decide_eq_false (by omega))
 all_goals (cases z2)
 all_goals
  refine Vc.calls T0_ok Tryd.func49 rfl rfl (args := [.agg st]) (k := 19) rfl (old_start w) ?_; change Vc _ _ (c8 (.agg st) .undef .undef .undef .undef .undef .undef .undef (c8 .undef .undef .undef .undef .undef .undef .undef .undef ([.undef, .undef, .undef, .undef]))) _ _
  ((with_reducible refine Vc.seq fun N hN => ?_); (refine Vc.regiont T0_ok GJ6_ok ?_); simp only [v8Y, Nat.beq, Nat.ble, seval, tabs, GJ6_set, s2, s3, c0, c2, c22, c26, c30, c31, c32, c33, r0, r1, rS, r25, r84, r85, r86, r87, r88, r89, r90, r91, r92, n22, n26, toU8_bL, List.drop_zero, Bool.or_false, Bool.or_true, Bool.true_or, Bool.false_or, Bool.not_true, Bool.not_false, Bool.and_false, Bool.false_and, Bool.and_true, Bool.true_and, d241, d242, hz1, hz2, numI_0]; (try simp (disch := omega) only [v8W]); (repeat (first | with_reducible intro _ | ((with_reducible refine And.intro ?_ ?_); exact sX4))); (first | (refine hN _ _ ?_; clear hN N; (try simp (disch := omega) only [v8W])) | skip))
  ((repeat (first | (with_reducible first | refine Vc.seq fun N hN => ?_ | refine Vc.block ?_) | ((with_reducible refine And.intro ?_ ?_); exact sX4) | ((first | ((with_reducible refine Vc.hold ?_); first | refine Vc.regiont T0_ok GJ6_ok ?_)); (try simp only [v8Y, Nat.beq, Nat.ble, seval, tabs, GJ6_set, s2, s3, c0, c2, c22, c26, c30, c31, c32, c33, r0, r1, rS, r25, r84, r85, r86, r87, r88, r89, r90, r91, r92, n22, n26, toU8_bL, List.drop_zero, Bool.or_false, Bool.or_true, Bool.true_or, Bool.false_or, Bool.not_true, Bool.not_false, Bool.and_false, Bool.false_and, Bool.and_true, Bool.true_and, d241, d242, hz1, hz2, numI_0])) | ((with_reducible refine hN _ _ ?_); clear hN N))))
  (repeat (first | ((refine Vc.cond T0_ok (t := true) (by rfl) (fun _ => ?_) (fun h => Bool.noConfusion h)); ((repeat (first | (with_reducible refine Vc.seq fun N hN => ?_) | ((first | with_reducible refine Vc.skip ?_); dsimp only [thenK, blockK, Nat.beq]; (first | (refine hN _ _ ?_; clear hN N))) | ((with_reducible refine And.intro ?_ ?_); exact sX4) | ((first | ((with_reducible refine Vc.fin ?_); dsimp only [thenK, blockK, retK, resS, resOne, resAll]) | ((with_reducible refine Vc.hold ?_); first | refine Vc.regiont T0_ok GJ6_ok ?_)); (try simp only [v8Y, Nat.beq, Nat.ble, seval, tabs, GJ6_set, s2, s3, c0, c2, c22, c26, c30, c31, c32, c33, r0, r1, rS, r25, r84, r85, r86, r87, r88, r89, r90, r91, r92, n22, n26, toU8_bL, List.drop_zero, Bool.or_false, Bool.or_true, Bool.true_or, Bool.false_or, Bool.not_true, Bool.not_false, Bool.and_false, Bool.false_and, Bool.and_true, Bool.true_and, d241, d242, hz1, hz2, numI_0])) | ((with_reducible refine hN _ _ ?_); clear hN N))); (try ((with_reducible refine Fin.of ?_))))) | ((refine Vc.cond T0_ok (t := false) (by rfl) (fun h => Bool.noConfusion h) (fun _ => ?_)); ((repeat (first | (with_reducible refine Vc.seq fun N hN => ?_) | ((first | with_reducible refine Vc.skip ?_); dsimp only [thenK, blockK, Nat.beq]; (first | (refine hN _ _ ?_; clear hN N))) | ((with_reducible refine And.intro ?_ ?_); exact sX4) | ((first | ((with_reducible refine Vc.fin ?_); dsimp only [thenK, blockK, retK, resS, resOne, resAll]) | ((with_reducible refine Vc.hold ?_); first | refine Vc.regiont T0_ok GJ6_ok ?_)); (try simp only [v8Y, Nat.beq, Nat.ble, seval, tabs, GJ6_set, s2, s3, c0, c2, c22, c26, c30, c31, c32, c33, r0, r1, rS, r25, r84, r85, r86, r87, r88, r89, r90, r91, r92, n22, n26, toU8_bL, List.drop_zero, Bool.or_false, Bool.or_true, Bool.true_or, Bool.false_or, Bool.not_true, Bool.not_false, Bool.and_false, Bool.false_and, Bool.and_true, Bool.true_and, d241, d242, hz1, hz2, numI_0])) | ((with_reducible refine hN _ _ ?_); clear hN N))); (try ((with_reducible refine Fin.of ?_))))) | (clear hN N)))
  refine ⟨by first | trivial | simp, ?_⟩
  (congr 1; simp only [ruleE, isOp, List.any_cons, List.any_nil, stakedE, d241, d242, hz1, hz2, numI_0, Bool.or_false, Bool.or_true, Bool.true_or, Bool.false_or, Bool.not_true, Bool.not_false, Bool.and_false, Bool.false_and, Bool.and_true, Bool.true_and]; try first | done | rfl)
noncomputable def g_r5 (E : JE) (args : List SV) (m : List Blk) : CR := match args with
 | [.agg st] => .pure (StOk E (HM m) st) (.bool (ruleE E 5))
 | _ => .none
theorem g_r5_ok (E : JE) (w0 : World) (B : List Nat) (args : List SV) (m : List Blk) : CROk Tryd.prog w0 B 49 args m (g_r5 E args m) := by
 unfold g_r5; split
 ·rename_i st
  intro h w hm
  exact calls_pure Tryd.func49 rfl rfl (r5_vc E st w (h.mono fun b o h => hm.hm h))
 ·exact trivial
theorem opcR4 (x : Int) : x = 59 ∨ x = 60 ∨ x = 63 ∨ x = 241 ∨ x = 242 ∨ x = 244 ∨ x = 250 ∨ (x ≠ 59 ∧ x ≠ 60 ∧ x ≠ 63 ∧ x ≠ 241 ∧ x ≠ 242 ∧ x ≠ 244 ∧ x ≠ 250) := by omega
set_option maxRecDepth 20000 in
theorem r4_vc (E : JE) (st : List SV) (w : World) (hS : StOk E (H0 w) st) : Calls Tryd.prog 48 (cvs [.agg st]).toArray w (fun en w' => ∃ u, en = .returned u ∧ ∃ v' m', u = cv v' ∧ MemOk w [] m' w' ∧ v' = .bool (ruleE E 4)) := by
 have hSt : ∀ m, allOld w ∈ m → StOk E (HM m) st := fun m hin => hS.mono (H0.hm hin)
 obtain ⟨s1, s2, s3, c0, c2, ⟨x0, x1, x2, x3, c22, a22, n22⟩, ⟨y0, y1, y2, y3, c26, a26, n26⟩, ⟨ba, bn, bc, c30, b1, b2, b3, b4, b5, b6⟩, c31, ⟨pb, P, c32, hPP⟩, c33, q1, q2, q3, q4, q5, q6, k0, k1⟩ := hS
 obtain ⟨p1, p2, p3, ⟨wp, wc, r0, hW⟩, ⟨ol, r1, hO⟩, rS, r25, r84, rl, r85, r86, r87, r88, ⟨la, ln, lc, r89, hL⟩, ⟨sa, sn, sc, r90, hV⟩, r91, ⟨hb, ha, hn, hc, hr, r92, h1, h2, h3⟩⟩ := id hPP
 have hPl : ∀ m, allOld w ∈ m → LiesH (HM m) (some ⟨pb, 0, none⟩) (cc (.cells P)) := fun m hin => p1.mono (H0.hm hin)
 have hLo : ∀ m, allOld w ∈ m → SlI (HM m) la ln lc E.lo := fun m hin => hL.mono (H0.hm hin)
 have hSv : ∀ m, allOld w ∈ m → SlI (HM m) sa sn sc E.sv := fun m hin => hV.mono (H0.hm hin)
 have hBs : ∀ m, allOld w ∈ m → LiesH (HM m) ba (cc (.ints .u8 E.e.bs)) := fun m hin => b4.mono (H0.hm hin)
 have hHb : ∀ m, allOld w ∈ m → LiesH (HM m) (some ⟨hb, 0, none⟩) (cc (.cells [.gh ha hn hc (.rows 32 hr)])) := fun m hin => h1.mono (H0.hm hin)
 have hHs : ∀ m, allOld w ∈ m → EvL (HM m) ha hn hc hr E.hs := fun m hin => h2.mono (H0.hm hin)
 have hK0 : ∀ m, allOld w ∈ m → LiesH (HM m) (some ⟨0, 0, none⟩) (cc (.ints .u64 kKeys)) := fun m hin => k0.mono (H0.hm hin)
 have hK1 : ∀ m, allOld w ∈ m → LiesH (HM m) (some ⟨1, 0, none⟩) (cc (.ints .u8 kPathI)) := fun m hin => k1.mono (H0.hm hin)
 have hWd : ∀ m, allOld w ∈ m → WdH (HM m) E.acc wp wc := fun m hin => hW.mono (H0.hm hin)
 have hOp : ∀ m, allOld w ∈ m → OpR (HM m) ol E.x := fun m hin => hO.mono (H0.hm hin)
 have hev := evOf_eq h2.rows
 have hop := opOf_eq hO
 have hov := hO.bs
 have hol := hO.ls
 have bt : E.e.bs.take bn = E.e.bs := List.take_of_length_le (by omega)
 have aW : E.e.arg < W := by rw [← n22]; exact numI_ltE a22
 have vW : E.e.val < W := by rw [← n26]; exact numI_ltE a26
 have hPa : ∀ m, allOld w ∈ m → PaR (HM m) E pb P := fun m hin => hPP.mono (H0.hm hin)
 have GJ6_ok := GJ6_mk (E := E)
 have hoA : okA (othE E) := ⟨bytI_len _ _, bytI_all _ _⟩
 obtain ⟨hoL, hoB⟩ := id hoA
 have hsl := selfA_len
 have hsb := selfA_all
 generalize hz1 : decide (othE E = selfA) = z1
 generalize hz2 : biB (othE E) = z2
 rcases opcR4 E.e.op with h | h | h | h | h | h | h | h
 all_goals
  (first | have d59 : decide (E.e.op = 59) = true := decide_eq_true (by omega) | have d59 : decide (E.e.op = 59) = false := decide_eq_false (by omega))
  (first | have d60 : decide (E.e.op = 60) = true := decide_eq_true (by omega) | have d60 : decide (E.e.op = 60) = false := decide_eq_false (by omega))
  (first | have d63 : decide (E.e.op = 63) = true := decide_eq_true (by omega) | have d63 : decide (E.e.op = 63) = false := decide_eq_false (by omega))
  (first | have d241 : decide (E.e.op = 241) = true := decide_eq_true (by omega) | have d241 : decide (E.e.op = 241) = false := decide_eq_false (by omega))
  (first | have d242 : decide (E.e.op = 242) = true := decide_eq_true (by omega) | have d242 : decide (E.e.op = 242) = false := decide_eq_false (by omega))
  (first | have d244 : decide (E.e.op = 244) = true := decide_eq_true (by omega) | have d244 : decide (E.e.op = 244) = false := decide_eq_false (by omega))
  (first | have d250 : decide (E.e.op = 250) = true := decide_eq_true (by omega) | have d250 : decide (E.e.op = 250) = false := decide_eq_false (by omega))
 all_goals (cases z1 <;> cases z2)
 all_goals
  refine Vc.calls T0_ok Tryd.func48 rfl rfl (args := [.agg st]) (k := 35) rfl (old_start w) ?_; change Vc _ _ (c8 (.agg st) .undef .undef .undef .undef .undef .undef .undef (c8 .undef .undef .undef .undef .undef .undef .undef .undef (c8 .undef .undef .undef .undef .undef .undef .undef .undef (c8 .undef .undef .undef .undef .undef .undef .undef .undef ([.undef, .undef, .undef, .undef]))))) _ _
  ((with_reducible refine Vc.seq fun N hN => ?_); (refine Vc.regiont T0_ok GJ6_ok ?_); simp only [v8Y, Nat.beq, Nat.ble, seval, tabs, GJ6_set, s2, s3, c0, c2, c22, c26, c30, c31, c32, c33, r0, r1, rS, r25, r84, r85, r86, r87, r88, r89, r90, r91, r92, n22, n26, toU8_bL, List.drop_zero, Bool.or_false, Bool.or_true, Bool.true_or, Bool.false_or, Bool.not_true, Bool.not_false, Bool.and_false, Bool.false_and, Bool.and_true, Bool.true_and, d59, d60, d63, d241, d242, d244, d250, hz1, hz2]; (try simp (disch := omega) only [v8W]); (repeat (first | with_reducible intro _ | ((with_reducible refine And.intro ?_ ?_); exact sX4))); (first | (refine hN _ _ ?_; clear hN N; (try simp (disch := omega) only [v8W])) | skip))
  ((repeat (first | (with_reducible first | refine Vc.seq fun N hN => ?_ | refine Vc.block ?_) | ((with_reducible refine And.intro ?_ ?_); exact sX4) | ((first | ((with_reducible refine Vc.hold ?_); first | refine Vc.regiont T0_ok GJ6_ok ?_)); (try simp only [v8Y, Nat.beq, Nat.ble, seval, tabs, GJ6_set, s2, s3, c0, c2, c22, c26, c30, c31, c32, c33, r0, r1, rS, r25, r84, r85, r86, r87, r88, r89, r90, r91, r92, n22, n26, toU8_bL, List.drop_zero, Bool.or_false, Bool.or_true, Bool.true_or, Bool.false_or, Bool.not_true, Bool.not_false, Bool.and_false, Bool.false_and, Bool.and_true, Bool.true_and, d59, d60, d63, d241, d242, d244, d250, hz1, hz2])) | ((with_reducible refine hN _ _ ?_); clear hN N))))
  (repeat (first | ((refine Vc.cond T0_ok (t := true) (by rfl) (fun _ => ?_) (fun h => Bool.noConfusion h)); ((repeat (first | (with_reducible refine Vc.seq fun N hN => ?_) | ((first | with_reducible refine Vc.skip ?_); dsimp only [thenK, blockK, Nat.beq]; (first | (refine hN _ _ ?_; clear hN N))) | (with_reducible intro _) | ((with_reducible refine And.intro ?_ ?_); exact sX4) | ((first | ((with_reducible refine Vc.fin ?_); dsimp only [thenK, blockK, retK, resS, resOne, resAll]) | ((with_reducible refine Vc.hold ?_); first | refine Vc.regiont T0_ok GJ6_ok ?_ | refine Vc.drawt (id := 10) T0_ok GJ6_ok (by kernel_rfl) [0, 1, 2, 3, 4, 5, 6, 7, 8, 9, 10, 11, 12, 13, 14] 15 [] trivial (by kernel_rfl) ?_)); (try simp only [v8Y, Nat.beq, Nat.ble, seval, tabs, GJ6_set, s2, s3, c0, c2, c22, c26, c30, c31, c32, c33, r0, r1, rS, r25, r84, r85, r86, r87, r88, r89, r90, r91, r92, n22, n26, toU8_bL, List.drop_zero, Bool.or_false, Bool.or_true, Bool.true_or, Bool.false_or, Bool.not_true, Bool.not_false, Bool.and_false, Bool.false_and, Bool.and_true, Bool.true_and, d59, d60, d63, d241, d242, d244, d250, hz1, hz2])) | ((with_reducible refine hN _ _ ?_); clear hN N))); (try ((with_reducible refine Fin.of ?_))))) | ((refine Vc.cond T0_ok (t := false) (by rfl) (fun h => Bool.noConfusion h) (fun _ => ?_)); ((repeat (first | (with_reducible refine Vc.seq fun N hN => ?_) | ((first | with_reducible refine Vc.skip ?_); dsimp only [thenK, blockK, Nat.beq]; (first | (refine hN _ _ ?_; clear hN N))) | ((with_reducible refine And.intro ?_ ?_); exact sX4) | ((first | ((with_reducible refine Vc.fin ?_); dsimp only [thenK, blockK, retK, resS, resOne, resAll]) | ((with_reducible refine Vc.hold ?_); first | refine Vc.regiont T0_ok GJ6_ok ?_)); (try simp only [v8Y, Nat.beq, Nat.ble, seval, tabs, GJ6_set, s2, s3, c0, c2, c22, c26, c30, c31, c32, c33, r0, r1, rS, r25, r84, r85, r86, r87, r88, r89, r90, r91, r92, n22, n26, toU8_bL, List.drop_zero, Bool.or_false, Bool.or_true, Bool.true_or, Bool.false_or, Bool.not_true, Bool.not_false, Bool.and_false, Bool.false_and, Bool.and_true, Bool.true_and, d59, d60, d63, d241, d242, d244, d250, hz1, hz2])) | ((with_reducible refine hN _ _ ?_); clear hN N))); (try ((with_reducible refine Fin.of ?_))))) | (clear hN N)))
  refine ⟨by first | trivial | simp, ?_⟩
  (congr 1; simp only [ruleE, isOp, List.any_cons, List.any_nil, stakedE, d59, d60, d63, d241, d242, d244, d250, hz1, hz2, Bool.or_false, Bool.or_true, Bool.true_or, Bool.false_or, Bool.not_true, Bool.not_false, Bool.and_false, Bool.false_and, Bool.and_true, Bool.true_and]; try first | done | rfl)
noncomputable def g_r4 (E : JE) (args : List SV) (m : List Blk) : CR := match args with
 | [.agg st] => .pure (StOk E (HM m) st) (.bool (ruleE E 4))
 | _ => .none
theorem g_r4_ok (E : JE) (w0 : World) (B : List Nat) (args : List SV) (m : List Blk) : CROk Tryd.prog w0 B 48 args m (g_r4 E args m) := by
 unfold g_r4; split
 ·rename_i st
  intro h w hm
  exact calls_pure Tryd.func48 rfl rfl (r4_vc E st w (h.mono fun b o h => hm.hm h))
 ·exact trivial
theorem opcR6 (x : Int) : x = 242 ∨ x = 244 ∨ x = 241 ∨ x = 250 ∨ (x ≠ 242 ∧ x ≠ 244 ∧ x ≠ 241 ∧ x ≠ 250) := by omega
set_option maxRecDepth 20000 in
theorem r6_vc (E : JE) (st : List SV) (w : World) (hS : StOk E (H0 w) st) : Calls Tryd.prog 50 (cvs [.agg st]).toArray w (fun en w' => ∃ u, en = .returned u ∧ ∃ v' m', u = cv v' ∧ MemOk w [] m' w' ∧ v' = .bool (ruleE E 6)) := by
 have hSt : ∀ m, allOld w ∈ m → StOk E (HM m) st := fun m hin => hS.mono (H0.hm hin)
 obtain ⟨s1, s2, s3, c0, c2, ⟨x0, x1, x2, x3, c22, a22, n22⟩, ⟨y0, y1, y2, y3, c26, a26, n26⟩, ⟨ba, bn, bc, c30, b1, b2, b3, b4, b5, b6⟩, c31, ⟨pb, P, c32, hPP⟩, c33, q1, q2, q3, q4, q5, q6, k0, k1⟩ := hS
 obtain ⟨p1, p2, p3, ⟨wp, wc, r0, hW⟩, ⟨ol, r1, hO⟩, rS, r25, r84, rl, r85, r86, r87, r88, ⟨la, ln, lc, r89, hL⟩, ⟨sa, sn, sc, r90, hV⟩, r91, ⟨hb, ha, hn, hc, hr, r92, h1, h2, h3⟩⟩ := id hPP
 have hPl : ∀ m, allOld w ∈ m → LiesH (HM m) (some ⟨pb, 0, none⟩) (cc (.cells P)) := fun m hin => p1.mono (H0.hm hin)
 have hLo : ∀ m, allOld w ∈ m → SlI (HM m) la ln lc E.lo := fun m hin => hL.mono (H0.hm hin)
 have hSv : ∀ m, allOld w ∈ m → SlI (HM m) sa sn sc E.sv := fun m hin => hV.mono (H0.hm hin)
 have hBs : ∀ m, allOld w ∈ m → LiesH (HM m) ba (cc (.ints .u8 E.e.bs)) := fun m hin => b4.mono (H0.hm hin)
 have hHb : ∀ m, allOld w ∈ m → LiesH (HM m) (some ⟨hb, 0, none⟩) (cc (.cells [.gh ha hn hc (.rows 32 hr)])) := fun m hin => h1.mono (H0.hm hin)
 have hHs : ∀ m, allOld w ∈ m → EvL (HM m) ha hn hc hr E.hs := fun m hin => h2.mono (H0.hm hin)
 have hK0 : ∀ m, allOld w ∈ m → LiesH (HM m) (some ⟨0, 0, none⟩) (cc (.ints .u64 kKeys)) := fun m hin => k0.mono (H0.hm hin)
 have hK1 : ∀ m, allOld w ∈ m → LiesH (HM m) (some ⟨1, 0, none⟩) (cc (.ints .u8 kPathI)) := fun m hin => k1.mono (H0.hm hin)
 have hWd : ∀ m, allOld w ∈ m → WdH (HM m) E.acc wp wc := fun m hin => hW.mono (H0.hm hin)
 have hOp : ∀ m, allOld w ∈ m → OpR (HM m) ol E.x := fun m hin => hO.mono (H0.hm hin)
 have hev := evOf_eq h2.rows
 have hop := opOf_eq hO
 have hov := hO.bs
 have hol := hO.ls
 have bt : E.e.bs.take bn = E.e.bs := List.take_of_length_le (by omega)
 have aW : E.e.arg < W := by rw [← n22]; exact numI_ltE a22
 have vW : E.e.val < W := by rw [← n26]; exact numI_ltE a26
 have hPa : ∀ m, allOld w ∈ m → PaR (HM m) E pb P := fun m hin => hPP.mono (H0.hm hin)
 have GJ6_ok := GJ6_mk (E := E)
 have hoA : okA (othE E) := ⟨bytI_len _ _, bytI_all _ _⟩
 obtain ⟨hoL, hoB⟩ := id hoA
 have hsl := selfA_len
 have hsb := selfA_all
 subst b1
 have hdep : selB [100, 101, 112, 111, 115, 105, 116, 84, 111, 40, 97, 100, 100, 114, 101, 115, 115, 41] = selB depS := rfl
 have hs4 := selB_len depS
 have tsel : (selB depS).take 4 = selB depS := List.take_of_length_le (by rw [selB_len]; exact Nat.le_refl _)
 generalize hz1 : decide (othE E = selfA) = z1
 generalize hz2 : decide ((0 : Int) < (E.e.bs.length : Int)) = z2
 rcases opcR6 E.e.op with h | h | h | h | h
 all_goals
  (first | have d242 : decide (E.e.op = 242) = true := decide_eq_true (by omega) | have d242 : decide (E.e.op = 242) = false := decide_eq_false (by omega))
  (first | have d244 : decide (E.e.op = 244) = true := decide_eq_true (by omega) | have d244 : decide (E.e.op = 244) = false := decide_eq_false (by omega))
  (first | have d241 : decide (E.e.op = 241) = true := decide_eq_true (by omega) | have d241 : decide (E.e.op = 241) = false := decide_eq_false (by omega))
  (first | have d250 : decide (E.e.op = 250) = true := decide_eq_true (by omega) | have d250 : decide (E.e.op = 250) = false := decide_eq_false (by omega))
 all_goals (cases z1 <;> cases z2)
 all_goals
  refine Vc.calls T0_ok Tryd.func50 rfl rfl (args := [.agg st]) (k := 28) rfl (old_start w) ?_; change Vc _ _ (c8 (.agg st) .undef .undef .undef .undef .undef .undef .undef (c8 .undef .undef .undef .undef .undef .undef .undef .undef (c8 .undef .undef .undef .undef .undef .undef .undef .undef ([.undef, .undef, .undef, .undef, .undef])))) _ _
  ((with_reducible refine Vc.seq fun N hN => ?_); (refine Vc.regiont T0_ok GJ6_ok ?_); simp only [v8Y, Nat.beq, Nat.ble, seval, tabs, GJ6_set, s2, s3, c0, c2, c22, c26, c30, c31, c32, c33, r0, r1, rS, r25, r84, r85, r86, r87, r88, r89, r90, r91, r92, n22, n26, toU8_bL, List.drop_zero, Bool.or_false, Bool.or_true, Bool.true_or, Bool.false_or, Bool.not_true, Bool.not_false, Bool.and_false, Bool.false_and, Bool.and_true, Bool.true_and, d242, d244, d241, d250, hz1, hz2, hdep, tsel, bt]; (try simp (disch := omega) only [v8W]); (repeat (first | with_reducible intro _ | ((with_reducible refine And.intro ?_ ?_); exact sX4))); (first | (refine hN _ _ ?_; clear hN N; (try simp (disch := omega) only [v8W])) | skip))
  ((repeat (first | (with_reducible refine Vc.seq fun N hN => ?_) | ((with_reducible refine And.intro ?_ ?_); exact sX4) | ((first | ((with_reducible refine Vc.hold ?_); first | refine Vc.regiont T0_ok GJ6_ok ?_)); (try simp only [v8Y, Nat.beq, Nat.ble, seval, tabs, GJ6_set, s2, s3, c0, c2, c22, c26, c30, c31, c32, c33, r0, r1, rS, r25, r84, r85, r86, r87, r88, r89, r90, r91, r92, n22, n26, toU8_bL, List.drop_zero, Bool.or_false, Bool.or_true, Bool.true_or, Bool.false_or, Bool.not_true, Bool.not_false, Bool.and_false, Bool.false_and, Bool.and_true, Bool.true_and, d242, d244, d241, d250, hz1, hz2, hdep, tsel, bt])) | ((with_reducible refine hN _ _ ?_); clear hN N))))
  (repeat (first | ((refine Vc.cond T0_ok (t := true) (by rfl) (fun _ => ?_) (fun h => Bool.noConfusion h)); ((repeat (first | (with_reducible refine Vc.seq fun N hN => ?_) | ((first | with_reducible refine Vc.skip ?_); dsimp only [thenK, blockK, Nat.beq]; (first | (refine hN _ _ ?_; clear hN N))) | (with_reducible intro _) | ((with_reducible refine And.intro ?_ ?_); exact sX4) | ((first | ((with_reducible refine Vc.fin ?_); dsimp only [thenK, blockK, retK, resS, resOne, resAll]) | ((with_reducible refine Vc.hold ?_); first | refine Vc.regiont T0_ok GJ6_ok ?_ | refine Vc.drawt (id := 9) T0_ok GJ6_ok (by kernel_rfl) [0, 1, 2, 3, 4, 5, 6, 7, 8, 9] 10 [] trivial (by kernel_rfl) ?_)); (try simp only [v8Y, Nat.beq, Nat.ble, seval, tabs, GJ6_set, s2, s3, c0, c2, c22, c26, c30, c31, c32, c33, r0, r1, rS, r25, r84, r85, r86, r87, r88, r89, r90, r91, r92, n22, n26, toU8_bL, List.drop_zero, Bool.or_false, Bool.or_true, Bool.true_or, Bool.false_or, Bool.not_true, Bool.not_false, Bool.and_false, Bool.false_and, Bool.and_true, Bool.true_and, d242, d244, d241, d250, hz1, hz2, hdep, tsel, bt])) | ((with_reducible refine hN _ _ ?_); clear hN N))); (try ((with_reducible refine Fin.of ?_))))) | ((refine Vc.cond T0_ok (t := false) (by rfl) (fun h => Bool.noConfusion h) (fun _ => ?_)); ((repeat (first | (with_reducible first | refine Vc.seq fun N hN => ?_ | refine Vc.block ?_) | ((first | with_reducible refine Vc.skip ?_); dsimp only [thenK, blockK, Nat.beq]; (first | (refine hN _ _ ?_; clear hN N))) | ((with_reducible refine And.intro ?_ ?_); exact sX4) | ((first | ((with_reducible refine Vc.fin ?_); dsimp only [thenK, blockK, retK, resS, resOne, resAll]) | ((with_reducible refine Vc.hold ?_); first | refine Vc.regiont T0_ok GJ6_ok ?_)); (try simp only [v8Y, Nat.beq, Nat.ble, seval, tabs, GJ6_set, s2, s3, c0, c2, c22, c26, c30, c31, c32, c33, r0, r1, rS, r25, r84, r85, r86, r87, r88, r89, r90, r91, r92, n22, n26, toU8_bL, List.drop_zero, Bool.or_false, Bool.or_true, Bool.true_or, Bool.false_or, Bool.not_true, Bool.not_false, Bool.and_false, Bool.false_and, Bool.and_true, Bool.true_and, d242, d244, d241, d250, hz1, hz2, hdep, tsel, bt])) | ((with_reducible refine hN _ _ ?_); clear hN N))); (try ((with_reducible refine Fin.of ?_))))) | (clear hN N)))
  refine ⟨by first | trivial | simp, ?_⟩
  (congr 1; simp only [ruleE, isOp, List.any_cons, List.any_nil, stakedE, d242, d244, d241, d250, hz1, hz2, hdep, tsel, bt, Bool.or_false, Bool.or_true, Bool.true_or, Bool.false_or, Bool.not_true, Bool.not_false, Bool.and_false, Bool.false_and, Bool.and_true, Bool.true_and]; try first | done | rfl)
noncomputable def g_r6 (E : JE) (args : List SV) (m : List Blk) : CR := match args with
 | [.agg st] => .pure (StOk E (HM m) st) (.bool (ruleE E 6))
 | _ => .none
theorem g_r6_ok (E : JE) (w0 : World) (B : List Nat) (args : List SV) (m : List Blk) : CROk Tryd.prog w0 B 50 args m (g_r6 E args m) := by
 unfold g_r6; split
 ·rename_i st
  intro h w hm
  exact calls_pure Tryd.func50 rfl rfl (r6_vc E st w (h.mono fun b o h => hm.hm h))
 ·exact trivial
end Go.Proofs.YtoadeekdgikghaaDoor
