/-
 The law UseropSpans of package quaestorlaw15, walked. No condition.
-/
import Derived.Test.YtjonbbmnjbnefaaDoorOJ
import Derived.Test.YtjonbbmnjbnefaaDoorRS
set_option maxRecDepth 10000
set_option maxHeartbeats 4000000
set_option linter.defProp false
set_option linter.unusedVariables false
set_option linter.unusedSimpArgs false
namespace Go.Proofs.YtjonbbmnjbnefaaDoor
open Go.RowKit
theorem bytI_split (a m : Nat) : ∀ n, bytI a (n + m) = bytI (a / 256 ^ m) n ++ bytI a m
 | 0 => by rw [Nat.zero_add]; rfl
 | n + 1 => by
  rw [show n + 1 + m = (n + m) + 1 by omega, bytI_succ, bytI_succ, bytI_split a m n, byN_eq, byN_eq, Nat.div_div_eq_div_mul, ← Nat.pow_add, Nat.add_comm m n]
  rfl
theorem sp_take (a : Nat) : (bytI a 32).take 6 = bytI (a / 256 ^ 26) 6 := by
 rw [show (32 : Nat) = 6 + 26 from rfl, bytI_split, List.take_left' (bytI_len _ _)]
theorem sp_mid (a : Nat) : ((bytI a 32).drop 6).take 6 = bytI (a / 256 ^ 20) 6 := by
 rw [show (32 : Nat) = 6 + 26 from rfl, bytI_split, List.drop_left' (bytI_len _ _), show (26 : Nat) = 6 + 20 from rfl, bytI_split, List.take_left' (bytI_len _ _)]
theorem sp_low (a : Nat) : (bytI a 32).drop 12 = bytI a 20 := by
 rw [show (32 : Nat) = 12 + 20 from rfl, bytI_split, List.drop_left' (bytI_len _ _)]
theorem rd_short {xs : List Int} (h : xs.length ≤ 32) : readN xs = rdI xs := by unfold readN; rw [show xs.length - 32 = 0 by omega, List.drop_zero]
theorem and48 (z : Nat) (h : z < 18446744073709551616) : bits .and .u64 (z : Int) 281474976710655 = ((z % 281474976710656 : Nat) : Int) := by
 have h1 := bits_and_u64_nat z 281474976710655 h (by omega)
 rw [show z &&& 281474976710655 = z % 281474976710656 from Nat.and_two_pow_sub_one_eq_mod z 48] at h1
 exact h1
theorem shdP_0 {a : Nat} (n : Nat) (ha : a < W) : shdM n a 0 = a / 2 ^ (min n 256) := by
 unfold shdM shdN extN
 rw [sp_eq, if_pos rfl, Nat.mul_zero, Nat.add_zero]
 exact Nat.mod_eq_of_lt (Nat.lt_of_le_of_lt (Nat.div_le_self _ _) ha)
theorem rd_six (b : Nat) : readN (bytI b 6) = b % 281474976710656 := by
 rw [rd_short (by rw [bytI_len]; omega), rdI_bytI]
theorem sm_six (b : Nat) : smN (readN (bytI b 6)) = b % 281474976710656 := by
 rw [rd_six]
 unfold smN
 rw [if_pos (by omega)]
theorem tm_gen {a : Nat} (ha : a < W) (n m : Nat) (hn : n ≤ 256) (hm : 256 ^ m = 2 ^ n) : tmN n a = ((smN (readN (bytI (a / 256 ^ m) 6)) : Nat) : Int) := by
 unfold tmN
 rw [shdP_0 n ha, and48 _ (lm_lt _ _), Nat.min_eq_left hn, sm_six, hm]
 congr 1
 unfold lm
 rw [Nat.pow_zero, Nat.div_one]
 exact Nat.mod_mod_of_dvd _ (by decide)
theorem tm_inK (n a : Nat) : inK .u64 (tmN n a) := by
 unfold tmN
 rw [and48 _ (lm_lt _ _)]
 simp only [inK]; omega
theorem eqL_sp (x : Bool) (u v : Int) : eqL [.bool x, .int .u64 u, .int .u64 v] [.bool x, .int .u64 u, .int .u64 v] = true := by
 simp only [eqL, beq_self_eq_true, decide_true, Bool.and_self]
theorem rd_20 {a : Nat} : readN (bytI a 20) = a % 256 ^ 20 := by
 rw [rd_short (by rw [bytI_len]; omega), rdI_bytI]
theorem sp_iff {a : Nat} : readN (bytI a 20) = 0 ↔ bytI a 20 = z20 := by
 have hz : bytI 0 20 = z20 := by decide +kernel
 have h0 : readN z20 = 0 := by decide +kernel
 rw [rd_20]
 constructor
 ·intro h
  rw [← hz]
  exact bytI_low (by rw [h, Nat.zero_mod])
 ·intro h
  rw [← rd_20, h, h0]
theorem sp_bad {a : Nat} : (!eqW (readN (bytI a 20)) 0) = spB a := by
 have hr : readN (bytI a 20) < W := readN_lt (bytI_all _ _)
 have h0 : (0 : Nat) < W := by decide +kernel
 have hs : spB a = !decide (bytI a 20 = z20) := rfl
 rw [hs, eqW_dec hr h0]
 have hi := sp_iff (a := a)
 generalize bytI a 20 = y at *
 generalize readN y = n at *
 by_cases h1 : n = 0
 ·rw [decide_eq_true h1, decide_eq_true (hi.1 h1)]
 ·rw [decide_eq_false h1, decide_eq_false (fun h => h1 (hi.2 h))]
noncomputable def GTA : Ctr := fun f args m => match f with
 | 81 => g_rBytes args m
 | 83 => g_rRead args m
 | 82 => g_rSmall args m
 | _ => .none
theorem GTA_ok : GOk Tryd.prog GTA := by
 intro w0 B f args m; unfold GTA; split
 ·exact g_rBytes_ok _ _ _ _
 ·exact g_rRead_ok _ _ _ _
 ·exact g_rSmall_ok _ _ _ _
 ·exact trivial
theorem GTA_rBytes : GTA 81 = g_rBytes := by funext args m; rfl
theorem GTA_rRead : GTA 83 = g_rRead := by funext args m; rfl
theorem GTA_rSmall : GTA 82 = g_rSmall := by funext args m; rfl
def GTA_set := And.intro (And.intro (@GTA_rBytes) (And.intro (@g_rBytes.eq_def) (@GTA_rRead))) (And.intro (@g_rRead.eq_def) (And.intro (@GTA_rSmall) (@g_rSmall.eq_def)))

theorem rspans_vc (a : Nat) (ha : a < W) (w : World) : Calls Tryd.prog 37 (cvs [.word a]).toArray w (fun en w' => ∃ u, en = .returned u ∧ ∃ v' m', u = cv v' ∧ MemOk w [] m' w' ∧ v' = .agg [.bool (spB a), .int .u64 (tmN 208 a), .int .u64 (tmN 160 a)]) := by
 have e1 := sp_take a
 have e2 := sp_mid a
 have e3 : ((bytI a 32).drop 12).take 20 = bytI a 20 := by rw [sp_low, List.take_of_length_le (by rw [bytI_len]; omega)]
 have t1 : ((smN (readN (bytI (a / 256 ^ 26) 6)) : Nat) : Int) = tmN 208 a := (tm_gen ha 208 26 (by omega) (by decide +kernel)).symm
 have t2 : ((smN (readN (bytI (a / 256 ^ 20) 6)) : Nat) : Int) = tmN 160 a := (tm_gen ha 160 20 (by omega) (by decide +kernel)).symm
 have t3 := sp_bad (a := a)
 have hb := bytI_len a 32
 have hu0 : allU [0, 0, 0, 0] := ⟨by omega, by omega, by omega, by omega, trivial⟩
 have k1 : readN (bytI (a / 256 ^ 26) 6) < W := readN_lt (bytI_all _ _)
 have k2 : readN (bytI (a / 256 ^ 20) 6) < W := readN_lt (bytI_all _ _)
 have k3 := bytI_all (a / 256 ^ 26) 6
 have k4 := bytI_all (a / 256 ^ 20) 6
 have k5 := bytI_all a 20
 generalize bytI (a / 256 ^ 26) 6 = x6 at *
 generalize bytI (a / 256 ^ 20) 6 = y6 at *
 refine Vc.calls T0_ok Tryd.func37 rfl rfl (args := [.word a]) (k := 31) rfl (MemOk.start _) ?_; change Vc _ _ (c8 (.word a) .undef .undef .undef .undef .undef .undef .undef (c8 .undef .undef .undef .undef .undef .undef .undef .undef (c8 .undef .undef .undef .undef .undef .undef .undef .undef (c8 .undef .undef .undef .undef .undef .undef .undef .undef ([]))))) _ _
 ((with_reducible refine Vc.seq fun N hN => ?_); (refine Vc.regiont T0_ok GTA_ok ?_); simp only [v8Y, Nat.beq, Nat.ble, Int.reduceToNat, Int.reduceLE, Int.reduceLT, Nat.reduceLT, Nat.reduceLeDiff, Nat.reduceAdd, Nat.reduceMul, Nat.reduceSub, Int.reduceAdd, Int.reduceSub, Int.reduceMul, v8S, IntKind.bits, tabs, GTA_set]; (try simp (disch := omega) only [v8W]); (repeat (first | with_reducible intro _ | ((with_reducible refine And.intro ?_ ?_); exact sdB) | ((with_reducible refine askT_of ?_ (fun hb => ?_)); exact sdB; simp only [hb, v8Y, Nat.beq, Nat.ble, Int.reduceToNat, Int.reduceLE, Int.reduceLT, Nat.reduceLT, Nat.reduceLeDiff, Nat.reduceAdd, Nat.reduceMul, Nat.reduceSub, Int.reduceAdd, Int.reduceSub, Int.reduceMul, v8S, IntKind.bits, tabs, GTA_set]; (try simp (disch := omega) only [v8W])))); (first | (refine hN _ _ ?_; clear hN N; (try simp (disch := omega) only [v8W])) | skip))
 ((with_reducible refine Vc.seq fun N hN => ?_); (refine Vc.regiont T0_ok GTA_ok ?_); simp only [v8Y, Nat.beq, Nat.ble, Int.reduceToNat, Int.reduceLE, Int.reduceLT, Nat.reduceLT, Nat.reduceLeDiff, Nat.reduceAdd, Nat.reduceMul, Nat.reduceSub, Int.reduceAdd, Int.reduceSub, Int.reduceMul, v8S, IntKind.bits, tabs, GTA_set]; (try simp (disch := omega) only [v8W]); (repeat (first | with_reducible intro _ | ((with_reducible refine And.intro ?_ ?_); exact sdB) | ((with_reducible refine askT_of ?_ (fun hb => ?_)); exact sdB; simp only [hb, v8Y, Nat.beq, Nat.ble, Int.reduceToNat, Int.reduceLE, Int.reduceLT, Nat.reduceLT, Nat.reduceLeDiff, Nat.reduceAdd, Nat.reduceMul, Nat.reduceSub, Int.reduceAdd, Int.reduceSub, Int.reduceMul, v8S, IntKind.bits, tabs, GTA_set]; (try simp (disch := omega) only [v8W])))); (first | (refine hN _ _ ?_; clear hN N; (try simp (disch := omega) only [v8W])) | skip))
 ((with_reducible refine Vc.seq fun N hN => ?_); (refine Vc.regiont T0_ok GTA_ok ?_); simp only [v8Y, Nat.beq, Nat.ble, Int.reduceToNat, Int.reduceLE, Int.reduceLT, Nat.reduceLT, Nat.reduceLeDiff, Nat.reduceAdd, Nat.reduceMul, Nat.reduceSub, Int.reduceAdd, Int.reduceSub, Int.reduceMul, v8S, IntKind.bits, tabs, GTA_set, List.drop_zero, e1, t1]; (try simp (disch := omega) only [v8W]); (repeat (first | with_reducible intro _ | ((with_reducible refine And.intro ?_ ?_); exact sdB) | ((with_reducible refine askT_of ?_ (fun hb => ?_)); exact sdB; simp only [hb, v8Y, Nat.beq, Nat.ble, Int.reduceToNat, Int.reduceLE, Int.reduceLT, Nat.reduceLT, Nat.reduceLeDiff, Nat.reduceAdd, Nat.reduceMul, Nat.reduceSub, Int.reduceAdd, Int.reduceSub, Int.reduceMul, v8S, IntKind.bits, tabs, GTA_set, List.drop_zero, e1, t1]; (try simp (disch := omega) only [v8W])))); (first | (refine hN _ _ ?_; clear hN N; (try simp (disch := omega) only [v8W])) | skip))
 ((with_reducible refine Vc.seq fun N hN => ?_); (refine Vc.regiont T0_ok GTA_ok ?_); simp only [v8Y, Nat.beq, Nat.ble, Int.reduceToNat, Int.reduceLE, Int.reduceLT, Nat.reduceLT, Nat.reduceLeDiff, Nat.reduceAdd, Nat.reduceMul, Nat.reduceSub, Int.reduceAdd, Int.reduceSub, Int.reduceMul, v8S, IntKind.bits, tabs, GTA_set, e2, t2]; (try simp (disch := omega) only [v8W]); (repeat (first | with_reducible intro _ | ((with_reducible refine And.intro ?_ ?_); exact sdB) | ((with_reducible refine askT_of ?_ (fun hb => ?_)); exact sdB; simp only [hb, v8Y, Nat.beq, Nat.ble, Int.reduceToNat, Int.reduceLE, Int.reduceLT, Nat.reduceLT, Nat.reduceLeDiff, Nat.reduceAdd, Nat.reduceMul, Nat.reduceSub, Int.reduceAdd, Int.reduceSub, Int.reduceMul, v8S, IntKind.bits, tabs, GTA_set, e2, t2]; (try simp (disch := omega) only [v8W])))); (first | (refine hN _ _ ?_; clear hN N; (try simp (disch := omega) only [v8W])) | skip))
 ((with_reducible refine Vc.seq fun N hN => ?_); (refine Vc.regiont T0_ok GTA_ok ?_); simp only [v8Y, Nat.beq, Nat.ble, Int.reduceToNat, Int.reduceLE, Int.reduceLT, Nat.reduceLT, Nat.reduceLeDiff, Nat.reduceAdd, Nat.reduceMul, Nat.reduceSub, Int.reduceAdd, Int.reduceSub, Int.reduceMul, v8S, IntKind.bits, tabs, GTA_set, e3, t3, hu0]; (try simp (disch := omega) only [v8W]); (repeat (first | with_reducible intro _ | ((with_reducible refine And.intro ?_ ?_); exact sdB) | ((with_reducible refine askT_of ?_ (fun hb => ?_)); exact sdB; simp only [hb, v8Y, Nat.beq, Nat.ble, Int.reduceToNat, Int.reduceLE, Int.reduceLT, Nat.reduceLT, Nat.reduceLeDiff, Nat.reduceAdd, Nat.reduceMul, Nat.reduceSub, Int.reduceAdd, Int.reduceSub, Int.reduceMul, v8S, IntKind.bits, tabs, GTA_set, e3, t3, hu0]; (try simp (disch := omega) only [v8W])))); (first | (refine hN _ _ ?_; clear hN N; (try simp (disch := omega) only [v8W])) | skip))
 ((repeat (first | (with_reducible first | refine Vc.seq fun N hN => ?_ | refine Vc.block ?_) | ((with_reducible first | refine Vc.skip ?_ | refine Vc.exit ?_); dsimp only [thenK, blockK, Nat.beq]; (first | (refine hN _ _ ?_; clear hN N) | skip)) | (with_reducible intro _) | ((with_reducible refine And.intro ?_ ?_); exact sdB) | ((first | ((with_reducible refine askT_of ?_ (fun hb => ?_)); exact sdB; (try simp only [hb])) | ((with_reducible refine Vc.fin ?_); dsimp only [thenK, blockK, retK, resS, resOne, resAll]) | ((with_reducible refine Vc.hold ?_); first | refine Vc.regiont T0_ok GTA_ok ?_)); (try simp only [v8Y, Nat.beq, Nat.ble, Int.reduceToNat, Int.reduceLE, Int.reduceLT, Nat.reduceLT, Nat.reduceLeDiff, Nat.reduceAdd, Nat.reduceMul, Nat.reduceSub, Int.reduceAdd, Int.reduceSub, Int.reduceMul, v8S, IntKind.bits, tabs, GTA_set]); (try simp (disch := omega) only [v8W])) | ((with_reducible refine hN _ _ ?_); clear hN N; (try simp (disch := omega) only [v8W])))); (try ((with_reducible refine Fin.of ?_); (try with_reducible exact True.intro))))
 exact ⟨by simp, trivial⟩
noncomputable def g_rspans (args : List SV) (m : List Blk) : CR :=
 match args with
 | [.word a] => .pure (a < W) (.agg [.bool (spB a), .int .u64 (tmN 208 a), .int .u64 (tmN 160 a)])
 | _ => .none
theorem g_rspans_ok (w0 : World) (B : List Nat) (args : List SV) (m : List Blk) : CROk Tryd.prog w0 B 37 args m (g_rspans args m) := by
 unfold g_rspans
 split
 ·rename_i a
  intro h1 w hm
  exact calls_pure Tryd.func37 rfl rfl (rspans_vc a h1 w)
 ·exact trivial
theorem rnow_vc (b : Bool) (af un t : Int) (w : World) : Calls Tryd.prog 39 (cvs [.agg [.bool b, .int .u64 af, .int .u64 un], .int .u64 t]).toArray w (fun en w' => ∃ u, en = .returned u ∧ ∃ v' m', u = cv v' ∧ MemOk w [] m' w' ∧ v' = .bool (nowO b af un t)) := by
 refine Vc.calls T0_ok Tryd.func39 rfl rfl (args := [.agg [.bool b, .int .u64 af, .int .u64 un], .int .u64 t]) (k := 23) rfl (MemOk.start _) ?_; change Vc _ _ (c8 (.agg [.bool b, .int .u64 af, .int .u64 un]) (.int .u64 t) .undef .undef .undef .undef .undef .undef (c8 .undef .undef .undef .undef .undef .undef .undef .undef (c8 .undef .undef .undef .undef .undef .undef .undef .undef ([.undef])))) _ _
 ((with_reducible refine Vc.seq fun N hN => ?_); (refine Vc.regiont T0_ok GOJ_ok ?_); simp only [v8Y, Nat.beq, Nat.ble, Int.reduceToNat, Int.reduceLE, Int.reduceLT, Nat.reduceLT, Nat.reduceLeDiff, Nat.reduceAdd, Nat.reduceMul, Nat.reduceSub, Int.reduceAdd, Int.reduceSub, Int.reduceMul, v8S, IntKind.bits, tabs, GOJ_set]; (try simp (disch := omega) only [v8W]); (repeat (first | with_reducible intro _ | ((with_reducible refine And.intro ?_ ?_); exact sdB) | ((with_reducible refine askT_of ?_ (fun hb => ?_)); exact sdB; simp only [hb, v8Y, Nat.beq, Nat.ble, Int.reduceToNat, Int.reduceLE, Int.reduceLT, Nat.reduceLT, Nat.reduceLeDiff, Nat.reduceAdd, Nat.reduceMul, Nat.reduceSub, Int.reduceAdd, Int.reduceSub, Int.reduceMul, v8S, IntKind.bits, tabs, GOJ_set]; (try simp (disch := omega) only [v8W])))); (first | (refine hN _ _ ?_; clear hN N; (try simp (disch := omega) only [v8W])) | skip))
 ((repeat with_reducible refine Vc.seq fun N hN => ?_); (first | refine Vc.regiont T0_ok GOJ_ok ?_); simp only [v8Y, Nat.beq, Nat.ble, Int.reduceToNat, Int.reduceLE, Int.reduceLT, Nat.reduceLT, Nat.reduceLeDiff, Nat.reduceAdd, Nat.reduceMul, Nat.reduceSub, Int.reduceAdd, Int.reduceSub, Int.reduceMul, v8S, IntKind.bits, tabs, GOJ_set]; (try simp (disch := omega) only [v8W]); (repeat' (first | with_reducible intro _ | ((with_reducible refine And.intro ?_ ?_); exact sdB) | ((with_reducible refine askT_both (fun hb => ?_) (fun hb => ?_)) <;> ((try simp only [Bool.not_not, Bool.not_eq_true', Bool.not_eq_false'] at hb); simp only [hb, v8Y, Nat.beq, Nat.ble, Int.reduceToNat, Int.reduceLE, Int.reduceLT, Nat.reduceLT, Nat.reduceLeDiff, Nat.reduceAdd, Nat.reduceMul, Nat.reduceSub, Int.reduceAdd, Int.reduceSub, Int.reduceMul, v8S, IntKind.bits, tabs, GOJ_set]; (try simp (disch := omega) only [v8W]))))); (all_goals ((refine hN _ _ ?_); (clear hN N); (try simp (disch := omega) only [v8W]))))
 all_goals ((repeat (first | (with_reducible first | refine Vc.seq fun N hN => ?_ | refine Vc.block ?_) | ((with_reducible first | refine Vc.skip ?_ | refine Vc.exit ?_); dsimp only [thenK, blockK, Nat.beq]; (first | (refine hN _ _ ?_; clear hN N) | skip)) | (with_reducible intro _) | ((with_reducible refine And.intro ?_ ?_); exact sdB) | ((first | ((with_reducible refine askT_of ?_ (fun hb => ?_)); exact sdB; (try simp only [hb])) | ((with_reducible refine Vc.fin ?_); dsimp only [thenK, blockK, retK, resS, resOne, resAll]) | ((with_reducible refine Vc.hold ?_); first | refine Vc.regiont T0_ok GOJ_ok ?_)); (try simp only [v8Y, Nat.beq, Nat.ble, Int.reduceToNat, Int.reduceLE, Int.reduceLT, Nat.reduceLT, Nat.reduceLeDiff, Nat.reduceAdd, Nat.reduceMul, Nat.reduceSub, Int.reduceAdd, Int.reduceSub, Int.reduceMul, v8S, IntKind.bits, tabs, GOJ_set]); (try simp (disch := omega) only [v8W])) | ((with_reducible refine hN _ _ ?_); clear hN N; (try simp (disch := omega) only [v8W])))); (try ((with_reducible refine Fin.of ?_); (try with_reducible exact True.intro))))
 all_goals refine ⟨by simp, ?_⟩
 all_goals (congr 1; unfold nowO; simp_all <;> omega)
noncomputable def g_rnow (args : List SV) (m : List Blk) : CR :=
 match args with
 | [.agg [.bool b, .int .u64 af, .int .u64 un], .int .u64 t] => .pure (True) (.bool (nowO b af un t))
 | _ => .none
theorem g_rnow_ok (w0 : World) (B : List Nat) (args : List SV) (m : List Blk) : CROk Tryd.prog w0 B 39 args m (g_rnow args m) := by
 unfold g_rnow
 split
 ·rename_i b af un t
  intro _ w hm
  exact calls_pure Tryd.func39 rfl rfl (rnow_vc b af un t w)
 ·exact trivial
noncomputable def GTB : Ctr := fun f args m => match f with
 | 12 => g_ulK args m
 | 36 => g_spans args m
 | 37 => g_rspans args m
 | 38 => g_now args m
 | 39 => g_rnow args m
 | _ => .none
theorem GTB_ok : GOk Tryd.prog GTB := by
 intro w0 B f args m; unfold GTB; split
 ·exact g_ulK_ok _ _ _ _
 ·exact g_spans_ok _ _ _ _
 ·exact g_rspans_ok _ _ _ _
 ·exact g_now_ok _ _ _ _
 ·exact g_rnow_ok _ _ _ _
 ·exact trivial
theorem GTB_ulK : GTB 12 = g_ulK := by funext args m; rfl
theorem GTB_spans : GTB 36 = g_spans := by funext args m; rfl
theorem GTB_rspans : GTB 37 = g_rspans := by funext args m; rfl
theorem GTB_now : GTB 38 = g_now := by funext args m; rfl
theorem GTB_rnow : GTB 39 = g_rnow := by funext args m; rfl
def GTB_set := And.intro (And.intro (And.intro (@GTB_ulK) (@g_ulK.eq_def)) (And.intro (@GTB_spans) (And.intro (@g_spans.eq_def) (@GTB_rspans)))) (And.intro (And.intro (@g_rspans.eq_def) (@GTB_now)) (And.intro (@g_now.eq_def) (And.intro (@GTB_rnow) (@g_rnow.eq_def))))

set_option maxRecDepth 20000 in
theorem spans_law (a : Nat) (ha : a < W) (b : Bool) (af un t : Int) (w : World) (hm : MemOk w [] [.ro (some ⟨1, 0, none⟩) (.ints .u64 kKeys), .ro (some ⟨2, 0, none⟩) (.ints .u8 kPathI), allOld w] w) : Calls Tryd.prog 7 (cvs [.word a, .agg [.bool b, .int .u64 af, .int .u64 un], .int .u64 t]).toArray w (Yes w) := by
 refine Vc.calls T0_ok Tryd.func7 rfl rfl (args := [.word a, .agg [.bool b, .int .u64 af, .int .u64 un], .int .u64 t]) (k := 32) rfl hm ?_; change Vc _ _ (c8 (.word a) (.agg [.bool b, .int .u64 af, .int .u64 un]) (.int .u64 t) .undef .undef .undef .undef .undef (c8 .undef .undef .undef .undef .undef .undef .undef .undef (c8 .undef .undef .undef .undef .undef .undef .undef .undef (c8 .undef .undef .undef .undef .undef .undef .undef .undef ([.undef, .undef, .undef]))))) _ _
 have i1 := tm_inK 208 a
 have i2 := tm_inK 160 a
 ((repeat (first | (with_reducible first | refine Vc.seq fun N hN => ?_ | refine Vc.block ?_) | ((with_reducible first | refine Vc.skip ?_ | refine Vc.exit ?_); dsimp only [thenK, blockK, Nat.beq]; (first | (refine hN _ _ ?_; clear hN N) | skip)) | (with_reducible intro _) | ((with_reducible refine And.intro ?_ ?_); exact sdB) | ((first | ((with_reducible refine askT_of ?_ (fun hb => ?_)); exact sdB; (try simp only [hb])) | ((with_reducible refine Vc.fin ?_); dsimp only [thenK, blockK, retK, resS, resOne, resAll]) | ((with_reducible refine Vc.hold ?_); first | refine Vc.regiont T0_ok GTB_ok ?_ | refine Vc.drawt (id := 2) T0_ok GTB_ok (by kernel_rfl) [0, 1, 2, 3, 4, 5, 6, 7, 8, 9, 11, 12, 10, 13, 14, 15, 16, 17, 18, 20, 21, 19] 22 [] trivial (by kernel_rfl) ?_)); (try simp only [v8Y, Nat.beq, Nat.ble, Int.reduceToNat, Int.reduceLE, Int.reduceLT, Nat.reduceLT, Nat.reduceLeDiff, Nat.reduceAdd, Nat.reduceMul, Nat.reduceSub, Int.reduceAdd, Int.reduceSub, Int.reduceMul, v8S, IntKind.bits, tabs, GTB_set, beq_self_eq_true, eqL_sp]); (try simp (disch := omega) only [v8W])) | ((with_reducible refine hN _ _ ?_); clear hN N; (try simp (disch := omega) only [v8W])))); (try ((with_reducible refine Fin.of ?_); (try with_reducible exact True.intro))))
 exact ⟨by simp, trivial⟩
end Go.Proofs.YtjonbbmnjbnefaaDoor
