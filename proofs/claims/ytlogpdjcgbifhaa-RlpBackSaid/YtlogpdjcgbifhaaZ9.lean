/-
  The law RlpBack of package quaestorlaw04 answers true for all items and bytes, and leaves them as they were. No condition.
-/
import Derived.Test.YtlogpdjcgbifhaaZ8
import Derived.Test.YtlogpdjcgbifhaaFI
namespace Go.Proofs.Ytlogpdjcgbifhaa
set_option linter.unusedSimpArgs false
set_option linter.unusedVariables false
set_option maxHeartbeats 4000000
set_option linter.defProp false
open Go.RowKit Go.ChangeShapes Go.WideShapes Go.ChangeAt
noncomputable def GZ9 : Ctr := fun f args m => match f with
  | 12 => g_EncA args m
  | 18 => g_Dec args m
  | 14 => g_same args m
  | 10 => g_xlKnown args m
  | 9 => g_much args m
  | 20 => g_plain args m
  | _ => .none
theorem GZ9_ok : GOk Try.prog GZ9 := by
  intro w0 B f args m; unfold GZ9; split
  · exact g_EncA_ok _ _ _ _
  · exact g_Dec_ok _ _ _ _
  · exact g_same_ok _ _ _ _
  · exact g_xlKnown_ok _ _ _ _
  · exact g_much_ok _ _ _ _
  · exact g_plain_ok _ _ _ _
  · exact trivial
theorem GZ9_EncA : GZ9 12 = g_EncA := by funext args m; rfl
theorem GZ9_Dec : GZ9 18 = g_Dec := by funext args m; rfl
theorem GZ9_same : GZ9 14 = g_same := by funext args m; rfl
theorem GZ9_xlKnown : GZ9 10 = g_xlKnown := by funext args m; rfl
theorem GZ9_much : GZ9 9 = g_much := by funext args m; rfl
theorem GZ9_plain : GZ9 20 = g_plain := by funext args m; rfl
def GZ9_set := And.intro (And.intro (And.intro (@GZ9_EncA) (And.intro (@g_EncA.eq_def) (@GZ9_Dec))) (And.intro (@g_Dec.eq_def) (And.intro (@GZ9_same) (@g_same.eq_def)))) (And.intro (And.intro (@GZ9_xlKnown) (And.intro (@g_xlKnown.eq_def) (@GZ9_much))) (And.intro (@g_much.eq_def) (And.intro (@GZ9_plain) (@g_plain.eq_def))))

set_option maxRecDepth 20000 in
theorem rlpBack_law (l : List SV) (t : Itm) (y : Int) (hy : 0 ≤ y ∧ y ≤ 255) (w : World) (hI : ItR (H0 w) l t) :
    Calls Try.prog 5 (cvs [.agg l, .int .u8 y]).toArray w (Yes w) := by
  obtain ⟨lb, a, m, c, bs, a', n', c', rs, rfl⟩ := it_shape hI
  have hti := tOf_eq hI
  have hP : ∀ M, allOld w ∈ M → ∃ t, ItR (HM M) [.bool lb, .gh a m c (.ints .u8 bs), .gh a' n' c' (.rows 3 rs)] t ∧ True ∧ True := fun M hin => ⟨t, hI.mono (H0.hm hin), trivial, trivial⟩
  by_cases hk : mu t 0 ≤ 1000
  · obtain ⟨b1, b2⟩ := mu_bounds t 0 hk
    have d1 : decide ((1000 : Int) < mu t 0) = false := decide_eq_false (by omega)
    have hR : ∀ M, allOld w ∈ M → ∃ t, ItR (HM M) [.bool lb, .gh a m c (.ints .u8 bs), .gh a' n' c' (.rows 3 rs)] t ∧ isz t ≤ 100000 := fun M hin => ⟨t, hI.mono (H0.hm hin), by omega⟩
    have p1 := plain_isz 60 t
    have p2 := plain_cnt 60 t
    have p3 := plain_ok 60 64 t (by decide)
    generalize hPT : plainI 60 t = T at *
    have p4 := enc_len T
    have h60 : ((60 : Int) = 60) = True := eq_true rfl
    refine Vc.calls T0_ok Try.func5 rfl rfl (args := [.agg [.bool lb, .gh a m c (.ints .u8 bs), .gh a' n' c' (.rows 3 rs)], .int .u8 y]) (k := 66) rfl (old_start w) ?_; change Vc _ _ (c8 (.agg [.bool lb, .gh a m c (.ints .u8 bs), .gh a' n' c' (.rows 3 rs)]) (.int .u8 y) .undef .undef .undef .undef .undef .undef (c8 .undef .undef .undef .undef .undef .undef .undef .undef (c8 .undef .undef .undef .undef .undef .undef .undef .undef (c8 .undef .undef .undef .undef .undef .undef .undef .undef (c8 .undef .undef .undef .undef .undef .undef .undef .undef (c8 .undef .undef .undef .undef .undef .undef .undef .undef (c8 .undef .undef .undef .undef .undef .undef .undef .undef (c8 .undef .undef .undef .undef .undef .undef .undef .undef ([.undef, .undef, .undef, .undef]))))))))) _ _
    ((repeat (first | (with_reducible refine Vc.seq fun N hN => ?_) | (with_reducible refine Vc.block ?_) | ((first | with_reducible refine Vc.skip ?_ | with_reducible refine Vc.exit ?_); dsimp only [thenK, blockK, Nat.beq]; (first | (refine hN _ _ ?_; clear hN N) | skip)) | (with_reducible intro _) | ((with_reducible refine And.intro ?_ ?_); (focus (first | ((repeat' with_reducible apply And.intro) <;> first | exact sideQ | (exact hP _ List.mem_cons_self)) | exact sd0))) | ((first | ((with_reducible refine askT_of ?_ (fun hb => ?_)); (focus (first | ((repeat' with_reducible apply And.intro) <;> first | exact sideQ | (exact hP _ List.mem_cons_self)) | exact sd0)); (try simp only [hb])) | ((with_reducible refine Vc.fin ?_); dsimp only [thenK, blockK, retK, resS, resOne, resAll]) | ((with_reducible refine Vc.hold ?_); first | refine Vc.regiont T0_ok GZ9_ok ?_)); (try simp only [v8X, v8A, v8B, v8C, Nat.beq, Nat.ble, Int.reduceToNat, Int.reduceLE, Int.reduceLT, Nat.reduceLT, Nat.reduceLeDiff, Nat.reduceAdd, Nat.reduceMul, Nat.reduceSub, Int.reduceAdd, Int.reduceSub, Int.reduceMul, eq_self, decide_true, beq_self_eq_true, List.length_cons, List.length_nil, Nat.min_eq_left, IntKind.bits, tabs, GZ9_set, d1, hti]); (try simp (disch := omega) only [v8W])) | ((with_reducible refine hN _ _ ?_); clear hN N; (try simp (disch := omega) only [v8W])))); (try ((with_reducible refine Fin.of ?_); (try with_reducible exact True.intro))))
    (refine Vc.cond T0_ok (t := false) (by rfl) (fun h => Bool.noConfusion h) (fun _ => ?_))
    refine Vc.skip ?_
    dsimp only [thenK, blockK, Nat.beq]
    refine hN _ _ ?_
    clear hN N
    ((with_reducible refine Vc.seq fun N hN => ?_); (refine Vc.regiont T0_ok GZ9_ok ?_); simp only [v8X, v8A, v8B, v8C, Nat.beq, Nat.ble, Int.reduceToNat, Int.reduceLE, Int.reduceLT, Nat.reduceLT, Nat.reduceLeDiff, Nat.reduceAdd, Nat.reduceMul, Nat.reduceSub, Int.reduceAdd, Int.reduceSub, Int.reduceMul, eq_self, decide_true, beq_self_eq_true, List.length_cons, List.length_nil, Nat.min_eq_left, IntKind.bits, tabs, GZ9_set, hti, hPT, h60]; (try simp (disch := omega) only [v8W]); (repeat (first | with_reducible intro _ | ((with_reducible refine And.intro ?_ ?_); (focus (first | ((repeat' with_reducible apply And.intro) <;> first | exact sideQ | (exact hP _ List.mem_cons_self) | (exact hR _ List.mem_cons_self)) | exact sd0))) | ((with_reducible refine askT_of ?_ (fun hb => ?_)); (focus (first | ((repeat' with_reducible apply And.intro) <;> first | exact sideQ | (exact hP _ List.mem_cons_self) | (exact hR _ List.mem_cons_self)) | exact sd0)); simp only [hb, v8X, v8A, v8B, v8C, Nat.beq, Nat.ble, Int.reduceToNat, Int.reduceLE, Int.reduceLT, Nat.reduceLT, Nat.reduceLeDiff, Nat.reduceAdd, Nat.reduceMul, Nat.reduceSub, Int.reduceAdd, Int.reduceSub, Int.reduceMul, eq_self, decide_true, beq_self_eq_true, List.length_cons, List.length_nil, Nat.min_eq_left, IntKind.bits, tabs, GZ9_set, hti, hPT, h60]; (try simp (disch := omega) only [v8W])))); (first | (refine hN _ _ ?_; clear hN N; (try simp (disch := omega) only [v8W])) | skip))
    rename_i bX x hq b3
    obtain ⟨yb, ya, yn, yc, ys, ya', yn', yc', yrs, yl⟩ := x
    simp only at hq ⊢
    have hallT := enc_all hq
    have htY := tOf_eq hq
    have hE : ∀ M, Blk.heap yl ∈ M → ∃ t, ItR (HM M) [.bool yb, .gh ya yn yc (.ints .u8 ys), .gh ya' yn' yc' (.rows 3 yrs)] t ∧ cntI t ≤ 10000 ∧ isz t ≤ 100000 := fun M hin => ⟨_, hq.mono (Hl.hm hin fun p hp => hp), by omega, by omega⟩
    have u1 : (enc T).take (enc T).length = enc T := List.take_length
    have q0 : (enc T).length < 18446744073709551616 := by omega
    have hd1 := deco_enc p3 q0
    have hpos : 1 ≤ (enc T).length := by
      rcases Nat.eq_zero_or_pos (enc T).length with h | h
      · rw [List.length_eq_zero_iff.1 h] at hd1
        cases hd1
      · exact h
    have hd3 := deco_more p3 q0 (ws := [y]) (by simp)
    have hd2 := deco_less p3 q0 hallT (ys := (enc T).take ((enc T).length - 1)) (ws := (enc T).drop ((enc T).length - 1)) (List.take_append_drop _ _).symm (fun h => by have := congrArg List.length h; rw [List.length_drop] at this; simp at this; omega)
    have hla : (enc T ++ [y]).length = (enc T).length + 1 := List.length_append
    have hally : allB (enc T ++ [y]) := allB_app hallT fun z hz => by rw [List.mem_singleton] at hz; subst hz; exact hy
    have hmax : (if ((enc T).length : Int) - 1 < 0 then (0 : Int) else ((enc T).length : Int) - 1) = (((enc T).length - 1 : Nat) : Int) := by split <;> omega
    have hall2 : allB ((enc T).take ((enc T).length - 1)) := fun z hz => hallT z (List.mem_of_mem_take hz)
    have u2 : ((enc T).take ((enc T).length - 1)).take ((enc T).length - 1) = (enc T).take ((enc T).length - 1) := List.take_of_length_le (by rw [List.length_take]; omega)
    ((with_reducible refine Vc.seq fun N hN => ?_); (refine Vc.regiont T0_ok GZ9_ok ?_); simp only [v8X, v8A, v8B, v8C, Nat.beq, Nat.ble, Int.reduceToNat, Int.reduceLE, Int.reduceLT, Nat.reduceLT, Nat.reduceLeDiff, Nat.reduceAdd, Nat.reduceMul, Nat.reduceSub, Int.reduceAdd, Int.reduceSub, Int.reduceMul, eq_self, decide_true, beq_self_eq_true, List.length_cons, List.length_nil, Nat.min_eq_left, IntKind.bits, tabs, GZ9_set, htY, tnc]; (try simp (disch := omega) only [v8W]); (repeat (first | with_reducible intro _ | ((with_reducible refine And.intro ?_ ?_); (focus (first | ((repeat' with_reducible apply And.intro) <;> first | exact sideQ | (exact hE _ (by simp))) | exact sd0))) | ((with_reducible refine askT_of ?_ (fun hb => ?_)); (focus (first | ((repeat' with_reducible apply And.intro) <;> first | exact sideQ | (exact hE _ (by simp))) | exact sd0)); simp only [hb, v8X, v8A, v8B, v8C, Nat.beq, Nat.ble, Int.reduceToNat, Int.reduceLE, Int.reduceLT, Nat.reduceLT, Nat.reduceLeDiff, Nat.reduceAdd, Nat.reduceMul, Nat.reduceSub, Int.reduceAdd, Int.reduceSub, Int.reduceMul, eq_self, decide_true, beq_self_eq_true, List.length_cons, List.length_nil, Nat.min_eq_left, IntKind.bits, tabs, GZ9_set, htY, tnc]; (try simp (disch := omega) only [v8W])))); (first | (refine hN _ _ ?_; clear hN N; (try simp (disch := omega) only [v8W])) | skip))
    ((with_reducible refine Vc.seq fun N hN => ?_); (refine Vc.regiont T0_ok GZ9_ok ?_); simp only [v8X, v8A, v8B, v8C, Nat.beq, Nat.ble, Int.reduceToNat, Int.reduceLE, Int.reduceLT, Nat.reduceLT, Nat.reduceLeDiff, Nat.reduceAdd, Nat.reduceMul, Nat.reduceSub, Int.reduceAdd, Int.reduceSub, Int.reduceMul, eq_self, decide_true, beq_self_eq_true, List.length_cons, List.length_nil, Nat.min_eq_left, IntKind.bits, tabs, GZ9_set, htY, u1, hd1, tnc, List.drop_zero]; (try simp (disch := omega) only [v8W]); (repeat (first | with_reducible intro _ | ((with_reducible refine And.intro ?_ ?_); (focus (first | ((repeat' with_reducible apply And.intro) <;> first | exact sideQ | (exact hE _ (by simp))) | exact sd0))) | ((with_reducible refine askT_of ?_ (fun hb => ?_)); (focus (first | ((repeat' with_reducible apply And.intro) <;> first | exact sideQ | (exact hE _ (by simp))) | exact sd0)); simp only [hb, v8X, v8A, v8B, v8C, Nat.beq, Nat.ble, Int.reduceToNat, Int.reduceLE, Int.reduceLT, Nat.reduceLT, Nat.reduceLeDiff, Nat.reduceAdd, Nat.reduceMul, Nat.reduceSub, Int.reduceAdd, Int.reduceSub, Int.reduceMul, eq_self, decide_true, beq_self_eq_true, List.length_cons, List.length_nil, Nat.min_eq_left, IntKind.bits, tabs, GZ9_set, htY, u1, hd1, tnc, List.drop_zero]; (try simp (disch := omega) only [v8W])))); (first | (refine hN _ _ ?_; clear hN N; (try simp (disch := omega) only [v8W])) | skip))
    rename_i v1 x2 hq2 b4
    obtain ⟨zb, za, zn, zc, zs, za', zn', zc', zrs, zl⟩ := x2
    simp only at hq2 ⊢
    ((with_reducible refine Vc.seq fun N hN => ?_); (refine Vc.regiont T0_ok GZ9_ok ?_); simp only [v8X, v8A, v8B, v8C, Nat.beq, Nat.ble, Int.reduceToNat, Int.reduceLE, Int.reduceLT, Nat.reduceLT, Nat.reduceLeDiff, Nat.reduceAdd, Nat.reduceMul, Nat.reduceSub, Int.reduceAdd, Int.reduceSub, Int.reduceMul, eq_self, decide_true, beq_self_eq_true, List.length_cons, List.length_nil, Nat.min_eq_left, IntKind.bits, tabs, GZ9_set, hmax, hd2, u1, u2, tnc, List.drop_zero, Nat.sub_zero]; (try simp (disch := omega) only [v8W]); (repeat (first | with_reducible intro _ | ((with_reducible refine And.intro ?_ ?_); (focus (first | ((repeat' with_reducible apply And.intro) <;> first | exact sideQ | (exact hE _ (by simp))) | exact sd0))) | ((with_reducible refine askT_of ?_ (fun hb => ?_)); (focus (first | ((repeat' with_reducible apply And.intro) <;> first | exact sideQ | (exact hE _ (by simp))) | exact sd0)); simp only [hb, v8X, v8A, v8B, v8C, Nat.beq, Nat.ble, Int.reduceToNat, Int.reduceLE, Int.reduceLT, Nat.reduceLT, Nat.reduceLeDiff, Nat.reduceAdd, Nat.reduceMul, Nat.reduceSub, Int.reduceAdd, Int.reduceSub, Int.reduceMul, eq_self, decide_true, beq_self_eq_true, List.length_cons, List.length_nil, Nat.min_eq_left, IntKind.bits, tabs, GZ9_set, hmax, hd2, u1, u2, tnc, List.drop_zero, Nat.sub_zero]; (try simp (disch := omega) only [v8W])))); (first | (refine hN _ _ ?_; clear hN N; (try simp (disch := omega) only [v8W])) | skip))
    rename_i b5
    have ut1 : List.take 1 [y] = [y] := rfl
    have u3 : (enc T ++ [y]).take ((enc T).length + 1) = enc T ++ [y] := List.take_of_length_le (by omega)
    have d5 : decide ((0 : Int) = 0) = true := rfl
    have d6 : decide ((40 : Int) = 40) = true := rfl
    have hsm : sameI (tOf [.bool yb, .gh ya yn yc (.ints .u8 ys), .gh ya' yn' yc' (.rows 3 yrs)]) (tOf [.bool zb, .gh za zn zc (.ints .u8 zs), .gh za' zn' zc' (.rows 3 zrs)]) = true := by rw [tOf_eq hq, tOf_eq hq2]; exact sameI_refl _
    have hS : ∀ M, Blk.heap yl ∈ M → Blk.heap zl ∈ M → ∃ t t', ItR (HM M) [.bool yb, .gh ya yn yc (.ints .u8 ys), .gh ya' yn' yc' (.rows 3 yrs)] t ∧ ItR (HM M) [.bool zb, .gh za zn zc (.ints .u8 zs), .gh za' zn' zc' (.rows 3 zrs)] t' :=
      fun M h1 h2 => ⟨_, _, hq.mono (Hl.hm h1 fun p hp => hp), hq2.mono (Hl.hm h2 fun p hp => hp)⟩
    ((repeat (first | (with_reducible refine Vc.seq fun N hN => ?_) | (with_reducible refine Vc.block ?_) | ((first | with_reducible refine Vc.skip ?_ | with_reducible refine Vc.exit ?_); dsimp only [thenK, blockK, Nat.beq]; (first | (refine hN _ _ ?_; clear hN N) | skip)) | (with_reducible intro _) | ((with_reducible refine And.intro ?_ ?_); (focus (first | ((repeat' with_reducible apply And.intro) <;> first | exact sideQ | (exact hE _ (by simp)) | (exact hS _ (by simp) (by simp))) | exact sd0))) | ((first | ((with_reducible refine askT_of ?_ (fun hb => ?_)); (focus (first | ((repeat' with_reducible apply And.intro) <;> first | exact sideQ | (exact hE _ (by simp)) | (exact hS _ (by simp) (by simp))) | exact sd0)); (try simp only [hb])) | ((with_reducible refine Vc.fin ?_); dsimp only [thenK, blockK, retK, resS, resOne, resAll]) | ((with_reducible refine Vc.hold ?_); first | refine Vc.regiont T0_ok GZ9_ok ?_)); (try simp only [v8X, v8A, v8B, v8C, Nat.beq, Nat.ble, Int.reduceToNat, Int.reduceLE, Int.reduceLT, Nat.reduceLT, Nat.reduceLeDiff, Nat.reduceAdd, Nat.reduceMul, Nat.reduceSub, Int.reduceAdd, Int.reduceSub, Int.reduceMul, eq_self, decide_true, beq_self_eq_true, List.length_cons, List.length_nil, Nat.min_eq_left, IntKind.bits, tabs, GZ9_set, u1, ut1, u3, hd3, d5, d6, hsm, tnc, List.drop_zero, List.nil_append, Nat.zero_add]); (try simp (disch := omega) only [v8W])) | ((with_reducible refine hN _ _ ?_); clear hN N; (try simp (disch := omega) only [v8W])))); (try ((with_reducible refine Fin.of ?_); (try with_reducible exact True.intro))))
    exact ⟨by simp, trivial⟩
  · have d1 : decide ((1000 : Int) < mu t 0) = true := decide_eq_true (by omega)
    refine Vc.calls T0_ok Try.func5 rfl rfl (args := [.agg [.bool lb, .gh a m c (.ints .u8 bs), .gh a' n' c' (.rows 3 rs)], .int .u8 y]) (k := 66) rfl (old_start w) ?_; change Vc _ _ (c8 (.agg [.bool lb, .gh a m c (.ints .u8 bs), .gh a' n' c' (.rows 3 rs)]) (.int .u8 y) .undef .undef .undef .undef .undef .undef (c8 .undef .undef .undef .undef .undef .undef .undef .undef (c8 .undef .undef .undef .undef .undef .undef .undef .undef (c8 .undef .undef .undef .undef .undef .undef .undef .undef (c8 .undef .undef .undef .undef .undef .undef .undef .undef (c8 .undef .undef .undef .undef .undef .undef .undef .undef (c8 .undef .undef .undef .undef .undef .undef .undef .undef (c8 .undef .undef .undef .undef .undef .undef .undef .undef ([.undef, .undef, .undef, .undef]))))))))) _ _
    ((repeat (first | (with_reducible refine Vc.seq fun N hN => ?_) | (with_reducible refine Vc.block ?_) | ((first | with_reducible refine Vc.skip ?_ | with_reducible refine Vc.exit ?_); dsimp only [thenK, blockK, Nat.beq]; (first | (refine hN _ _ ?_; clear hN N) | skip)) | (with_reducible intro _) | ((with_reducible refine And.intro ?_ ?_); (focus (first | ((repeat' with_reducible apply And.intro) <;> first | exact sideQ | (exact hP _ List.mem_cons_self)) | exact sd0))) | ((first | ((with_reducible refine askT_of ?_ (fun hb => ?_)); (focus (first | ((repeat' with_reducible apply And.intro) <;> first | exact sideQ | (exact hP _ List.mem_cons_self)) | exact sd0)); (try simp only [hb])) | ((with_reducible refine Vc.fin ?_); dsimp only [thenK, blockK, retK, resS, resOne, resAll]) | ((with_reducible refine Vc.hold ?_); first | refine Vc.regiont T0_ok GZ9_ok ?_)); (try simp only [v8X, v8A, v8B, v8C, Nat.beq, Nat.ble, Int.reduceToNat, Int.reduceLE, Int.reduceLT, Nat.reduceLT, Nat.reduceLeDiff, Nat.reduceAdd, Nat.reduceMul, Nat.reduceSub, Int.reduceAdd, Int.reduceSub, Int.reduceMul, eq_self, decide_true, beq_self_eq_true, List.length_cons, List.length_nil, Nat.min_eq_left, IntKind.bits, tabs, GZ9_set, d1, hti]); (try simp (disch := omega) only [v8W])) | ((with_reducible refine hN _ _ ?_); clear hN N; (try simp (disch := omega) only [v8W])))); (try ((with_reducible refine Fin.of ?_); (try with_reducible exact True.intro))))
    (refine Vc.cond T0_ok (t := true) (by rfl) (fun _ => ?_) (fun h => Bool.noConfusion h))
    ((repeat (first | (with_reducible refine Vc.seq fun N hN => ?_) | (with_reducible refine Vc.block ?_) | ((first | with_reducible refine Vc.skip ?_ | with_reducible refine Vc.exit ?_); dsimp only [thenK, blockK, Nat.beq]; (first | (refine hN _ _ ?_; clear hN N) | skip)) | (with_reducible intro _) | ((with_reducible refine And.intro ?_ ?_); (focus (first | exact sideQ | exact sd0))) | ((first | ((with_reducible refine askT_of ?_ (fun hb => ?_)); (focus (first | exact sideQ | exact sd0)); (try simp only [hb])) | ((with_reducible refine Vc.fin ?_); dsimp only [thenK, blockK, retK, resS, resOne, resAll]) | ((with_reducible refine Vc.hold ?_); first | refine Vc.regiont T0_ok GZ9_ok ?_)); (try simp only [v8X, v8A, v8B, v8C, Nat.beq, Nat.ble, Int.reduceToNat, Int.reduceLE, Int.reduceLT, Nat.reduceLT, Nat.reduceLeDiff, Nat.reduceAdd, Nat.reduceMul, Nat.reduceSub, Int.reduceAdd, Int.reduceSub, Int.reduceMul, eq_self, decide_true, beq_self_eq_true, List.length_cons, List.length_nil, Nat.min_eq_left, IntKind.bits, tabs, GZ9_set]); (try simp (disch := omega) only [v8W])) | ((with_reducible refine hN _ _ ?_); clear hN N; (try simp (disch := omega) only [v8W])))); (try ((with_reducible refine Fin.of ?_); (try with_reducible exact True.intro))))
    exact ⟨by simp, trivial⟩
set_option maxRecDepth 100000 in
theorem rlpBack_lifted (os : Os) (started : os.Started) (H : Type) (enc : TypeId × Value → H) :
    ReturnsInHanded {} Try.checked os 5 .any (Rows.rlpBackSpec.pre6 enc Try.prog Try.f5 Rows.rlpBackRow.domain false) (Rows.rlpBackSpec.post enc Try.prog Try.f5 false true false false) := by
  refine returnsInHanded_of_change (C := Try.checked) Try.own started (by kernel_rfl) Try.func5
    (ChangeSpec.witness6 (enc := enc) (C := Try.checked) false ⟨#[], #[.agg #[.bool false, .slice none 0 0, .slice none 0 0], .int .u8 0], []⟩ 8 (by kernel_rfl) (by kernel_rfl) (by kernel_rfl) (by kernel_rfl)) ?_
  intro W0 base args ds gs before hval0 hW hcnd _
  have hval : ∀ (j : Nat) t v, Try.f5.params[j]? = some t → args[j]? = some v → Value.okWide Try.prog W0 .any base t v := hval0
  have hW' := hW
  obtain ⟨p, q, hA0, hV, rfl, hfz, hnd⟩ := hW
  have hA : DataW.TrodAll enc Try.prog W0 0 (fun _ => true) true Try.f5.params.toList args.toList ds p := hA0
  rw [Try.params5] at hA hval
  obtain ⟨v0, v1, d0, d1, p0, p1, rfl, rfl, rfl, h0, h1⟩ := trodAll_two hA
  obtain ⟨rfl, rfl⟩ := trodVars_none hV
  obtain ⟨l0, t0, rfl, i0⟩ := item_open (hval 0 _ v0 rfl rfl) h0
  obtain ⟨a1, rfl, rfl, rfl, w1, f1⟩ := nat_open 256 wf_u8 Try.underlying5 (hval 1 _ v1 rfl rfl) h1
  refine (calls_args (by simp only [cvs]; try rfl) (rlpBack_law l0 t0 a1 ⟨by omega, by omega⟩ W0 i0)).mono fun e W' h => ?_
  obtain ⟨he, hw⟩ := Yes.out h
  subst he
  exact ⟨_, rfl, post_any hW' rfl hw (by kernel_rfl) rfl (fun _ _ _ => trodAll_mk1 (shut_bool Try.underlying4 true)) (fun _ => rfl) (ok_one (by kernel_rfl) rfl (okWide_bool_mk Try.underlying4 true))⟩
theorem RlpBack_holds : Rows.RlpBackSaid :=
  OpenClaim.holds_of_wide 5 Try.f5 rfl rfl rfl rfl rfl rfl rfl ⟨rfl, rfl, rfl, rfl, rfl⟩ rfl rfl rfl rfl rfl (by kernel_rfl) Try.func5 (by kernel_rfl)
    (of_decide_eq_true (by kernel_rfl)) (by unfold Func.isWrapper; first | (rw [if_pos (by decide +kernel)]; kernel_rfl) | (rw [if_neg (by decide +kernel)]; exact ⟨rfl, rfl⟩))
    (fun os started H enc _ => rlpBack_lifted os started H enc)
#print axioms RlpBack_holds
end Go.Proofs.Ytlogpdjcgbifhaa
