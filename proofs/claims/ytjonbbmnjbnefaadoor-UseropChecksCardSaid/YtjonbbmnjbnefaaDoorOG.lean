/-
  Package userop: Check and what it asks; the document's bound of an operation (quaestorref00.Op), walked. No condition.
-/
import Derived.Test.YtjonbbmnjbnefaaDoorOC
namespace Go.Proofs.YtjonbbmnjbnefaaDoor
set_option linter.unusedSimpArgs false
set_option linter.unusedVariables false
set_option maxHeartbeats 4000000
set_option maxRecDepth 10000
set_option linter.defProp false
open Go.RowKit
def opLe (x : OpD) (n : Int) : Bool := decide ((x.fd.length : Int) ≤ n) && (decide ((x.cd.length : Int) ≤ n) && (decide ((x.pd.length : Int) ≤ n) && decide ((x.sg.length : Int) ≤ n)))
noncomputable def GOJ : Ctr := fun f args m => match f with
  | 52 => g_From args m
  | 43 => g_rFrom args m
  | 141 => g_Small args m
  | 109 => g_lowByte args m
  | 120 => g_Shl args m
  | 89 => g_Shr args m
  | 54 => g_Cmp args m
  | 53 => g_Add args m
  | 51 => g_Mul args m
  | _ => .none
theorem GOJ_ok : GOk Tryd.prog GOJ := by
  intro w0 B f args m; unfold GOJ; split
  · exact g_From_ok _ _ _ _
  · exact g_rFrom_ok _ _ _ _
  · exact g_Small_ok _ _ _ _
  · exact g_lowByte_ok _ _ _ _
  · exact g_Shl_ok _ _ _ _
  · exact g_Shr_ok _ _ _ _
  · exact g_Cmp_ok _ _ _ _
  · exact g_Add_ok _ _ _ _
  · exact g_Mul_ok _ _ _ _
  · exact trivial
theorem GOJ_From : GOJ 52 = g_From := by funext args m; rfl
theorem GOJ_rFrom : GOJ 43 = g_rFrom := by funext args m; rfl
theorem GOJ_Small : GOJ 141 = g_Small := by funext args m; rfl
theorem GOJ_lowByte : GOJ 109 = g_lowByte := by funext args m; rfl
theorem GOJ_Shl : GOJ 120 = g_Shl := by funext args m; rfl
theorem GOJ_Shr : GOJ 89 = g_Shr := by funext args m; rfl
theorem GOJ_Cmp : GOJ 54 = g_Cmp := by funext args m; rfl
theorem GOJ_Add : GOJ 53 = g_Add := by funext args m; rfl
theorem GOJ_Mul : GOJ 51 = g_Mul := by funext args m; rfl
def GOJ_set := And.intro (And.intro (And.intro (And.intro (@GOJ_From) (@g_From.eq_def)) (And.intro (@GOJ_rFrom) (@g_rFrom.eq_def))) (And.intro (And.intro (@GOJ_Small) (@g_Small.eq_def)) (And.intro (@GOJ_lowByte) (And.intro (@g_lowByte.eq_def) (@GOJ_Shl))))) (And.intro (And.intro (And.intro (@g_Shl.eq_def) (@GOJ_Shr)) (And.intro (@g_Shr.eq_def) (@GOJ_Cmp))) (And.intro (And.intro (@g_Cmp.eq_def) (@GOJ_Add)) (And.intro (@g_Add.eq_def) (And.intro (@GOJ_Mul) (@g_Mul.eq_def)))))

set_option maxRecDepth 20000 in
theorem op_vc (n : Int) (l : List SV) (x : OpD) (w : World) (hO : OpR (H0 w) l x) : Calls Tryd.prog 11 (cvs [.agg l, .int .i64 n]).toArray w (fun en w' => ∃ u, en = .returned u ∧ ∃ v' m', u = cv v' ∧ MemOk w [] m' w' ∧ v' = .bool (opLe x n)) := by
  have hOx : ∀ m, allOld w ∈ m → OpR (HM m) l x := fun m hin => hO.mono (H0.hm hin)
  have hop := opOf_eq hO
  obtain ⟨f1, f2, f3, c0, c20, c24, c25, d25, ⟨v1, c45, a1, n1, k1, rfl, p11, p12, p13, p14, p15, p16⟩, ⟨v2, c46, a2, n2, k2, rfl, p21, p22, p23, p24, p25, p26⟩, c47, c48, c49, c50, c54, c58, c59, d59, c79, c80, ⟨v3, c81, a3, n3, k3, rfl, p31, p32, p33, p34, p35, p36⟩, ⟨v4, c82, a4, n4, k4, rfl, p41, p42, p43, p44, p45, p46⟩, ls, lf, lp, bs, bf, bp, wn, wf, wt, u1, u2, u3, u4, u5⟩ := hO
  have L1 : ∀ m, allOld w ∈ m → LiesH (HM m) a1 (cc (.ints .u8 x.fd)) := fun m hin => p14.mono (H0.hm hin)
  have T1 : x.fd.take n1 = x.fd := List.take_of_length_le (by omega)
  have L2 : ∀ m, allOld w ∈ m → LiesH (HM m) a2 (cc (.ints .u8 x.cd)) := fun m hin => p24.mono (H0.hm hin)
  have T2 : x.cd.take n2 = x.cd := List.take_of_length_le (by omega)
  have L3 : ∀ m, allOld w ∈ m → LiesH (HM m) a3 (cc (.ints .u8 x.pd)) := fun m hin => p34.mono (H0.hm hin)
  have T3 : x.pd.take n3 = x.pd := List.take_of_length_le (by omega)
  have L4 : ∀ m, allOld w ∈ m → LiesH (HM m) a4 (cc (.ints .u8 x.sg)) := fun m hin => p44.mono (H0.hm hin)
  have T4 : x.sg.take n4 = x.sg := List.take_of_length_le (by omega)
  have N1 := numI_lm wn
  have N2 := numI_lm wf
  have N3 := numI_lm wt
  unfold u64I at u1 u2 u3 u4 u5
  refine Vc.calls T0_ok Tryd.func11 rfl rfl (args := [.agg l, .int .i64 n]) (k := 29) rfl (old_start w) ?_; change Vc _ _ (c8 (.agg l) (.int .i64 n) .undef .undef .undef .undef .undef .undef (c8 .undef .undef .undef .undef .undef .undef .undef .undef (c8 .undef .undef .undef .undef .undef .undef .undef .undef ([.undef, .undef, .undef, .undef, .undef, .undef, .undef])))) _ _
  ((with_reducible refine Vc.seq fun N hN => ?_); (refine Vc.regiont T0_ok GOJ_ok ?_); simp only [v8X, v8A, v8B, v8C, Nat.beq, Nat.ble, Int.reduceToNat, Int.reduceLE, Int.reduceLT, Nat.reduceLT, Nat.reduceLeDiff, Nat.reduceAdd, Nat.reduceMul, Nat.reduceSub, Int.reduceAdd, Int.reduceSub, Int.reduceMul, eq_self, decide_true, beq_self_eq_true, List.length_cons, List.length_nil, Nat.min_eq_left, IntKind.bits, tabs, GOJ_set, f2, f3, c0, c20, c24, c25, d25, c45, c46, c47, c48, c49, c50, c54, c58, c59, d59, c79, c80, c81, c82, N1, N2, N3, T1, T2, T3, T4, toU8_bL, wL.eq_def, datF.eq_def, List.drop_zero]; (try simp (disch := omega) only [v8W]); (repeat (first | with_reducible intro _ | ((with_reducible refine And.intro ?_ ?_); (focus (first | ((repeat' with_reducible apply And.intro) <;> first | exact sideQ | (exact ⟨x, hOx _ (by simp)⟩) | (exact L1 _ (by simp)) | (exact L2 _ (by simp)) | (exact L3 _ (by simp)) | (exact L4 _ (by simp)) | (exact allU_lm _) | (simp only [List.length_append, bytI_len]; omega) | (simp [noAlias]; done)) | exact sd0))) | ((with_reducible refine askT_of ?_ (fun hb => ?_)); (focus (first | ((repeat' with_reducible apply And.intro) <;> first | exact sideQ | (exact ⟨x, hOx _ (by simp)⟩) | (exact L1 _ (by simp)) | (exact L2 _ (by simp)) | (exact L3 _ (by simp)) | (exact L4 _ (by simp)) | (exact allU_lm _) | (simp only [List.length_append, bytI_len]; omega) | (simp [noAlias]; done)) | exact sd0)); simp only [hb, v8X, v8A, v8B, v8C, Nat.beq, Nat.ble, Int.reduceToNat, Int.reduceLE, Int.reduceLT, Nat.reduceLT, Nat.reduceLeDiff, Nat.reduceAdd, Nat.reduceMul, Nat.reduceSub, Int.reduceAdd, Int.reduceSub, Int.reduceMul, eq_self, decide_true, beq_self_eq_true, List.length_cons, List.length_nil, Nat.min_eq_left, IntKind.bits, tabs, GOJ_set, f2, f3, c0, c20, c24, c25, d25, c45, c46, c47, c48, c49, c50, c54, c58, c59, d59, c79, c80, c81, c82, N1, N2, N3, T1, T2, T3, T4, toU8_bL, wL.eq_def, datF.eq_def, List.drop_zero]; (try simp (disch := omega) only [v8W])))); (first | (refine hN _ _ ?_; clear hN N; (try simp (disch := omega) only [v8W])) | skip))
  ((repeat with_reducible refine Vc.seq fun N hN => ?_); (first | refine Vc.regiont T0_ok GOJ_ok ?_); simp only [v8X, v8A, v8B, v8C, Nat.beq, Nat.ble, Int.reduceToNat, Int.reduceLE, Int.reduceLT, Nat.reduceLT, Nat.reduceLeDiff, Nat.reduceAdd, Nat.reduceMul, Nat.reduceSub, Int.reduceAdd, Int.reduceSub, Int.reduceMul, eq_self, decide_true, beq_self_eq_true, List.length_cons, List.length_nil, Nat.min_eq_left, IntKind.bits, tabs, GOJ_set, p11, p21, p31, p41, f2, f3, c0, c20, c24, c25, d25, c45, c46, c47, c48, c49, c50, c54, c58, c59, d59, c79, c80, c81, c82, N1, N2, N3, T1, T2, T3, T4, toU8_bL, wL.eq_def, datF.eq_def, List.drop_zero]; (try simp (disch := omega) only [v8W]); (repeat' (first | with_reducible intro _ | ((with_reducible refine And.intro ?_ ?_); (focus (first | ((repeat' with_reducible apply And.intro) <;> first | exact sideQ | (exact ⟨x, hOx _ (by simp)⟩) | (exact allU_lm _) | (simp [allU]; done)) | exact sd0))) | ((with_reducible refine askT_both (fun hb => ?_) (fun hb => ?_)) <;> ((try simp only [Bool.not_not, Bool.not_eq_true', Bool.not_eq_false'] at hb); simp only [hb, v8X, v8A, v8B, v8C, Nat.beq, Nat.ble, Int.reduceToNat, Int.reduceLE, Int.reduceLT, Nat.reduceLT, Nat.reduceLeDiff, Nat.reduceAdd, Nat.reduceMul, Nat.reduceSub, Int.reduceAdd, Int.reduceSub, Int.reduceMul, eq_self, decide_true, beq_self_eq_true, List.length_cons, List.length_nil, Nat.min_eq_left, IntKind.bits, tabs, GOJ_set, p11, p21, p31, p41, f2, f3, c0, c20, c24, c25, d25, c45, c46, c47, c48, c49, c50, c54, c58, c59, d59, c79, c80, c81, c82, N1, N2, N3, T1, T2, T3, T4, toU8_bL, wL.eq_def, datF.eq_def, List.drop_zero]; (try simp (disch := omega) only [v8W]))))); (all_goals ((refine hN _ _ ?_); (clear hN N); (try simp (disch := omega) only [v8W]))))
  all_goals ((repeat (first | (with_reducible refine Vc.seq fun N hN => ?_) | (with_reducible refine Vc.block ?_) | ((first | with_reducible refine Vc.skip ?_ | with_reducible refine Vc.exit ?_); dsimp only [thenK, blockK, Nat.beq]; (first | (refine hN _ _ ?_; clear hN N) | skip)) | (with_reducible intro _) | ((with_reducible refine And.intro ?_ ?_); (focus (first | ((repeat' with_reducible apply And.intro) <;> first | exact sideQ | (exact ⟨x, hOx _ (by simp)⟩) | (exact L1 _ (by simp)) | (exact L2 _ (by simp)) | (exact L3 _ (by simp)) | (exact L4 _ (by simp)) | (exact allU_lm _) | (simp only [List.length_append, bytI_len]; omega) | (simp [noAlias]; done)) | exact sd0))) | ((first | ((with_reducible refine askT_of ?_ (fun hb => ?_)); (focus (first | ((repeat' with_reducible apply And.intro) <;> first | exact sideQ | (exact ⟨x, hOx _ (by simp)⟩) | (exact L1 _ (by simp)) | (exact L2 _ (by simp)) | (exact L3 _ (by simp)) | (exact L4 _ (by simp)) | (exact allU_lm _) | (simp only [List.length_append, bytI_len]; omega) | (simp [noAlias]; done)) | exact sd0)); (try simp only [hb])) | ((with_reducible refine Vc.fin ?_); dsimp only [thenK, blockK, retK, resS, resOne, resAll]) | ((with_reducible refine Vc.hold ?_); first | refine Vc.regiont T0_ok GOJ_ok ?_)); (try simp only [v8X, v8A, v8B, v8C, Nat.beq, Nat.ble, Int.reduceToNat, Int.reduceLE, Int.reduceLT, Nat.reduceLT, Nat.reduceLeDiff, Nat.reduceAdd, Nat.reduceMul, Nat.reduceSub, Int.reduceAdd, Int.reduceSub, Int.reduceMul, eq_self, decide_true, beq_self_eq_true, List.length_cons, List.length_nil, Nat.min_eq_left, IntKind.bits, tabs, GOJ_set]); (try simp (disch := omega) only [v8W])) | ((with_reducible refine hN _ _ ?_); clear hN N; (try simp (disch := omega) only [v8W])))); (try ((with_reducible refine Fin.of ?_); (try with_reducible exact True.intro))))
  all_goals refine ⟨by simp, ?_⟩
  all_goals (congr 1; unfold opLe; simp_all <;> omega)
noncomputable def g_Op (args : List SV) (m : List Blk) : CR :=
  match args with
  | [.agg l, .int .i64 n] => .pure (∃ x, OpR (HM m) l x) (.bool (opLe (opOf l) n))
  | _ => .none
theorem g_Op_ok (w0 : World) (B : List Nat) (args : List SV) (m : List Blk) : CROk Tryd.prog w0 B 11 args m (g_Op args m) := by
  unfold g_Op
  split
  · rename_i l n
    intro ⟨x, hO⟩ w hm
    rw [opOf_eq hO]
    exact calls_pure Tryd.func11 rfl rfl (op_vc n l x w (hO.mono fun b o h => hm.hm h))
  · exact trivial
def gasL (x : OpD) : List Int := [x.cg, x.vg, x.pg, x.pv, x.po]
set_option maxRecDepth 20000 in
theorem gas_vc (l : List SV) (x : OpD) (w : World) (hO : OpR (H0 w) l x) : Calls Tryd.prog 50 (cvs [.agg l]).toArray w (fun en w' => ∃ u, en = .returned u ∧ ∃ v' m', u = cv v' ∧ MemOk w [] m' w' ∧ v' = .ints .u64 (gasL x)) := by
  have hOx : ∀ m, allOld w ∈ m → OpR (HM m) l x := fun m hin => hO.mono (H0.hm hin)
  have hop := opOf_eq hO
  obtain ⟨f1, f2, f3, c0, c20, c24, c25, d25, ⟨v1, c45, a1, n1, k1, rfl, p11, p12, p13, p14, p15, p16⟩, ⟨v2, c46, a2, n2, k2, rfl, p21, p22, p23, p24, p25, p26⟩, c47, c48, c49, c50, c54, c58, c59, d59, c79, c80, ⟨v3, c81, a3, n3, k3, rfl, p31, p32, p33, p34, p35, p36⟩, ⟨v4, c82, a4, n4, k4, rfl, p41, p42, p43, p44, p45, p46⟩, ls, lf, lp, bs, bf, bp, wn, wf, wt, u1, u2, u3, u4, u5⟩ := hO
  have L1 : ∀ m, allOld w ∈ m → LiesH (HM m) a1 (cc (.ints .u8 x.fd)) := fun m hin => p14.mono (H0.hm hin)
  have T1 : x.fd.take n1 = x.fd := List.take_of_length_le (by omega)
  have L2 : ∀ m, allOld w ∈ m → LiesH (HM m) a2 (cc (.ints .u8 x.cd)) := fun m hin => p24.mono (H0.hm hin)
  have T2 : x.cd.take n2 = x.cd := List.take_of_length_le (by omega)
  have L3 : ∀ m, allOld w ∈ m → LiesH (HM m) a3 (cc (.ints .u8 x.pd)) := fun m hin => p34.mono (H0.hm hin)
  have T3 : x.pd.take n3 = x.pd := List.take_of_length_le (by omega)
  have L4 : ∀ m, allOld w ∈ m → LiesH (HM m) a4 (cc (.ints .u8 x.sg)) := fun m hin => p44.mono (H0.hm hin)
  have T4 : x.sg.take n4 = x.sg := List.take_of_length_le (by omega)
  have N1 := numI_lm wn
  have N2 := numI_lm wf
  have N3 := numI_lm wt
  unfold u64I at u1 u2 u3 u4 u5
  refine Vc.calls T0_ok Tryd.func50 rfl rfl (args := [.agg l]) (k := 13) rfl (old_start w) ?_; change Vc _ _ (c8 (.agg l) .undef .undef .undef .undef .undef .undef .undef ([.undef, .undef, .undef, .undef, .undef, .undef])) _ _
  ((repeat (first | (with_reducible refine Vc.seq fun N hN => ?_) | (with_reducible refine Vc.block ?_) | ((first | with_reducible refine Vc.skip ?_ | with_reducible refine Vc.exit ?_); dsimp only [thenK, blockK, Nat.beq]; (first | (refine hN _ _ ?_; clear hN N) | skip)) | (with_reducible intro _) | ((with_reducible refine And.intro ?_ ?_); (focus (first | ((repeat' with_reducible apply And.intro) <;> first | exact sideQ | (exact ⟨x, hOx _ (by simp)⟩) | (exact L1 _ (by simp)) | (exact L2 _ (by simp)) | (exact L3 _ (by simp)) | (exact L4 _ (by simp)) | (exact allU_lm _) | (simp only [List.length_append, bytI_len]; omega) | (simp [noAlias]; done)) | exact sd0))) | ((first | ((with_reducible refine askT_of ?_ (fun hb => ?_)); (focus (first | ((repeat' with_reducible apply And.intro) <;> first | exact sideQ | (exact ⟨x, hOx _ (by simp)⟩) | (exact L1 _ (by simp)) | (exact L2 _ (by simp)) | (exact L3 _ (by simp)) | (exact L4 _ (by simp)) | (exact allU_lm _) | (simp only [List.length_append, bytI_len]; omega) | (simp [noAlias]; done)) | exact sd0)); (try simp only [hb])) | ((with_reducible refine Vc.fin ?_); dsimp only [thenK, blockK, retK, resS, resOne, resAll]) | ((with_reducible refine Vc.hold ?_); first | refine Vc.regiont T0_ok GOJ_ok ?_)); (try simp only [v8X, v8A, v8B, v8C, Nat.beq, Nat.ble, Int.reduceToNat, Int.reduceLE, Int.reduceLT, Nat.reduceLT, Nat.reduceLeDiff, Nat.reduceAdd, Nat.reduceMul, Nat.reduceSub, Int.reduceAdd, Int.reduceSub, Int.reduceMul, eq_self, decide_true, beq_self_eq_true, List.length_cons, List.length_nil, Nat.min_eq_left, IntKind.bits, tabs, GOJ_set, f2, f3, c0, c20, c24, c25, d25, c45, c46, c47, c48, c49, c50, c54, c58, c59, d59, c79, c80, c81, c82, N1, N2, N3, T1, T2, T3, T4, toU8_bL, wL.eq_def, datF.eq_def, List.drop_zero]); (try simp (disch := omega) only [v8W])) | ((with_reducible refine hN _ _ ?_); clear hN N; (try simp (disch := omega) only [v8W])))); (try ((with_reducible refine Fin.of ?_); (try with_reducible exact True.intro))))
  exact ⟨by simp, by first | rfl | trivial⟩
noncomputable def g_gas (args : List SV) (m : List Blk) : CR :=
  match args with
  | [.agg l] => .pure (∃ x, OpR (HM m) l x) (.ints .u64 (gasL (opOf l)))
  | _ => .none
theorem g_gas_ok (w0 : World) (B : List Nat) (args : List SV) (m : List Blk) : CROk Tryd.prog w0 B 50 args m (g_gas args m) := by
  unfold g_gas
  split
  · rename_i l
    intro ⟨x, hO⟩ w hm
    rw [opOf_eq hO]
    exact calls_pure Tryd.func50 rfl rfl (gas_vc l x w (hO.mono fun b o h => hm.hm h))
  · exact trivial
def mxL (xs : List Int) : Int := (xs.drop 1).foldl mxI (xs.getD 0 0)
theorem mxL_s {xs : List Int} {i : Nat} {y : Int} (h : xs[i]? = some y) (hi : 1 ≤ i) : ((xs.take (i + 1)).drop 1).foldl mxI (xs.getD 0 0) = mxI (((xs.take i).drop 1).foldl mxI (xs.getD 0 0)) y := by
  rw [List.take_add_one, h, Option.toList_some, List.drop_append_of_le_length (by have := (List.getElem?_eq_some_iff.1 h).1; rw [List.length_take]; omega), List.foldl_append]
  rfl
theorem max_vc (a : Option Addr) (n c : Nat) (xs : List Int) (hl : xs.length = n) (h0 : 0 < n) (hn : n ≤ 1000) (hc : n ≤ c) (ha : adr a n c) (w : World) (hL : LiesH (H0 w) a (cc (.ints .u64 xs))) :
    Calls Tryd.prog 88 (cvs [.gh a n c (.ints .u64 xs)]).toArray w (fun en w' => ∃ u, en = .returned u ∧ ∃ v' m', u = cv v' ∧ MemOk w [] m' w' ∧ v' = .int .u64 (mxL xs)) := by
  have hLx : ∀ m, allOld w ∈ m → LiesH (HM m) a (cc (.ints .u64 xs)) := fun m hin => hL.mono (H0.hm hin)
  have d0 : decide ((n : Int) < 1) = false := decide_eq_false (by omega)
  have g0 := getD_get (xs := xs) (0 : Int) (show 0 < xs.length by omega)
  refine Vc.calls T0_ok Tryd.func88 rfl rfl (args := [.gh a n c (.ints .u64 xs)]) (k := 24) rfl (old_start w) ?_; change Vc _ _ (c8 (.gh a n c (.ints .u64 xs)) .undef .undef .undef .undef .undef .undef .undef (c8 .undef .undef .undef .undef .undef .undef .undef .undef (c8 .undef .undef .undef .undef .undef .undef .undef .undef ([.undef])))) _ _
  ((repeat (first | (with_reducible refine Vc.seq fun N hN => ?_) | (with_reducible refine Vc.block ?_) | ((first | with_reducible refine Vc.skip ?_ | with_reducible refine Vc.exit ?_); dsimp only [thenK, blockK, Nat.beq]; (first | (refine hN _ _ ?_; clear hN N) | skip)) | (with_reducible intro _) | ((with_reducible refine And.intro ?_ ?_); (focus (first | exact sideQ | exact sd0))) | ((first | ((with_reducible refine askT_of ?_ (fun hb => ?_)); (focus (first | exact sideQ | exact sd0)); (try simp only [hb])) | ((with_reducible refine Vc.fin ?_); dsimp only [thenK, blockK, retK, resS, resOne, resAll]) | ((with_reducible refine Vc.hold ?_); first | refine Vc.regiont T0_ok GOJ_ok ?_)); (try simp only [v8X, v8A, v8B, v8C, Nat.beq, Nat.ble, Int.reduceToNat, Int.reduceLE, Int.reduceLT, Nat.reduceLT, Nat.reduceLeDiff, Nat.reduceAdd, Nat.reduceMul, Nat.reduceSub, Int.reduceAdd, Int.reduceSub, Int.reduceMul, eq_self, decide_true, beq_self_eq_true, List.length_cons, List.length_nil, Nat.min_eq_left, IntKind.bits, tabs, GOJ_set, d0]); (try simp (disch := omega) only [v8W])) | ((with_reducible refine hN _ _ ?_); clear hN N; (try simp (disch := omega) only [v8W])))); (try ((with_reducible refine Fin.of ?_); (try with_reducible exact True.intro))))
  (refine Vc.cond T0_ok (t := false) (by rfl) (fun h => Bool.noConfusion h) (fun _ => ?_))
  ((repeat (first | (with_reducible refine Vc.seq fun N hN => ?_) | (with_reducible refine Vc.block ?_) | ((first | with_reducible refine Vc.skip ?_ | with_reducible refine Vc.exit ?_); dsimp only [thenK, blockK, Nat.beq]; (first | (refine hN _ _ ?_; clear hN N) | skip)) | (with_reducible intro _) | ((with_reducible refine And.intro ?_ ?_); (focus (first | ((repeat' with_reducible apply And.intro) <;> first | exact sideQ | (exact hLx _ (by simp))) | exact sd0))) | ((first | ((with_reducible refine askT_of ?_ (fun hb => ?_)); (focus (first | ((repeat' with_reducible apply And.intro) <;> first | exact sideQ | (exact hLx _ (by simp))) | exact sd0)); (try simp only [hb])) | ((with_reducible refine Vc.fin ?_); dsimp only [thenK, blockK, retK, resS, resOne, resAll]) | ((with_reducible refine Vc.hold ?_); first | refine Vc.regiont T0_ok GOJ_ok ?_)); (try simp only [v8X, v8A, v8B, v8C, Nat.beq, Nat.ble, Int.reduceToNat, Int.reduceLE, Int.reduceLT, Nat.reduceLT, Nat.reduceLeDiff, Nat.reduceAdd, Nat.reduceMul, Nat.reduceSub, Int.reduceAdd, Int.reduceSub, Int.reduceMul, eq_self, decide_true, beq_self_eq_true, List.length_cons, List.length_nil, Nat.min_eq_left, IntKind.bits, tabs, GOJ_set, ]); (try simp (disch := omega) only [v8W])) | ((with_reducible refine hN _ _ ?_); clear hN N; (try simp (disch := omega) only [v8W])))); (try ((with_reducible refine Fin.of ?_); (try with_reducible exact True.intro))))
  (revert N; intro N1 hN1)
  refine Vc.loop 3 24 (fun (k : Nat) => [(3, .int .u64 (((xs.take k).drop 1).foldl mxI (xs.getD 0 0))), (4, .int .i64 (k : Nat))]) (fun _ => [allOld w]) (fun k => 1 ≤ k ∧ k ≤ n) (fun k => n - k) 1 ⟨⟨Nat.le_refl _, by omega⟩, ?_, ?_⟩ (fun k junk hk => ?_)
  · have e1 : ((xs.take 1).drop 1).foldl mxI (xs.getD 0 0) = xs.getD 0 0 := by rw [List.drop_eq_nil_of_le (by rw [List.length_take]; omega)]; rfl
    ((try simp only [v8X, v8A, v8B, v8C, Nat.beq, Nat.ble, Int.reduceToNat, Int.reduceLE, Int.reduceLT, Nat.reduceLT, Nat.reduceLeDiff, Nat.reduceAdd, Nat.reduceMul, Nat.reduceSub, Int.reduceAdd, Int.reduceSub, Int.reduceMul, eq_self, decide_true, beq_self_eq_true, List.length_cons, List.length_nil, Nat.min_eq_left, IntKind.bits, tabs]); (repeat' with_reducible apply And.intro) <;> first | with_reducible exact True.intro | (rw [e1]) | with_reducible rfl | (congr 1 <;> omega) | trivial)
  · ((try simp only [v8X, v8A, v8B, v8C, Nat.beq, Nat.ble, Int.reduceToNat, Int.reduceLE, Int.reduceLT, Nat.reduceLT, Nat.reduceLeDiff, Nat.reduceAdd, Nat.reduceMul, Nat.reduceSub, Int.reduceAdd, Int.reduceSub, Int.reduceMul, eq_self, decide_true, beq_self_eq_true, List.length_cons, List.length_nil, Nat.min_eq_left, IntKind.bits, tabs]); (repeat' with_reducible apply And.intro) <;> first | with_reducible exact True.intro | rfl | with_reducible rfl | (congr 1 <;> omega) | trivial)
  · obtain ⟨hk0, hk1⟩ := hk
    (simp only [v8X, v8A, v8B, v8C, Nat.beq, Nat.ble, Int.reduceToNat, Int.reduceLE, Int.reduceLT, Nat.reduceLT, Nat.reduceLeDiff, Nat.reduceAdd, Nat.reduceMul, Nat.reduceSub, Int.reduceAdd, Int.reduceSub, Int.reduceMul, eq_self, decide_true, beq_self_eq_true, List.length_cons, List.length_nil, Nat.min_eq_left, IntKind.bits, tabs])
    by_cases hc1 : k < n
    · have d1 : decide ((k : Int) < (n : Int)) = true := decide_eq_true (by omega)
      have e1 := getD_get (xs := xs) (0 : Int) (show k < xs.length by omega)
      have hs := mxL_s e1 hk0
      have tk : ((k : Nat) : Int).toNat = k := by omega
      have hmx : ∀ a b : Int, (if a < b then b else a) = mxI a b := fun a b => rfl
      ((repeat (first | (with_reducible refine Vc.seq fun N hN => ?_) | (with_reducible refine Vc.block ?_) | ((first | with_reducible refine Vc.skip ?_ | with_reducible refine Vc.exit ?_); dsimp only [thenK, blockK, Nat.beq]; (first | (refine hN _ _ ?_; clear hN N) | skip)) | (with_reducible intro _) | ((with_reducible refine And.intro ?_ ?_); (focus (first | exact sideQ | exact sd0))) | ((first | ((with_reducible refine askT_of ?_ (fun hb => ?_)); (focus (first | exact sideQ | exact sd0)); (try simp only [hb])) | ((with_reducible refine Vc.fin ?_); dsimp only [thenK, blockK, retK, resS, resOne, resAll]) | ((with_reducible refine Vc.hold ?_); first | refine Vc.regiont T0_ok GOJ_ok ?_)); (try simp only [v8X, v8A, v8B, v8C, Nat.beq, Nat.ble, Int.reduceToNat, Int.reduceLE, Int.reduceLT, Nat.reduceLT, Nat.reduceLeDiff, Nat.reduceAdd, Nat.reduceMul, Nat.reduceSub, Int.reduceAdd, Int.reduceSub, Int.reduceMul, eq_self, decide_true, beq_self_eq_true, List.length_cons, List.length_nil, Nat.min_eq_left, IntKind.bits, tabs, GOJ_set, d1]); (try simp (disch := omega) only [v8W])) | ((with_reducible refine hN _ _ ?_); clear hN N; (try simp (disch := omega) only [v8W])))); (try ((with_reducible refine Fin.of ?_); (try with_reducible exact True.intro))))
      (refine Vc.cond T0_ok (t := true) (by rfl) (fun _ => ?_) (fun h => Bool.noConfusion h))
      ((repeat (first | (with_reducible refine Vc.seq fun N hN => ?_) | (with_reducible refine Vc.block ?_) | ((first | with_reducible refine Vc.skip ?_ | with_reducible refine Vc.exit ?_); dsimp only [thenK, blockK, Nat.beq]; (first | (refine hN _ _ ?_; clear hN N) | skip)) | (with_reducible intro _) | ((with_reducible refine And.intro ?_ ?_); (focus (first | ((repeat' with_reducible apply And.intro) <;> first | exact sideQ | (exact hLx _ (by simp))) | exact sd0))) | ((first | ((with_reducible refine askT_of ?_ (fun hb => ?_)); (focus (first | ((repeat' with_reducible apply And.intro) <;> first | exact sideQ | (exact hLx _ (by simp))) | exact sd0)); (try simp only [hb])) | ((with_reducible refine Vc.fin ?_); dsimp only [thenK, blockK, retK, resS, resOne, resAll]) | ((with_reducible refine Vc.hold ?_); first | refine Vc.regiont T0_ok GOJ_ok ?_)); (try simp only [v8X, v8A, v8B, v8C, Nat.beq, Nat.ble, Int.reduceToNat, Int.reduceLE, Int.reduceLT, Nat.reduceLT, Nat.reduceLeDiff, Nat.reduceAdd, Nat.reduceMul, Nat.reduceSub, Int.reduceAdd, Int.reduceSub, Int.reduceMul, eq_self, decide_true, beq_self_eq_true, List.length_cons, List.length_nil, Nat.min_eq_left, IntKind.bits, tabs, GOJ_set, tk, hmx]); (try simp (disch := omega) only [v8W])) | ((with_reducible refine hN _ _ ?_); clear hN N; (try simp (disch := omega) only [v8W])))); (try ((with_reducible refine Fin.of ?_); (try with_reducible exact True.intro))))
      refine ⟨k + 1, ⟨by omega, by omega⟩, ?_, ?_, by omega⟩
      · ((try simp only [v8X, v8A, v8B, v8C, Nat.beq, Nat.ble, Int.reduceToNat, Int.reduceLE, Int.reduceLT, Nat.reduceLT, Nat.reduceLeDiff, Nat.reduceAdd, Nat.reduceMul, Nat.reduceSub, Int.reduceAdd, Int.reduceSub, Int.reduceMul, eq_self, decide_true, beq_self_eq_true, List.length_cons, List.length_nil, Nat.min_eq_left, IntKind.bits, tabs]); (repeat' with_reducible apply And.intro) <;> first | with_reducible exact True.intro | (rw [hs]) | (congr 1 <;> omega))
      · ((try simp only [v8X, v8A, v8B, v8C, Nat.beq, Nat.ble, Int.reduceToNat, Int.reduceLE, Int.reduceLT, Nat.reduceLT, Nat.reduceLeDiff, Nat.reduceAdd, Nat.reduceMul, Nat.reduceSub, Int.reduceAdd, Int.reduceSub, Int.reduceMul, eq_self, decide_true, beq_self_eq_true, List.length_cons, List.length_nil, Nat.min_eq_left, IntKind.bits, tabs]); (repeat' with_reducible apply And.intro) <;> first | with_reducible exact True.intro | rfl | (congr 1 <;> omega))
    · have d1 : decide ((k : Int) < (n : Int)) = false := decide_eq_false (by omega)
      obtain rfl : k = n := by omega
      have e2 : xs.take k = xs := List.take_of_length_le (by omega)
      rw [e2]
      ((repeat (first | (with_reducible refine Vc.seq fun N hN => ?_) | (with_reducible refine Vc.block ?_) | ((first | with_reducible refine Vc.skip ?_ | with_reducible refine Vc.exit ?_); dsimp only [thenK, blockK, Nat.beq]; (first | (refine hN _ _ ?_; clear hN N) | skip)) | (with_reducible intro _) | ((with_reducible refine And.intro ?_ ?_); (focus (first | exact sideQ | exact sd0))) | ((first | ((with_reducible refine askT_of ?_ (fun hb => ?_)); (focus (first | exact sideQ | exact sd0)); (try simp only [hb])) | ((with_reducible refine Vc.fin ?_); dsimp only [thenK, blockK, retK, resS, resOne, resAll]) | ((with_reducible refine Vc.hold ?_); first | refine Vc.regiont T0_ok GOJ_ok ?_)); (try simp only [v8X, v8A, v8B, v8C, Nat.beq, Nat.ble, Int.reduceToNat, Int.reduceLE, Int.reduceLT, Nat.reduceLT, Nat.reduceLeDiff, Nat.reduceAdd, Nat.reduceMul, Nat.reduceSub, Int.reduceAdd, Int.reduceSub, Int.reduceMul, eq_self, decide_true, beq_self_eq_true, List.length_cons, List.length_nil, Nat.min_eq_left, IntKind.bits, tabs, GOJ_set, d1]); (try simp (disch := omega) only [v8W])) | ((with_reducible refine hN _ _ ?_); clear hN N; (try simp (disch := omega) only [v8W])))); (try ((with_reducible refine Fin.of ?_); (try with_reducible exact True.intro))))
      (refine Vc.cond T0_ok (t := false) (by rfl) (fun h => Bool.noConfusion h) (fun _ => ?_))
      ((repeat (first | (with_reducible refine Vc.seq fun N hN => ?_) | (with_reducible refine Vc.block ?_) | ((first | with_reducible refine Vc.skip ?_ | with_reducible refine Vc.exit ?_); dsimp only [thenK, blockK, Nat.beq]; (first | (refine hN _ _ ?_; clear hN N) | skip)) | (with_reducible intro _) | ((with_reducible refine And.intro ?_ ?_); (focus (first | exact sideQ | exact sd0))) | ((first | ((with_reducible refine askT_of ?_ (fun hb => ?_)); (focus (first | exact sideQ | exact sd0)); (try simp only [hb])) | ((with_reducible refine Vc.fin ?_); dsimp only [thenK, blockK, retK, resS, resOne, resAll]) | ((with_reducible refine Vc.hold ?_); first | refine Vc.regiont T0_ok GOJ_ok ?_)); (try simp only [v8X, v8A, v8B, v8C, Nat.beq, Nat.ble, Int.reduceToNat, Int.reduceLE, Int.reduceLT, Nat.reduceLT, Nat.reduceLeDiff, Nat.reduceAdd, Nat.reduceMul, Nat.reduceSub, Int.reduceAdd, Int.reduceSub, Int.reduceMul, eq_self, decide_true, beq_self_eq_true, List.length_cons, List.length_nil, Nat.min_eq_left, IntKind.bits, tabs, GOJ_set]); (try simp (disch := omega) only [v8W])) | ((with_reducible refine hN _ _ ?_); clear hN N; (try simp (disch := omega) only [v8W])))); (try ((with_reducible refine Fin.of ?_); (try with_reducible exact True.intro))))
      (refine hN1 _ _ ?_; (try clear hN N); clear hN1 N1)
      ((repeat (first | (with_reducible refine Vc.seq fun N hN => ?_) | (with_reducible refine Vc.block ?_) | ((first | with_reducible refine Vc.skip ?_ | with_reducible refine Vc.exit ?_); dsimp only [thenK, blockK, Nat.beq]; (first | (refine hN _ _ ?_; clear hN N) | skip)) | (with_reducible intro _) | ((with_reducible refine And.intro ?_ ?_); (focus (first | exact sideQ | exact sd0))) | ((first | ((with_reducible refine askT_of ?_ (fun hb => ?_)); (focus (first | exact sideQ | exact sd0)); (try simp only [hb])) | ((with_reducible refine Vc.fin ?_); dsimp only [thenK, blockK, retK, resS, resOne, resAll]) | ((with_reducible refine Vc.hold ?_); first | refine Vc.regiont T0_ok GOJ_ok ?_)); (try simp only [v8X, v8A, v8B, v8C, Nat.beq, Nat.ble, Int.reduceToNat, Int.reduceLE, Int.reduceLT, Nat.reduceLT, Nat.reduceLeDiff, Nat.reduceAdd, Nat.reduceMul, Nat.reduceSub, Int.reduceAdd, Int.reduceSub, Int.reduceMul, eq_self, decide_true, beq_self_eq_true, List.length_cons, List.length_nil, Nat.min_eq_left, IntKind.bits, tabs, GOJ_set, ]); (try simp (disch := omega) only [v8W])) | ((with_reducible refine hN _ _ ?_); clear hN N; (try simp (disch := omega) only [v8W])))); (try ((with_reducible refine Fin.of ?_); (try with_reducible exact True.intro))))
      exact ⟨trivial, by first | rfl | trivial⟩
def g_max (args : List SV) (m : List Blk) : CR :=
  match args with
  | [x] => match srcC x m with
    | some (q, k, .ints .u64 xs) => .pure (q ∧ 0 < k ∧ k ≤ 1000) (.int .u64 (mxL xs))
    | _ => .none
  | _ => .none
theorem g_max_ok (w0 : World) (B : List Nat) (args : List SV) (m : List Blk) : CROk Tryd.prog w0 B 88 args m (g_max args m) := by
  unfold g_max
  split
  · rename_i x
    split
    · rename_i q k xs hs
      intro ⟨h1, h2, h3⟩ w hm
      obtain ⟨l1, a, cp, ex, b1, m1, d1⟩ := src_ro hs h1 hm
      have e : cvs [x] = cvs [.gh a k cp (.ints .u64 xs)] := by
        simp only [cvs, ex, cv_sl0]; rfl
      rw [e]
      exact calls_pure Tryd.func88 rfl rfl (max_vc a k cp xs (by simpa [cc, conEs] using l1) h2 h3 b1 d1 w (lies_of_ro m1))
    · exact trivial
  · exact trivial
def tlO (x : OpD) : Bool := decide ((4096 : Int) < x.fd.length) || (decide ((4096 : Int) < x.cd.length) || (decide ((4096 : Int) < x.pd.length) || decide ((4096 : Int) < x.sg.length)))
def tgO (x : OpD) : Bool := decide (1048576 < x.cg) || (decide (1048576 < x.vg) || (decide (1048576 < x.pg) || (decide (1048576 < x.pv) || decide (1048576 < x.po))))
def wrO (x : OpD) : Bool := !eqW (shdM 120 x.mf 0) 0 || decide (0 < cmpI x.mt x.mf)
def z20 : List Int := [0, 0, 0, 0, 0, 0, 0, 0, 0, 0, 0, 0, 0, 0, 0, 0, 0, 0, 0, 0]
def sfO (x : OpD) : Bool := !x.hf && (!decide (x.fac = z20) || decide ((0 : Int) < x.fd.length))
def spO (x : OpD) : Bool := !x.hp && (!decide (x.pay = z20) || (decide ((0 : Int) < x.pd.length) || (decide (0 < x.pv) || decide (0 < x.po))))
def chkO (x : OpD) : Bool := tlO x || (tgO x || (wrO x || (sfO x || spO x)))
theorem mxI_lt (n a b : Int) : decide (n < mxI a b) = (decide (n < a) || decide (n < b)) := by
  rcases (by omega : a < b ∨ ¬ a < b) with h | h
  · rw [show mxI a b = b from if_pos h]
    by_cases h1 : n < a
    · rw [decide_eq_true h1, decide_eq_true (show n < b by omega)]; rfl
    · rw [decide_eq_false h1]; rfl
  · rw [show mxI a b = a from if_neg h]
    by_cases h1 : n < b
    · rw [decide_eq_true h1, decide_eq_true (show n < a by omega)]; rfl
    · rw [decide_eq_false h1, Bool.or_false]
theorem tlO_mx (x : OpD) : decide ((4096 : Int) < mxI (mxI (mxI (x.fd.length : Int) x.cd.length) x.pd.length) x.sg.length) = tlO x := by
  simp only [mxI_lt, tlO, Bool.or_assoc]
theorem tgO_mx (x : OpD) : decide (1048576 < mxL (gasL x)) = tgO x := by
  show decide (1048576 < mxI (mxI (mxI (mxI x.cg x.vg) x.pg) x.pv) x.po) = tgO x
  simp only [mxI_lt, tgO, Bool.or_assoc]
set_option maxRecDepth 20000 in
theorem tooLong_vc (l : List SV) (x : OpD) (w : World) (hO : OpR (H0 w) l x) : Calls Tryd.prog 44 (cvs [.agg l]).toArray w (fun en w' => ∃ u, en = .returned u ∧ ∃ v' m', u = cv v' ∧ MemOk w [] m' w' ∧ v' = .bool (tlO x)) := by
  have hOx : ∀ m, allOld w ∈ m → OpR (HM m) l x := fun m hin => hO.mono (H0.hm hin)
  have hop := opOf_eq hO
  obtain ⟨f1, f2, f3, c0, c20, c24, c25, d25, ⟨v1, c45, a1, n1, k1, rfl, p11, p12, p13, p14, p15, p16⟩, ⟨v2, c46, a2, n2, k2, rfl, p21, p22, p23, p24, p25, p26⟩, c47, c48, c49, c50, c54, c58, c59, d59, c79, c80, ⟨v3, c81, a3, n3, k3, rfl, p31, p32, p33, p34, p35, p36⟩, ⟨v4, c82, a4, n4, k4, rfl, p41, p42, p43, p44, p45, p46⟩, ls, lf, lp, bs, bf, bp, wn, wf, wt, u1, u2, u3, u4, u5⟩ := hO
  have L1 : ∀ m, allOld w ∈ m → LiesH (HM m) a1 (cc (.ints .u8 x.fd)) := fun m hin => p14.mono (H0.hm hin)
  have T1 : x.fd.take n1 = x.fd := List.take_of_length_le (by omega)
  have L2 : ∀ m, allOld w ∈ m → LiesH (HM m) a2 (cc (.ints .u8 x.cd)) := fun m hin => p24.mono (H0.hm hin)
  have T2 : x.cd.take n2 = x.cd := List.take_of_length_le (by omega)
  have L3 : ∀ m, allOld w ∈ m → LiesH (HM m) a3 (cc (.ints .u8 x.pd)) := fun m hin => p34.mono (H0.hm hin)
  have T3 : x.pd.take n3 = x.pd := List.take_of_length_le (by omega)
  have L4 : ∀ m, allOld w ∈ m → LiesH (HM m) a4 (cc (.ints .u8 x.sg)) := fun m hin => p44.mono (H0.hm hin)
  have T4 : x.sg.take n4 = x.sg := List.take_of_length_le (by omega)
  have N1 := numI_lm wn
  have N2 := numI_lm wf
  have N3 := numI_lm wt
  unfold u64I at u1 u2 u3 u4 u5
  have e := tlO_mx x
  rw [p11, p21, p31, p41] at e
  refine Vc.calls T0_ok Tryd.func44 rfl rfl (args := [.agg l]) (k := 16) rfl (old_start w) ?_; change Vc _ _ (c8 (.agg l) .undef .undef .undef .undef .undef .undef .undef (c8 .undef .undef .undef .undef .undef .undef .undef .undef ([.undef]))) _ _
  ((repeat (first | (with_reducible refine Vc.seq fun N hN => ?_) | (with_reducible refine Vc.block ?_) | ((first | with_reducible refine Vc.skip ?_ | with_reducible refine Vc.exit ?_); dsimp only [thenK, blockK, Nat.beq]; (first | (refine hN _ _ ?_; clear hN N) | skip)) | (with_reducible intro _) | ((with_reducible refine And.intro ?_ ?_); (focus (first | ((repeat' with_reducible apply And.intro) <;> first | exact sideQ | (exact ⟨x, hOx _ (by simp)⟩) | (exact L1 _ (by simp)) | (exact L2 _ (by simp)) | (exact L3 _ (by simp)) | (exact L4 _ (by simp)) | (exact allU_lm _) | (simp only [List.length_append, bytI_len]; omega) | (simp [noAlias]; done)) | exact sd0))) | ((first | ((with_reducible refine askT_of ?_ (fun hb => ?_)); (focus (first | ((repeat' with_reducible apply And.intro) <;> first | exact sideQ | (exact ⟨x, hOx _ (by simp)⟩) | (exact L1 _ (by simp)) | (exact L2 _ (by simp)) | (exact L3 _ (by simp)) | (exact L4 _ (by simp)) | (exact allU_lm _) | (simp only [List.length_append, bytI_len]; omega) | (simp [noAlias]; done)) | exact sd0)); (try simp only [hb])) | ((with_reducible refine Vc.fin ?_); dsimp only [thenK, blockK, retK, resS, resOne, resAll]) | ((with_reducible refine Vc.hold ?_); first | refine Vc.regiont T0_ok GOJ_ok ?_)); (try simp only [v8X, v8A, v8B, v8C, Nat.beq, Nat.ble, Int.reduceToNat, Int.reduceLE, Int.reduceLT, Nat.reduceLT, Nat.reduceLeDiff, Nat.reduceAdd, Nat.reduceMul, Nat.reduceSub, Int.reduceAdd, Int.reduceSub, Int.reduceMul, eq_self, decide_true, beq_self_eq_true, List.length_cons, List.length_nil, Nat.min_eq_left, IntKind.bits, tabs, GOJ_set, e, f2, f3, c0, c20, c24, c25, d25, c45, c46, c47, c48, c49, c50, c54, c58, c59, d59, c79, c80, c81, c82, N1, N2, N3, T1, T2, T3, T4, toU8_bL, wL.eq_def, datF.eq_def, List.drop_zero]); (try simp (disch := omega) only [v8W])) | ((with_reducible refine hN _ _ ?_); clear hN N; (try simp (disch := omega) only [v8W])))); (try ((with_reducible refine Fin.of ?_); (try with_reducible exact True.intro))))
  exact ⟨by simp, by first | rfl | trivial⟩
noncomputable def GOK : Ctr := fun f args m => match f with
  | 50 => g_gas args m
  | 88 => g_max args m
  | _ => .none
theorem GOK_ok : GOk Tryd.prog GOK := by
  intro w0 B f args m; unfold GOK; split
  · exact g_gas_ok _ _ _ _
  · exact g_max_ok _ _ _ _
  · exact trivial
theorem GOK_gas : GOK 50 = g_gas := by funext args m; rfl
theorem GOK_max : GOK 88 = g_max := by funext args m; rfl
def GOK_set := And.intro (And.intro (@GOK_gas) (@g_gas.eq_def)) (And.intro (@GOK_max) (@g_max.eq_def))

set_option maxRecDepth 20000 in
theorem tooMuch_vc (l : List SV) (x : OpD) (w : World) (hO : OpR (H0 w) l x) : Calls Tryd.prog 45 (cvs [.agg l]).toArray w (fun en w' => ∃ u, en = .returned u ∧ ∃ v' m', u = cv v' ∧ MemOk w [] m' w' ∧ v' = .bool (tgO x)) := by
  have hOx : ∀ m, allOld w ∈ m → OpR (HM m) l x := fun m hin => hO.mono (H0.hm hin)
  have hop := opOf_eq hO
  obtain ⟨f1, f2, f3, c0, c20, c24, c25, d25, ⟨v1, c45, a1, n1, k1, rfl, p11, p12, p13, p14, p15, p16⟩, ⟨v2, c46, a2, n2, k2, rfl, p21, p22, p23, p24, p25, p26⟩, c47, c48, c49, c50, c54, c58, c59, d59, c79, c80, ⟨v3, c81, a3, n3, k3, rfl, p31, p32, p33, p34, p35, p36⟩, ⟨v4, c82, a4, n4, k4, rfl, p41, p42, p43, p44, p45, p46⟩, ls, lf, lp, bs, bf, bp, wn, wf, wt, u1, u2, u3, u4, u5⟩ := hO
  have L1 : ∀ m, allOld w ∈ m → LiesH (HM m) a1 (cc (.ints .u8 x.fd)) := fun m hin => p14.mono (H0.hm hin)
  have T1 : x.fd.take n1 = x.fd := List.take_of_length_le (by omega)
  have L2 : ∀ m, allOld w ∈ m → LiesH (HM m) a2 (cc (.ints .u8 x.cd)) := fun m hin => p24.mono (H0.hm hin)
  have T2 : x.cd.take n2 = x.cd := List.take_of_length_le (by omega)
  have L3 : ∀ m, allOld w ∈ m → LiesH (HM m) a3 (cc (.ints .u8 x.pd)) := fun m hin => p34.mono (H0.hm hin)
  have T3 : x.pd.take n3 = x.pd := List.take_of_length_le (by omega)
  have L4 : ∀ m, allOld w ∈ m → LiesH (HM m) a4 (cc (.ints .u8 x.sg)) := fun m hin => p44.mono (H0.hm hin)
  have T4 : x.sg.take n4 = x.sg := List.take_of_length_le (by omega)
  have N1 := numI_lm wn
  have N2 := numI_lm wf
  have N3 := numI_lm wt
  unfold u64I at u1 u2 u3 u4 u5
  have e := tgO_mx x
  have eg : (gasL x).length = 5 := rfl
  have t5 : (gasL x).take 5 = gasL x := rfl
  refine Vc.calls T0_ok Tryd.func45 rfl rfl (args := [.agg l]) (k := 8) rfl (old_start w) ?_; change Vc _ _ (c8 (.agg l) .undef .undef .undef .undef .undef .undef .undef ([.undef])) _ _
  ((repeat (first | (with_reducible refine Vc.seq fun N hN => ?_) | (with_reducible refine Vc.block ?_) | ((first | with_reducible refine Vc.skip ?_ | with_reducible refine Vc.exit ?_); dsimp only [thenK, blockK, Nat.beq]; (first | (refine hN _ _ ?_; clear hN N) | skip)) | (with_reducible intro _) | ((with_reducible refine And.intro ?_ ?_); (focus (first | ((repeat' with_reducible apply And.intro) <;> first | exact sideQ | (exact ⟨x, hOx _ (by simp)⟩) | (exact L1 _ (by simp)) | (exact L2 _ (by simp)) | (exact L3 _ (by simp)) | (exact L4 _ (by simp)) | (exact allU_lm _) | (simp only [List.length_append, bytI_len]; omega) | (simp [noAlias]; done)) | exact sd0))) | ((first | ((with_reducible refine askT_of ?_ (fun hb => ?_)); (focus (first | ((repeat' with_reducible apply And.intro) <;> first | exact sideQ | (exact ⟨x, hOx _ (by simp)⟩) | (exact L1 _ (by simp)) | (exact L2 _ (by simp)) | (exact L3 _ (by simp)) | (exact L4 _ (by simp)) | (exact allU_lm _) | (simp only [List.length_append, bytI_len]; omega) | (simp [noAlias]; done)) | exact sd0)); (try simp only [hb])) | ((with_reducible refine Vc.fin ?_); dsimp only [thenK, blockK, retK, resS, resOne, resAll]) | ((with_reducible refine Vc.hold ?_); first | refine Vc.regiont T0_ok GOK_ok ?_)); (try simp only [v8X, v8A, v8B, v8C, Nat.beq, Nat.ble, Int.reduceToNat, Int.reduceLE, Int.reduceLT, Nat.reduceLT, Nat.reduceLeDiff, Nat.reduceAdd, Nat.reduceMul, Nat.reduceSub, Int.reduceAdd, Int.reduceSub, Int.reduceMul, eq_self, decide_true, beq_self_eq_true, List.length_cons, List.length_nil, Nat.min_eq_left, IntKind.bits, tabs, GOK_set, e, eg, t5, hop, f2, f3, c0, c20, c24, c25, d25, c45, c46, c47, c48, c49, c50, c54, c58, c59, d59, c79, c80, c81, c82, N1, N2, N3, T1, T2, T3, T4, toU8_bL, wL.eq_def, datF.eq_def, List.drop_zero]); (try simp (disch := omega) only [v8W])) | ((with_reducible refine hN _ _ ?_); clear hN N; (try simp (disch := omega) only [v8W])))); (try ((with_reducible refine Fin.of ?_); (try with_reducible exact True.intro))))
  exact ⟨by simp, by first | rfl | trivial⟩
set_option maxRecDepth 20000 in
theorem wrong_vc (l : List SV) (x : OpD) (w : World) (hO : OpR (H0 w) l x) : Calls Tryd.prog 46 (cvs [.agg l]).toArray w (fun en w' => ∃ u, en = .returned u ∧ ∃ v' m', u = cv v' ∧ MemOk w [] m' w' ∧ v' = .bool (wrO x)) := by
  have hOx : ∀ m, allOld w ∈ m → OpR (HM m) l x := fun m hin => hO.mono (H0.hm hin)
  have hop := opOf_eq hO
  obtain ⟨f1, f2, f3, c0, c20, c24, c25, d25, ⟨v1, c45, a1, n1, k1, rfl, p11, p12, p13, p14, p15, p16⟩, ⟨v2, c46, a2, n2, k2, rfl, p21, p22, p23, p24, p25, p26⟩, c47, c48, c49, c50, c54, c58, c59, d59, c79, c80, ⟨v3, c81, a3, n3, k3, rfl, p31, p32, p33, p34, p35, p36⟩, ⟨v4, c82, a4, n4, k4, rfl, p41, p42, p43, p44, p45, p46⟩, ls, lf, lp, bs, bf, bp, wn, wf, wt, u1, u2, u3, u4, u5⟩ := hO
  have L1 : ∀ m, allOld w ∈ m → LiesH (HM m) a1 (cc (.ints .u8 x.fd)) := fun m hin => p14.mono (H0.hm hin)
  have T1 : x.fd.take n1 = x.fd := List.take_of_length_le (by omega)
  have L2 : ∀ m, allOld w ∈ m → LiesH (HM m) a2 (cc (.ints .u8 x.cd)) := fun m hin => p24.mono (H0.hm hin)
  have T2 : x.cd.take n2 = x.cd := List.take_of_length_le (by omega)
  have L3 : ∀ m, allOld w ∈ m → LiesH (HM m) a3 (cc (.ints .u8 x.pd)) := fun m hin => p34.mono (H0.hm hin)
  have T3 : x.pd.take n3 = x.pd := List.take_of_length_le (by omega)
  have L4 : ∀ m, allOld w ∈ m → LiesH (HM m) a4 (cc (.ints .u8 x.sg)) := fun m hin => p44.mono (H0.hm hin)
  have T4 : x.sg.take n4 = x.sg := List.take_of_length_le (by omega)
  have N1 := numI_lm wn
  have N2 := numI_lm wf
  have N3 := numI_lm wt
  unfold u64I at u1 u2 u3 u4 u5
  have e120 : (120 : Int).toNat = 120 := rfl
  have w120 : (120 : Nat) < W := by decide +kernel
  refine Vc.calls T0_ok Tryd.func46 rfl rfl (args := [.agg l]) (k := 16) rfl (old_start w) ?_; change Vc _ _ (c8 (.agg l) .undef .undef .undef .undef .undef .undef .undef (c8 .undef .undef .undef .undef .undef .undef .undef .undef ([.undef]))) _ _
  ((with_reducible refine Vc.seq fun N hN => ?_); (refine Vc.regiont T0_ok GOJ_ok ?_); simp only [v8X, v8A, v8B, v8C, Nat.beq, Nat.ble, Int.reduceToNat, Int.reduceLE, Int.reduceLT, Nat.reduceLT, Nat.reduceLeDiff, Nat.reduceAdd, Nat.reduceMul, Nat.reduceSub, Int.reduceAdd, Int.reduceSub, Int.reduceMul, eq_self, decide_true, beq_self_eq_true, List.length_cons, List.length_nil, Nat.min_eq_left, IntKind.bits, tabs, GOJ_set, f2, f3, c0, c20, c24, c25, d25, c45, c46, c47, c48, c49, c50, c54, c58, c59, d59, c79, c80, c81, c82, N1, N2, N3, T1, T2, T3, T4, toU8_bL, wL.eq_def, datF.eq_def, List.drop_zero]; (try simp (disch := omega) only [v8W]); (repeat (first | with_reducible intro _ | ((with_reducible refine And.intro ?_ ?_); (focus (first | ((repeat' with_reducible apply And.intro) <;> first | exact sideQ | (exact ⟨x, hOx _ (by simp)⟩) | (exact L1 _ (by simp)) | (exact L2 _ (by simp)) | (exact L3 _ (by simp)) | (exact L4 _ (by simp)) | (exact allU_lm _) | (simp only [List.length_append, bytI_len]; omega) | (simp [noAlias]; done)) | exact sd0))) | ((with_reducible refine askT_of ?_ (fun hb => ?_)); (focus (first | ((repeat' with_reducible apply And.intro) <;> first | exact sideQ | (exact ⟨x, hOx _ (by simp)⟩) | (exact L1 _ (by simp)) | (exact L2 _ (by simp)) | (exact L3 _ (by simp)) | (exact L4 _ (by simp)) | (exact allU_lm _) | (simp only [List.length_append, bytI_len]; omega) | (simp [noAlias]; done)) | exact sd0)); simp only [hb, v8X, v8A, v8B, v8C, Nat.beq, Nat.ble, Int.reduceToNat, Int.reduceLE, Int.reduceLT, Nat.reduceLT, Nat.reduceLeDiff, Nat.reduceAdd, Nat.reduceMul, Nat.reduceSub, Int.reduceAdd, Int.reduceSub, Int.reduceMul, eq_self, decide_true, beq_self_eq_true, List.length_cons, List.length_nil, Nat.min_eq_left, IntKind.bits, tabs, GOJ_set, f2, f3, c0, c20, c24, c25, d25, c45, c46, c47, c48, c49, c50, c54, c58, c59, d59, c79, c80, c81, c82, N1, N2, N3, T1, T2, T3, T4, toU8_bL, wL.eq_def, datF.eq_def, List.drop_zero]; (try simp (disch := omega) only [v8W])))); (first | (refine hN _ _ ?_; clear hN N; (try simp (disch := omega) only [v8W])) | skip))
  ((repeat with_reducible refine Vc.seq fun N hN => ?_); (first | refine Vc.regiont T0_ok GOJ_ok ?_ | refine Vc.drawt (id := 1) T0_ok GOJ_ok (by kernel_rfl) [1, 2, 4, 0, 3, 5, 6, 7, 8, 9, 10] 11 [] trivial (by kernel_rfl) ?_); simp only [v8X, v8A, v8B, v8C, Nat.beq, Nat.ble, Int.reduceToNat, Int.reduceLE, Int.reduceLT, Nat.reduceLT, Nat.reduceLeDiff, Nat.reduceAdd, Nat.reduceMul, Nat.reduceSub, Int.reduceAdd, Int.reduceSub, Int.reduceMul, eq_self, decide_true, beq_self_eq_true, List.length_cons, List.length_nil, Nat.min_eq_left, IntKind.bits, tabs, GOJ_set, e120, f2, f3, c0, c20, c24, c25, d25, c45, c46, c47, c48, c49, c50, c54, c58, c59, d59, c79, c80, c81, c82, N1, N2, N3, T1, T2, T3, T4, toU8_bL, wL.eq_def, datF.eq_def, List.drop_zero]; (try simp (disch := omega) only [v8W]); (repeat' (first | with_reducible intro _ | ((with_reducible refine And.intro ?_ ?_); (focus (first | ((repeat' with_reducible apply And.intro) <;> first | exact sideQ | (exact ⟨x, hOx _ (by simp)⟩) | (exact allU_lm _) | (simp [allU]; done)) | exact sd0))) | ((with_reducible refine askT_both (fun hb => ?_) (fun hb => ?_)) <;> ((try simp only [Bool.not_not, Bool.not_eq_true', Bool.not_eq_false'] at hb); simp only [hb, v8X, v8A, v8B, v8C, Nat.beq, Nat.ble, Int.reduceToNat, Int.reduceLE, Int.reduceLT, Nat.reduceLT, Nat.reduceLeDiff, Nat.reduceAdd, Nat.reduceMul, Nat.reduceSub, Int.reduceAdd, Int.reduceSub, Int.reduceMul, eq_self, decide_true, beq_self_eq_true, List.length_cons, List.length_nil, Nat.min_eq_left, IntKind.bits, tabs, GOJ_set, e120, f2, f3, c0, c20, c24, c25, d25, c45, c46, c47, c48, c49, c50, c54, c58, c59, d59, c79, c80, c81, c82, N1, N2, N3, T1, T2, T3, T4, toU8_bL, wL.eq_def, datF.eq_def, List.drop_zero]; (try simp (disch := omega) only [v8W]))))); (all_goals ((refine hN _ _ ?_); (clear hN N); (try simp (disch := omega) only [v8W]))))
  all_goals ((repeat (first | (with_reducible refine Vc.seq fun N hN => ?_) | (with_reducible refine Vc.block ?_) | ((first | with_reducible refine Vc.skip ?_ | with_reducible refine Vc.exit ?_); dsimp only [thenK, blockK, Nat.beq]; (first | (refine hN _ _ ?_; clear hN N) | skip)) | (with_reducible intro _) | ((with_reducible refine And.intro ?_ ?_); (focus (first | ((repeat' with_reducible apply And.intro) <;> first | exact sideQ | (exact ⟨x, hOx _ (by simp)⟩) | (exact L1 _ (by simp)) | (exact L2 _ (by simp)) | (exact L3 _ (by simp)) | (exact L4 _ (by simp)) | (exact allU_lm _) | (simp only [List.length_append, bytI_len]; omega) | (simp [noAlias]; done)) | exact sd0))) | ((first | ((with_reducible refine askT_of ?_ (fun hb => ?_)); (focus (first | ((repeat' with_reducible apply And.intro) <;> first | exact sideQ | (exact ⟨x, hOx _ (by simp)⟩) | (exact L1 _ (by simp)) | (exact L2 _ (by simp)) | (exact L3 _ (by simp)) | (exact L4 _ (by simp)) | (exact allU_lm _) | (simp only [List.length_append, bytI_len]; omega) | (simp [noAlias]; done)) | exact sd0)); (try simp only [hb])) | ((with_reducible refine Vc.fin ?_); dsimp only [thenK, blockK, retK, resS, resOne, resAll]) | ((with_reducible refine Vc.hold ?_); first | refine Vc.regiont T0_ok GOJ_ok ?_ | refine Vc.drawt (id := 1) T0_ok GOJ_ok (by kernel_rfl) [1, 2, 4, 0, 3, 5, 6, 7, 8, 9, 10] 11 [] trivial (by kernel_rfl) ?_)); (try simp only [v8X, v8A, v8B, v8C, Nat.beq, Nat.ble, Int.reduceToNat, Int.reduceLE, Int.reduceLT, Nat.reduceLT, Nat.reduceLeDiff, Nat.reduceAdd, Nat.reduceMul, Nat.reduceSub, Int.reduceAdd, Int.reduceSub, Int.reduceMul, eq_self, decide_true, beq_self_eq_true, List.length_cons, List.length_nil, Nat.min_eq_left, IntKind.bits, tabs, GOJ_set]); (try simp (disch := omega) only [v8W])) | ((with_reducible refine hN _ _ ?_); clear hN N; (try simp (disch := omega) only [v8W])))); (try ((with_reducible refine Fin.of ?_); (try with_reducible exact True.intro))))
  all_goals refine ⟨by simp, ?_⟩
  all_goals (congr 1; unfold wrO; simp_all)
set_option maxRecDepth 20000 in
theorem strayF_vc (l : List SV) (x : OpD) (w : World) (hO : OpR (H0 w) l x) : Calls Tryd.prog 47 (cvs [.agg l]).toArray w (fun en w' => ∃ u, en = .returned u ∧ ∃ v' m', u = cv v' ∧ MemOk w [] m' w' ∧ v' = .bool (sfO x)) := by
  have hOx : ∀ m, allOld w ∈ m → OpR (HM m) l x := fun m hin => hO.mono (H0.hm hin)
  have hop := opOf_eq hO
  obtain ⟨f1, f2, f3, c0, c20, c24, c25, d25, ⟨v1, c45, a1, n1, k1, rfl, p11, p12, p13, p14, p15, p16⟩, ⟨v2, c46, a2, n2, k2, rfl, p21, p22, p23, p24, p25, p26⟩, c47, c48, c49, c50, c54, c58, c59, d59, c79, c80, ⟨v3, c81, a3, n3, k3, rfl, p31, p32, p33, p34, p35, p36⟩, ⟨v4, c82, a4, n4, k4, rfl, p41, p42, p43, p44, p45, p46⟩, ls, lf, lp, bs, bf, bp, wn, wf, wt, u1, u2, u3, u4, u5⟩ := hO
  have L1 : ∀ m, allOld w ∈ m → LiesH (HM m) a1 (cc (.ints .u8 x.fd)) := fun m hin => p14.mono (H0.hm hin)
  have T1 : x.fd.take n1 = x.fd := List.take_of_length_le (by omega)
  have L2 : ∀ m, allOld w ∈ m → LiesH (HM m) a2 (cc (.ints .u8 x.cd)) := fun m hin => p24.mono (H0.hm hin)
  have T2 : x.cd.take n2 = x.cd := List.take_of_length_le (by omega)
  have L3 : ∀ m, allOld w ∈ m → LiesH (HM m) a3 (cc (.ints .u8 x.pd)) := fun m hin => p34.mono (H0.hm hin)
  have T3 : x.pd.take n3 = x.pd := List.take_of_length_le (by omega)
  have L4 : ∀ m, allOld w ∈ m → LiesH (HM m) a4 (cc (.ints .u8 x.sg)) := fun m hin => p44.mono (H0.hm hin)
  have T4 : x.sg.take n4 = x.sg := List.take_of_length_le (by omega)
  have N1 := numI_lm wn
  have N2 := numI_lm wf
  have N3 := numI_lm wt
  unfold u64I at u1 u2 u3 u4 u5
  refine Vc.calls T0_ok Tryd.func47 rfl rfl (args := [.agg l]) (k := 17) rfl (old_start w) ?_; change Vc _ _ (c8 (.agg l) .undef .undef .undef .undef .undef .undef .undef (c8 .undef .undef .undef .undef .undef .undef .undef .undef ([.undef, .undef]))) _ _
  ((with_reducible refine Vc.seq fun N hN => ?_); (refine Vc.regiont T0_ok GOJ_ok ?_); simp only [v8X, v8A, v8B, v8C, Nat.beq, Nat.ble, Int.reduceToNat, Int.reduceLE, Int.reduceLT, Nat.reduceLT, Nat.reduceLeDiff, Nat.reduceAdd, Nat.reduceMul, Nat.reduceSub, Int.reduceAdd, Int.reduceSub, Int.reduceMul, eq_self, decide_true, beq_self_eq_true, List.length_cons, List.length_nil, Nat.min_eq_left, IntKind.bits, tabs, GOJ_set, f2, f3, c0, c20, c24, c25, d25, c45, c46, c47, c48, c49, c50, c54, c58, c59, d59, c79, c80, c81, c82, N1, N2, N3, T1, T2, T3, T4, toU8_bL, wL.eq_def, datF.eq_def, List.drop_zero]; (try simp (disch := omega) only [v8W]); (repeat (first | with_reducible intro _ | ((with_reducible refine And.intro ?_ ?_); (focus (first | ((repeat' with_reducible apply And.intro) <;> first | exact sideQ | (exact ⟨x, hOx _ (by simp)⟩) | (exact L1 _ (by simp)) | (exact L2 _ (by simp)) | (exact L3 _ (by simp)) | (exact L4 _ (by simp)) | (exact allU_lm _) | (simp only [List.length_append, bytI_len]; omega) | (simp [noAlias]; done)) | exact sd0))) | ((with_reducible refine askT_of ?_ (fun hb => ?_)); (focus (first | ((repeat' with_reducible apply And.intro) <;> first | exact sideQ | (exact ⟨x, hOx _ (by simp)⟩) | (exact L1 _ (by simp)) | (exact L2 _ (by simp)) | (exact L3 _ (by simp)) | (exact L4 _ (by simp)) | (exact allU_lm _) | (simp only [List.length_append, bytI_len]; omega) | (simp [noAlias]; done)) | exact sd0)); simp only [hb, v8X, v8A, v8B, v8C, Nat.beq, Nat.ble, Int.reduceToNat, Int.reduceLE, Int.reduceLT, Nat.reduceLT, Nat.reduceLeDiff, Nat.reduceAdd, Nat.reduceMul, Nat.reduceSub, Int.reduceAdd, Int.reduceSub, Int.reduceMul, eq_self, decide_true, beq_self_eq_true, List.length_cons, List.length_nil, Nat.min_eq_left, IntKind.bits, tabs, GOJ_set, f2, f3, c0, c20, c24, c25, d25, c45, c46, c47, c48, c49, c50, c54, c58, c59, d59, c79, c80, c81, c82, N1, N2, N3, T1, T2, T3, T4, toU8_bL, wL.eq_def, datF.eq_def, List.drop_zero]; (try simp (disch := omega) only [v8W])))); (first | (refine hN _ _ ?_; clear hN N; (try simp (disch := omega) only [v8W])) | skip))
  ((repeat with_reducible refine Vc.seq fun N hN => ?_); (first | refine Vc.regiont T0_ok GOJ_ok ?_); simp only [v8X, v8A, v8B, v8C, Nat.beq, Nat.ble, Int.reduceToNat, Int.reduceLE, Int.reduceLT, Nat.reduceLT, Nat.reduceLeDiff, Nat.reduceAdd, Nat.reduceMul, Nat.reduceSub, Int.reduceAdd, Int.reduceSub, Int.reduceMul, eq_self, decide_true, beq_self_eq_true, List.length_cons, List.length_nil, Nat.min_eq_left, IntKind.bits, tabs, GOJ_set, f2, f3, c0, c20, c24, c25, d25, c45, c46, c47, c48, c49, c50, c54, c58, c59, d59, c79, c80, c81, c82, N1, N2, N3, T1, T2, T3, T4, toU8_bL, wL.eq_def, datF.eq_def, List.drop_zero]; (try simp (disch := omega) only [v8W]); (repeat' (first | with_reducible intro _ | ((with_reducible refine And.intro ?_ ?_); (focus (first | ((repeat' with_reducible apply And.intro) <;> first | exact sideQ | (exact ⟨x, hOx _ (by simp)⟩) | (exact allU_lm _) | (simp [allU]; done)) | exact sd0))) | ((with_reducible refine askT_both (fun hb => ?_) (fun hb => ?_)) <;> ((try simp only [Bool.not_not, Bool.not_eq_true', Bool.not_eq_false'] at hb); simp only [hb, v8X, v8A, v8B, v8C, Nat.beq, Nat.ble, Int.reduceToNat, Int.reduceLE, Int.reduceLT, Nat.reduceLT, Nat.reduceLeDiff, Nat.reduceAdd, Nat.reduceMul, Nat.reduceSub, Int.reduceAdd, Int.reduceSub, Int.reduceMul, eq_self, decide_true, beq_self_eq_true, List.length_cons, List.length_nil, Nat.min_eq_left, IntKind.bits, tabs, GOJ_set, f2, f3, c0, c20, c24, c25, d25, c45, c46, c47, c48, c49, c50, c54, c58, c59, d59, c79, c80, c81, c82, N1, N2, N3, T1, T2, T3, T4, toU8_bL, wL.eq_def, datF.eq_def, List.drop_zero]; (try simp (disch := omega) only [v8W]))))); (all_goals ((refine hN _ _ ?_); (clear hN N); (try simp (disch := omega) only [v8W]))))
  all_goals ((repeat (first | (with_reducible refine Vc.seq fun N hN => ?_) | (with_reducible refine Vc.block ?_) | ((first | with_reducible refine Vc.skip ?_ | with_reducible refine Vc.exit ?_); dsimp only [thenK, blockK, Nat.beq]; (first | (refine hN _ _ ?_; clear hN N) | skip)) | (with_reducible intro _) | ((with_reducible refine And.intro ?_ ?_); (focus (first | ((repeat' with_reducible apply And.intro) <;> first | exact sideQ | (exact ⟨x, hOx _ (by simp)⟩) | (exact L1 _ (by simp)) | (exact L2 _ (by simp)) | (exact L3 _ (by simp)) | (exact L4 _ (by simp)) | (exact allU_lm _) | (simp only [List.length_append, bytI_len]; omega) | (simp [noAlias]; done)) | exact sd0))) | ((first | ((with_reducible refine askT_of ?_ (fun hb => ?_)); (focus (first | ((repeat' with_reducible apply And.intro) <;> first | exact sideQ | (exact ⟨x, hOx _ (by simp)⟩) | (exact L1 _ (by simp)) | (exact L2 _ (by simp)) | (exact L3 _ (by simp)) | (exact L4 _ (by simp)) | (exact allU_lm _) | (simp only [List.length_append, bytI_len]; omega) | (simp [noAlias]; done)) | exact sd0)); (try simp only [hb])) | ((with_reducible refine Vc.fin ?_); dsimp only [thenK, blockK, retK, resS, resOne, resAll]) | ((with_reducible refine Vc.hold ?_); first | refine Vc.regiont T0_ok GOJ_ok ?_)); (try simp only [v8X, v8A, v8B, v8C, Nat.beq, Nat.ble, Int.reduceToNat, Int.reduceLE, Int.reduceLT, Nat.reduceLT, Nat.reduceLeDiff, Nat.reduceAdd, Nat.reduceMul, Nat.reduceSub, Int.reduceAdd, Int.reduceSub, Int.reduceMul, eq_self, decide_true, beq_self_eq_true, List.length_cons, List.length_nil, Nat.min_eq_left, IntKind.bits, tabs, GOJ_set]); (try simp (disch := omega) only [v8W])) | ((with_reducible refine hN _ _ ?_); clear hN N; (try simp (disch := omega) only [v8W])))); (try ((with_reducible refine Fin.of ?_); (try with_reducible exact True.intro))))
  all_goals refine ⟨by simp, ?_⟩
  all_goals (congr 1; unfold sfO z20; simp_all <;> omega)
set_option maxRecDepth 20000 in
theorem strayP_vc (l : List SV) (x : OpD) (w : World) (hO : OpR (H0 w) l x) : Calls Tryd.prog 48 (cvs [.agg l]).toArray w (fun en w' => ∃ u, en = .returned u ∧ ∃ v' m', u = cv v' ∧ MemOk w [] m' w' ∧ v' = .bool (spO x)) := by
  have hOx : ∀ m, allOld w ∈ m → OpR (HM m) l x := fun m hin => hO.mono (H0.hm hin)
  have hop := opOf_eq hO
  obtain ⟨f1, f2, f3, c0, c20, c24, c25, d25, ⟨v1, c45, a1, n1, k1, rfl, p11, p12, p13, p14, p15, p16⟩, ⟨v2, c46, a2, n2, k2, rfl, p21, p22, p23, p24, p25, p26⟩, c47, c48, c49, c50, c54, c58, c59, d59, c79, c80, ⟨v3, c81, a3, n3, k3, rfl, p31, p32, p33, p34, p35, p36⟩, ⟨v4, c82, a4, n4, k4, rfl, p41, p42, p43, p44, p45, p46⟩, ls, lf, lp, bs, bf, bp, wn, wf, wt, u1, u2, u3, u4, u5⟩ := hO
  have L1 : ∀ m, allOld w ∈ m → LiesH (HM m) a1 (cc (.ints .u8 x.fd)) := fun m hin => p14.mono (H0.hm hin)
  have T1 : x.fd.take n1 = x.fd := List.take_of_length_le (by omega)
  have L2 : ∀ m, allOld w ∈ m → LiesH (HM m) a2 (cc (.ints .u8 x.cd)) := fun m hin => p24.mono (H0.hm hin)
  have T2 : x.cd.take n2 = x.cd := List.take_of_length_le (by omega)
  have L3 : ∀ m, allOld w ∈ m → LiesH (HM m) a3 (cc (.ints .u8 x.pd)) := fun m hin => p34.mono (H0.hm hin)
  have T3 : x.pd.take n3 = x.pd := List.take_of_length_le (by omega)
  have L4 : ∀ m, allOld w ∈ m → LiesH (HM m) a4 (cc (.ints .u8 x.sg)) := fun m hin => p44.mono (H0.hm hin)
  have T4 : x.sg.take n4 = x.sg := List.take_of_length_le (by omega)
  have N1 := numI_lm wn
  have N2 := numI_lm wf
  have N3 := numI_lm wt
  unfold u64I at u1 u2 u3 u4 u5
  refine Vc.calls T0_ok Tryd.func48 rfl rfl (args := [.agg l]) (k := 27) rfl (old_start w) ?_; change Vc _ _ (c8 (.agg l) .undef .undef .undef .undef .undef .undef .undef (c8 .undef .undef .undef .undef .undef .undef .undef .undef (c8 .undef .undef .undef .undef .undef .undef .undef .undef ([.undef, .undef, .undef, .undef])))) _ _
  ((with_reducible refine Vc.seq fun N hN => ?_); (refine Vc.regiont T0_ok GOJ_ok ?_); simp only [v8X, v8A, v8B, v8C, Nat.beq, Nat.ble, Int.reduceToNat, Int.reduceLE, Int.reduceLT, Nat.reduceLT, Nat.reduceLeDiff, Nat.reduceAdd, Nat.reduceMul, Nat.reduceSub, Int.reduceAdd, Int.reduceSub, Int.reduceMul, eq_self, decide_true, beq_self_eq_true, List.length_cons, List.length_nil, Nat.min_eq_left, IntKind.bits, tabs, GOJ_set, f2, f3, c0, c20, c24, c25, d25, c45, c46, c47, c48, c49, c50, c54, c58, c59, d59, c79, c80, c81, c82, N1, N2, N3, T1, T2, T3, T4, toU8_bL, wL.eq_def, datF.eq_def, List.drop_zero]; (try simp (disch := omega) only [v8W]); (repeat (first | with_reducible intro _ | ((with_reducible refine And.intro ?_ ?_); (focus (first | ((repeat' with_reducible apply And.intro) <;> first | exact sideQ | (exact ⟨x, hOx _ (by simp)⟩) | (exact L1 _ (by simp)) | (exact L2 _ (by simp)) | (exact L3 _ (by simp)) | (exact L4 _ (by simp)) | (exact allU_lm _) | (simp only [List.length_append, bytI_len]; omega) | (simp [noAlias]; done)) | exact sd0))) | ((with_reducible refine askT_of ?_ (fun hb => ?_)); (focus (first | ((repeat' with_reducible apply And.intro) <;> first | exact sideQ | (exact ⟨x, hOx _ (by simp)⟩) | (exact L1 _ (by simp)) | (exact L2 _ (by simp)) | (exact L3 _ (by simp)) | (exact L4 _ (by simp)) | (exact allU_lm _) | (simp only [List.length_append, bytI_len]; omega) | (simp [noAlias]; done)) | exact sd0)); simp only [hb, v8X, v8A, v8B, v8C, Nat.beq, Nat.ble, Int.reduceToNat, Int.reduceLE, Int.reduceLT, Nat.reduceLT, Nat.reduceLeDiff, Nat.reduceAdd, Nat.reduceMul, Nat.reduceSub, Int.reduceAdd, Int.reduceSub, Int.reduceMul, eq_self, decide_true, beq_self_eq_true, List.length_cons, List.length_nil, Nat.min_eq_left, IntKind.bits, tabs, GOJ_set, f2, f3, c0, c20, c24, c25, d25, c45, c46, c47, c48, c49, c50, c54, c58, c59, d59, c79, c80, c81, c82, N1, N2, N3, T1, T2, T3, T4, toU8_bL, wL.eq_def, datF.eq_def, List.drop_zero]; (try simp (disch := omega) only [v8W])))); (first | (refine hN _ _ ?_; clear hN N; (try simp (disch := omega) only [v8W])) | skip))
  ((repeat with_reducible refine Vc.seq fun N hN => ?_); (first | refine Vc.regiont T0_ok GOJ_ok ?_); simp only [v8X, v8A, v8B, v8C, Nat.beq, Nat.ble, Int.reduceToNat, Int.reduceLE, Int.reduceLT, Nat.reduceLT, Nat.reduceLeDiff, Nat.reduceAdd, Nat.reduceMul, Nat.reduceSub, Int.reduceAdd, Int.reduceSub, Int.reduceMul, eq_self, decide_true, beq_self_eq_true, List.length_cons, List.length_nil, Nat.min_eq_left, IntKind.bits, tabs, GOJ_set, f2, f3, c0, c20, c24, c25, d25, c45, c46, c47, c48, c49, c50, c54, c58, c59, d59, c79, c80, c81, c82, N1, N2, N3, T1, T2, T3, T4, toU8_bL, wL.eq_def, datF.eq_def, List.drop_zero]; (try simp (disch := omega) only [v8W]); (repeat' (first | with_reducible intro _ | ((with_reducible refine And.intro ?_ ?_); (focus (first | ((repeat' with_reducible apply And.intro) <;> first | exact sideQ | (exact ⟨x, hOx _ (by simp)⟩) | (exact allU_lm _) | (simp [allU]; done)) | exact sd0))) | ((with_reducible refine askT_both (fun hb => ?_) (fun hb => ?_)) <;> ((try simp only [Bool.not_not, Bool.not_eq_true', Bool.not_eq_false'] at hb); simp only [hb, v8X, v8A, v8B, v8C, Nat.beq, Nat.ble, Int.reduceToNat, Int.reduceLE, Int.reduceLT, Nat.reduceLT, Nat.reduceLeDiff, Nat.reduceAdd, Nat.reduceMul, Nat.reduceSub, Int.reduceAdd, Int.reduceSub, Int.reduceMul, eq_self, decide_true, beq_self_eq_true, List.length_cons, List.length_nil, Nat.min_eq_left, IntKind.bits, tabs, GOJ_set, f2, f3, c0, c20, c24, c25, d25, c45, c46, c47, c48, c49, c50, c54, c58, c59, d59, c79, c80, c81, c82, N1, N2, N3, T1, T2, T3, T4, toU8_bL, wL.eq_def, datF.eq_def, List.drop_zero]; (try simp (disch := omega) only [v8W]))))); (all_goals ((refine hN _ _ ?_); (clear hN N); (try simp (disch := omega) only [v8W]))))
  all_goals ((repeat (first | (with_reducible refine Vc.seq fun N hN => ?_) | (with_reducible refine Vc.block ?_) | ((first | with_reducible refine Vc.skip ?_ | with_reducible refine Vc.exit ?_); dsimp only [thenK, blockK, Nat.beq]; (first | (refine hN _ _ ?_; clear hN N) | skip)) | (with_reducible intro _) | ((with_reducible refine And.intro ?_ ?_); (focus (first | ((repeat' with_reducible apply And.intro) <;> first | exact sideQ | (exact ⟨x, hOx _ (by simp)⟩) | (exact L1 _ (by simp)) | (exact L2 _ (by simp)) | (exact L3 _ (by simp)) | (exact L4 _ (by simp)) | (exact allU_lm _) | (simp only [List.length_append, bytI_len]; omega) | (simp [noAlias]; done)) | exact sd0))) | ((first | ((with_reducible refine askT_of ?_ (fun hb => ?_)); (focus (first | ((repeat' with_reducible apply And.intro) <;> first | exact sideQ | (exact ⟨x, hOx _ (by simp)⟩) | (exact L1 _ (by simp)) | (exact L2 _ (by simp)) | (exact L3 _ (by simp)) | (exact L4 _ (by simp)) | (exact allU_lm _) | (simp only [List.length_append, bytI_len]; omega) | (simp [noAlias]; done)) | exact sd0)); (try simp only [hb])) | ((with_reducible refine Vc.fin ?_); dsimp only [thenK, blockK, retK, resS, resOne, resAll]) | ((with_reducible refine Vc.hold ?_); first | refine Vc.regiont T0_ok GOJ_ok ?_)); (try simp only [v8X, v8A, v8B, v8C, Nat.beq, Nat.ble, Int.reduceToNat, Int.reduceLE, Int.reduceLT, Nat.reduceLT, Nat.reduceLeDiff, Nat.reduceAdd, Nat.reduceMul, Nat.reduceSub, Int.reduceAdd, Int.reduceSub, Int.reduceMul, eq_self, decide_true, beq_self_eq_true, List.length_cons, List.length_nil, Nat.min_eq_left, IntKind.bits, tabs, GOJ_set]); (try simp (disch := omega) only [v8W])) | ((with_reducible refine hN _ _ ?_); clear hN N; (try simp (disch := omega) only [v8W])))); (try ((with_reducible refine Fin.of ?_); (try with_reducible exact True.intro))))
  all_goals refine ⟨by simp, ?_⟩
  all_goals (congr 1; unfold spO z20; simp_all <;> omega)
noncomputable def g_tooLong (args : List SV) (m : List Blk) : CR :=
  match args with
  | [.agg l] => .pure (∃ x, OpR (HM m) l x) (.bool (tlO (opOf l)))
  | _ => .none
theorem g_tooLong_ok (w0 : World) (B : List Nat) (args : List SV) (m : List Blk) : CROk Tryd.prog w0 B 44 args m (g_tooLong args m) := by
  unfold g_tooLong
  split
  · rename_i l
    intro ⟨x, hO⟩ w hm
    rw [opOf_eq hO]
    exact calls_pure Tryd.func44 rfl rfl (tooLong_vc l x w (hO.mono fun b o h => hm.hm h))
  · exact trivial
noncomputable def g_tooMuch (args : List SV) (m : List Blk) : CR :=
  match args with
  | [.agg l] => .pure (∃ x, OpR (HM m) l x) (.bool (tgO (opOf l)))
  | _ => .none
theorem g_tooMuch_ok (w0 : World) (B : List Nat) (args : List SV) (m : List Blk) : CROk Tryd.prog w0 B 45 args m (g_tooMuch args m) := by
  unfold g_tooMuch
  split
  · rename_i l
    intro ⟨x, hO⟩ w hm
    rw [opOf_eq hO]
    exact calls_pure Tryd.func45 rfl rfl (tooMuch_vc l x w (hO.mono fun b o h => hm.hm h))
  · exact trivial
noncomputable def g_wrong (args : List SV) (m : List Blk) : CR :=
  match args with
  | [.agg l] => .pure (∃ x, OpR (HM m) l x) (.bool (wrO (opOf l)))
  | _ => .none
theorem g_wrong_ok (w0 : World) (B : List Nat) (args : List SV) (m : List Blk) : CROk Tryd.prog w0 B 46 args m (g_wrong args m) := by
  unfold g_wrong
  split
  · rename_i l
    intro ⟨x, hO⟩ w hm
    rw [opOf_eq hO]
    exact calls_pure Tryd.func46 rfl rfl (wrong_vc l x w (hO.mono fun b o h => hm.hm h))
  · exact trivial
noncomputable def g_strayF (args : List SV) (m : List Blk) : CR :=
  match args with
  | [.agg l] => .pure (∃ x, OpR (HM m) l x) (.bool (sfO (opOf l)))
  | _ => .none
theorem g_strayF_ok (w0 : World) (B : List Nat) (args : List SV) (m : List Blk) : CROk Tryd.prog w0 B 47 args m (g_strayF args m) := by
  unfold g_strayF
  split
  · rename_i l
    intro ⟨x, hO⟩ w hm
    rw [opOf_eq hO]
    exact calls_pure Tryd.func47 rfl rfl (strayF_vc l x w (hO.mono fun b o h => hm.hm h))
  · exact trivial
noncomputable def g_strayP (args : List SV) (m : List Blk) : CR :=
  match args with
  | [.agg l] => .pure (∃ x, OpR (HM m) l x) (.bool (spO (opOf l)))
  | _ => .none
theorem g_strayP_ok (w0 : World) (B : List Nat) (args : List SV) (m : List Blk) : CROk Tryd.prog w0 B 48 args m (g_strayP args m) := by
  unfold g_strayP
  split
  · rename_i l
    intro ⟨x, hO⟩ w hm
    rw [opOf_eq hO]
    exact calls_pure Tryd.func48 rfl rfl (strayP_vc l x w (hO.mono fun b o h => hm.hm h))
  · exact trivial
noncomputable def GOL : Ctr := fun f args m => match f with
  | 44 => g_tooLong args m
  | 45 => g_tooMuch args m
  | 46 => g_wrong args m
  | 47 => g_strayF args m
  | 48 => g_strayP args m
  | _ => .none
theorem GOL_ok : GOk Tryd.prog GOL := by
  intro w0 B f args m; unfold GOL; split
  · exact g_tooLong_ok _ _ _ _
  · exact g_tooMuch_ok _ _ _ _
  · exact g_wrong_ok _ _ _ _
  · exact g_strayF_ok _ _ _ _
  · exact g_strayP_ok _ _ _ _
  · exact trivial
theorem GOL_tooLong : GOL 44 = g_tooLong := by funext args m; rfl
theorem GOL_tooMuch : GOL 45 = g_tooMuch := by funext args m; rfl
theorem GOL_wrong : GOL 46 = g_wrong := by funext args m; rfl
theorem GOL_strayF : GOL 47 = g_strayF := by funext args m; rfl
theorem GOL_strayP : GOL 48 = g_strayP := by funext args m; rfl
def GOL_set := And.intro (And.intro (And.intro (@GOL_tooLong) (@g_tooLong.eq_def)) (And.intro (@GOL_tooMuch) (And.intro (@g_tooMuch.eq_def) (@GOL_wrong)))) (And.intro (And.intro (@g_wrong.eq_def) (@GOL_strayF)) (And.intro (@g_strayF.eq_def) (And.intro (@GOL_strayP) (@g_strayP.eq_def))))

set_option maxRecDepth 20000 in
theorem check_vc (l : List SV) (x : OpD) (w : World) (hO : OpR (H0 w) l x) : Calls Tryd.prog 13 (cvs [.agg l]).toArray w (fun en w' => ∃ u, en = .returned u ∧ ∃ v' m', u = cv v' ∧ MemOk w [] m' w' ∧ v' = .int .u16 (if chkO x = true then 150 else 0)) := by
  have hOx : ∀ m, allOld w ∈ m → OpR (HM m) l x := fun m hin => hO.mono (H0.hm hin)
  have hop := opOf_eq hO
  obtain ⟨f1, f2, f3, c0, c20, c24, c25, d25, ⟨v1, c45, a1, n1, k1, rfl, p11, p12, p13, p14, p15, p16⟩, ⟨v2, c46, a2, n2, k2, rfl, p21, p22, p23, p24, p25, p26⟩, c47, c48, c49, c50, c54, c58, c59, d59, c79, c80, ⟨v3, c81, a3, n3, k3, rfl, p31, p32, p33, p34, p35, p36⟩, ⟨v4, c82, a4, n4, k4, rfl, p41, p42, p43, p44, p45, p46⟩, ls, lf, lp, bs, bf, bp, wn, wf, wt, u1, u2, u3, u4, u5⟩ := hO
  have L1 : ∀ m, allOld w ∈ m → LiesH (HM m) a1 (cc (.ints .u8 x.fd)) := fun m hin => p14.mono (H0.hm hin)
  have T1 : x.fd.take n1 = x.fd := List.take_of_length_le (by omega)
  have L2 : ∀ m, allOld w ∈ m → LiesH (HM m) a2 (cc (.ints .u8 x.cd)) := fun m hin => p24.mono (H0.hm hin)
  have T2 : x.cd.take n2 = x.cd := List.take_of_length_le (by omega)
  have L3 : ∀ m, allOld w ∈ m → LiesH (HM m) a3 (cc (.ints .u8 x.pd)) := fun m hin => p34.mono (H0.hm hin)
  have T3 : x.pd.take n3 = x.pd := List.take_of_length_le (by omega)
  have L4 : ∀ m, allOld w ∈ m → LiesH (HM m) a4 (cc (.ints .u8 x.sg)) := fun m hin => p44.mono (H0.hm hin)
  have T4 : x.sg.take n4 = x.sg := List.take_of_length_le (by omega)
  have N1 := numI_lm wn
  have N2 := numI_lm wf
  have N3 := numI_lm wt
  unfold u64I at u1 u2 u3 u4 u5
  refine Vc.calls T0_ok Tryd.func13 rfl rfl (args := [.agg l]) (k := 20) rfl (old_start w) ?_; change Vc _ _ (c8 (.agg l) .undef .undef .undef .undef .undef .undef .undef (c8 .undef .undef .undef .undef .undef .undef .undef .undef ([.undef, .undef, .undef, .undef, .undef]))) _ _
  ((with_reducible refine Vc.seq fun N hN => ?_); (refine Vc.regiont T0_ok GOL_ok ?_); simp only [v8X, v8A, v8B, v8C, Nat.beq, Nat.ble, Int.reduceToNat, Int.reduceLE, Int.reduceLT, Nat.reduceLT, Nat.reduceLeDiff, Nat.reduceAdd, Nat.reduceMul, Nat.reduceSub, Int.reduceAdd, Int.reduceSub, Int.reduceMul, eq_self, decide_true, beq_self_eq_true, List.length_cons, List.length_nil, Nat.min_eq_left, IntKind.bits, tabs, GOL_set, f2, f3, c0, c20, c24, c25, d25, c45, c46, c47, c48, c49, c50, c54, c58, c59, d59, c79, c80, c81, c82, N1, N2, N3, T1, T2, T3, T4, toU8_bL, wL.eq_def, datF.eq_def, List.drop_zero]; (try simp (disch := omega) only [v8W]); (repeat (first | with_reducible intro _ | ((with_reducible refine And.intro ?_ ?_); (focus (first | ((repeat' with_reducible apply And.intro) <;> first | exact sideQ | (exact ⟨x, hOx _ (by simp)⟩) | (exact L1 _ (by simp)) | (exact L2 _ (by simp)) | (exact L3 _ (by simp)) | (exact L4 _ (by simp)) | (exact allU_lm _) | (simp only [List.length_append, bytI_len]; omega) | (simp [noAlias]; done)) | exact sd0))) | ((with_reducible refine askT_of ?_ (fun hb => ?_)); (focus (first | ((repeat' with_reducible apply And.intro) <;> first | exact sideQ | (exact ⟨x, hOx _ (by simp)⟩) | (exact L1 _ (by simp)) | (exact L2 _ (by simp)) | (exact L3 _ (by simp)) | (exact L4 _ (by simp)) | (exact allU_lm _) | (simp only [List.length_append, bytI_len]; omega) | (simp [noAlias]; done)) | exact sd0)); simp only [hb, v8X, v8A, v8B, v8C, Nat.beq, Nat.ble, Int.reduceToNat, Int.reduceLE, Int.reduceLT, Nat.reduceLT, Nat.reduceLeDiff, Nat.reduceAdd, Nat.reduceMul, Nat.reduceSub, Int.reduceAdd, Int.reduceSub, Int.reduceMul, eq_self, decide_true, beq_self_eq_true, List.length_cons, List.length_nil, Nat.min_eq_left, IntKind.bits, tabs, GOL_set, f2, f3, c0, c20, c24, c25, d25, c45, c46, c47, c48, c49, c50, c54, c58, c59, d59, c79, c80, c81, c82, N1, N2, N3, T1, T2, T3, T4, toU8_bL, wL.eq_def, datF.eq_def, List.drop_zero]; (try simp (disch := omega) only [v8W])))); (first | (refine hN _ _ ?_; clear hN N; (try simp (disch := omega) only [v8W])) | skip))
  ((repeat with_reducible refine Vc.seq fun N hN => ?_); (first | refine Vc.regiont T0_ok GOL_ok ?_); simp only [v8X, v8A, v8B, v8C, Nat.beq, Nat.ble, Int.reduceToNat, Int.reduceLE, Int.reduceLT, Nat.reduceLT, Nat.reduceLeDiff, Nat.reduceAdd, Nat.reduceMul, Nat.reduceSub, Int.reduceAdd, Int.reduceSub, Int.reduceMul, eq_self, decide_true, beq_self_eq_true, List.length_cons, List.length_nil, Nat.min_eq_left, IntKind.bits, tabs, GOL_set, hop, f2, f3, c0, c20, c24, c25, d25, c45, c46, c47, c48, c49, c50, c54, c58, c59, d59, c79, c80, c81, c82, N1, N2, N3, T1, T2, T3, T4, toU8_bL, wL.eq_def, datF.eq_def, List.drop_zero]; (try simp (disch := omega) only [v8W]); (repeat' (first | with_reducible intro _ | ((with_reducible refine And.intro ?_ ?_); (focus (first | ((repeat' with_reducible apply And.intro) <;> first | exact sideQ | (exact ⟨x, hOx _ (by simp)⟩) | (exact allU_lm _) | (simp [allU]; done)) | exact sd0))) | ((with_reducible refine askT_both (fun hb => ?_) (fun hb => ?_)) <;> ((try simp only [Bool.not_not, Bool.not_eq_true', Bool.not_eq_false'] at hb); simp only [hb, v8X, v8A, v8B, v8C, Nat.beq, Nat.ble, Int.reduceToNat, Int.reduceLE, Int.reduceLT, Nat.reduceLT, Nat.reduceLeDiff, Nat.reduceAdd, Nat.reduceMul, Nat.reduceSub, Int.reduceAdd, Int.reduceSub, Int.reduceMul, eq_self, decide_true, beq_self_eq_true, List.length_cons, List.length_nil, Nat.min_eq_left, IntKind.bits, tabs, GOL_set, hop, f2, f3, c0, c20, c24, c25, d25, c45, c46, c47, c48, c49, c50, c54, c58, c59, d59, c79, c80, c81, c82, N1, N2, N3, T1, T2, T3, T4, toU8_bL, wL.eq_def, datF.eq_def, List.drop_zero]; (try simp (disch := omega) only [v8W]))))); (all_goals ((refine hN _ _ ?_); (clear hN N); (try simp (disch := omega) only [v8W]))))
  all_goals first
    | ((refine Vc.cond T0_ok (t := true) (by rfl) (fun _ => ?_) (fun h => Bool.noConfusion h)); ((repeat (first | (with_reducible refine Vc.seq fun N hN => ?_) | (with_reducible refine Vc.block ?_) | ((first | with_reducible refine Vc.skip ?_ | with_reducible refine Vc.exit ?_); dsimp only [thenK, blockK, Nat.beq]; (first | (refine hN _ _ ?_; clear hN N) | skip)) | (with_reducible intro _) | ((with_reducible refine And.intro ?_ ?_); (focus (first | ((repeat' with_reducible apply And.intro) <;> first | exact sideQ | (exact ⟨x, hOx _ (by simp)⟩) | (exact L1 _ (by simp)) | (exact L2 _ (by simp)) | (exact L3 _ (by simp)) | (exact L4 _ (by simp)) | (exact allU_lm _) | (simp only [List.length_append, bytI_len]; omega) | (simp [noAlias]; done)) | exact sd0))) | ((first | ((with_reducible refine askT_of ?_ (fun hb => ?_)); (focus (first | ((repeat' with_reducible apply And.intro) <;> first | exact sideQ | (exact ⟨x, hOx _ (by simp)⟩) | (exact L1 _ (by simp)) | (exact L2 _ (by simp)) | (exact L3 _ (by simp)) | (exact L4 _ (by simp)) | (exact allU_lm _) | (simp only [List.length_append, bytI_len]; omega) | (simp [noAlias]; done)) | exact sd0)); (try simp only [hb])) | ((with_reducible refine Vc.fin ?_); dsimp only [thenK, blockK, retK, resS, resOne, resAll]) | ((with_reducible refine Vc.hold ?_); first | refine Vc.regiont T0_ok GOL_ok ?_)); (try simp only [v8X, v8A, v8B, v8C, Nat.beq, Nat.ble, Int.reduceToNat, Int.reduceLE, Int.reduceLT, Nat.reduceLT, Nat.reduceLeDiff, Nat.reduceAdd, Nat.reduceMul, Nat.reduceSub, Int.reduceAdd, Int.reduceSub, Int.reduceMul, eq_self, decide_true, beq_self_eq_true, List.length_cons, List.length_nil, Nat.min_eq_left, IntKind.bits, tabs, GOL_set]); (try simp (disch := omega) only [v8W])) | ((with_reducible refine hN _ _ ?_); clear hN N; (try simp (disch := omega) only [v8W])))); (try ((with_reducible refine Fin.of ?_); (try with_reducible exact True.intro)))); (refine ⟨by simp, ?_⟩); (congr 1; unfold chkO; simp_all; done))
    | ((refine Vc.cond T0_ok (t := false) (by rfl) (fun h => Bool.noConfusion h) (fun _ => ?_)); ((repeat (first | (with_reducible refine Vc.seq fun N hN => ?_) | (with_reducible refine Vc.block ?_) | ((first | with_reducible refine Vc.skip ?_ | with_reducible refine Vc.exit ?_); dsimp only [thenK, blockK, Nat.beq]; (first | (refine hN _ _ ?_; clear hN N) | skip)) | (with_reducible intro _) | ((with_reducible refine And.intro ?_ ?_); (focus (first | ((repeat' with_reducible apply And.intro) <;> first | exact sideQ | (exact ⟨x, hOx _ (by simp)⟩) | (exact L1 _ (by simp)) | (exact L2 _ (by simp)) | (exact L3 _ (by simp)) | (exact L4 _ (by simp)) | (exact allU_lm _) | (simp only [List.length_append, bytI_len]; omega) | (simp [noAlias]; done)) | exact sd0))) | ((first | ((with_reducible refine askT_of ?_ (fun hb => ?_)); (focus (first | ((repeat' with_reducible apply And.intro) <;> first | exact sideQ | (exact ⟨x, hOx _ (by simp)⟩) | (exact L1 _ (by simp)) | (exact L2 _ (by simp)) | (exact L3 _ (by simp)) | (exact L4 _ (by simp)) | (exact allU_lm _) | (simp only [List.length_append, bytI_len]; omega) | (simp [noAlias]; done)) | exact sd0)); (try simp only [hb])) | ((with_reducible refine Vc.fin ?_); dsimp only [thenK, blockK, retK, resS, resOne, resAll]) | ((with_reducible refine Vc.hold ?_); first | refine Vc.regiont T0_ok GOL_ok ?_)); (try simp only [v8X, v8A, v8B, v8C, Nat.beq, Nat.ble, Int.reduceToNat, Int.reduceLE, Int.reduceLT, Nat.reduceLT, Nat.reduceLeDiff, Nat.reduceAdd, Nat.reduceMul, Nat.reduceSub, Int.reduceAdd, Int.reduceSub, Int.reduceMul, eq_self, decide_true, beq_self_eq_true, List.length_cons, List.length_nil, Nat.min_eq_left, IntKind.bits, tabs, GOL_set]); (try simp (disch := omega) only [v8W])) | ((with_reducible refine hN _ _ ?_); clear hN N; (try simp (disch := omega) only [v8W])))); (try ((with_reducible refine Fin.of ?_); (try with_reducible exact True.intro)))); (refine ⟨by simp, ?_⟩); (congr 1; unfold chkO; simp_all; done))
    | ((refine Vc.cond T0_ok (by rfl) (fun hb => ?_) (fun hb => ?_)) <;> (((repeat (first | (with_reducible refine Vc.seq fun N hN => ?_) | (with_reducible refine Vc.block ?_) | ((first | with_reducible refine Vc.skip ?_ | with_reducible refine Vc.exit ?_); dsimp only [thenK, blockK, Nat.beq]; (first | (refine hN _ _ ?_; clear hN N) | skip)) | (with_reducible intro _) | ((with_reducible refine And.intro ?_ ?_); (focus (first | ((repeat' with_reducible apply And.intro) <;> first | exact sideQ | (exact ⟨x, hOx _ (by simp)⟩) | (exact L1 _ (by simp)) | (exact L2 _ (by simp)) | (exact L3 _ (by simp)) | (exact L4 _ (by simp)) | (exact allU_lm _) | (simp only [List.length_append, bytI_len]; omega) | (simp [noAlias]; done)) | exact sd0))) | ((first | ((with_reducible refine askT_of ?_ (fun hb => ?_)); (focus (first | ((repeat' with_reducible apply And.intro) <;> first | exact sideQ | (exact ⟨x, hOx _ (by simp)⟩) | (exact L1 _ (by simp)) | (exact L2 _ (by simp)) | (exact L3 _ (by simp)) | (exact L4 _ (by simp)) | (exact allU_lm _) | (simp only [List.length_append, bytI_len]; omega) | (simp [noAlias]; done)) | exact sd0)); (try simp only [hb])) | ((with_reducible refine Vc.fin ?_); dsimp only [thenK, blockK, retK, resS, resOne, resAll]) | ((with_reducible refine Vc.hold ?_); first | refine Vc.regiont T0_ok GOL_ok ?_)); (try simp only [v8X, v8A, v8B, v8C, Nat.beq, Nat.ble, Int.reduceToNat, Int.reduceLE, Int.reduceLT, Nat.reduceLT, Nat.reduceLeDiff, Nat.reduceAdd, Nat.reduceMul, Nat.reduceSub, Int.reduceAdd, Int.reduceSub, Int.reduceMul, eq_self, decide_true, beq_self_eq_true, List.length_cons, List.length_nil, Nat.min_eq_left, IntKind.bits, tabs, GOL_set]); (try simp (disch := omega) only [v8W])) | ((with_reducible refine hN _ _ ?_); clear hN N; (try simp (disch := omega) only [v8W])))); (try ((with_reducible refine Fin.of ?_); (try with_reducible exact True.intro)))); (refine ⟨by simp, ?_⟩); (congr 1; unfold chkO; simp_all; done)))
end Go.Proofs.YtjonbbmnjbnefaaDoor
