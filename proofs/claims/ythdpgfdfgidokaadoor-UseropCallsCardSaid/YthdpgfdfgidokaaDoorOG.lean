/-
 Package userop: Check and what it asks; the document's bound of an operation (quaestorref00.Op), walked. No condition.
-/
import Derived.Test.YthdpgfdfgidokaaDoorOC
set_option maxRecDepth 10000
set_option maxHeartbeats 4000000
set_option linter.defProp false
set_option linter.unusedVariables false
set_option linter.unusedSimpArgs false
namespace Go.Proofs.YthdpgfdfgidokaaDoor
open Go.RowKit
def opLe (x : OpD) (n : Int) : Bool := decide ((x.fd.length : Int) ≤ n) && (decide ((x.cd.length : Int) ≤ n) && (decide ((x.pd.length : Int) ≤ n) && decide ((x.sg.length : Int) ≤ n)))
theorem opLe_S {x : OpD} {n : Nat} (h : opLe x n = true) : OpS n x := by
 simp only [opLe, Bool.and_eq_true, decide_eq_true_eq] at h
 exact ⟨by omega, by omega, by omega, by omega⟩
noncomputable def GOJ : Ctr := fun f args m => match f with
 | 52 => g_From args m
 | 43 => g_rFrom args m
 | 141 => g_Small args m
 | 109 => g_lowByte args m
 | 120 => g_Shl args m
 | 89 => g_Shr args m
 | 54 => g_Cmp args m
 | 53 => g_Add args m
 | 51 => g_Mul args m
 | _ => .none
theorem GOJ_ok : GOk Tryd.prog GOJ := by
 intro w0 B f args m; unfold GOJ; split
 ·exact g_From_ok _ _ _ _
 ·exact g_rFrom_ok _ _ _ _
 ·exact g_Small_ok _ _ _ _
 ·exact g_lowByte_ok _ _ _ _
 ·exact g_Shl_ok _ _ _ _
 ·exact g_Shr_ok _ _ _ _
 ·exact g_Cmp_ok _ _ _ _
 ·exact g_Add_ok _ _ _ _
 ·exact g_Mul_ok _ _ _ _
 ·exact trivial
theorem GOJ_From : GOJ 52 = g_From := by funext args m; rfl
theorem GOJ_rFrom : GOJ 43 = g_rFrom := by funext args m; rfl
theorem GOJ_Small : GOJ 141 = g_Small := by funext args m; rfl
theorem GOJ_lowByte : GOJ 109 = g_lowByte := by funext args m; rfl
theorem GOJ_Shl : GOJ 120 = g_Shl := by funext args m; rfl
theorem GOJ_Shr : GOJ 89 = g_Shr := by funext args m; rfl
theorem GOJ_Cmp : GOJ 54 = g_Cmp := by funext args m; rfl
theorem GOJ_Add : GOJ 53 = g_Add := by funext args m; rfl
theorem GOJ_Mul : GOJ 51 = g_Mul := by funext args m; rfl
def GOJ_set := And.intro (And.intro (And.intro (And.intro (@GOJ_From) (@g_From.eq_def)) (And.intro (@GOJ_rFrom) (@g_rFrom.eq_def))) (And.intro (And.intro (@GOJ_Small) (@g_Small.eq_def)) (And.intro (@GOJ_lowByte) (And.intro (@g_lowByte.eq_def) (@GOJ_Shl))))) (And.intro (And.intro (And.intro (@g_Shl.eq_def) (@GOJ_Shr)) (And.intro (@g_Shr.eq_def) (@GOJ_Cmp))) (And.intro (And.intro (@g_Cmp.eq_def) (@GOJ_Add)) (And.intro (@g_Add.eq_def) (And.intro (@GOJ_Mul) (@g_Mul.eq_def)))))

set_option maxRecDepth 20000 in
theorem op_vc (n : Int) (l : List SV) (x : OpD) (w : World) (hO : OpR (H0 w) l x) : Calls Tryd.prog 11 (cvs [.agg l, .int .i64 n]).toArray w (fun en w' => ∃ u, en = .returned u ∧ ∃ v' m', u = cv v' ∧ MemOk w [] m' w' ∧ v' = .bool (opLe x n)) := by
 have hOx : ∀ m, allOld w ∈ m → OpR (HM m) l x := fun m hin => hO.mono (H0.hm hin)
 have hop := opOf_eq hO
 obtain ⟨f1, f2, f3, c0, c20, c24, c25, d25, ⟨v1, c45, a1, n1, k1, rfl, p11, p12, p13, p14, p15, p16⟩, ⟨v2, c46, a2, n2, k2, rfl, p21, p22, p23, p24, p25, p26⟩, c47, c48, c49, c50, c54, c58, c59, d59, c79, c80, ⟨v3, c81, a3, n3, k3, rfl, p31, p32, p33, p34, p35, p36⟩, ⟨v4, c82, a4, n4, k4, rfl, p41, p42, p43, p44, p45, p46⟩, ls, lf, lp, bs, bf, bp, wn, wf, wt, u1, u2, u3, u4, u5⟩ := hO
 have L1 : ∀ m, allOld w ∈ m → LiesH (HM m) a1 (cc (.ints .u8 x.fd)) := fun m hin => p14.mono (H0.hm hin)
 have T1 : x.fd.take n1 = x.fd := List.take_of_length_le (by omega)
 have L2 : ∀ m, allOld w ∈ m → LiesH (HM m) a2 (cc (.ints .u8 x.cd)) := fun m hin => p24.mono (H0.hm hin)
 have T2 : x.cd.take n2 = x.cd := List.take_of_length_le (by omega)
 have L3 : ∀ m, allOld w ∈ m → LiesH (HM m) a3 (cc (.ints .u8 x.pd)) := fun m hin => p34.mono (H0.hm hin)
 have T3 : x.pd.take n3 = x.pd := List.take_of_length_le (by omega)
 have L4 : ∀ m, allOld w ∈ m → LiesH (HM m) a4 (cc (.ints .u8 x.sg)) := fun m hin => p44.mono (H0.hm hin)
 have T4 : x.sg.take n4 = x.sg := List.take_of_length_le (by omega)
 have N1 := numI_lm wn
 have N2 := numI_lm wf
 have N3 := numI_lm wt
 have FA := And.intro f2 <| And.intro f3 <| And.intro c0 <| And.intro c20 <| And.intro c24 <| And.intro c25 <| And.intro d25 <| And.intro c45 <| And.intro c46 <| And.intro c47 <| And.intro c48 <| And.intro c49 <| And.intro c50 <| And.intro c54 <| And.intro c58 <| And.intro c59 <| And.intro d59 <| And.intro c79 <| And.intro c80 <| And.intro c81 <| And.intro c82 <| And.intro N1 <| And.intro N2 <| And.intro N3 <| And.intro T1 <| And.intro T2 <| And.intro T3 T4
 unfold u64I at u1 u2 u3 u4 u5
 refine Vc.calls T0_ok Tryd.func11 rfl rfl (args := [.agg l, .int .i64 n]) (k := 29) rfl (old_start w) ?_; change Vc _ _ (c8 (.agg l) (.int .i64 n) .undef .undef .undef .undef .undef .undef (c8 .undef .undef .undef .undef .undef .undef .undef .undef (c8 .undef .undef .undef .undef .undef .undef .undef .undef ([.undef, .undef, .undef, .undef, .undef, .undef, .undef])))) _ _
 ((with_reducible refine Vc.seq fun N hN => ?_); (refine Vc.regiont T0_ok GOJ_ok ?_); simp only [v8Y, Nat.beq, Nat.ble, seval, tabs, GOJ_set, FA, toU8_bL, wL.eq_def, datF.eq_def, List.drop_zero]; (try simp (disch := omega) only [v8W]); (repeat (first | with_reducible intro _ | ((with_reducible refine And.intro ?_ ?_); exact sX0))); (first | (refine hN _ _ ?_; clear hN N; (try simp (disch := omega) only [v8W])) | skip))
 ((repeat with_reducible refine Vc.seq fun N hN => ?_); (first | refine Vc.regiont T0_ok GOJ_ok ?_); simp only [v8Y, Nat.beq, Nat.ble, seval, tabs, GOJ_set, p11, p21, p31, p41, FA, toU8_bL, wL.eq_def, datF.eq_def, List.drop_zero]; (try simp (disch := omega) only [v8W]); (repeat' (first | with_reducible intro _ | ((with_reducible refine And.intro ?_ ?_); exact sX4) | ((with_reducible refine askT_both (fun hb => ?_) (fun hb => ?_)) <;> ((try simp only [Bool.not_not, Bool.not_eq_true', Bool.not_eq_false'] at hb); simp only [hb, v8Y, Nat.beq, Nat.ble, seval, v8S, IntKind.bits, tabs, GOJ_set, p11, p21, p31, p41, FA, toU8_bL, wL.eq_def, datF.eq_def, List.drop_zero]; (try simp (disch := omega) only [v8W]))))); (all_goals ((refine hN _ _ ?_); (clear hN N); (try simp (disch := omega) only [v8W]))))
 all_goals ((repeat (first | ((first | ((with_reducible refine Vc.fin ?_); dsimp only [thenK, blockK, retK, resS, resOne, resAll])); (try simp only [v8Y, Nat.beq, Nat.ble, seval, tabs, GOJ_set])))); (try ((with_reducible refine Fin.of ?_); (try with_reducible exact True.intro))))
 all_goals refine ⟨by simp, ?_⟩
 all_goals (congr 1; unfold opLe; simp_all <;> omega)
noncomputable def g_Op (args : List SV) (m : List Blk) : CR :=
 match args with
 | [.agg l, .int .i64 n] => .pure (∃ x, OpR (HM m) l x) (.bool (opLe (opOf l) n))
 | _ => .none
theorem g_Op_ok (w0 : World) (B : List Nat) (args : List SV) (m : List Blk) : CROk Tryd.prog w0 B 11 args m (g_Op args m) := by
 unfold g_Op
 split
 ·rename_i l n
  intro ⟨x, hO⟩ w hm
  rw [opOf_eq hO]
  exact calls_pure Tryd.func11 rfl rfl (op_vc n l x w (hO.mono fun b o h => hm.hm h))
 ·exact trivial
def gasL (x : OpD) : List Int := [x.cg, x.vg, x.pg, x.pv, x.po]
set_option maxRecDepth 20000 in
theorem gas_vc (l : List SV) (x : OpD) (w : World) (hO : OpR (H0 w) l x) : Calls Tryd.prog 50 (cvs [.agg l]).toArray w (fun en w' => ∃ u, en = .returned u ∧ ∃ v' m', u = cv v' ∧ MemOk w [] m' w' ∧ v' = .ints .u64 (gasL x)) := by
 have hOx : ∀ m, allOld w ∈ m → OpR (HM m) l x := fun m hin => hO.mono (H0.hm hin)
 have hop := opOf_eq hO
 obtain ⟨f1, f2, f3, c0, c20, c24, c25, d25, ⟨v1, c45, a1, n1, k1, rfl, p11, p12, p13, p14, p15, p16⟩, ⟨v2, c46, a2, n2, k2, rfl, p21, p22, p23, p24, p25, p26⟩, c47, c48, c49, c50, c54, c58, c59, d59, c79, c80, ⟨v3, c81, a3, n3, k3, rfl, p31, p32, p33, p34, p35, p36⟩, ⟨v4, c82, a4, n4, k4, rfl, p41, p42, p43, p44, p45, p46⟩, ls, lf, lp, bs, bf, bp, wn, wf, wt, u1, u2, u3, u4, u5⟩ := hO
 have L1 : ∀ m, allOld w ∈ m → LiesH (HM m) a1 (cc (.ints .u8 x.fd)) := fun m hin => p14.mono (H0.hm hin)
 have T1 : x.fd.take n1 = x.fd := List.take_of_length_le (by omega)
 have L2 : ∀ m, allOld w ∈ m → LiesH (HM m) a2 (cc (.ints .u8 x.cd)) := fun m hin => p24.mono (H0.hm hin)
 have T2 : x.cd.take n2 = x.cd := List.take_of_length_le (by omega)
 have L3 : ∀ m, allOld w ∈ m → LiesH (HM m) a3 (cc (.ints .u8 x.pd)) := fun m hin => p34.mono (H0.hm hin)
 have T3 : x.pd.take n3 = x.pd := List.take_of_length_le (by omega)
 have L4 : ∀ m, allOld w ∈ m → LiesH (HM m) a4 (cc (.ints .u8 x.sg)) := fun m hin => p44.mono (H0.hm hin)
 have T4 : x.sg.take n4 = x.sg := List.take_of_length_le (by omega)
 have N1 := numI_lm wn
 have N2 := numI_lm wf
 have N3 := numI_lm wt
 unfold u64I at u1 u2 u3 u4 u5
 refine Vc.calls T0_ok Tryd.func50 rfl rfl (args := [.agg l]) (k := 13) rfl (old_start w) ?_; change Vc _ _ (c8 (.agg l) .undef .undef .undef .undef .undef .undef .undef ([.undef, .undef, .undef, .undef, .undef, .undef])) _ _
 ((repeat (first | (with_reducible refine Vc.seq fun N hN => ?_) | (with_reducible intro _) | ((with_reducible refine And.intro ?_ ?_); exact sX0) | ((first | ((with_reducible refine Vc.fin ?_); dsimp only [thenK, blockK, retK, resS, resOne, resAll]) | ((with_reducible refine Vc.hold ?_); first | refine Vc.regiont T0_ok GOJ_ok ?_)); (try simp only [v8Y, Nat.beq, Nat.ble, seval, tabs, GOJ_set, f2, f3, c0, c20, c24, c25, d25, c45, c46, c47, c48, c49, c50, c54, c58, c59, d59, c79, c80, c81, c82, N1, N2, N3, T1, T2, T3, T4, toU8_bL, wL.eq_def, datF.eq_def, List.drop_zero])) | ((with_reducible refine hN _ _ ?_); clear hN N))); (try ((with_reducible refine Fin.of ?_); (try with_reducible exact True.intro))))
 exact ⟨by simp, by first | rfl | trivial⟩
noncomputable def g_gas (args : List SV) (m : List Blk) : CR :=
 match args with
 | [.agg l] => .pure (∃ x, OpR (HM m) l x) (.ints .u64 (gasL (opOf l)))
 | _ => .none
theorem g_gas_ok (w0 : World) (B : List Nat) (args : List SV) (m : List Blk) : CROk Tryd.prog w0 B 50 args m (g_gas args m) := by
 unfold g_gas
 split
 ·rename_i l
  intro ⟨x, hO⟩ w hm
  rw [opOf_eq hO]
  exact calls_pure Tryd.func50 rfl rfl (gas_vc l x w (hO.mono fun b o h => hm.hm h))
 ·exact trivial
def tlO (x : OpD) : Bool := decide ((4096 : Int) < x.fd.length) || (decide ((4096 : Int) < x.cd.length) || (decide ((4096 : Int) < x.pd.length) || decide ((4096 : Int) < x.sg.length)))
def tgO (x : OpD) : Bool := decide (1048576 < x.cg) || (decide (1048576 < x.vg) || (decide (1048576 < x.pg) || (decide (1048576 < x.pv) || decide (1048576 < x.po))))
def wrO (x : OpD) : Bool := !eqW (shdM 120 x.mf 0) 0 || decide (0 < cmpI x.mt x.mf)
def z20 : List Int := [0, 0, 0, 0, 0, 0, 0, 0, 0, 0, 0, 0, 0, 0, 0, 0, 0, 0, 0, 0]
def sfO (x : OpD) : Bool := !x.hf && (!decide (x.fac = z20) || decide ((0 : Int) < x.fd.length))
def spO (x : OpD) : Bool := !x.hp && (!decide (x.pay = z20) || (decide ((0 : Int) < x.pd.length) || (decide (0 < x.pv) || decide (0 < x.po))))
def chkO (x : OpD) : Bool := tlO x || (tgO x || (wrO x || (sfO x || spO x)))
end Go.Proofs.YthdpgfdfgidokaaDoor
