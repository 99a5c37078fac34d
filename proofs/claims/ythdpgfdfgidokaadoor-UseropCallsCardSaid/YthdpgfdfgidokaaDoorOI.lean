/-
 Package userop: Spans, Now, Gas, Prefund, Price, walked. No condition.
-/
import Derived.Test.YthdpgfdfgidokaaDoorOG
import Derived.Test.YthdpgfdfgidokaaDoorEO
set_option maxRecDepth 10000
set_option maxHeartbeats 4000000
set_option linter.defProp false
set_option linter.unusedVariables false
set_option linter.unusedSimpArgs false
namespace Go.Proofs.YthdpgfdfgidokaaDoor
open Go.RowKit
def tmN (bit a : Nat) : Int := bits .and .u64 (lm (shdM bit a 0) 0 : Nat) 281474976710655
def spB (a : Nat) : Bool := !decide (bytI a 20 = z20)
noncomputable def GOP : Ctr := fun f args m => match f with
 | 52 => g_From args m
 | 43 => g_rFrom args m
 | 141 => g_Small args m
 | 109 => g_lowByte args m
 | 120 => g_Shl args m
 | 89 => g_Shr args m
 | 54 => g_Cmp args m
 | 53 => g_Add args m
 | 51 => g_Mul args m
 | 93 => g_length args m
 | 102 => g_Read args m
 | 79 => g_Addr args m
 | 67 => g_Wide args m
 | 101 => g_Bytes args m
 | _ => .none
theorem GOP_ok : GOk Tryd.prog GOP := by
 intro w0 B f args m; unfold GOP; split
 ·exact g_From_ok _ _ _ _
 ·exact g_rFrom_ok _ _ _ _
 ·exact g_Small_ok _ _ _ _
 ·exact g_lowByte_ok _ _ _ _
 ·exact g_Shl_ok _ _ _ _
 ·exact g_Shr_ok _ _ _ _
 ·exact g_Cmp_ok _ _ _ _
 ·exact g_Add_ok _ _ _ _
 ·exact g_Mul_ok _ _ _ _
 ·exact g_length_ok _ _ _ _
 ·exact g_Read_ok _ _ _ _
 ·exact g_Addr_ok _ _ _ _
 ·exact g_Wide_ok _ _ _ _
 ·exact g_Bytes_ok _ _ _ _
 ·exact trivial
theorem GOP_From : GOP 52 = g_From := by funext args m; rfl
theorem GOP_rFrom : GOP 43 = g_rFrom := by funext args m; rfl
theorem GOP_Small : GOP 141 = g_Small := by funext args m; rfl
theorem GOP_lowByte : GOP 109 = g_lowByte := by funext args m; rfl
theorem GOP_Shl : GOP 120 = g_Shl := by funext args m; rfl
theorem GOP_Shr : GOP 89 = g_Shr := by funext args m; rfl
theorem GOP_Cmp : GOP 54 = g_Cmp := by funext args m; rfl
theorem GOP_Add : GOP 53 = g_Add := by funext args m; rfl
theorem GOP_Mul : GOP 51 = g_Mul := by funext args m; rfl
theorem GOP_length : GOP 93 = g_length := by funext args m; rfl
theorem GOP_Read : GOP 102 = g_Read := by funext args m; rfl
theorem GOP_Addr : GOP 79 = g_Addr := by funext args m; rfl
theorem GOP_Wide : GOP 67 = g_Wide := by funext args m; rfl
theorem GOP_Bytes : GOP 101 = g_Bytes := by funext args m; rfl
def GOP_set := And.intro (And.intro (And.intro (And.intro (@GOP_From) (And.intro (@g_From.eq_def) (@GOP_rFrom))) (And.intro (And.intro (@g_rFrom.eq_def) (@GOP_Small)) (And.intro (@g_Small.eq_def) (@GOP_lowByte)))) (And.intro (And.intro (@g_lowByte.eq_def) (And.intro (@GOP_Shl) (@g_Shl.eq_def))) (And.intro (And.intro (@GOP_Shr) (@g_Shr.eq_def)) (And.intro (@GOP_Cmp) (@g_Cmp.eq_def))))) (And.intro (And.intro (And.intro (@GOP_Add) (And.intro (@g_Add.eq_def) (@GOP_Mul))) (And.intro (And.intro (@g_Mul.eq_def) (@GOP_length)) (And.intro (@g_length.eq_def) (@GOP_Read)))) (And.intro (And.intro (@g_Read.eq_def) (And.intro (@GOP_Addr) (@g_Addr.eq_def))) (And.intro (And.intro (@GOP_Wide) (@g_Wide.eq_def)) (And.intro (@GOP_Bytes) (@g_Bytes.eq_def)))))

theorem timeAt_vc (a bit : Nat) (ha : a < W) (hb : bit ≤ 256) (w : World) : Calls Tryd.prog 80 (cvs [.word a, .int .u64 (bit : Int)]).toArray w (fun en w' => ∃ u, en = .returned u ∧ ∃ v' m', u = cv v' ∧ MemOk w [] m' w' ∧ v' = .int .u64 (tmN bit a)) := by
 have hb2 : bit < W := Nat.lt_of_le_of_lt hb (by decide +kernel)
 have e1 : (bit : Int).toNat = bit := Int.toNat_natCast bit
 refine Vc.calls T0_ok Tryd.func80 rfl rfl (args := [.word a, .int .u64 (bit : Int)]) (k := 9) rfl (MemOk.start _) ?_; change Vc _ _ (c8 (.word a) (.int .u64 (bit : Int)) .undef .undef .undef .undef .undef .undef ([.undef, .undef, .undef])) _ _
 ((repeat (first | (with_reducible refine Vc.seq fun N hN => ?_) | (with_reducible intro _) | ((with_reducible refine And.intro ?_ ?_); exact sdB) | ((first | ((with_reducible refine Vc.fin ?_); dsimp only [thenK, blockK, retK, resS, resOne, resAll]) | ((with_reducible refine Vc.hold ?_); first | refine Vc.regiont T0_ok GOP_ok ?_ | refine Vc.drawt (id := 1) T0_ok GOP_ok (by kernel_rfl) [0, 2, 1] 3 [] trivial (by kernel_rfl) ?_)); (try simp only [v8Y, Nat.beq, Nat.ble, seval, tabs, GOP_set, e1])) | ((with_reducible refine hN _ _ ?_); clear hN N))); (try ((with_reducible refine Fin.of ?_); (try with_reducible exact True.intro))))
 exact ⟨by simp, by first | rfl | trivial⟩
def g_timeAt (args : List SV) (_m : List Blk) : CR :=
 match args with
 | [.word a, .int .u64 n] => .pure (a < W ∧ 0 ≤ n ∧ n ≤ 256) (.int .u64 (tmN n.toNat a))
 | _ => .none
theorem g_timeAt_ok (w0 : World) (B : List Nat) (args : List SV) (m : List Blk) : CROk Tryd.prog w0 B 80 args m (g_timeAt args m) := by
 unfold g_timeAt
 split
 ·rename_i a n
  intro ⟨h1, h2, h3⟩ w hm
  obtain ⟨k, rfl⟩ := Int.eq_ofNat_of_zero_le h2
  exact calls_pure Tryd.func80 rfl rfl (timeAt_vc a k h1 (by omega) w)
 ·exact trivial
def spV (a : Nat) : SV := .agg [.bool (spB a), .int .u64 (tmN 208 a), .int .u64 (tmN 160 a)]
noncomputable def GOQ : Ctr := fun f args m => match f with
 | 52 => g_From args m
 | 43 => g_rFrom args m
 | 141 => g_Small args m
 | 109 => g_lowByte args m
 | 120 => g_Shl args m
 | 89 => g_Shr args m
 | 54 => g_Cmp args m
 | 53 => g_Add args m
 | 51 => g_Mul args m
 | 93 => g_length args m
 | 102 => g_Read args m
 | 79 => g_Addr args m
 | 67 => g_Wide args m
 | 101 => g_Bytes args m
 | 80 => g_timeAt args m
 | _ => .none
theorem GOQ_ok : GOk Tryd.prog GOQ := by
 intro w0 B f args m; unfold GOQ; split
 ·exact g_From_ok _ _ _ _
 ·exact g_rFrom_ok _ _ _ _
 ·exact g_Small_ok _ _ _ _
 ·exact g_lowByte_ok _ _ _ _
 ·exact g_Shl_ok _ _ _ _
 ·exact g_Shr_ok _ _ _ _
 ·exact g_Cmp_ok _ _ _ _
 ·exact g_Add_ok _ _ _ _
 ·exact g_Mul_ok _ _ _ _
 ·exact g_length_ok _ _ _ _
 ·exact g_Read_ok _ _ _ _
 ·exact g_Addr_ok _ _ _ _
 ·exact g_Wide_ok _ _ _ _
 ·exact g_Bytes_ok _ _ _ _
 ·exact g_timeAt_ok _ _ _ _
 ·exact trivial
theorem GOQ_From : GOQ 52 = g_From := by funext args m; rfl
theorem GOQ_rFrom : GOQ 43 = g_rFrom := by funext args m; rfl
theorem GOQ_Small : GOQ 141 = g_Small := by funext args m; rfl
theorem GOQ_lowByte : GOQ 109 = g_lowByte := by funext args m; rfl
theorem GOQ_Shl : GOQ 120 = g_Shl := by funext args m; rfl
theorem GOQ_Shr : GOQ 89 = g_Shr := by funext args m; rfl
theorem GOQ_Cmp : GOQ 54 = g_Cmp := by funext args m; rfl
theorem GOQ_Add : GOQ 53 = g_Add := by funext args m; rfl
theorem GOQ_Mul : GOQ 51 = g_Mul := by funext args m; rfl
theorem GOQ_length : GOQ 93 = g_length := by funext args m; rfl
theorem GOQ_Read : GOQ 102 = g_Read := by funext args m; rfl
theorem GOQ_Addr : GOQ 79 = g_Addr := by funext args m; rfl
theorem GOQ_Wide : GOQ 67 = g_Wide := by funext args m; rfl
theorem GOQ_Bytes : GOQ 101 = g_Bytes := by funext args m; rfl
theorem GOQ_timeAt : GOQ 80 = g_timeAt := by funext args m; rfl
def GOQ_set := And.intro (And.intro (And.intro (And.intro (@GOQ_From) (And.intro (@g_From.eq_def) (@GOQ_rFrom))) (And.intro (And.intro (@g_rFrom.eq_def) (@GOQ_Small)) (And.intro (@g_Small.eq_def) (@GOQ_lowByte)))) (And.intro (And.intro (And.intro (@g_lowByte.eq_def) (@GOQ_Shl)) (And.intro (@g_Shl.eq_def) (@GOQ_Shr))) (And.intro (And.intro (@g_Shr.eq_def) (@GOQ_Cmp)) (And.intro (@g_Cmp.eq_def) (@GOQ_Add))))) (And.intro (And.intro (And.intro (@g_Add.eq_def) (And.intro (@GOQ_Mul) (@g_Mul.eq_def))) (And.intro (And.intro (@GOQ_length) (@g_length.eq_def)) (And.intro (@GOQ_Read) (@g_Read.eq_def)))) (And.intro (And.intro (And.intro (@GOQ_Addr) (@g_Addr.eq_def)) (And.intro (@GOQ_Wide) (@g_Wide.eq_def))) (And.intro (And.intro (@GOQ_Bytes) (@g_Bytes.eq_def)) (And.intro (@GOQ_timeAt) (@g_timeAt.eq_def)))))

theorem spans_vc (a : Nat) (ha : a < W) (w : World) : Calls Tryd.prog 36 (cvs [.word a]).toArray w (fun en w' => ∃ u, en = .returned u ∧ ∃ v' m', u = cv v' ∧ MemOk w [] m' w' ∧ v' = spV a) := by
 have e1 : (208 : Int).toNat = 208 := rfl
 have e2 : (160 : Int).toNat = 160 := rfl
 have e3 : (!decide (bytI a 20 = [0, 0, 0, 0, 0, 0, 0, 0, 0, 0, 0, 0, 0, 0, 0, 0, 0, 0, 0, 0])) = spB a := rfl
 have hl := bytI_len a 20
 refine Vc.calls T0_ok Tryd.func36 rfl rfl (args := [.word a]) (k := 11) rfl (MemOk.start _) ?_; change Vc _ _ (c8 (.word a) .undef .undef .undef .undef .undef .undef .undef ([.undef, .undef, .undef, .undef])) _ _
 ((repeat (first | (with_reducible refine Vc.seq fun N hN => ?_) | (with_reducible intro _) | ((with_reducible refine And.intro ?_ ?_); exact sdB) | ((first | ((with_reducible refine Vc.fin ?_); dsimp only [thenK, blockK, retK, resS, resOne, resAll]) | ((with_reducible refine Vc.hold ?_); first | refine Vc.regiont T0_ok GOQ_ok ?_ | refine Vc.drawt (id := 1) T0_ok GOQ_ok (by kernel_rfl) [0, 2, 4, 6, 1, 3, 5, 7] 8 [] trivial (by kernel_rfl) ?_)); (try simp only [v8Y, Nat.beq, Nat.ble, seval, tabs, GOQ_set, e1, e2, e3])) | ((with_reducible refine hN _ _ ?_); clear hN N))); (try ((with_reducible refine Fin.of ?_); (try with_reducible exact True.intro))))
 exact ⟨by simp, by first | rfl | trivial⟩
def g_spans (args : List SV) (_m : List Blk) : CR :=
 match args with
 | [.word a] => .pure (a < W) (.agg [.bool (spB a), .int .u64 (tmN 208 a), .int .u64 (tmN 160 a)])
 | _ => .none
theorem g_spans_ok (w0 : World) (B : List Nat) (args : List SV) (m : List Blk) : CROk Tryd.prog w0 B 36 args m (g_spans args m) := by
 unfold g_spans
 split
 ·rename_i a
  intro h1 w hm
  exact calls_pure Tryd.func36 rfl rfl (spans_vc a h1 w)
 ·exact trivial
def nowO (b : Bool) (af un t : Int) : Bool := !b && (decide (af ≤ t) && (decide (un = 0) || decide (t ≤ un)))
theorem now_vc (b : Bool) (af un t : Int) (w : World) : Calls Tryd.prog 38 (cvs [.agg [.bool b, .int .u64 af, .int .u64 un], .int .u64 t]).toArray w (fun en w' => ∃ u, en = .returned u ∧ ∃ v' m', u = cv v' ∧ MemOk w [] m' w' ∧ v' = .bool (nowO b af un t)) := by
 refine Vc.calls T0_ok Tryd.func38 rfl rfl (args := [.agg [.bool b, .int .u64 af, .int .u64 un], .int .u64 t]) (k := 23) rfl (MemOk.start _) ?_; change Vc _ _ (c8 (.agg [.bool b, .int .u64 af, .int .u64 un]) (.int .u64 t) .undef .undef .undef .undef .undef .undef (c8 .undef .undef .undef .undef .undef .undef .undef .undef (c8 .undef .undef .undef .undef .undef .undef .undef .undef ([.undef])))) _ _
 ((with_reducible refine Vc.seq fun N hN => ?_); (refine Vc.regiont T0_ok GOJ_ok ?_); simp only [v8Y, Nat.beq, Nat.ble, seval, tabs, GOJ_set]; (try simp (disch := omega) only [v8W]); (repeat (first | with_reducible intro _ | ((with_reducible refine And.intro ?_ ?_); exact sdB))); (first | (refine hN _ _ ?_; clear hN N; (try simp (disch := omega) only [v8W])) | skip))
 ((repeat with_reducible refine Vc.seq fun N hN => ?_); (first | refine Vc.regiont T0_ok GOJ_ok ?_); simp only [v8Y, Nat.beq, Nat.ble, seval, tabs, GOJ_set]; (try simp (disch := omega) only [v8W]); (repeat' (first | with_reducible intro _ | ((with_reducible refine And.intro ?_ ?_); exact sdB) | ((with_reducible refine askT_both (fun hb => ?_) (fun hb => ?_)) <;> ((try simp only [Bool.not_not, Bool.not_eq_true', Bool.not_eq_false'] at hb); simp only [hb, v8Y, Nat.beq, Nat.ble, seval, v8S, IntKind.bits, tabs, GOJ_set]; (try simp (disch := omega) only [v8W]))))); (all_goals ((refine hN _ _ ?_); (clear hN N); (try simp (disch := omega) only [v8W]))))
 all_goals ((repeat (first | ((first | ((with_reducible refine Vc.fin ?_); dsimp only [thenK, blockK, retK, resS, resOne, resAll])); (try simp only [v8Y, Nat.beq, Nat.ble, seval, tabs, GOJ_set])))); (try ((with_reducible refine Fin.of ?_); (try with_reducible exact True.intro))))
 all_goals refine ⟨by simp, ?_⟩
 all_goals (congr 1; unfold nowO; simp_all <;> omega)
def g_now (args : List SV) (_m : List Blk) : CR :=
 match args with
 | [.agg [.bool b, .int .u64 af, .int .u64 un], .int .u64 t] => .pure True (.bool (nowO b af un t))
 | _ => .none
theorem g_now_ok (w0 : World) (B : List Nat) (args : List SV) (m : List Blk) : CROk Tryd.prog w0 B 38 args m (g_now args m) := by
 unfold g_now
 split
 ·rename_i b af un t
  intro _ w hm
  exact calls_pure Tryd.func38 rfl rfl (now_vc b af un t w)
 ·exact trivial
def gasN (x : OpD) : Int := x.cg + x.vg + x.pg + x.pv + x.po
def sumI : List Int → Int
 | [] => 0
 | y :: l => y + sumI l
theorem sumI_app (a b : List Int) : sumI (a ++ b) = sumI a + sumI b := by
 induction a with
 | nil => simp [sumI]
 | cons y a ih => simp only [List.cons_append, sumI, ih]; omega
theorem sumI_s {xs : List Int} {i : Nat} {y : Int} (h : xs[i]? = some y) : sumI (xs.take (i + 1)) = sumI (xs.take i) + y := by
 rw [List.take_add_one, h, Option.toList_some, sumI_app]; simp [sumI]
theorem tgO_no {x : OpD} (h : tgO x = false) : x.cg ≤ 1048576 ∧ x.vg ≤ 1048576 ∧ x.pg ≤ 1048576 ∧ x.pv ≤ 1048576 ∧ x.po ≤ 1048576 := by
 simp only [tgO, Bool.or_eq_false_iff, decide_eq_false_iff_not] at h
 exact ⟨by omega, by omega, by omega, by omega, by omega⟩
noncomputable def GOR : Ctr := fun f args m => match f with
 | 50 => g_gas args m
 | _ => .none
theorem GOR_ok : GOk Tryd.prog GOR := by
 intro w0 B f args m; unfold GOR; split
 ·exact g_gas_ok _ _ _ _
 ·exact trivial
theorem GOR_gas : GOR 50 = g_gas := by funext args m; rfl
def GOR_set := And.intro (@GOR_gas) (@g_gas.eq_def)

set_option maxRecDepth 20000 in
theorem gasAll_vc (l : List SV) (x : OpD) (hg : tgO x = false) (w : World) (hO : OpR (H0 w) l x) : Calls Tryd.prog 16 (cvs [.agg l]).toArray w (fun en w' => ∃ u, en = .returned u ∧ ∃ v' m', u = cv v' ∧ MemOk w [] m' w' ∧ v' = .int .u64 (gasN x)) := by
 have hOx : ∀ m, allOld w ∈ m → OpR (HM m) l x := fun m hin => hO.mono (H0.hm hin)
 have hop := opOf_eq hO
 obtain ⟨f1, f2, f3, c0, c20, c24, c25, d25, ⟨v1, c45, a1, n1, k1, rfl, p11, p12, p13, p14, p15, p16⟩, ⟨v2, c46, a2, n2, k2, rfl, p21, p22, p23, p24, p25, p26⟩, c47, c48, c49, c50, c54, c58, c59, d59, c79, c80, ⟨v3, c81, a3, n3, k3, rfl, p31, p32, p33, p34, p35, p36⟩, ⟨v4, c82, a4, n4, k4, rfl, p41, p42, p43, p44, p45, p46⟩, ls, lf, lp, bs, bf, bp, wn, wf, wt, u1, u2, u3, u4, u5⟩ := hO
 have L1 : ∀ m, allOld w ∈ m → LiesH (HM m) a1 (cc (.ints .u8 x.fd)) := fun m hin => p14.mono (H0.hm hin)
 have T1 : x.fd.take n1 = x.fd := List.take_of_length_le (by omega)
 have L2 : ∀ m, allOld w ∈ m → LiesH (HM m) a2 (cc (.ints .u8 x.cd)) := fun m hin => p24.mono (H0.hm hin)
 have T2 : x.cd.take n2 = x.cd := List.take_of_length_le (by omega)
 have L3 : ∀ m, allOld w ∈ m → LiesH (HM m) a3 (cc (.ints .u8 x.pd)) := fun m hin => p34.mono (H0.hm hin)
 have T3 : x.pd.take n3 = x.pd := List.take_of_length_le (by omega)
 have L4 : ∀ m, allOld w ∈ m → LiesH (HM m) a4 (cc (.ints .u8 x.sg)) := fun m hin => p44.mono (H0.hm hin)
 have T4 : x.sg.take n4 = x.sg := List.take_of_length_le (by omega)
 have N1 := numI_lm wn
 have N2 := numI_lm wf
 have N3 := numI_lm wt
 unfold u64I at u1 u2 u3 u4 u5
 obtain ⟨b1, b2, b3, b4, b5⟩ := tgO_no hg
 have hgl : (gasL x).length = 5 := rfl
 have hgb : ∀ (i : Nat) (y : Int), (gasL x)[i]? = some y → 0 ≤ y ∧ y ≤ 1048576 := fun i y hy => by
  match i, hy with
  | 0, hy => cases hy; omega
  | 1, hy => cases hy; omega
  | 2, hy => cases hy; omega
  | 3, hy => cases hy; omega
  | 4, hy => cases hy; omega
  | i + 5, hy => simp [gasL] at hy
 refine Vc.calls T0_ok Tryd.func16 rfl rfl (args := [.agg l]) (k := 15) rfl (old_start w) ?_; change Vc _ _ (c8 (.agg l) .undef .undef .undef .undef .undef .undef .undef (c8 .undef .undef .undef .undef .undef .undef .undef .undef ([]))) _ _
 ((repeat (first | (with_reducible first | refine Vc.seq fun N hN => ?_ | refine Vc.block ?_) | (with_reducible intro _) | ((with_reducible refine And.intro ?_ ?_); exact sX4) | ((first | ((with_reducible refine Vc.hold ?_); first | refine Vc.regiont T0_ok GOR_ok ?_)); (try simp only [v8Y, Nat.beq, Nat.ble, seval, tabs, GOR_set, hop, f2, f3, c0, c20, c24, c25, d25, c45, c46, c47, c48, c49, c50, c54, c58, c59, d59, c79, c80, c81, c82, N1, N2, N3, T1, T2, T3, T4, toU8_bL, wL.eq_def, datF.eq_def, List.drop_zero])) | ((with_reducible refine hN _ _ ?_); clear hN N))))
 rename_i b0
 (revert N; intro N1 hN1)
 refine Vc.loop 3 15 (fun (k : Nat) => [(3, .int .u64 (sumI ((gasL x).take k))), (7, .ints .u64 (gasL x)), (8, .int .i64 (k : Nat))]) (fun _ => [allOld w, .blk b0 29 (.cells l)]) (fun k => k ≤ 5 ∧ 0 ≤ sumI ((gasL x).take k) ∧ sumI ((gasL x).take k) ≤ k * 1048576) (fun k => 5 - k) 0 ⟨⟨by omega, by simp [sumI], by simp [sumI]⟩, ?_, ?_⟩ (fun k junk hk => ?_)
 ·((try simp only [v8Y, Nat.beq, Nat.ble, seval, tabs]); (repeat' with_reducible apply And.intro) <;> first | with_reducible exact True.intro | rfl | with_reducible rfl | (congr 1 <;> omega) | trivial)
 ·((try simp only [v8Y, Nat.beq, Nat.ble, seval, tabs]); (repeat' with_reducible apply And.intro) <;> first | with_reducible exact True.intro | rfl | with_reducible rfl | (congr 1 <;> omega) | trivial)
 ·obtain ⟨hk1, hk2, hk3⟩ := hk
  (simp only [v8Y, Nat.beq, Nat.ble, seval, tabs])
  by_cases hc1 : k < 5
  ·have d1 : decide ((k : Int) < 5) = true := decide_eq_true (by omega)
   have e1 := getD_get (xs := gasL x) (0 : Int) (show k < (gasL x).length by omega)
   have hs := sumI_s e1
   have hb := hgb _ _ e1
   have tk : ((k : Nat) : Int).toNat = k := by omega
   have e9 := w64c (x := sumI ((gasL x).take k) + (gasL x).getD k 0) (by omega)
   rename_i hbb
   ((repeat (first | (with_reducible refine Vc.seq fun N hN => ?_) | ((with_reducible refine And.intro ?_ ?_); exact sdB) | ((first | ((with_reducible refine Vc.hold ?_); first | refine Vc.regiont T0_ok GOR_ok ?_)); (try simp only [v8Y, Nat.beq, Nat.ble, seval, tabs, GOR_set, d1])) | ((with_reducible refine hN _ _ ?_); clear hN N))))
   (refine Vc.cond T0_ok (t := true) (by rfl) (fun _ => ?_) (fun h => Bool.noConfusion h))
   ((repeat (first | (with_reducible first | refine Vc.seq fun N hN => ?_ | refine Vc.block ?_) | ((first | with_reducible refine Vc.skip ?_); dsimp only [thenK, blockK, Nat.beq]; (first | (refine hN _ _ ?_; clear hN N))) | ((with_reducible refine And.intro ?_ ?_); exact sdB) | ((first | ((with_reducible refine Vc.hold ?_); first | refine Vc.regiont T0_ok GOR_ok ?_)); (try simp only [v8Y, Nat.beq, Nat.ble, seval, tabs, GOR_set, tk, e9, hgl])) | ((with_reducible refine hN _ _ ?_); clear hN N))))
   refine ⟨k + 1, ⟨by omega, by rw [hs]; omega, by rw [hs]; omega⟩, ?_, ?_, by omega⟩
   ·((try simp only [v8Y, Nat.beq, Nat.ble, seval, tabs]); (repeat' with_reducible apply And.intro) <;> first | with_reducible exact True.intro | (rw [hs]) | (congr 1 <;> omega))
   ·((try simp only [v8Y, Nat.beq, Nat.ble, seval, tabs]); (repeat' with_reducible apply And.intro) <;> first | with_reducible exact True.intro | rfl | (congr 1 <;> omega))
  ·have d1 : decide ((k : Int) < 5) = false := decide_eq_false (by omega)
   obtain rfl : k = 5 := by omega
   have e2 : sumI ((gasL x).take 5) = gasN x := by simp only [gasL, gasN, List.take_succ_cons, List.take_zero, sumI]; omega
   rw [e2]
   ((repeat (first | (with_reducible refine Vc.seq fun N hN => ?_) | ((with_reducible refine And.intro ?_ ?_); exact sdB) | ((first | ((with_reducible refine Vc.hold ?_); first | refine Vc.regiont T0_ok GOR_ok ?_)); (try simp only [v8Y, Nat.beq, Nat.ble, seval, tabs, GOR_set, d1])) | ((with_reducible refine hN _ _ ?_); clear hN N))))
   (refine Vc.cond T0_ok (t := false) (by rfl) (fun h => Bool.noConfusion h) (fun _ => ?_))
   ((repeat (first | ((first | with_reducible refine Vc.exit ?_); dsimp only [thenK, blockK, Nat.beq]; (first | skip)))))
   (refine hN1 _ _ ?_; (try clear hN N); clear hN1 N1)
   ((repeat (first | (with_reducible refine Vc.seq fun N hN => ?_) | ((with_reducible refine And.intro ?_ ?_); exact sdB) | ((first | ((with_reducible refine Vc.fin ?_); dsimp only [thenK, blockK, retK, resS, resOne, resAll]) | ((with_reducible refine Vc.hold ?_); first | refine Vc.regiont T0_ok GOR_ok ?_)); (try simp only [v8Y, Nat.beq, Nat.ble, seval, tabs, GOR_set, ])) | ((with_reducible refine hN _ _ ?_); clear hN N))); (try ((with_reducible refine Fin.of ?_); (try with_reducible exact True.intro))))
   exact ⟨trivial, by first | rfl | trivial⟩
noncomputable def g_gasAll (args : List SV) (m : List Blk) : CR :=
 match args with
 | [.agg l] => .pure (∃ x, OpR (HM m) l x ∧ tgO x = false) (.int .u64 (gasN (opOf l)))
 | _ => .none
theorem g_gasAll_ok (w0 : World) (B : List Nat) (args : List SV) (m : List Blk) : CROk Tryd.prog w0 B 16 args m (g_gasAll args m) := by
 unfold g_gasAll
 split
 ·rename_i l
  intro ⟨x, hO, hg⟩ w hm
  rw [opOf_eq hO]
  exact calls_pure Tryd.func16 rfl rfl (gasAll_vc l x hg w (hO.mono fun b o h => hm.hm h))
 ·exact trivial
def pfN (x : OpD) : Nat := mulN (gasN x).toNat x.mf
noncomputable def GOS : Ctr := fun f args m => match f with
 | 52 => g_From args m
 | 43 => g_rFrom args m
 | 141 => g_Small args m
 | 109 => g_lowByte args m
 | 120 => g_Shl args m
 | 89 => g_Shr args m
 | 54 => g_Cmp args m
 | 53 => g_Add args m
 | 51 => g_Mul args m
 | 93 => g_length args m
 | 102 => g_Read args m
 | 79 => g_Addr args m
 | 67 => g_Wide args m
 | 101 => g_Bytes args m
 | 16 => g_gasAll args m
 | _ => .none
theorem GOS_ok : GOk Tryd.prog GOS := by
 intro w0 B f args m; unfold GOS; split
 ·exact g_From_ok _ _ _ _
 ·exact g_rFrom_ok _ _ _ _
 ·exact g_Small_ok _ _ _ _
 ·exact g_lowByte_ok _ _ _ _
 ·exact g_Shl_ok _ _ _ _
 ·exact g_Shr_ok _ _ _ _
 ·exact g_Cmp_ok _ _ _ _
 ·exact g_Add_ok _ _ _ _
 ·exact g_Mul_ok _ _ _ _
 ·exact g_length_ok _ _ _ _
 ·exact g_Read_ok _ _ _ _
 ·exact g_Addr_ok _ _ _ _
 ·exact g_Wide_ok _ _ _ _
 ·exact g_Bytes_ok _ _ _ _
 ·exact g_gasAll_ok _ _ _ _
 ·exact trivial
theorem GOS_From : GOS 52 = g_From := by funext args m; rfl
theorem GOS_rFrom : GOS 43 = g_rFrom := by funext args m; rfl
theorem GOS_Small : GOS 141 = g_Small := by funext args m; rfl
theorem GOS_lowByte : GOS 109 = g_lowByte := by funext args m; rfl
theorem GOS_Shl : GOS 120 = g_Shl := by funext args m; rfl
theorem GOS_Shr : GOS 89 = g_Shr := by funext args m; rfl
theorem GOS_Cmp : GOS 54 = g_Cmp := by funext args m; rfl
theorem GOS_Add : GOS 53 = g_Add := by funext args m; rfl
theorem GOS_Mul : GOS 51 = g_Mul := by funext args m; rfl
theorem GOS_length : GOS 93 = g_length := by funext args m; rfl
theorem GOS_Read : GOS 102 = g_Read := by funext args m; rfl
theorem GOS_Addr : GOS 79 = g_Addr := by funext args m; rfl
theorem GOS_Wide : GOS 67 = g_Wide := by funext args m; rfl
theorem GOS_Bytes : GOS 101 = g_Bytes := by funext args m; rfl
theorem GOS_gasAll : GOS 16 = g_gasAll := by funext args m; rfl
def GOS_set := And.intro (And.intro (And.intro (And.intro (@GOS_From) (And.intro (@g_From.eq_def) (@GOS_rFrom))) (And.intro (And.intro (@g_rFrom.eq_def) (@GOS_Small)) (And.intro (@g_Small.eq_def) (@GOS_lowByte)))) (And.intro (And.intro (And.intro (@g_lowByte.eq_def) (@GOS_Shl)) (And.intro (@g_Shl.eq_def) (@GOS_Shr))) (And.intro (And.intro (@g_Shr.eq_def) (@GOS_Cmp)) (And.intro (@g_Cmp.eq_def) (@GOS_Add))))) (And.intro (And.intro (And.intro (@g_Add.eq_def) (And.intro (@GOS_Mul) (@g_Mul.eq_def))) (And.intro (And.intro (@GOS_length) (@g_length.eq_def)) (And.intro (@GOS_Read) (@g_Read.eq_def)))) (And.intro (And.intro (And.intro (@GOS_Addr) (@g_Addr.eq_def)) (And.intro (@GOS_Wide) (@g_Wide.eq_def))) (And.intro (And.intro (@GOS_Bytes) (@g_Bytes.eq_def)) (And.intro (@GOS_gasAll) (@g_gasAll.eq_def)))))

set_option maxRecDepth 20000 in
theorem prefund_vc (l : List SV) (x : OpD) (hg : tgO x = false) (w : World) (hO : OpR (H0 w) l x) : Calls Tryd.prog 18 (cvs [.agg l]).toArray w (fun en w' => ∃ u, en = .returned u ∧ ∃ v' m', u = cv v' ∧ MemOk w [] m' w' ∧ v' = .word (pfN x)) := by
 have hOx : ∀ m, allOld w ∈ m → OpR (HM m) l x := fun m hin => hO.mono (H0.hm hin)
 have hop := opOf_eq hO
 obtain ⟨f1, f2, f3, c0, c20, c24, c25, d25, ⟨v1, c45, a1, n1, k1, rfl, p11, p12, p13, p14, p15, p16⟩, ⟨v2, c46, a2, n2, k2, rfl, p21, p22, p23, p24, p25, p26⟩, c47, c48, c49, c50, c54, c58, c59, d59, c79, c80, ⟨v3, c81, a3, n3, k3, rfl, p31, p32, p33, p34, p35, p36⟩, ⟨v4, c82, a4, n4, k4, rfl, p41, p42, p43, p44, p45, p46⟩, ls, lf, lp, bs, bf, bp, wn, wf, wt, u1, u2, u3, u4, u5⟩ := hO
 have L1 : ∀ m, allOld w ∈ m → LiesH (HM m) a1 (cc (.ints .u8 x.fd)) := fun m hin => p14.mono (H0.hm hin)
 have T1 : x.fd.take n1 = x.fd := List.take_of_length_le (by omega)
 have L2 : ∀ m, allOld w ∈ m → LiesH (HM m) a2 (cc (.ints .u8 x.cd)) := fun m hin => p24.mono (H0.hm hin)
 have T2 : x.cd.take n2 = x.cd := List.take_of_length_le (by omega)
 have L3 : ∀ m, allOld w ∈ m → LiesH (HM m) a3 (cc (.ints .u8 x.pd)) := fun m hin => p34.mono (H0.hm hin)
 have T3 : x.pd.take n3 = x.pd := List.take_of_length_le (by omega)
 have L4 : ∀ m, allOld w ∈ m → LiesH (HM m) a4 (cc (.ints .u8 x.sg)) := fun m hin => p44.mono (H0.hm hin)
 have T4 : x.sg.take n4 = x.sg := List.take_of_length_le (by omega)
 have N1 := numI_lm wn
 have N2 := numI_lm wf
 have N3 := numI_lm wt
 unfold u64I at u1 u2 u3 u4 u5
 obtain ⟨b1, b2, b3, b4, b5⟩ := tgO_no hg
 have g1 : 0 ≤ gasN x ∧ gasN x ≤ 18446744073709551615 := by unfold gasN; omega
 have g2 : (gasN x).toNat < W := by unfold W; omega
 have hpf : mulN (gasN x).toNat x.mf = pfN x := rfl
 have hpl : pfN x < W := mulN_lt _ _
 refine Vc.calls T0_ok Tryd.func18 rfl rfl (args := [.agg l]) (k := 14) rfl (old_start w) ?_; change Vc _ _ (c8 (.agg l) .undef .undef .undef .undef .undef .undef .undef ([.undef, .undef, .undef, .undef, .undef, .undef, .undef])) _ _
 ((repeat (first | (with_reducible refine Vc.seq fun N hN => ?_) | (with_reducible intro _) | ((with_reducible refine And.intro ?_ ?_); (focus (first | ((repeat' with_reducible apply And.intro) <;> first | exact sideQ | (exact ⟨x, hOx _ (by simp), hg⟩) | (exact allU_lm _) | (simp [allU]; done)) | exact sd0))) | ((first | ((with_reducible refine Vc.fin ?_); dsimp only [thenK, blockK, retK, resS, resOne, resAll]) | ((with_reducible refine Vc.hold ?_); first | refine Vc.regiont T0_ok GOS_ok ?_ | refine Vc.drawt (id := 1) T0_ok GOS_ok (by kernel_rfl) [0, 3, 4, 1, 2, 5, 6, 7, 8] 10 [⟨9, 3, 26, _⟩] ⟨⟨⟨_, _, rfl⟩, zc_26⟩, trivial⟩ (by kernel_rfl) ?_)); (try simp only [v8Y, Nat.beq, Nat.ble, seval, tabs, GOS_set, hop, hpf, f2, f3, c0, c20, c24, c25, d25, c45, c46, c47, c48, c49, c50, c54, c58, c59, d59, c79, c80, c81, c82, N1, N2, N3, T1, T2, T3, T4, toU8_bL, wL.eq_def, datF.eq_def, List.drop_zero])) | ((with_reducible refine hN _ _ ?_); clear hN N))); (try ((with_reducible refine Fin.of ?_); (try with_reducible exact True.intro))))
 exact ⟨by simp, by first | rfl | trivial⟩
noncomputable def g_prefund (args : List SV) (m : List Blk) : CR :=
 match args with
 | [.agg l] => .pure (∃ x, OpR (HM m) l x ∧ tgO x = false) (.word (pfN (opOf l)))
 | _ => .none
theorem g_prefund_ok (w0 : World) (B : List Nat) (args : List SV) (m : List Blk) : CROk Tryd.prog w0 B 18 args m (g_prefund args m) := by
 unfold g_prefund
 split
 ·rename_i l
  intro ⟨x, hO, hg⟩ w hm
  rw [opOf_eq hO]
  exact calls_pure Tryd.func18 rfl rfl (prefund_vc l x hg w (hO.mono fun b o h => hm.hm h))
 ·exact trivial
end Go.Proofs.YthdpgfdfgidokaaDoor
