/-
 A product as by hand, digit by digit of 32 bits: plain arithmetic, no program.
-/
import Derived.Test.YtjonbbmnjbnefaaDoorR2
import Derived.Test.YtjonbbmnjbnefaaDoorX1
import Derived.Test.YtjonbbmnjbnefaaDoorA1
set_option maxRecDepth 10000
set_option maxHeartbeats 4000000
set_option linter.defProp false
set_option linter.unusedVariables false
set_option linter.unusedSimpArgs false
namespace Go.Proofs.YtjonbbmnjbnefaaDoor
open Go.RowKit
def g_rAdd (args : List SV) (_m : List Blk) : CR := match args with | [.word a, .word b] => .pure (a < W ∧ b < W) (.tup [.word (addN a b), .bool (addB a b)]) | _ => .none
theorem g_rAdd_ok (w0 : World) (B : List Nat) (args : List SV) (m : List Blk) : CROk Tryd.prog w0 B 55 args m (g_rAdd args m) := by
 unfold g_rAdd; split
 ·rename_i a b; exact fun h w _ => calls_pure Tryd.func55 rfl rfl (radd_vc a b h.1 h.2 w)
 ·exact trivial
def g_rCmp (args : List SV) (_m : List Blk) : CR := match args with | [.word a, .word b] => .pure (a < W ∧ b < W) (.int .i64 (cmpI a b)) | _ => .none
theorem g_rCmp_ok (w0 : World) (B : List Nat) (args : List SV) (m : List Blk) : CROk Tryd.prog w0 B 41 args m (g_rCmp args m) := by
 unfold g_rCmp; split
 ·rename_i a b; exact fun h w _ => calls_pure Tryd.func41 rfl rfl (cmp_vc a b h.1 h.2 w)
 ·exact trivial
noncomputable def G7 : Ctr := fun f args m => match f with
 | 52 => g_From args m
 | 43 => g_rFrom args m
 | 141 => g_Small args m
 | 109 => g_lowByte args m
 | 120 => g_Shl args m
 | 89 => g_Shr args m
 | 54 => g_Cmp args m
 | 53 => g_Add args m
 | 51 => g_Mul args m
 | 93 => g_length args m
 | 102 => g_Read args m
 | 79 => g_Addr args m
 | 67 => g_Wide args m
 | 101 => g_Bytes args m
 | 55 => g_rAdd args m
 | 41 => g_rCmp args m
 | _ => .none
theorem G7_ok : GOk Tryd.prog G7 := by
 intro w0 B f args m; unfold G7; split
 ·exact g_From_ok _ _ _ _
 ·exact g_rFrom_ok _ _ _ _
 ·exact g_Small_ok _ _ _ _
 ·exact g_lowByte_ok _ _ _ _
 ·exact g_Shl_ok _ _ _ _
 ·exact g_Shr_ok _ _ _ _
 ·exact g_Cmp_ok _ _ _ _
 ·exact g_Add_ok _ _ _ _
 ·exact g_Mul_ok _ _ _ _
 ·exact g_length_ok _ _ _ _
 ·exact g_Read_ok _ _ _ _
 ·exact g_Addr_ok _ _ _ _
 ·exact g_Wide_ok _ _ _ _
 ·exact g_Bytes_ok _ _ _ _
 ·exact g_rAdd_ok _ _ _ _
 ·exact g_rCmp_ok _ _ _ _
 ·exact trivial
theorem G7_From : G7 52 = g_From := by funext args m; rfl
theorem G7_rFrom : G7 43 = g_rFrom := by funext args m; rfl
theorem G7_Small : G7 141 = g_Small := by funext args m; rfl
theorem G7_lowByte : G7 109 = g_lowByte := by funext args m; rfl
theorem G7_Shl : G7 120 = g_Shl := by funext args m; rfl
theorem G7_Shr : G7 89 = g_Shr := by funext args m; rfl
theorem G7_Cmp : G7 54 = g_Cmp := by funext args m; rfl
theorem G7_Add : G7 53 = g_Add := by funext args m; rfl
theorem G7_Mul : G7 51 = g_Mul := by funext args m; rfl
theorem G7_length : G7 93 = g_length := by funext args m; rfl
theorem G7_Read : G7 102 = g_Read := by funext args m; rfl
theorem G7_Addr : G7 79 = g_Addr := by funext args m; rfl
theorem G7_Wide : G7 67 = g_Wide := by funext args m; rfl
theorem G7_Bytes : G7 101 = g_Bytes := by funext args m; rfl
theorem G7_rAdd : G7 55 = g_rAdd := by funext args m; rfl
theorem G7_rCmp : G7 41 = g_rCmp := by funext args m; rfl
def G7_set := And.intro (And.intro (And.intro (And.intro (And.intro (@G7_From) (@g_From.eq_def)) (And.intro (@G7_rFrom) (@g_rFrom.eq_def))) (And.intro (And.intro (@G7_Small) (@g_Small.eq_def)) (And.intro (@G7_lowByte) (@g_lowByte.eq_def)))) (And.intro (And.intro (And.intro (@G7_Shl) (@g_Shl.eq_def)) (And.intro (@G7_Shr) (@g_Shr.eq_def))) (And.intro (And.intro (@G7_Cmp) (@g_Cmp.eq_def)) (And.intro (@G7_Add) (@g_Add.eq_def))))) (And.intro (And.intro (And.intro (And.intro (@G7_Mul) (@g_Mul.eq_def)) (And.intro (@G7_length) (@g_length.eq_def))) (And.intro (And.intro (@G7_Read) (@g_Read.eq_def)) (And.intro (@G7_Addr) (@g_Addr.eq_def)))) (And.intro (And.intro (And.intro (@G7_Wide) (@g_Wide.eq_def)) (And.intro (@G7_Bytes) (@g_Bytes.eq_def))) (And.intro (And.intro (@G7_rAdd) (@g_rAdd.eq_def)) (And.intro (@G7_rCmp) (@g_rCmp.eq_def)))))

theorem rbit_vc (a i : Nat) (hi : i < 256) (w : World) : Calls Tryd.prog 116 (cvs [.word a, .int .i64 i]).toArray w (fun en w' => ∃ u, en = .returned u ∧ ∃ v m', u = cv v ∧ MemOk w [] m' w' ∧ v = .bool (a.testBit i)) := by
 refine Vc.calls T0_ok Tryd.func116 rfl rfl (args := [.word a, .int .i64 i]) (k := 13) rfl (MemOk.start _) ?_; change Vc _ _ (c8 (.word a) (.int .i64 i) .undef .undef .undef .undef .undef .undef ([.undef, .undef, .undef, .undef, .undef, .undef, .undef])) _ _
 ((repeat (first | (with_reducible first | refine Vc.seq fun N hN => ?_ | refine Vc.block ?_) | ((with_reducible first | refine Vc.skip ?_ | refine Vc.exit ?_); dsimp only [thenK, blockK, Nat.beq]; (first | (refine hN _ _ ?_; clear hN N) | skip)) | (with_reducible intro _) | ((with_reducible refine And.intro ?_ ?_); (focus (exact sd0))) | ((first | ((with_reducible refine askT_of ?_ (fun hb => ?_)); (focus (exact sd0)); (try simp only [hb])) | ((with_reducible refine Vc.fin ?_); dsimp only [thenK, blockK, retK, resS, resOne, resAll]) | ((with_reducible refine Vc.hold ?_); first | refine Vc.regiont T0_ok G7_ok ?_)); (try simp only [v8Y, Nat.beq, Nat.ble, Int.reduceToNat, Int.reduceLE, Int.reduceLT, Nat.reduceLT, Nat.reduceLeDiff, Nat.reduceAdd, Nat.reduceMul, Nat.reduceSub, Int.reduceAdd, Int.reduceSub, Int.reduceMul, v8S, IntKind.bits, tabs, G7_set]); (try simp (disch := omega) only [v8W])) | ((with_reducible refine hN _ _ ?_); clear hN N; (try simp (disch := omega) only [v8W])))); (try ((with_reducible refine Fin.of ?_); (try with_reducible exact True.intro))))
 ((try simp only [v8Y, Nat.beq, Nat.ble, Int.reduceToNat, Int.reduceLE, Int.reduceLT, Nat.reduceLT, Nat.reduceLeDiff, Nat.reduceAdd, Nat.reduceMul, Nat.reduceSub, Int.reduceAdd, Int.reduceSub, Int.reduceMul, v8S, IntKind.bits, tabs]); (repeat' with_reducible apply And.intro) <;> first | with_reducible exact True.intro | rw [exp_bit hi, Nat.testBit_eq_decide_div_mod_eq] | with_reducible rfl | (congr 1 <;> omega) | trivial)
def g_rbit (args : List SV) (_m : List Blk) : CR := match args with | [.word a, .int .i64 i] => .pure (0 ≤ i ∧ i < 256) (.bool (a.testBit i.toNat)) | _ => .none
theorem g_rbit_ok (w0 : World) (B : List Nat) (args : List SV) (m : List Blk) : CROk Tryd.prog w0 B 116 args m (g_rbit args m) := by
 unfold g_rbit; split
 ·rename_i a i; exact fun h w _ => calls_pure Tryd.func116 rfl rfl ((by have := rbit_vc a i.toNat (by omega) w; rw [Int.toNat_of_nonneg h.1] at this; exact this))
 ·exact trivial
end Go.Proofs.YtjonbbmnjbnefaaDoor
namespace Go.Proofs.YtjonbbmnjbnefaaDoor
def D : Nat := 4294967296
theorem D_pos : 0 < D := by decide
theorem Dp (n : Nat) : 0 < D ^ n := Nat.pow_pos D_pos
def dg (z j : Nat) : Nat := z / D ^ j % D
theorem dg_lt (z j : Nat) : dg z j < D := Nat.mod_lt _ D_pos
theorem dg_split (z j : Nat) : z / D ^ j = z / D ^ (j + 1) * D + dg z j := by
 unfold dg
 rw [Nat.pow_succ, ← Nat.div_div_eq_div_mul]
 have := Nat.div_add_mod' (z / D ^ j) D
 omega
theorem mod_split (z j : Nat) : z % D ^ (j + 1) = z % D ^ j + D ^ j * dg z j := by rw [Nat.pow_succ, Nat.mod_mul]; rfl
def mX (a b i : Nat) : Nat := a % D ^ i * b
def mT (a b i k : Nat) : Nat := mX a b i + dg a i * (b % D ^ k) * D ^ i
def mC (a b i k : Nat) : Nat := mT a b i k / D ^ (i + k) - mX a b i / D ^ (i + k)
theorem mT_0 (a b i : Nat) : mT a b i 0 = mX a b i := by unfold mT; rw [Nat.pow_zero, Nat.mod_one, Nat.mul_zero, Nat.zero_mul, Nat.add_zero]
theorem mT_8 {b : Nat} (a i : Nat) (hb : b < D ^ 8) : mT a b i 8 = mX a b (i + 1) := by
 unfold mT mX
 rw [Nat.mod_eq_of_lt hb, mod_split, Nat.add_mul]
 congr 1
 rw [Nat.mul_comm (D ^ i), Nat.mul_assoc, Nat.mul_assoc, Nat.mul_comm b]
theorem mT_succ (a b i k : Nat) : mT a b i (k + 1) = mT a b i k + dg a i * dg b k * D ^ (i + k) := by
 unfold mT
 rw [mod_split, Nat.mul_add, Nat.add_mul, Nat.add_assoc]
 congr 2
 rw [Nat.pow_add, Nat.mul_comm (D ^ k), ← Nat.mul_assoc, Nat.mul_assoc _ (D ^ k), Nat.mul_comm (D ^ k)]
theorem mT_ge (a b i k : Nat) : mX a b i ≤ mT a b i k := Nat.le_add_right _ _
theorem mT_div (a b i k : Nat) : mT a b i k / D ^ (i + k) = mX a b i / D ^ (i + k) + mC a b i k := by
 unfold mC
 have := Nat.div_le_div_right (c := D ^ (i + k)) (mT_ge a b i k)
 omega
theorem mC_0 (a b i : Nat) : mC a b i 0 = 0 := by unfold mC; rw [mT_0, Nat.sub_self]
theorem mul_step (a b i k : Nat) : mC a b i (k + 1) = (dg (mX a b i) (i + k) + dg a i * dg b k + mC a b i k) / D ∧
  dg (mT a b i (k + 1)) (i + k) = (dg (mX a b i) (i + k) + dg a i * dg b k + mC a b i k) % D := by
 have e1 : mT a b i (k + 1) / D ^ (i + k) = mX a b i / D ^ (i + k) + mC a b i k + dg a i * dg b k := by
  rw [mT_succ, Nat.add_mul_div_right _ _ (Dp _), mT_div]
 have e2 := dg_split (mX a b i) (i + k)
 generalize hu : dg a i * dg b k = u at *
 have e3 : mT a b i (k + 1) / D ^ (i + k) = mX a b i / D ^ (i + k + 1) * D + (dg (mX a b i) (i + k) + u + mC a b i k) := by
  rw [e1]; omega
 constructor
 ·have h1 : mT a b i (k + 1) / D ^ (i + k + 1) = mX a b i / D ^ (i + k + 1) + (dg (mX a b i) (i + k) + u + mC a b i k) / D := by
   rw [Nat.pow_succ, ← Nat.div_div_eq_div_mul, e3, ← Nat.pow_succ, Nat.add_comm, Nat.add_mul_div_right _ _ D_pos, Nat.add_comm]
  have h2 := mT_div a b i (k + 1)
  rw [show i + (k + 1) = i + k + 1 from rfl] at h2
  omega
 ·show mT a b i (k + 1) / D ^ (i + k) % D = _
  rw [e3, Nat.add_comm, Nat.add_mul_mod_self_right]
theorem mC_lt (a b i k : Nat) : mC a b i k < D := by
 induction k with
 | zero => rw [mC_0]; exact D_pos
 | succ k ih =>
  rw [(mul_step a b i k).1]
  have h1 := dg_lt (mX a b i) (i + k)
  have h2 : dg a i * dg b k ≤ (D - 1) * (D - 1) := Nat.mul_le_mul (Nat.le_sub_one_of_lt (dg_lt a i)) (Nat.le_sub_one_of_lt (dg_lt b k))
  rw [Nat.div_lt_iff_lt_mul D_pos]
  generalize dg a i * dg b k = u at *
  unfold D at *
  omega
theorem dg_low {x y n j : Nat} (h : x % D ^ n = y % D ^ n) (hj : j < n) : dg x j = dg y j := by
 have key : ∀ z, dg z j = z % D ^ n / D ^ j % D := by
  intro z
  have e : D ^ n = D ^ j * D ^ (n - j) := by rw [← Nat.pow_add]; congr 1; omega
  rw [e, Nat.mod_mul_right_div_self]
  unfold dg
  exact (Nat.mod_mod_of_dvd _ (by
   have : D ^ (n - j) = D * D ^ (n - j - 1) := by rw [← Nat.pow_succ']; congr 1; omega
   rw [this]; exact Nat.dvd_mul_right _ _)).symm
 rw [key, key y, h]
def mulL (a b i k : Nat) : List Int := (List.range 16).map fun j => if j < i + k then ((dg (mT a b i k) j : Nat) : Int) else ((dg (mX a b i) j : Nat) : Int)
theorem mulL_len (a b i k : Nat) : (mulL a b i k).length = 16 := by simp [mulL]
theorem mulL_get (a b i k j : Nat) (hj : j < 16) (h : i + k ≤ j) : (mulL a b i k).getD j 0 = ((dg (mX a b i) j : Nat) : Int) := by
 rw [List.getD_eq_getElem?_getD]
 simp only [mulL, List.getElem?_map, List.getElem?_range hj, Option.map_some, Option.getD_some]
 rw [if_neg (by omega)]
theorem mulL_set (a b i k : Nat) (_h : i + k < 16) : (mulL a b i k).set (i + k) ((dg (mT a b i (k + 1)) (i + k) : Nat) : Int) = mulL a b i (k + 1) := by
 apply List.ext_getElem
 ·simp [mulL]
 ·intro j h1 h2
  rw [List.getElem_set]
  simp only [mulL, List.getElem_map, List.getElem_range]
  by_cases hj : i + k = j
  ·rw [if_pos hj, if_pos (by omega), hj]
  ·rw [if_neg hj]
   by_cases hl : j < i + k
   ·rw [if_pos hl, if_pos (by omega)]
    congr 1
    refine dg_low (n := i + k) ?_ hl
    rw [mT_succ, Nat.add_mul_mod_self_right]
   ·rw [if_neg hl, if_neg (by omega)]
theorem mX_lt {a b : Nat} (i : Nat) (hb : b < D ^ 8) : mX a b i < D ^ (i + 8) := by
 unfold mX
 rw [Nat.pow_add]
 have h1 := Nat.mod_lt a (Dp i)
 rcases Nat.eq_zero_or_pos b with h0 | h0
 ·rw [h0, Nat.mul_zero]; exact Nat.mul_pos (Dp _) (Dp _)
 ·exact Nat.mul_lt_mul_of_lt_of_lt h1 hb
theorem dg_top {z n j : Nat} (h : z < D ^ n) (hj : n ≤ j) : dg z j = 0 := by
 unfold dg
 rw [Nat.div_eq_of_lt (Nat.lt_of_lt_of_le h (Nat.pow_le_pow_right D_pos hj)), Nat.zero_mod]
theorem mulL_next {a b : Nat} (i : Nat) (hb : b < D ^ 8) : (mulL a b i 8).set (i + 8) ((mC a b i 8 : Nat) : Int) = mulL a b (i + 1) 0 := by
 have hX := mX_lt (a := a) i hb
 have hX1 := mX_lt (a := a) (i + 1) hb
 have hc : mC a b i 8 = dg (mX a b (i + 1)) (i + 8) := by
  have h1 := mT_div a b i 8
  rw [Nat.div_eq_of_lt hX, Nat.zero_add, mT_8 a i hb] at h1
  unfold dg
  rw [h1]
  exact (Nat.mod_eq_of_lt (mC_lt a b i 8)).symm
 apply List.ext_getElem
 ·simp [mulL]
 ·intro j h1 h2
  rw [List.getElem_set]
  simp only [mulL, List.getElem_map, List.getElem_range, mT_8 a i hb, mT_0]
  by_cases hj : i + 8 = j
  ·rw [if_pos hj, hc, ← hj]; simp
  ·rw [if_neg hj]
   by_cases hl : j < i + 8
   ·rw [if_pos hl]; simp
   ·rw [if_neg hl, dg_top hX (by omega), dg_top hX1 (by omega)]; simp
theorem mulL_0 (a b : Nat) : mulL a b 0 0 = List.replicate 16 0 := by
 apply List.ext_getElem
 ·simp [mulL]
 ·intro j h1 h2
  simp only [mulL, List.getElem_map, List.getElem_range, List.getElem_replicate]
  rw [if_neg (by omega)]
  have : mX a b 0 = 0 := by unfold mX; rw [Nat.pow_zero, Nat.mod_one, Nat.zero_mul]
  rw [this]
  simp [dg]
theorem mul_fits {x y l c : Nat} (hx : x < D) (hy : y < D) (hl : l < D) (hc : c < D) : l + x * y + c < 18446744073709551616 := by
 have h2 : x * y ≤ (D - 1) * (D - 1) := Nat.mul_le_mul (by omega) (by omega)
 generalize x * y = u at *
 unfold D at *
 omega
end Go.Proofs.YtjonbbmnjbnefaaDoor
