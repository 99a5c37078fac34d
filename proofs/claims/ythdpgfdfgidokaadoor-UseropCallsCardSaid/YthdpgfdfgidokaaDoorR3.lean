/-
 The document's answers for words (quaestorref01), walked: Neg, Sub, Scmp, bit; their table.
-/
import Derived.Test.YthdpgfdfgidokaaDoorR2
import Derived.Test.YthdpgfdfgidokaaDoorX1
set_option maxRecDepth 10000
set_option maxHeartbeats 4000000
set_option linter.defProp false
set_option linter.unusedVariables false
set_option linter.unusedSimpArgs false
namespace Go.Proofs.YthdpgfdfgidokaaDoor
open Go.RowKit
def g_rAdd (args : List SV) (_m : List Blk) : CR := match args with | [.word a, .word b] => .pure (a < W ∧ b < W) (.tup [.word (addN a b), .bool (addB a b)]) | _ => .none
theorem g_rAdd_ok (w0 : World) (B : List Nat) (args : List SV) (m : List Blk) : CROk Tryd.prog w0 B 55 args m (g_rAdd args m) := by
 unfold g_rAdd; split
 ·rename_i a b; exact fun h w _ => calls_pure Tryd.func55 rfl rfl (radd_vc a b h.1 h.2 w)
 ·exact trivial
def g_rCmp (args : List SV) (_m : List Blk) : CR := match args with | [.word a, .word b] => .pure (a < W ∧ b < W) (.int .i64 (cmpI a b)) | _ => .none
theorem g_rCmp_ok (w0 : World) (B : List Nat) (args : List SV) (m : List Blk) : CROk Tryd.prog w0 B 41 args m (g_rCmp args m) := by
 unfold g_rCmp; split
 ·rename_i a b; exact fun h w _ => calls_pure Tryd.func41 rfl rfl (cmp_vc a b h.1 h.2 w)
 ·exact trivial
noncomputable def G7 : Ctr := fun f args m => match f with
 | 52 => g_From args m
 | 43 => g_rFrom args m
 | 141 => g_Small args m
 | 109 => g_lowByte args m
 | 120 => g_Shl args m
 | 89 => g_Shr args m
 | 54 => g_Cmp args m
 | 53 => g_Add args m
 | 51 => g_Mul args m
 | 93 => g_length args m
 | 102 => g_Read args m
 | 79 => g_Addr args m
 | 67 => g_Wide args m
 | 101 => g_Bytes args m
 | 55 => g_rAdd args m
 | 41 => g_rCmp args m
 | _ => .none
theorem G7_ok : GOk Tryd.prog G7 := by
 intro w0 B f args m; unfold G7; split
 ·exact g_From_ok _ _ _ _
 ·exact g_rFrom_ok _ _ _ _
 ·exact g_Small_ok _ _ _ _
 ·exact g_lowByte_ok _ _ _ _
 ·exact g_Shl_ok _ _ _ _
 ·exact g_Shr_ok _ _ _ _
 ·exact g_Cmp_ok _ _ _ _
 ·exact g_Add_ok _ _ _ _
 ·exact g_Mul_ok _ _ _ _
 ·exact g_length_ok _ _ _ _
 ·exact g_Read_ok _ _ _ _
 ·exact g_Addr_ok _ _ _ _
 ·exact g_Wide_ok _ _ _ _
 ·exact g_Bytes_ok _ _ _ _
 ·exact g_rAdd_ok _ _ _ _
 ·exact g_rCmp_ok _ _ _ _
 ·exact trivial
theorem G7_From : G7 52 = g_From := by funext args m; rfl
theorem G7_rFrom : G7 43 = g_rFrom := by funext args m; rfl
theorem G7_Small : G7 141 = g_Small := by funext args m; rfl
theorem G7_lowByte : G7 109 = g_lowByte := by funext args m; rfl
theorem G7_Shl : G7 120 = g_Shl := by funext args m; rfl
theorem G7_Shr : G7 89 = g_Shr := by funext args m; rfl
theorem G7_Cmp : G7 54 = g_Cmp := by funext args m; rfl
theorem G7_Add : G7 53 = g_Add := by funext args m; rfl
theorem G7_Mul : G7 51 = g_Mul := by funext args m; rfl
theorem G7_length : G7 93 = g_length := by funext args m; rfl
theorem G7_Read : G7 102 = g_Read := by funext args m; rfl
theorem G7_Addr : G7 79 = g_Addr := by funext args m; rfl
theorem G7_Wide : G7 67 = g_Wide := by funext args m; rfl
theorem G7_Bytes : G7 101 = g_Bytes := by funext args m; rfl
theorem G7_rAdd : G7 55 = g_rAdd := by funext args m; rfl
theorem G7_rCmp : G7 41 = g_rCmp := by funext args m; rfl
def G7_set := And.intro (And.intro (And.intro (And.intro (And.intro (@G7_From) (@g_From.eq_def)) (And.intro (@G7_rFrom) (@g_rFrom.eq_def))) (And.intro (And.intro (@G7_Small) (@g_Small.eq_def)) (And.intro (@G7_lowByte) (@g_lowByte.eq_def)))) (And.intro (And.intro (And.intro (@G7_Shl) (@g_Shl.eq_def)) (And.intro (@G7_Shr) (@g_Shr.eq_def))) (And.intro (And.intro (@G7_Cmp) (@g_Cmp.eq_def)) (And.intro (@G7_Add) (@g_Add.eq_def))))) (And.intro (And.intro (And.intro (And.intro (@G7_Mul) (@g_Mul.eq_def)) (And.intro (@G7_length) (@g_length.eq_def))) (And.intro (And.intro (@G7_Read) (@g_Read.eq_def)) (And.intro (@G7_Addr) (@g_Addr.eq_def)))) (And.intro (And.intro (And.intro (@G7_Wide) (@g_Wide.eq_def)) (And.intro (@G7_Bytes) (@g_Bytes.eq_def))) (And.intro (And.intro (@G7_rAdd) (@g_rAdd.eq_def)) (And.intro (@G7_rCmp) (@g_rCmp.eq_def)))))

theorem rbit_vc (a i : Nat) (hi : i < 256) (w : World) : Calls Tryd.prog 116 (cvs [.word a, .int .i64 i]).toArray w (fun en w' => ∃ u, en = .returned u ∧ ∃ v m', u = cv v ∧ MemOk w [] m' w' ∧ v = .bool (a.testBit i)) := by
 refine Vc.calls T0_ok Tryd.func116 rfl rfl (args := [.word a, .int .i64 i]) (k := 13) rfl (MemOk.start _) ?_; change Vc _ _ (c8 (.word a) (.int .i64 i) .undef .undef .undef .undef .undef .undef ([.undef, .undef, .undef, .undef, .undef, .undef, .undef])) _ _
 ((repeat (first | (with_reducible first | refine Vc.seq fun N hN => ?_ | refine Vc.block ?_) | (with_reducible intro _) | ((with_reducible refine And.intro ?_ ?_); (focus (exact sd0))) | ((first | ((with_reducible refine Vc.fin ?_); dsimp only [thenK, blockK, retK, resS, resOne, resAll]) | ((with_reducible refine Vc.hold ?_); first | refine Vc.regiont T0_ok G7_ok ?_)); (try simp only [v8Y, Nat.beq, Nat.ble, seval, tabs, G7_set]); (try simp (disch := omega) only [v8W])) | ((with_reducible refine hN _ _ ?_); clear hN N))); (try ((with_reducible refine Fin.of ?_); (try with_reducible exact True.intro))))
 ((try simp only [v8Y, Nat.beq, Nat.ble, seval, tabs]); (repeat' with_reducible apply And.intro) <;> first | with_reducible exact True.intro | rw [exp_bit hi, Nat.testBit_eq_decide_div_mod_eq] | with_reducible rfl | (congr 1 <;> omega) | trivial)
def g_rbit (args : List SV) (_m : List Blk) : CR := match args with | [.word a, .int .i64 i] => .pure (0 ≤ i ∧ i < 256) (.bool (a.testBit i.toNat)) | _ => .none
theorem g_rbit_ok (w0 : World) (B : List Nat) (args : List SV) (m : List Blk) : CROk Tryd.prog w0 B 116 args m (g_rbit args m) := by
 unfold g_rbit; split
 ·rename_i a i; exact fun h w _ => calls_pure Tryd.func116 rfl rfl ((by have := rbit_vc a i.toNat (by omega) w; rw [Int.toNat_of_nonneg h.1] at this; exact this))
 ·exact trivial
end Go.Proofs.YthdpgfdfgidokaaDoor
