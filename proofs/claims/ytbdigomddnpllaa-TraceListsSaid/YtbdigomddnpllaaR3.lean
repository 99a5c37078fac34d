/-
  The document's answers for words (quaestorref01), walked: Neg, Sub, Scmp, bit; their table.
-/
import Derived.Test.YtbdigomddnpllaaR2
import Derived.Test.YtbdigomddnpllaaX1
namespace Go.Proofs.Ytbdigomddnpllaa
set_option linter.unusedSimpArgs false
set_option linter.unusedVariables false
set_option maxHeartbeats 4000000
set_option linter.defProp false
open Go.RowKit
def g_rAdd (args : List SV) (_m : List Blk) : CR := match args with | [.word a, .word b] => .pure (a < W ∧ b < W) (.tup [.word (addN a b), .bool (addB a b)]) | _ => .none
theorem g_rAdd_ok (w0 : World) (B : List Nat) (args : List SV) (m : List Blk) : CROk Try.prog w0 B 50 args m (g_rAdd args m) := by
  unfold g_rAdd; split
  · rename_i a b; exact fun h w _ => calls_pure Try.func50 rfl rfl (radd_vc a b h.1 h.2 w)
  · exact trivial
def g_rnot (args : List SV) (_m : List Blk) : CR := match args with | [.word a] => .pure (a < W) (.word (W - 1 - a)) | _ => .none
theorem g_rnot_ok (w0 : World) (B : List Nat) (args : List SV) (m : List Blk) : CROk Try.prog w0 B 62 args m (g_rnot args m) := by
  unfold g_rnot; split
  · rename_i a; exact fun h w _ => calls_pure Try.func62 rfl rfl (rnot_vc a h w)
  · exact trivial
def g_rCmp (args : List SV) (_m : List Blk) : CR := match args with | [.word a, .word b] => .pure (a < W ∧ b < W) (.int .i64 (cmpI a b)) | _ => .none
theorem g_rCmp_ok (w0 : World) (B : List Nat) (args : List SV) (m : List Blk) : CROk Try.prog w0 B 52 args m (g_rCmp args m) := by
  unfold g_rCmp; split
  · rename_i a b; exact fun h w _ => calls_pure Try.func52 rfl rfl (cmp_vc a b h.1 h.2 w)
  · exact trivial
noncomputable def G6 : Ctr := fun f args m => match f with
  | 29 => g_From args m
  | 63 => g_rFrom args m
  | 45 => g_lowByte args m
  | 28 => g_Cmp args m
  | 27 => g_Sub args m
  | 44 => g_Read args m
  | 54 => g_Addr args m
  | 21 => g_Wide args m
  | 22 => g_Bytes args m
  | 50 => g_rAdd args m
  | 62 => g_rnot args m
  | 52 => g_rCmp args m
  | _ => .none
theorem G6_ok : GOk Try.prog G6 := by
  intro w0 B f args m; unfold G6; split
  · exact g_From_ok _ _ _ _
  · exact g_rFrom_ok _ _ _ _
  · exact g_lowByte_ok _ _ _ _
  · exact g_Cmp_ok _ _ _ _
  · exact g_Sub_ok _ _ _ _
  · exact g_Read_ok _ _ _ _
  · exact g_Addr_ok _ _ _ _
  · exact g_Wide_ok _ _ _ _
  · exact g_Bytes_ok _ _ _ _
  · exact g_rAdd_ok _ _ _ _
  · exact g_rnot_ok _ _ _ _
  · exact g_rCmp_ok _ _ _ _
  · exact trivial
theorem G6_From : G6 29 = g_From := by funext args m; rfl
theorem G6_rFrom : G6 63 = g_rFrom := by funext args m; rfl
theorem G6_lowByte : G6 45 = g_lowByte := by funext args m; rfl
theorem G6_Cmp : G6 28 = g_Cmp := by funext args m; rfl
theorem G6_Sub : G6 27 = g_Sub := by funext args m; rfl
theorem G6_Read : G6 44 = g_Read := by funext args m; rfl
theorem G6_Addr : G6 54 = g_Addr := by funext args m; rfl
theorem G6_Wide : G6 21 = g_Wide := by funext args m; rfl
theorem G6_Bytes : G6 22 = g_Bytes := by funext args m; rfl
theorem G6_rAdd : G6 50 = g_rAdd := by funext args m; rfl
theorem G6_rnot : G6 62 = g_rnot := by funext args m; rfl
theorem G6_rCmp : G6 52 = g_rCmp := by funext args m; rfl
def G6_set := And.intro (And.intro (And.intro (And.intro (@G6_From) (And.intro (@g_From.eq_def) (@G6_rFrom))) (And.intro (@g_rFrom.eq_def) (And.intro (@G6_lowByte) (@g_lowByte.eq_def)))) (And.intro (And.intro (@G6_Cmp) (And.intro (@g_Cmp.eq_def) (@G6_Sub))) (And.intro (@g_Sub.eq_def) (And.intro (@G6_Read) (@g_Read.eq_def))))) (And.intro (And.intro (And.intro (@G6_Addr) (And.intro (@g_Addr.eq_def) (@G6_Wide))) (And.intro (@g_Wide.eq_def) (And.intro (@G6_Bytes) (@g_Bytes.eq_def)))) (And.intro (And.intro (@G6_rAdd) (And.intro (@g_rAdd.eq_def) (@G6_rnot))) (And.intro (@g_rnot.eq_def) (And.intro (@G6_rCmp) (@g_rCmp.eq_def)))))

theorem neg_num {a : Nat} (ha : a < W) : addN (W - 1 - a) 1 = subN 0 a := by
  unfold addN subN
  rw [show W - 1 - a + 1 = 0 + W - a by omega]
theorem rNeg_vc (a : Nat) (ha : a < W) (w : World) : Calls Try.prog 51 (cvs [.word a]).toArray w (fun en w' => ∃ u, en = .returned u ∧ ∃ v m', u = cv v ∧ MemOk w [] m' w' ∧ v = .word (subN 0 a)) := by
  have h1 : 1 < W := by decide
  have h2 : W - 1 - a < W := by omega
  refine Vc.calls T0_ok Try.func51 rfl rfl (args := [.word a]) (k := 12) rfl (MemOk.start _) ?_; change Vc _ _ (c8 (.word a) .undef .undef .undef .undef .undef .undef .undef ([.undef, .undef, .undef, .undef, .undef])) _ _
  ((repeat (first | (with_reducible refine Vc.seq fun N hN => ?_) | (with_reducible refine Vc.block ?_) | ((first | with_reducible refine Vc.skip ?_ | with_reducible refine Vc.exit ?_); dsimp only [thenK, blockK, Nat.beq]; (first | (refine hN _ _ ?_; clear hN N) | skip)) | (with_reducible intro _) | ((with_reducible refine And.intro ?_ ?_); (focus (first | ((repeat' with_reducible apply And.intro) <;> first | with_reducible exact True.intro | with_reducible assumption | omega) | exact sd0))) | ((first | ((with_reducible refine askT_of ?_ (fun hb => ?_)); (focus (first | ((repeat' with_reducible apply And.intro) <;> first | with_reducible exact True.intro | with_reducible assumption | omega) | exact sd0)); (try simp only [hb])) | ((with_reducible refine Vc.fin ?_); dsimp only [thenK, blockK, retK, resS, resOne, resAll]) | ((with_reducible refine Vc.hold ?_); first | refine Vc.regiont T0_ok G6_ok ?_)); (try simp only [v8X, v8A, v8B, v8C, Nat.beq, Nat.ble, Int.reduceToNat, Int.reduceLE, Int.reduceLT, Nat.reduceLT, Nat.reduceLeDiff, Nat.reduceAdd, Nat.reduceMul, Nat.reduceSub, Int.reduceAdd, Int.reduceSub, Int.reduceMul, eq_self, decide_true, beq_self_eq_true, List.length_cons, List.length_nil, Nat.min_eq_left, IntKind.bits, tabs, G6_set]); (try simp (disch := omega) only [v8W])) | ((with_reducible refine hN _ _ ?_); clear hN N; (try simp (disch := omega) only [v8W])))); (try ((with_reducible refine Fin.of ?_); (try with_reducible exact True.intro))))
  ((try simp only [v8X, v8A, v8B, v8C, Nat.beq, Nat.ble, Int.reduceToNat, Int.reduceLE, Int.reduceLT, Nat.reduceLT, Nat.reduceLeDiff, Nat.reduceAdd, Nat.reduceMul, Nat.reduceSub, Int.reduceAdd, Int.reduceSub, Int.reduceMul, eq_self, decide_true, beq_self_eq_true, List.length_cons, List.length_nil, Nat.min_eq_left, IntKind.bits, tabs]); (repeat' with_reducible apply And.intro) <;> first | with_reducible exact True.intro | rw [neg_num ha] | with_reducible rfl | (congr 1 <;> omega) | trivial)
def g_rNeg (args : List SV) (_m : List Blk) : CR := match args with | [.word a] => .pure (a < W) (.word (subN 0 a)) | _ => .none
theorem g_rNeg_ok (w0 : World) (B : List Nat) (args : List SV) (m : List Blk) : CROk Try.prog w0 B 51 args m (g_rNeg args m) := by
  unfold g_rNeg; split
  · rename_i a; exact fun h w _ => calls_pure Try.func51 rfl rfl (rNeg_vc a h w)
  · exact trivial
noncomputable def G7 : Ctr := fun f args m => match f with
  | 29 => g_From args m
  | 63 => g_rFrom args m
  | 45 => g_lowByte args m
  | 28 => g_Cmp args m
  | 27 => g_Sub args m
  | 44 => g_Read args m
  | 54 => g_Addr args m
  | 21 => g_Wide args m
  | 22 => g_Bytes args m
  | 50 => g_rAdd args m
  | 62 => g_rnot args m
  | 52 => g_rCmp args m
  | 51 => g_rNeg args m
  | _ => .none
theorem G7_ok : GOk Try.prog G7 := by
  intro w0 B f args m; unfold G7; split
  · exact g_From_ok _ _ _ _
  · exact g_rFrom_ok _ _ _ _
  · exact g_lowByte_ok _ _ _ _
  · exact g_Cmp_ok _ _ _ _
  · exact g_Sub_ok _ _ _ _
  · exact g_Read_ok _ _ _ _
  · exact g_Addr_ok _ _ _ _
  · exact g_Wide_ok _ _ _ _
  · exact g_Bytes_ok _ _ _ _
  · exact g_rAdd_ok _ _ _ _
  · exact g_rnot_ok _ _ _ _
  · exact g_rCmp_ok _ _ _ _
  · exact g_rNeg_ok _ _ _ _
  · exact trivial
theorem G7_From : G7 29 = g_From := by funext args m; rfl
theorem G7_rFrom : G7 63 = g_rFrom := by funext args m; rfl
theorem G7_lowByte : G7 45 = g_lowByte := by funext args m; rfl
theorem G7_Cmp : G7 28 = g_Cmp := by funext args m; rfl
theorem G7_Sub : G7 27 = g_Sub := by funext args m; rfl
theorem G7_Read : G7 44 = g_Read := by funext args m; rfl
theorem G7_Addr : G7 54 = g_Addr := by funext args m; rfl
theorem G7_Wide : G7 21 = g_Wide := by funext args m; rfl
theorem G7_Bytes : G7 22 = g_Bytes := by funext args m; rfl
theorem G7_rAdd : G7 50 = g_rAdd := by funext args m; rfl
theorem G7_rnot : G7 62 = g_rnot := by funext args m; rfl
theorem G7_rCmp : G7 52 = g_rCmp := by funext args m; rfl
theorem G7_rNeg : G7 51 = g_rNeg := by funext args m; rfl
def G7_set := And.intro (And.intro (And.intro (And.intro (@G7_From) (And.intro (@g_From.eq_def) (@G7_rFrom))) (And.intro (@g_rFrom.eq_def) (And.intro (@G7_lowByte) (@g_lowByte.eq_def)))) (And.intro (And.intro (@G7_Cmp) (And.intro (@g_Cmp.eq_def) (@G7_Sub))) (And.intro (And.intro (@g_Sub.eq_def) (@G7_Read)) (And.intro (@g_Read.eq_def) (@G7_Addr))))) (And.intro (And.intro (And.intro (@g_Addr.eq_def) (And.intro (@G7_Wide) (@g_Wide.eq_def))) (And.intro (@G7_Bytes) (And.intro (@g_Bytes.eq_def) (@G7_rAdd)))) (And.intro (And.intro (@g_rAdd.eq_def) (And.intro (@G7_rnot) (@g_rnot.eq_def))) (And.intro (And.intro (@G7_rCmp) (@g_rCmp.eq_def)) (And.intro (@G7_rNeg) (@g_rNeg.eq_def)))))

theorem sub_num2 {a b : Nat} (ha : a < W) (hb : b < W) : addN a (subN 0 b) = subN a b := by
  unfold addN subN
  rw [Nat.add_mod_mod]
  congr 1; omega
theorem cmp_lt (a b : Nat) : decide (cmpI a b < 0) = subB a b := by
  unfold cmpI subB
  by_cases h : a = b
  · subst h; simp
  · by_cases h2 : a < b
    · rw [if_neg h, if_pos h2]; simp [h2]
    · rw [if_neg h, if_neg h2]; simp [h2]
theorem rSub_vc (a b : Nat) (ha : a < W) (hb : b < W) (w : World) : Calls Try.prog 32 (cvs [.word a, .word b]).toArray w (fun en w' => ∃ u, en = .returned u ∧ ∃ v m', u = cv v ∧ MemOk w [] m' w' ∧ v = .tup [.word (subN a b), .bool (subB a b)]) := by
  refine Vc.calls T0_ok Try.func32 rfl rfl (args := [.word a, .word b]) (k := 18) rfl (MemOk.start _) ?_; change Vc _ _ (c8 (.word a) (.word b) .undef .undef .undef .undef .undef .undef (c8 .undef .undef .undef .undef .undef .undef .undef .undef ([.undef, .undef, .undef, .undef]))) _ _
  ((repeat (first | (with_reducible refine Vc.seq fun N hN => ?_) | (with_reducible refine Vc.block ?_) | ((first | with_reducible refine Vc.skip ?_ | with_reducible refine Vc.exit ?_); dsimp only [thenK, blockK, Nat.beq]; (first | (refine hN _ _ ?_; clear hN N) | skip)) | (with_reducible intro _) | ((with_reducible refine And.intro ?_ ?_); (focus (first | ((repeat' with_reducible apply And.intro) <;> first | with_reducible exact True.intro | with_reducible assumption | with_reducible exact subN_lt _ _ | omega) | exact sd0))) | ((first | ((with_reducible refine askT_of ?_ (fun hb => ?_)); (focus (first | ((repeat' with_reducible apply And.intro) <;> first | with_reducible exact True.intro | with_reducible assumption | with_reducible exact subN_lt _ _ | omega) | exact sd0)); (try simp only [hb])) | ((with_reducible refine Vc.fin ?_); dsimp only [thenK, blockK, retK, resS, resOne, resAll]) | ((with_reducible refine Vc.hold ?_); first | refine Vc.regiont T0_ok G7_ok ?_ | refine Vc.drawt (id := 1) T0_ok G7_ok (by kernel_rfl) [0, 1, 2, 3, 4, 5, 6] 8 [⟨7, 6, 27, _⟩] ⟨⟨⟨_, _, rfl⟩, zc_27⟩, trivial⟩ (by kernel_rfl) ?_ | refine Vc.drawt (id := 2) T0_ok G7_ok (by kernel_rfl) [0, 1, 2, 3, 4] 5 [] trivial (by kernel_rfl) ?_)); (try simp only [v8X, v8A, v8B, v8C, Nat.beq, Nat.ble, Int.reduceToNat, Int.reduceLE, Int.reduceLT, Nat.reduceLT, Nat.reduceLeDiff, Nat.reduceAdd, Nat.reduceMul, Nat.reduceSub, Int.reduceAdd, Int.reduceSub, Int.reduceMul, eq_self, decide_true, beq_self_eq_true, List.length_cons, List.length_nil, Nat.min_eq_left, IntKind.bits, tabs, G7_set]); (try simp (disch := omega) only [v8W])) | ((with_reducible refine hN _ _ ?_); clear hN N; (try simp (disch := omega) only [v8W])))); (try ((with_reducible refine Fin.of ?_); (try with_reducible exact True.intro))))
  ((try simp only [v8X, v8A, v8B, v8C, Nat.beq, Nat.ble, Int.reduceToNat, Int.reduceLE, Int.reduceLT, Nat.reduceLT, Nat.reduceLeDiff, Nat.reduceAdd, Nat.reduceMul, Nat.reduceSub, Int.reduceAdd, Int.reduceSub, Int.reduceMul, eq_self, decide_true, beq_self_eq_true, List.length_cons, List.length_nil, Nat.min_eq_left, IntKind.bits, tabs]); (repeat' with_reducible apply And.intro) <;> first | with_reducible exact True.intro | rw [sub_num2 ha hb, cmp_lt] | with_reducible rfl | (congr 1 <;> omega) | trivial)
def g_rSub (args : List SV) (_m : List Blk) : CR := match args with | [.word a, .word b] => .pure (a < W ∧ b < W) (.tup [.word (subN a b), .bool (subB a b)]) | _ => .none
theorem g_rSub_ok (w0 : World) (B : List Nat) (args : List SV) (m : List Blk) : CROk Try.prog w0 B 32 args m (g_rSub args m) := by
  unfold g_rSub; split
  · rename_i a b; exact fun h w _ => calls_pure Try.func32 rfl rfl (rSub_vc a b h.1 h.2 w)
  · exact trivial
end Go.Proofs.Ytbdigomddnpllaa
