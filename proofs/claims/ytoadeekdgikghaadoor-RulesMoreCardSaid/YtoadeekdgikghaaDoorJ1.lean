/-
 Package rules: the small ones, walked (addresses, what rises, accounts' code). No condition.
-/
import Derived.Test.YtoadeekdgikghaaDoorFJ
set_option maxRecDepth 20000
set_option maxHeartbeats 4000000
set_option linter.defProp false
set_option linter.unusedVariables false
set_option linter.unusedSimpArgs false
namespace Go.Proofs.YtoadeekdgikghaaDoor
open Go.RowKit
noncomputable def GJ0 : Ctr := fun f args m => match f with
 | 43 => g_From args m
 | 54 => g_lowByte args m
 | 42 => g_Cmp args m
 | 41 => g_Sub args m
 | 53 => g_Read args m
 | 67 => g_Addr args m
 | 36 => g_Wide args m
 | 37 => g_Bytes args m
 | _ => .none
theorem GJ0_ok : GOk Tryd.prog GJ0 := by
 intro w0 B f args m; unfold GJ0; split
 ·exact g_From_ok _ _ _ _
 ·exact g_lowByte_ok _ _ _ _
 ·exact g_Cmp_ok _ _ _ _
 ·exact g_Sub_ok _ _ _ _
 ·exact g_Read_ok _ _ _ _
 ·exact g_Addr_ok _ _ _ _
 ·exact g_Wide_ok _ _ _ _
 ·exact g_Bytes_ok _ _ _ _
 ·exact trivial
theorem GJ0_From : GJ0 43 = g_From := by funext args m; rfl
theorem GJ0_lowByte : GJ0 54 = g_lowByte := by funext args m; rfl
theorem GJ0_Cmp : GJ0 42 = g_Cmp := by funext args m; rfl
theorem GJ0_Sub : GJ0 41 = g_Sub := by funext args m; rfl
theorem GJ0_Read : GJ0 53 = g_Read := by funext args m; rfl
theorem GJ0_Addr : GJ0 67 = g_Addr := by funext args m; rfl
theorem GJ0_Wide : GJ0 36 = g_Wide := by funext args m; rfl
theorem GJ0_Bytes : GJ0 37 = g_Bytes := by funext args m; rfl
def GJ0_set := And.intro (And.intro (And.intro (And.intro (@GJ0_From) (@g_From.eq_def)) (And.intro (@GJ0_lowByte) (@g_lowByte.eq_def))) (And.intro (And.intro (@GJ0_Cmp) (@g_Cmp.eq_def)) (And.intro (@GJ0_Sub) (@g_Sub.eq_def)))) (And.intro (And.intro (And.intro (@GJ0_Read) (@g_Read.eq_def)) (And.intro (@GJ0_Addr) (@g_Addr.eq_def))) (And.intro (And.intro (@GJ0_Wide) (@g_Wide.eq_def)) (And.intro (@GJ0_Bytes) (@g_Bytes.eq_def))))

theorem jself_vc (w : World) : Calls Tryd.prog 60 (cvs []).toArray w (fun en w' => ∃ u, en = .returned u ∧ ∃ v' m', u = cv v' ∧ MemOk w [] m' w' ∧ v' = .ints .u8 selfA) := by
 refine Vc.calls T0_ok Tryd.func60 rfl rfl (args := []) (k := 2) rfl (MemOk.start _) ?_; change Vc _ _ ([.undef, .undef]) _ _
 ((repeat (first | (with_reducible refine Vc.seq fun N hN => ?_) | (with_reducible intro _) | ((with_reducible refine And.intro ?_ ?_); exact sX0) | ((first | ((with_reducible refine Vc.fin ?_); dsimp only [thenK, blockK, retK, resS, resOne, resAll]) | ((with_reducible refine Vc.hold ?_); first | refine Vc.regiont T0_ok GJ0_ok ?_)); (try simp only [v8Y, Nat.beq, Nat.ble, Int.reduceToNat, Int.reduceLE, Int.reduceLT, Nat.reduceLT, Nat.reduceLeDiff, Nat.reduceAdd, Nat.reduceMul, Nat.reduceSub, Int.reduceAdd, Int.reduceSub, Int.reduceMul, tabs, GJ0_set])) | ((with_reducible refine hN _ _ ?_); clear hN N))); (try ((with_reducible refine Fin.of ?_); (try with_reducible exact True.intro))))
 exact ⟨by simp, rfl⟩
def g_jself (args : List SV) (_m : List Blk) : CR := match args with
 | [] => .pure True (.ints .u8 selfA)
 | _ => .none
theorem g_jself_ok (w0 : World) (B : List Nat) (args : List SV) (m : List Blk) : CROk Tryd.prog w0 B 60 args m (g_jself args m) := by
 unfold g_jself; split
 ·exact fun _ w _ => calls_pure Tryd.func60 rfl rfl (jself_vc w)
 ·exact trivial
theorem bi_vc (a : List Int) (hl : a.length = 20) (hb : allB a) (w : World) : Calls Tryd.prog 61 (cvs [.ints .u8 a]).toArray w (fun en w' => ∃ u, en = .returned u ∧ ∃ v' m', u = cv v' ∧ MemOk w [] m' w' ∧ v' = .bool (biB a)) := by
 have h19 := hb _ (List.getElem_mem (show 19 < a.length by omega))
 have e19 : a.getD 19 0 = a[19] := by rw [List.getD_eq_getElem?_getD, List.getElem?_eq_getElem (by omega)]; rfl
 rw [← e19] at h19
 cases h1 : decide (a = [0, 0, 0, 0, 0, 0, 0, 0, 0, 0, 0, 0, 0, 0, 0, 0, 0, 0, 0, a.getD 19 0]) <;> cases h2 : decide (1 ≤ a.getD 19 0)
 all_goals
  refine Vc.calls T0_ok Tryd.func61 rfl rfl (args := [.ints .u8 a]) (k := 17) rfl (MemOk.start _) ?_; change Vc _ _ (c8 (.ints .u8 a) .undef .undef .undef .undef .undef .undef .undef (c8 .undef .undef .undef .undef .undef .undef .undef .undef ([.undef, .undef]))) _ _
  ((repeat (first | (with_reducible refine Vc.seq fun N hN => ?_) | (with_reducible intro _) | ((with_reducible refine And.intro ?_ ?_); exact sX0) | ((first | ((with_reducible refine Vc.fin ?_); dsimp only [thenK, blockK, retK, resS, resOne, resAll]) | ((with_reducible refine Vc.hold ?_); first | refine Vc.regiont T0_ok GJ0_ok ?_)); (try simp only [v8Y, Nat.beq, Nat.ble, Int.reduceToNat, Int.reduceLE, Int.reduceLT, Nat.reduceLT, Nat.reduceLeDiff, Nat.reduceAdd, Nat.reduceMul, Nat.reduceSub, Int.reduceAdd, Int.reduceSub, Int.reduceMul, tabs, GJ0_set, h1, h2])) | ((with_reducible refine hN _ _ ?_); clear hN N))); (try ((with_reducible refine Fin.of ?_); (try with_reducible exact True.intro))))
  exact ⟨by first | trivial | simp, by unfold biB; rw [h1, h2]; first | rfl | (simp; done)⟩
def g_bi (args : List SV) (_m : List Blk) : CR := match args with
 | [.ints .u8 a] => .pure (a.length = 20 ∧ allB a) (.bool (biB a))
 | _ => .none
theorem g_bi_ok (w0 : World) (B : List Nat) (args : List SV) (m : List Blk) : CROk Tryd.prog w0 B 61 args m (g_bi args m) := by
 unfold g_bi; split
 ·rename_i a
  exact fun h w _ => calls_pure Tryd.func61 rfl rfl (bi_vc a h.1 h.2 w)
 ·exact trivial
theorem nanC_vc (x : Int) (w : World) : Calls Tryd.prog 75 (cvs [.int .i64 x]).toArray w (fun en w' => ∃ u, en = .returned u ∧ ∃ v' m', u = cv v' ∧ MemOk w [] m' w' ∧ v' = .bool false) := by
 refine Vc.calls T0_ok Tryd.func75 rfl rfl (args := [.int .i64 x]) (k := 5) rfl (MemOk.start _) ?_; change Vc _ _ ([.int .i64 x, .undef, .undef, .undef, .undef, .undef]) _ _
 ((repeat (first | (with_reducible refine Vc.seq fun N hN => ?_) | (with_reducible intro _) | ((with_reducible refine And.intro ?_ ?_); exact sX0) | ((first | ((with_reducible refine Vc.fin ?_); dsimp only [thenK, blockK, retK, resS, resOne, resAll]) | ((with_reducible refine Vc.hold ?_); first | refine Vc.regiont T0_ok GJ0_ok ?_)); (try simp only [v8Y, Nat.beq, Nat.ble, Int.reduceToNat, Int.reduceLE, Int.reduceLT, Nat.reduceLT, Nat.reduceLeDiff, Nat.reduceAdd, Nat.reduceMul, Nat.reduceSub, Int.reduceAdd, Int.reduceSub, Int.reduceMul, tabs, GJ0_set, ])) | ((with_reducible refine hN _ _ ?_); clear hN N))); (try ((with_reducible refine Fin.of ?_); (try with_reducible exact True.intro))))
 exact ⟨trivial, by first | rfl | (congr 1; simp)⟩
def g_nanC (args : List SV) (_m : List Blk) : CR := match args with | [.int .i64 x] => .pure (True) (.bool false) | _ => .none
theorem g_nanC_ok (w0 : World) (B : List Nat) (args : List SV) (m : List Blk) : CROk Tryd.prog w0 B 75 args m (g_nanC args m) := by
 unfold g_nanC; split
 ·rename_i x; exact fun h w _ => calls_pure Tryd.func75 rfl rfl (nanC_vc x w)
 ·exact trivial
theorem nanS_vc (x : Int) (w : World) : Calls Tryd.prog 72 (cvs [.int .i64 x]).toArray w (fun en w' => ∃ u, en = .returned u ∧ ∃ v' m', u = cv v' ∧ MemOk w [] m' w' ∧ v' = .bool false) := by
 refine Vc.calls T0_ok Tryd.func72 rfl rfl (args := [.int .i64 x]) (k := 5) rfl (MemOk.start _) ?_; change Vc _ _ ([.int .i64 x, .undef, .undef, .undef, .undef, .undef]) _ _
 ((repeat (first | (with_reducible refine Vc.seq fun N hN => ?_) | (with_reducible intro _) | ((with_reducible refine And.intro ?_ ?_); exact sX0) | ((first | ((with_reducible refine Vc.fin ?_); dsimp only [thenK, blockK, retK, resS, resOne, resAll]) | ((with_reducible refine Vc.hold ?_); first | refine Vc.regiont T0_ok GJ0_ok ?_)); (try simp only [v8Y, Nat.beq, Nat.ble, Int.reduceToNat, Int.reduceLE, Int.reduceLT, Nat.reduceLT, Nat.reduceLeDiff, Nat.reduceAdd, Nat.reduceMul, Nat.reduceSub, Int.reduceAdd, Int.reduceSub, Int.reduceMul, tabs, GJ0_set, ])) | ((with_reducible refine hN _ _ ?_); clear hN N))); (try ((with_reducible refine Fin.of ?_); (try with_reducible exact True.intro))))
 exact ⟨trivial, by first | rfl | (congr 1; simp)⟩
def g_nanS (args : List SV) (_m : List Blk) : CR := match args with | [.int .i64 x] => .pure (True) (.bool false) | _ => .none
theorem g_nanS_ok (w0 : World) (B : List Nat) (args : List SV) (m : List Blk) : CROk Tryd.prog w0 B 72 args m (g_nanS args m) := by
 unfold g_nanS; split
 ·rename_i x; exact fun h w _ => calls_pure Tryd.func72 rfl rfl (nanS_vc x w)
 ·exact trivial
noncomputable def GJ1 : Ctr := fun f args m => match f with
 | 75 => g_nanC args m
 | _ => .none
theorem GJ1_ok : GOk Tryd.prog GJ1 := by
 intro w0 B f args m; unfold GJ1; split
 ·exact g_nanC_ok _ _ _ _
 ·exact trivial
theorem GJ1_nanC : GJ1 75 = g_nanC := by funext args m; rfl
def GJ1_set := And.intro (@GJ1_nanC) (@g_nanC.eq_def)

theorem less_vc (x y : Int) (w : World) : Calls Tryd.prog 71 (cvs [.int .i64 x, .int .i64 y]).toArray w (fun en w' => ∃ u, en = .returned u ∧ ∃ v' m', u = cv v' ∧ MemOk w [] m' w' ∧ v' = .bool (decide (x < y))) := by
 refine Vc.calls T0_ok Tryd.func71 rfl rfl (args := [.int .i64 x, .int .i64 y]) (k := 15) rfl (MemOk.start _) ?_; change Vc _ _ (c8 (.int .i64 x) (.int .i64 y) .undef .undef .undef .undef .undef .undef (c8 .undef .undef .undef .undef .undef .undef .undef .undef ([.undef]))) _ _
 ((repeat (first | (with_reducible refine Vc.seq fun N hN => ?_) | ((with_reducible refine And.intro ?_ ?_); exact sX0) | ((first | ((with_reducible refine Vc.fin ?_); dsimp only [thenK, blockK, retK, resS, resOne, resAll]) | ((with_reducible refine Vc.hold ?_); first | refine Vc.regiont T0_ok GJ1_ok ?_)); (try simp only [v8Y, Nat.beq, Nat.ble, Int.reduceToNat, Int.reduceLE, Int.reduceLT, Nat.reduceLT, Nat.reduceLeDiff, Nat.reduceAdd, Nat.reduceMul, Nat.reduceSub, Int.reduceAdd, Int.reduceSub, Int.reduceMul, tabs, GJ1_set, Bool.false_and, Bool.and_false])) | ((with_reducible refine hN _ _ ?_); clear hN N))); (try ((with_reducible refine Fin.of ?_); (try with_reducible exact True.intro))))
 exact ⟨trivial, by first | rfl | trivial⟩
def g_lessI (args : List SV) (_m : List Blk) : CR := match args with | [.int .i64 x, .int .i64 y] => .pure (True) (.bool (decide (x < y))) | _ => .none
theorem g_lessI_ok (w0 : World) (B : List Nat) (args : List SV) (m : List Blk) : CROk Tryd.prog w0 B 71 args m (g_lessI args m) := by
 unfold g_lessI; split
 ·rename_i x y; exact fun h w _ => calls_pure Tryd.func71 rfl rfl (less_vc x y w)
 ·exact trivial
noncomputable def GJ2 : Ctr := fun f args m => match f with
 | 71 => g_lessI args m
 | 72 => g_nanS args m
 | _ => .none
theorem GJ2_ok : GOk Tryd.prog GJ2 := by
 intro w0 B f args m; unfold GJ2; split
 ·exact g_lessI_ok _ _ _ _
 ·exact g_nanS_ok _ _ _ _
 ·exact trivial
theorem GJ2_lessI : GJ2 71 = g_lessI := by funext args m; rfl
theorem GJ2_nanS : GJ2 72 = g_nanS := by funext args m; rfl
def GJ2_set := And.intro (And.intro (@GJ2_lessI) (@g_lessI.eq_def)) (And.intro (@GJ2_nanS) (@g_nanS.eq_def))

set_option maxRecDepth 20000 in
theorem bs_vc (a : Option Addr) (n c : Nat) (xs : List Int) (t : Int) (w : World) (hS : SlI (H0 w) a n c xs) :
  Calls Tryd.prog 66 (cvs [.gh a n c (.ints .i64 xs), .int .i64 t]).toArray w (fun en w' => ∃ u, en = .returned u ∧ ∃ v' m', u = cv v' ∧ MemOk w [] m' w' ∧ v' = .tup [.int .i64 (bsR xs t : Nat), .bool (bsB xs t)]) := by
 obtain ⟨hl, hc, ha, hM, hL⟩ := hS
 have hLx : ∀ m, allOld w ∈ m → LiesH (HM m) a (cc (.ints .i64 xs)) := fun m hin => hL.mono (H0.hm hin)
 refine Vc.calls T0_ok Tryd.func66 rfl rfl (args := [.gh a n c (.ints .i64 xs), .int .i64 t]) (k := 52) rfl (old_start w) ?_; change Vc _ _ (c8 (.gh a n c (.ints .i64 xs)) (.int .i64 t) .undef .undef .undef .undef .undef .undef (c8 .undef .undef .undef .undef .undef .undef .undef .undef (c8 .undef .undef .undef .undef .undef .undef .undef .undef (c8 .undef .undef .undef .undef .undef .undef .undef .undef (c8 .undef .undef .undef .undef .undef .undef .undef .undef (c8 .undef .undef .undef .undef .undef .undef .undef .undef ([.undef, .undef, .undef, .undef, .undef, .undef]))))))) _ _
 ((repeat (first | (with_reducible first | refine Vc.seq fun N hN => ?_ | refine Vc.block ?_) | ((with_reducible refine And.intro ?_ ?_); exact sX0) | ((first | ((with_reducible refine Vc.hold ?_); first | refine Vc.regiont T0_ok GJ2_ok ?_)); (try simp only [v8Y, Nat.beq, Nat.ble, Int.reduceToNat, Int.reduceLE, Int.reduceLT, Nat.reduceLT, Nat.reduceLeDiff, Nat.reduceAdd, Nat.reduceMul, Nat.reduceSub, Int.reduceAdd, Int.reduceSub, Int.reduceMul, tabs, GJ2_set, ])) | ((with_reducible refine hN _ _ ?_); clear hN N))))
 (revert N; intro N1 hN1)
 refine Vc.loop 7 31 (fun (x : Nat × Nat × Nat) => [(7, .int .i64 (x.1 : Nat)), (8, .int .i64 (x.2.1 : Nat))]) (fun _ => [allOld w]) (fun x => x.1 ≤ x.2.1 ∧ x.2.1 ≤ n ∧ x.2.1 - x.1 ≤ x.2.2 ∧ bsP xs t x.2.2 x.1 x.2.1 = bsR xs t) (fun x => x.2.1 - x.1) (0, n, n) ⟨⟨Nat.zero_le _, Nat.le_refl _, by simp, by unfold bsR; rw [hl]⟩, ?_, ?_⟩ (fun x junk hx => ?_)
 ·((try simp only [v8Y, Nat.beq, Nat.ble, Int.reduceToNat, Int.reduceLE, Int.reduceLT, Nat.reduceLT, Nat.reduceLeDiff, Nat.reduceAdd, Nat.reduceMul, Nat.reduceSub, Int.reduceAdd, Int.reduceSub, Int.reduceMul, tabs]); (repeat' with_reducible apply And.intro) <;> first | with_reducible exact True.intro | rfl | with_reducible rfl | (congr 1 <;> omega) | trivial)
 ·((try simp only [v8Y, Nat.beq, Nat.ble, Int.reduceToNat, Int.reduceLE, Int.reduceLT, Nat.reduceLT, Nat.reduceLeDiff, Nat.reduceAdd, Nat.reduceMul, Nat.reduceSub, Int.reduceAdd, Int.reduceSub, Int.reduceMul, tabs]); (repeat' with_reducible apply And.intro) <;> first | with_reducible exact True.intro | rfl | with_reducible rfl | (congr 1 <;> omega) | trivial)
 ·obtain ⟨lo, hi, f⟩ := x
  dsimp only at hx ⊢
  obtain ⟨k1, k2, k3, k4⟩ := hx
  (simp only [v8Y, Nat.beq, Nat.ble, Int.reduceToNat, Int.reduceLE, Int.reduceLT, Nat.reduceLT, Nat.reduceLeDiff, Nat.reduceAdd, Nat.reduceMul, Nat.reduceSub, Int.reduceAdd, Int.reduceSub, Int.reduceMul, tabs])
  by_cases hc1 : lo < hi
  ·obtain ⟨f, rfl⟩ : ∃ g, f = g + 1 := ⟨f - 1, by omega⟩
   have d1 : decide ((lo : Int) < (hi : Int)) = true := decide_eq_true (by omega)
   have hh : ((lo : Int) + (hi : Int)) / 2 ^ 1 = (((lo + hi) / 2 : Nat) : Int) := by omega
   have hk : (((lo + hi) / 2 : Nat) : Int).toNat = (lo + hi) / 2 := by omega
   have hkl : (lo + hi) / 2 < xs.length := by omega
   simp only [bsP, if_pos hc1] at k4
   by_cases hc2 : xs.getD ((lo + hi) / 2) 0 < t
   ·have d2 : decide (xs.getD ((lo + hi) / 2) 0 < t) = true := decide_eq_true hc2
    rw [if_pos hc2] at k4
    ((repeat (first | (with_reducible refine Vc.seq fun N hN => ?_) | ((with_reducible refine And.intro ?_ ?_); exact sX0) | ((first | ((with_reducible refine Vc.hold ?_); first | refine Vc.regiont T0_ok GJ2_ok ?_)); (try simp only [v8Y, Nat.beq, Nat.ble, Int.reduceToNat, Int.reduceLE, Int.reduceLT, Nat.reduceLT, Nat.reduceLeDiff, Nat.reduceAdd, Nat.reduceMul, Nat.reduceSub, Int.reduceAdd, Int.reduceSub, Int.reduceMul, tabs, GJ2_set, d1])) | ((with_reducible refine hN _ _ ?_); clear hN N))))
    (refine Vc.cond T0_ok (t := true) (by rfl) (fun _ => ?_) (fun h => Bool.noConfusion h))
    ((repeat (first | (with_reducible first | refine Vc.seq fun N hN => ?_ | refine Vc.block ?_) | ((first | with_reducible refine Vc.skip ?_); dsimp only [thenK, blockK, Nat.beq]; (first | (refine hN _ _ ?_; clear hN N))) | ((with_reducible refine And.intro ?_ ?_); exact sX11) | ((first | ((with_reducible refine Vc.hold ?_); first | refine Vc.regiont T0_ok GJ2_ok ?_)); (try simp only [v8Y, Nat.beq, Nat.ble, Int.reduceToNat, Int.reduceLE, Int.reduceLT, Nat.reduceLT, Nat.reduceLeDiff, Nat.reduceAdd, Nat.reduceMul, Nat.reduceSub, Int.reduceAdd, Int.reduceSub, Int.reduceMul, tabs, GJ2_set, hh, hk, d2]); (try simp (disch := omega) only [v8W])) | ((with_reducible refine hN _ _ ?_); clear hN N))))
    (refine Vc.cond T0_ok (t := true) (by rfl) (fun _ => ?_) (fun h => Bool.noConfusion h))
    ((repeat (first | ((first | with_reducible refine Vc.exit ?_); dsimp only [thenK, blockK, Nat.beq]; (first | skip)) | ((with_reducible refine And.intro ?_ ?_); exact sX0) | ((first | ((with_reducible refine Vc.hold ?_); first | refine Vc.regiont T0_ok GJ2_ok ?_)); (try simp only [v8Y, Nat.beq, Nat.ble, Int.reduceToNat, Int.reduceLE, Int.reduceLT, Nat.reduceLT, Nat.reduceLeDiff, Nat.reduceAdd, Nat.reduceMul, Nat.reduceSub, Int.reduceAdd, Int.reduceSub, Int.reduceMul, tabs, GJ2_set, ])))))
    refine ⟨((lo + hi) / 2 + 1, hi, f), ⟨by dsimp only; omega, by dsimp only; omega, by dsimp only; omega, k4⟩, ?_, ?_, by dsimp only; omega⟩
    ·((try simp only [v8Y, Nat.beq, Nat.ble, Int.reduceToNat, Int.reduceLE, Int.reduceLT, Nat.reduceLT, Nat.reduceLeDiff, Nat.reduceAdd, Nat.reduceMul, Nat.reduceSub, Int.reduceAdd, Int.reduceSub, Int.reduceMul, tabs]); (repeat' with_reducible apply And.intro) <;> first | with_reducible exact True.intro | rfl | (congr 1 <;> omega))
    ·((try simp only [v8Y, Nat.beq, Nat.ble, Int.reduceToNat, Int.reduceLE, Int.reduceLT, Nat.reduceLT, Nat.reduceLeDiff, Nat.reduceAdd, Nat.reduceMul, Nat.reduceSub, Int.reduceAdd, Int.reduceSub, Int.reduceMul, tabs]); (repeat' with_reducible apply And.intro) <;> first | with_reducible exact True.intro | rfl | (congr 1 <;> omega))
   ·have d2 : decide (xs.getD ((lo + hi) / 2) 0 < t) = false := decide_eq_false hc2
    rw [if_neg hc2] at k4
    ((repeat (first | (with_reducible refine Vc.seq fun N hN => ?_) | ((with_reducible refine And.intro ?_ ?_); exact sX0) | ((first | ((with_reducible refine Vc.hold ?_); first | refine Vc.regiont T0_ok GJ2_ok ?_)); (try simp only [v8Y, Nat.beq, Nat.ble, Int.reduceToNat, Int.reduceLE, Int.reduceLT, Nat.reduceLT, Nat.reduceLeDiff, Nat.reduceAdd, Nat.reduceMul, Nat.reduceSub, Int.reduceAdd, Int.reduceSub, Int.reduceMul, tabs, GJ2_set, d1])) | ((with_reducible refine hN _ _ ?_); clear hN N))))
    (refine Vc.cond T0_ok (t := true) (by rfl) (fun _ => ?_) (fun h => Bool.noConfusion h))
    ((repeat (first | (with_reducible first | refine Vc.seq fun N hN => ?_ | refine Vc.block ?_) | ((first | with_reducible refine Vc.skip ?_); dsimp only [thenK, blockK, Nat.beq]; (first | (refine hN _ _ ?_; clear hN N))) | ((with_reducible refine And.intro ?_ ?_); exact sX11) | ((first | ((with_reducible refine Vc.hold ?_); first | refine Vc.regiont T0_ok GJ2_ok ?_)); (try simp only [v8Y, Nat.beq, Nat.ble, Int.reduceToNat, Int.reduceLE, Int.reduceLT, Nat.reduceLT, Nat.reduceLeDiff, Nat.reduceAdd, Nat.reduceMul, Nat.reduceSub, Int.reduceAdd, Int.reduceSub, Int.reduceMul, tabs, GJ2_set, hh, hk, d2]); (try simp (disch := omega) only [v8W])) | ((with_reducible refine hN _ _ ?_); clear hN N))))
    (refine Vc.cond T0_ok (t := false) (by rfl) (fun h => Bool.noConfusion h) (fun _ => ?_))
    ((repeat (first | ((first | with_reducible refine Vc.exit ?_); dsimp only [thenK, blockK, Nat.beq]; (first | skip)) | ((with_reducible refine And.intro ?_ ?_); exact sX0) | ((first | ((with_reducible refine Vc.hold ?_); first | refine Vc.regiont T0_ok GJ2_ok ?_)); (try simp only [v8Y, Nat.beq, Nat.ble, Int.reduceToNat, Int.reduceLE, Int.reduceLT, Nat.reduceLT, Nat.reduceLeDiff, Nat.reduceAdd, Nat.reduceMul, Nat.reduceSub, Int.reduceAdd, Int.reduceSub, Int.reduceMul, tabs, GJ2_set, ])))))
    refine ⟨(lo, (lo + hi) / 2, f), ⟨by dsimp only; omega, by dsimp only; omega, by dsimp only; omega, k4⟩, ?_, ?_, by dsimp only; omega⟩
    ·((try simp only [v8Y, Nat.beq, Nat.ble, Int.reduceToNat, Int.reduceLE, Int.reduceLT, Nat.reduceLT, Nat.reduceLeDiff, Nat.reduceAdd, Nat.reduceMul, Nat.reduceSub, Int.reduceAdd, Int.reduceSub, Int.reduceMul, tabs]); (repeat' with_reducible apply And.intro) <;> first | with_reducible exact True.intro | rfl | (congr 1 <;> omega))
    ·((try simp only [v8Y, Nat.beq, Nat.ble, Int.reduceToNat, Int.reduceLE, Int.reduceLT, Nat.reduceLT, Nat.reduceLeDiff, Nat.reduceAdd, Nat.reduceMul, Nat.reduceSub, Int.reduceAdd, Int.reduceSub, Int.reduceMul, tabs]); (repeat' with_reducible apply And.intro) <;> first | with_reducible exact True.intro | rfl | (congr 1 <;> omega))
  ·have d1 : decide ((lo : Int) < (hi : Int)) = false := decide_eq_false (by omega)
   have k5 : lo = bsR xs t := by
    rw [← k4]
    cases f with
    | zero => rfl
    | succ f => simp only [bsP, if_neg hc1]
   have hkn : ((lo : Nat) : Int).toNat = lo := by omega
   have kB : bsB xs t = (decide (lo < n) && decide (xs.getD lo 0 = t)) := by unfold bsB; rw [← k5, hl]
   by_cases hln : lo < n
   ·have d3 : decide ((lo : Int) < (n : Int)) = true := decide_eq_true (by omega)
    have d4 : decide (lo < n) = true := decide_eq_true hln
    have hll : lo < xs.length := by omega
    cases h5 : decide (xs.getD lo 0 = t)
    all_goals
     rw [d4, h5] at kB
     ((repeat (first | (with_reducible refine Vc.seq fun N hN => ?_) | ((with_reducible refine And.intro ?_ ?_); exact sX0) | ((first | ((with_reducible refine Vc.hold ?_); first | refine Vc.regiont T0_ok GJ2_ok ?_)); (try simp only [v8Y, Nat.beq, Nat.ble, Int.reduceToNat, Int.reduceLE, Int.reduceLT, Nat.reduceLT, Nat.reduceLeDiff, Nat.reduceAdd, Nat.reduceMul, Nat.reduceSub, Int.reduceAdd, Int.reduceSub, Int.reduceMul, tabs, GJ2_set, d1])) | ((with_reducible refine hN _ _ ?_); clear hN N))))
     (refine Vc.cond T0_ok (t := false) (by rfl) (fun h => Bool.noConfusion h) (fun _ => ?_))
     ((repeat (first | ((first | with_reducible refine Vc.exit ?_); dsimp only [thenK, blockK, Nat.beq]; (first | skip)))))
     (refine hN1 _ _ ?_; (try clear hN N); clear hN1 N1)
     ((repeat (first | (with_reducible refine Vc.seq fun N hN => ?_) | ((with_reducible refine And.intro ?_ ?_); exact sX11) | ((first | ((with_reducible refine Vc.fin ?_); dsimp only [thenK, blockK, retK, resS, resOne, resAll]) | ((with_reducible refine Vc.hold ?_); first | refine Vc.regiont T0_ok GJ2_ok ?_)); (try simp only [v8Y, Nat.beq, Nat.ble, Int.reduceToNat, Int.reduceLE, Int.reduceLT, Nat.reduceLT, Nat.reduceLeDiff, Nat.reduceAdd, Nat.reduceMul, Nat.reduceSub, Int.reduceAdd, Int.reduceSub, Int.reduceMul, tabs, GJ2_set, d3, hkn, h5])) | ((with_reducible refine hN _ _ ?_); clear hN N))); (try ((with_reducible refine Fin.of ?_); (try with_reducible exact True.intro))))
     exact ⟨by first | trivial | simp, by rw [kB, k5]; rfl⟩
   ·have d3 : decide ((lo : Int) < (n : Int)) = false := decide_eq_false (by omega)
    have d4 : decide (lo < n) = false := decide_eq_false hln
    rw [d4, Bool.false_and] at kB
    ((repeat (first | (with_reducible refine Vc.seq fun N hN => ?_) | ((with_reducible refine And.intro ?_ ?_); exact sX0) | ((first | ((with_reducible refine Vc.hold ?_); first | refine Vc.regiont T0_ok GJ2_ok ?_)); (try simp only [v8Y, Nat.beq, Nat.ble, Int.reduceToNat, Int.reduceLE, Int.reduceLT, Nat.reduceLT, Nat.reduceLeDiff, Nat.reduceAdd, Nat.reduceMul, Nat.reduceSub, Int.reduceAdd, Int.reduceSub, Int.reduceMul, tabs, GJ2_set, d1])) | ((with_reducible refine hN _ _ ?_); clear hN N))))
    (refine Vc.cond T0_ok (t := false) (by rfl) (fun h => Bool.noConfusion h) (fun _ => ?_))
    ((repeat (first | ((first | with_reducible refine Vc.exit ?_); dsimp only [thenK, blockK, Nat.beq]; (first | skip)) | ((with_reducible refine And.intro ?_ ?_); exact sX0) | ((first | ((with_reducible refine Vc.hold ?_); first | refine Vc.regiont T0_ok GJ2_ok ?_)); (try simp only [v8Y, Nat.beq, Nat.ble, Int.reduceToNat, Int.reduceLE, Int.reduceLT, Nat.reduceLT, Nat.reduceLeDiff, Nat.reduceAdd, Nat.reduceMul, Nat.reduceSub, Int.reduceAdd, Int.reduceSub, Int.reduceMul, tabs, GJ2_set, ])))))
    (refine hN1 _ _ ?_; (try clear hN N); clear hN1 N1)
    ((repeat (first | (with_reducible refine Vc.seq fun N hN => ?_) | ((with_reducible refine And.intro ?_ ?_); exact sX11) | ((first | ((with_reducible refine Vc.fin ?_); dsimp only [thenK, blockK, retK, resS, resOne, resAll]) | ((with_reducible refine Vc.hold ?_); first | refine Vc.regiont T0_ok GJ2_ok ?_)); (try simp only [v8Y, Nat.beq, Nat.ble, Int.reduceToNat, Int.reduceLE, Int.reduceLT, Nat.reduceLT, Nat.reduceLeDiff, Nat.reduceAdd, Nat.reduceMul, Nat.reduceSub, Int.reduceAdd, Int.reduceSub, Int.reduceMul, tabs, GJ2_set, d3, hkn])) | ((with_reducible refine hN _ _ ?_); clear hN N))); (try ((with_reducible refine Fin.of ?_); (try with_reducible exact True.intro))))
    exact ⟨by first | trivial | simp, by rw [kB, k5]⟩
noncomputable def g_bs (args : List SV) (m : List Blk) : CR := match args with
 | [.gh a n c (.ints .i64 xs), .int .i64 t] => .pure (SlI (HM m) a n c xs) (.tup [.int .i64 (bsR xs t : Nat), .bool (bsB xs t)])
 | _ => .none
theorem g_bs_ok (w0 : World) (B : List Nat) (args : List SV) (m : List Blk) : CROk Tryd.prog w0 B 66 args m (g_bs args m) := by
 unfold g_bs; split
 ·rename_i a n c xs t
  intro h w hm
  exact calls_pure Tryd.func66 rfl rfl (bs_vc a n c xs t w (h.mono fun b o h => hm.hm h))
 ·exact trivial
noncomputable def GJ2b : Ctr := fun f args m => match f with
 | 66 => g_bs args m
 | _ => .none
theorem GJ2b_ok : GOk Tryd.prog GJ2b := by
 intro w0 B f args m; unfold GJ2b; split
 ·exact g_bs_ok _ _ _ _
 ·exact trivial
theorem GJ2b_bs : GJ2b 66 = g_bs := by funext args m; rfl
def GJ2b_set := And.intro (@GJ2b_bs) (@g_bs.eq_def)

theorem among_vc (a : Option Addr) (n c : Nat) (xs : List Int) (t : Int) (w : World) (hS : SlI (H0 w) a n c xs) :
  Calls Tryd.prog 58 (cvs [.gh a n c (.ints .i64 xs), .int .i64 t]).toArray w (fun en w' => ∃ u, en = .returned u ∧ ∃ v' m', u = cv v' ∧ MemOk w [] m' w' ∧ v' = .bool (bsB xs t)) := by
 have hSx : ∀ m, allOld w ∈ m → SlI (HM m) a n c xs := fun m hin => hS.mono (H0.hm hin)
 refine Vc.calls T0_ok Tryd.func58 rfl rfl (args := [.gh a n c (.ints .i64 xs), .int .i64 t]) (k := 12) rfl (old_start w) ?_; change Vc _ _ (c8 (.gh a n c (.ints .i64 xs)) (.int .i64 t) .undef .undef .undef .undef .undef .undef ([.undef, .undef, .undef, .undef, .undef, .undef])) _ _
 ((repeat (first | (with_reducible refine Vc.seq fun N hN => ?_) | ((with_reducible refine And.intro ?_ ?_); (focus (first | ((repeat' with_reducible apply And.intro) <;> first | exact sideQ | (exact hSx _ (by simp))) | exact sd0))) | ((first | ((with_reducible refine Vc.fin ?_); dsimp only [thenK, blockK, retK, resS, resOne, resAll]) | ((with_reducible refine Vc.hold ?_); first | refine Vc.regiont T0_ok GJ2b_ok ?_)); (try simp only [v8Y, Nat.beq, Nat.ble, Int.reduceToNat, Int.reduceLE, Int.reduceLT, Nat.reduceLT, Nat.reduceLeDiff, Nat.reduceAdd, Nat.reduceMul, Nat.reduceSub, Int.reduceAdd, Int.reduceSub, Int.reduceMul, tabs, GJ2b_set, ])) | ((with_reducible refine hN _ _ ?_); clear hN N))); (try ((with_reducible refine Fin.of ?_); (try with_reducible exact True.intro))))
 exact ⟨by first | trivial | simp, by first | rfl | trivial⟩
noncomputable def g_among (args : List SV) (m : List Blk) : CR := match args with
 | [.gh a n c (.ints .i64 xs), .int .i64 t] => .pure (SlI (HM m) a n c xs) (.bool (bsB xs t))
 | _ => .none
theorem g_among_ok (w0 : World) (B : List Nat) (args : List SV) (m : List Blk) : CROk Tryd.prog w0 B 58 args m (g_among args m) := by
 unfold g_among; split
 ·rename_i a n c xs t
  intro h w hm
  exact calls_pure Tryd.func58 rfl rfl (among_vc a n c xs t w (h.mono fun b o h => hm.hm h))
 ·exact trivial
end Go.Proofs.YtoadeekdgikghaaDoor
