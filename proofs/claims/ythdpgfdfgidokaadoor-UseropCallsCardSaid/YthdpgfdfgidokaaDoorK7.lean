/-
 Keccak-256 by the document (quaestorref02), walked: turning a number, how far each lane is turned, the rounds' keys. No condition.
-/
import Derived.Test.YthdpgfdfgidokaaDoorKC
set_option maxRecDepth 10000
set_option maxHeartbeats 4000000
set_option linter.unusedVariables false
set_option linter.unusedSimpArgs false
namespace Go.Proofs.YthdpgfdfgidokaaDoor
open Go.RowKit
theorem Vc.loop2 {P : Program} {c : Code} {K : Kont} {env : List SV} {m : List Blk} {α : Type} (lo hi : Nat) (u : α → List (Nat × SV)) (M : α → List Blk) (Pr : α → Prop) (μ : α → Nat) (N : Nat)
  (h0 : Vc P c env m (thenK (fun env' m' => ∃ x', Pr x' ∧ agr lo hi (u x') 0 env env' ∧ bpre (M x') m' ∧ μ x' < N) K))
  (hb : ∀ x junk, Pr x → Vc P c (hav junk lo hi (u x) 0 env) (M x) (thenK (fun env' m' => ∃ x', Pr x' ∧ agr lo hi (u x') 0 env env' ∧ bpre (M x') m' ∧ μ x' < μ x) K)) : Vc P (.loop c) env m K := by
 have wk : ∀ {c : Code} {env : List SV} {l r : List Blk} {K : Kont}, Vc P c env l K → Vc P c env (l ++ r) K := fun h w0 B a w hf hd hm => h w0 B a w hf hd hm.front
 refine Vc.loopJ (fun (o : Option α) e m' => match o with | none => e = env ∧ m' = m | some x => Pr x ∧ agr lo hi (u x) 0 env e ∧ bpre (M x) m') (fun o => match o with | none => N | some x => μ x) none ⟨rfl, rfl⟩ fun o e m' hJ => ?_
 cases o with
 | none =>
  obtain ⟨rfl, rfl⟩ := hJ
  refine Vc.mono h0 fun e env' m' hk => ?_
  cases e <;> first | exact hk | (obtain ⟨x', a, b, c, d⟩ := hk; exact ⟨some x', ⟨a, b, c⟩, d⟩)
 | some x =>
  obtain ⟨h1, h2, h3⟩ := hJ
  obtain ⟨junk, _, rfl⟩ := agr_hav h2
  obtain ⟨r, rfl⟩ := bpre_app h3
  refine wk (Vc.mono (hb x junk h1) fun e env' m' hk => ?_)
  cases e <;> first | exact hk | (obtain ⟨x', a, b, c, d⟩ := hk; exact ⟨some x', ⟨a, b, c⟩, d⟩)
theorem nums_sub {l1 l2 : List Blk} (h : l1.Sublist l2) : (l1.flatMap Blk.nums).Sublist (l2.flatMap Blk.nums) := by
 induction h with
 | slnil => exact List.Sublist.refl _
 | cons a _ ih => rw [List.flatMap_cons]; exact ih.trans (List.sublist_append_right _ _)
 | cons_cons a _ ih => rw [List.flatMap_cons, List.flatMap_cons]; exact List.Sublist.append (List.Sublist.refl _) ih
theorem qrot_vc (v n : Int) (hn : 0 ≤ n ∧ n ≤ 63) (w : World) : Calls Tryd.prog 124 (cvs [.int .u64 v, .int .i64 n]).toArray w (fun en w' => ∃ u, en = .returned u ∧ ∃ v' m', u = cv v' ∧ MemOk w [] m' w' ∧ v' = .int .u64 (qRot v n.toNat)) := by
 by_cases h0 : n = 0
 ·subst h0
  refine Vc.calls T0_ok Tryd.func124 rfl rfl (args := [.int .u64 v, .int .i64 0]) (k := 16) rfl (MemOk.start _) ?_; change Vc _ _ (c8 (.int .u64 v) (.int .i64 0) .undef .undef .undef .undef .undef .undef (c8 .undef .undef .undef .undef .undef .undef .undef .undef ([.undef, .undef]))) _ _
  ((repeat (first | (with_reducible refine Vc.seq fun N hN => ?_) | ((with_reducible refine And.intro ?_ ?_); exact sdB) | ((first | ((with_reducible refine Vc.fin ?_); dsimp only [thenK, blockK, retK, resS, resOne, resAll]) | ((with_reducible refine Vc.hold ?_); first | refine Vc.regiont T0_ok GZ0_ok ?_)); (try simp only [v8Y, Nat.beq, Nat.ble, seval, tabs])) | ((with_reducible refine hN _ _ ?_); clear hN N))); (try ((with_reducible refine Fin.of ?_); (try with_reducible exact True.intro))))
  (refine Vc.cond T0_ok (t := true) (by rfl) (fun _ => ?_) (fun h => Bool.noConfusion h))
  ((repeat (first | (with_reducible refine Vc.seq fun N hN => ?_) | ((with_reducible refine And.intro ?_ ?_); exact sdB) | ((first | ((with_reducible refine Vc.fin ?_); dsimp only [thenK, blockK, retK, resS, resOne, resAll]) | ((with_reducible refine Vc.hold ?_); first | refine Vc.regiont T0_ok GZ0_ok ?_)); (try simp only [v8Y, Nat.beq, Nat.ble, seval, tabs])) | ((with_reducible refine hN _ _ ?_); clear hN N))); (try ((with_reducible refine Fin.of ?_); (try with_reducible exact True.intro))))
  ((try simp only [v8Y, Nat.beq, Nat.ble, seval, tabs]); (repeat' with_reducible apply And.intro) <;> first | with_reducible exact True.intro | rw [show (0 : Int).toNat = 0 from rfl, qRot_0] | with_reducible rfl | (congr 1 <;> omega) | trivial)
 ·have d1 : decide (n = 0) = false := decide_eq_false h0
  have e1 : min n.toNat 64 = n.toNat := by omega
  have e2 : min (64 - n).toNat 64 = 64 - n.toNat := by omega
  have e3 : qRot v n.toNat = rt v n.toNat := if_neg (by omega)
  refine Vc.calls T0_ok Tryd.func124 rfl rfl (args := [.int .u64 v, .int .i64 n]) (k := 16) rfl (MemOk.start _) ?_; change Vc _ _ (c8 (.int .u64 v) (.int .i64 n) .undef .undef .undef .undef .undef .undef (c8 .undef .undef .undef .undef .undef .undef .undef .undef ([.undef, .undef]))) _ _
  ((repeat (first | (with_reducible refine Vc.seq fun N hN => ?_) | ((with_reducible refine And.intro ?_ ?_); exact sdB) | ((first | ((with_reducible refine Vc.hold ?_); first | refine Vc.regiont T0_ok GZ0_ok ?_)); (try simp only [v8Y, Nat.beq, Nat.ble, seval, tabs, d1])) | ((with_reducible refine hN _ _ ?_); clear hN N))))
  (refine Vc.cond T0_ok (t := false) (by rfl) (fun h => Bool.noConfusion h) (fun _ => ?_))
  ((repeat (first | (with_reducible refine Vc.seq fun N hN => ?_) | ((first | with_reducible refine Vc.skip ?_); dsimp only [thenK, blockK, Nat.beq]; (first | (refine hN _ _ ?_; clear hN N))) | ((with_reducible refine And.intro ?_ ?_); exact sdB) | ((first | ((with_reducible refine Vc.fin ?_); dsimp only [thenK, blockK, retK, resS, resOne, resAll]) | ((with_reducible refine Vc.hold ?_); first | refine Vc.regiont T0_ok GZ0_ok ?_)); (try simp only [v8Y, Nat.beq, Nat.ble, seval, tabs, e1, e2]); (try simp (disch := omega) only [v8W])) | ((with_reducible refine hN _ _ ?_); clear hN N))); (try ((with_reducible refine Fin.of ?_); (try with_reducible exact True.intro))))
  ((try simp only [v8Y, Nat.beq, Nat.ble, seval, tabs]); (repeat' with_reducible apply And.intro) <;> first | with_reducible exact True.intro | (rw [e3]; rfl) | with_reducible rfl | (congr 1 <;> omega) | trivial)
def g_qRot (args : List SV) (_m : List Blk) : CR := match args with | [.int .u64 v, .int .i64 n] => .pure (0 ≤ n ∧ n ≤ 63) (.int .u64 (qRot v n.toNat)) | _ => .none
theorem g_qRot_ok (w0 : World) (B : List Nat) (args : List SV) (m : List Blk) : CROk Tryd.prog w0 B 124 args m (g_qRot args m) := by
 unfold g_qRot; split
 ·rename_i v n; exact fun h w _ => calls_pure Tryd.func124 rfl rfl (qrot_vc v n h w)
 ·exact trivial
def trS (p : List Int × Int × Int) (t : Nat) : List Int × Int × Int := (p.1.set (5 * p.2.2 + p.2.1).toNat (((t + 1) * (t + 2) / 2 % 64 : Nat) : Int), p.2.2, (2 * p.2.1 + 3 * p.2.2) % 5)
def tr (n : Nat) : List Int × Int × Int := it trS n (List.replicate 25 0, 1, 0)
theorem tr_s (n : Nat) : tr (n + 1) = ((tr n).1.set (5 * (tr n).2.2 + (tr n).2.1).toNat (((n + 1) * (n + 2) / 2 % 64 : Nat) : Int), (tr n).2.2, (2 * (tr n).2.1 + 3 * (tr n).2.2) % 5) := it_s _ _ _
theorem tr_ok : ∀ n, (tr n).1.length = 25 ∧ (0 ≤ (tr n).2.1 ∧ (tr n).2.1 < 5) ∧ (0 ≤ (tr n).2.2 ∧ (tr n).2.2 < 5)
 | 0 => by decide
 | n + 1 => by
  obtain ⟨h1, h2, h3⟩ := tr_ok n
  rw [tr_s]
  refine ⟨by simp only [List.length_set]; exact h1, h3, ?_⟩
  simp only
  omega
def kTurnsI : List Int := [0, 1, 62, 28, 27, 36, 44, 6, 55, 20, 3, 10, 43, 25, 39, 41, 45, 15, 21, 8, 18, 2, 61, 56, 14]
theorem tr_24 : (tr 24).1 = kTurnsI := by decide +kernel
theorem rep_push (n : Nat) : List.replicate n (0 : Int) ++ [0] = List.replicate (n + 1) 0 := List.replicate_succ'.symm
theorem turns_vc (w : World) : Calls Tryd.prog 103 (cvs []).toArray w (fun en w' => ∃ u, en = .returned u ∧ ∃ v m', u = cv v ∧ MemOk w [] m' w' ∧ ∃ nm s, v = .own nm s 25 ∧ bget m' nm = .own s 25 3 1 (.ints .i64 kTurnsI)) := by
 refine Vc.calls T0_ok Tryd.func103 rfl rfl (args := []) (k := 39) rfl (MemOk.start _) ?_; change Vc _ _ (c8 .undef .undef .undef .undef .undef .undef .undef .undef (c8 .undef .undef .undef .undef .undef .undef .undef .undef (c8 .undef .undef .undef .undef .undef .undef .undef .undef (c8 .undef .undef .undef .undef .undef .undef .undef .undef ([.undef, .undef, .undef, .undef, .undef, .undef, .undef]))))) _ _
 refine Vc.seq fun N hN => ?_
 refine Vc.regiont T0_ok GZ0_ok ?_
 (simp only [v8Y, Nat.beq, Nat.ble, seval, tabs])
 refine ⟨trivial, hN _ _ ?_⟩
 clear hN N
 refine Vc.seq fun N hN => ?_
 refine Vc.regionOwn T0_ok GZ0_ok (e := 3) (k := .i64) (xs := [0]) (by rfl) rfl (Nat.le_of_ble_eq_true rfl) (fun v0 => ?_)
 (simp only [v8Y, Nat.beq, Nat.ble, seval, tabs])
 refine ⟨trivial, hN _ _ ?_⟩
 clear hN N
 refine Vc.seq fun N hN => ?_
 refine Vc.block ?_
 (revert N; intro N1 hN1)
 refine Vc.loop 1 13 (fun (x : Value × Nat) => [(1, .own 0 x.1 x.2)]) (fun x => [.own x.1 x.2 3 1 (.ints .i64 (List.replicate x.2 0))]) (fun x => x.2 ≤ 25) (fun x => 25 - x.2) (v0, 1) ⟨by simp only; omega, ?_, ?_⟩ (fun x junk hx => ?_)
 ·((try simp only [v8Y, Nat.beq, Nat.ble, seval, tabs]); (repeat' with_reducible apply And.intro) <;> first | with_reducible exact True.intro | rfl | with_reducible rfl | (congr 1 <;> omega) | trivial)
 ·((try simp only [v8Y, Nat.beq, Nat.ble, seval, tabs]); (repeat' with_reducible apply And.intro) <;> first | with_reducible exact True.intro | rfl | with_reducible rfl | (congr 1 <;> omega) | trivial)
 ·obtain ⟨v, k⟩ := x
  simp only at hx ⊢
  have hrl : (List.replicate k (0 : Int)).length = k := List.length_replicate
  (simp only [v8Y, Nat.beq, Nat.ble, seval, tabs])
  by_cases hlt : k < 25
  ·have d1 : decide ((k : Int) < 25) = true := decide_eq_true (by omega)
   have hp := rep_push k
   ((repeat (first | (with_reducible refine Vc.seq fun N hN => ?_) | ((with_reducible refine And.intro ?_ ?_); exact sdB) | ((first | ((with_reducible refine Vc.hold ?_); first | refine Vc.regiont T0_ok GZ0_ok ?_)); (try simp only [v8Y, Nat.beq, Nat.ble, seval, tabs, d1])) | ((with_reducible refine hN _ _ ?_); clear hN N))))
   (refine Vc.cond T0_ok (t := true) (by rfl) (fun _ => ?_) (fun h => Bool.noConfusion h))
   ((repeat (first | (with_reducible refine Vc.block ?_) | ((first | with_reducible refine Vc.skip ?_); dsimp only [thenK, blockK, Nat.beq]; (first | (refine hN _ _ ?_; clear hN N))) | (with_reducible intro _) | ((with_reducible refine And.intro ?_ ?_); (focus (first | ((repeat' with_reducible apply And.intro) <;> first | exact sideQ | (simp only [List.length_cons, List.length_nil, hrl]; omega)) | exact sd0))) | ((first | ((with_reducible refine Vc.hold ?_); first | refine Vc.regiont T0_ok GZ0_ok ?_)); (try simp only [v8Y, Nat.beq, Nat.ble, seval, tabs, d1, List.drop_zero, List.take_succ_cons, List.take_zero, hp])))))
   rename_i b2 v2
   refine ⟨(v2, k + 1), by simp only; omega, ?_, ?_, by simp only; omega⟩
   ·((try simp only [v8Y, Nat.beq, Nat.ble, seval, tabs]); (repeat' with_reducible apply And.intro) <;> first | with_reducible exact True.intro | rfl | with_reducible rfl | (congr 1 <;> omega) | trivial)
   ·((try simp only [v8Y, Nat.beq, Nat.ble, seval, tabs]); (repeat' with_reducible apply And.intro) <;> first | with_reducible exact True.intro | rfl | with_reducible rfl | (congr 1 <;> omega) | trivial)
  ·have d1 : decide ((k : Int) < 25) = false := decide_eq_false (by omega)
   obtain rfl : k = 25 := by omega
   ((repeat (first | (with_reducible refine Vc.seq fun N hN => ?_) | ((with_reducible refine And.intro ?_ ?_); exact sdB) | ((first | ((with_reducible refine Vc.hold ?_); first | refine Vc.regiont T0_ok GZ0_ok ?_)); (try simp only [v8Y, Nat.beq, Nat.ble, seval, tabs, d1])) | ((with_reducible refine hN _ _ ?_); clear hN N))))
   (refine Vc.cond T0_ok (t := false) (by rfl) (fun h => Bool.noConfusion h) (fun _ => ?_))
   ((repeat (first | (with_reducible first | refine Vc.seq fun N hN => ?_ | refine Vc.block ?_) | ((with_reducible first | refine Vc.skip ?_ | refine Vc.exit ?_); dsimp only [thenK, blockK, Nat.beq]; (first | (refine hN _ _ ?_; clear hN N) | skip)) | ((with_reducible refine And.intro ?_ ?_); exact sdB) | ((first | ((with_reducible refine Vc.fin ?_); dsimp only [thenK, blockK, retK, resS, resOne, resAll]) | ((with_reducible refine Vc.hold ?_); first | refine Vc.regiont T0_ok GZ0_ok ?_)); (try simp only [v8Y, Nat.beq, Nat.ble, seval, tabs])) | ((with_reducible refine hN _ _ ?_); clear hN N))); (try ((with_reducible refine Fin.of ?_); (try with_reducible exact True.intro))))
   (refine hN1 _ _ ?_; (try clear hN N); clear hN1 N1)
   ((repeat (first | (with_reducible first | refine Vc.seq fun N hN => ?_ | refine Vc.block ?_) | ((with_reducible first | refine Vc.skip ?_ | refine Vc.exit ?_); dsimp only [thenK, blockK, Nat.beq]; (first | (refine hN _ _ ?_; clear hN N) | skip)) | ((with_reducible refine And.intro ?_ ?_); exact sdB) | ((first | ((with_reducible refine Vc.fin ?_); dsimp only [thenK, blockK, retK, resS, resOne, resAll]) | ((with_reducible refine Vc.hold ?_); first | refine Vc.regiont T0_ok GZ0_ok ?_)); (try simp only [v8Y, Nat.beq, Nat.ble, seval, tabs])) | ((with_reducible refine hN _ _ ?_); clear hN N))); (try ((with_reducible refine Fin.of ?_); (try with_reducible exact True.intro))))
   (revert N; intro N2 hN2)
   refine Vc.loop 2 38 (fun t => [(2, .int .i64 (tr t).2.1), (3, .int .i64 (tr t).2.2), (4, .int .i64 (t : Nat))]) (fun t => [.own v 25 3 1 (.ints .i64 (tr t).1)]) (fun t => t ≤ 24) (fun t => 24 - t) 0 ⟨Nat.zero_le _, ?_, ?_⟩ (fun t junk2 ht => ?_)
   ·((try simp only [v8Y, Nat.beq, Nat.ble, seval, tabs]); (repeat' with_reducible apply And.intro) <;> first | with_reducible exact True.intro | rfl | with_reducible rfl | (congr 1 <;> omega) | trivial)
   ·((try simp only [v8Y, Nat.beq, Nat.ble, seval, tabs]); (repeat' with_reducible apply And.intro) <;> first | with_reducible exact True.intro | rfl | with_reducible rfl | (congr 1 <;> omega) | trivial)
   ·obtain ⟨o1, o2, o3⟩ := tr_ok t
    have hs := tr_s t
    have hP : ((t : Int) + 1) * ((t : Int) + 2) = (((t + 1) * (t + 2) : Nat) : Int) := by rw [Int.natCast_mul]; rfl
    have hP2 : (t + 1) * (t + 2) ≤ 25 * 26 := Nat.mul_le_mul (by omega) (by omega)
    generalize (t + 1) * (t + 2) = P at *
    have hq : ((P : Nat) : Int) / 2 % 64 = ((P / 2 % 64 : Nat) : Int) := by omega
    generalize htr : tr t = q at *
    obtain ⟨ql, qx, qy⟩ := q
    simp only at o1 o2 o3 hs ⊢
    (simp only [v8Y, Nat.beq, Nat.ble, seval, tabs])
    by_cases hl2 : t < 24
    ·have d2 : decide ((t : Int) < 24) = true := decide_eq_true (by omega)
     ((repeat (first | (with_reducible refine Vc.seq fun N hN => ?_) | ((with_reducible refine And.intro ?_ ?_); exact sdB) | ((first | ((with_reducible refine Vc.hold ?_); first | refine Vc.regiont T0_ok GZ0_ok ?_)); (try simp only [v8Y, Nat.beq, Nat.ble, seval, tabs, d2])) | ((with_reducible refine hN _ _ ?_); clear hN N))))
     (refine Vc.cond T0_ok (t := true) (by rfl) (fun _ => ?_) (fun h => Bool.noConfusion h))
     ((repeat (first | (with_reducible first | refine Vc.seq fun N hN => ?_ | refine Vc.block ?_) | ((first | with_reducible refine Vc.skip ?_); dsimp only [thenK, blockK, Nat.beq]; (first | (refine hN _ _ ?_; clear hN N))) | ((with_reducible refine And.intro ?_ ?_); exact sdB) | ((first | ((with_reducible refine Vc.hold ?_); first | refine Vc.regiont T0_ok GZ0_ok ?_)); (try simp only [v8Y, Nat.beq, Nat.ble, seval, tabs, d2, hP, hq])) | ((with_reducible refine hN _ _ ?_); clear hN N))))
     refine ⟨t + 1, by omega, ?_, ?_, by omega⟩
     ·((try simp only [v8Y, Nat.beq, Nat.ble, seval, tabs]); (repeat' with_reducible apply And.intro) <;> first | with_reducible exact True.intro | rw [hs] | with_reducible rfl | (congr 1 <;> omega) | trivial)
     ·((try simp only [v8Y, Nat.beq, Nat.ble, seval, tabs]); (repeat' with_reducible apply And.intro) <;> first | with_reducible exact True.intro | rw [hs] | with_reducible rfl | (congr 1 <;> omega) | trivial)
    ·have d2 : decide ((t : Int) < 24) = false := decide_eq_false (by omega)
     obtain rfl : t = 24 := by omega
     have hql : ql = kTurnsI := by rw [← tr_24, htr]
     ((repeat (first | (with_reducible refine Vc.seq fun N hN => ?_) | ((with_reducible refine And.intro ?_ ?_); exact sdB) | ((first | ((with_reducible refine Vc.hold ?_); first | refine Vc.regiont T0_ok GZ0_ok ?_)); (try simp only [v8Y, Nat.beq, Nat.ble, seval, tabs, d2])) | ((with_reducible refine hN _ _ ?_); clear hN N))))
     (refine Vc.cond T0_ok (t := false) (by rfl) (fun h => Bool.noConfusion h) (fun _ => ?_))
     ((repeat (first | (with_reducible refine Vc.seq fun N hN => ?_) | ((first | with_reducible refine Vc.exit ?_); dsimp only [thenK, blockK, Nat.beq]; (first | skip)) | ((with_reducible refine And.intro ?_ ?_); exact sdB) | ((first | ((with_reducible refine Vc.fin ?_); dsimp only [thenK, blockK, retK, resS, resOne, resAll]) | ((with_reducible refine Vc.hold ?_); first | refine Vc.regiont T0_ok GZ0_ok ?_)); (try simp only [v8Y, Nat.beq, Nat.ble, seval, tabs])) | ((with_reducible refine hN _ _ ?_); clear hN N))); (try ((with_reducible refine Fin.of ?_); (try with_reducible exact True.intro))))
     (refine hN2 _ _ ?_; (try clear hN N); clear hN2 N2)
     ((repeat (first | (with_reducible refine Vc.seq fun N hN => ?_) | ((first | with_reducible refine Vc.exit ?_); dsimp only [thenK, blockK, Nat.beq]; (first | skip)) | ((with_reducible refine And.intro ?_ ?_); exact sdB) | ((first | ((with_reducible refine Vc.fin ?_); dsimp only [thenK, blockK, retK, resS, resOne, resAll]) | ((with_reducible refine Vc.hold ?_); first | refine Vc.regiont T0_ok GZ0_ok ?_)); (try simp only [v8Y, Nat.beq, Nat.ble, seval, tabs])) | ((with_reducible refine hN _ _ ?_); clear hN N))); (try ((with_reducible refine Fin.of ?_); (try with_reducible exact True.intro))))
     exact ⟨trivial, 0, v, rfl, by rw [← hql]; rfl⟩
def gN (g : Int) : Int := if 256 ≤ 2 * g then bits .xor .i64 (2 * g) 369 else 2 * g
theorem gN_ok {g : Int} (h : 0 ≤ g ∧ g < 256) : 0 ≤ gN g ∧ gN g < 256 := by
 have : ∀ n : Nat, n < 256 → 0 ≤ gN (n : Int) ∧ gN (n : Int) < 256 := by decide +kernel
 have := this g.toNat (by omega)
 rwa [Int.toNat_of_nonneg h.1] at this
def kyS (p : Int × Int) (j : Nat) : Int × Int := (if p.2 % 2 = 1 then bits .or .u64 p.1 (IntKind.u64.wrap (1 * 2 ^ (2 ^ j - 1))) else p.1, gN p.2)
def ky (g : Int) (n : Nat) : Int × Int := it kyS n (0, g)
theorem ky_s (g : Int) (n : Nat) : ky g (n + 1) = (if (ky g n).2 % 2 = 1 then bits .or .u64 (ky g n).1 (IntKind.u64.wrap (1 * 2 ^ (2 ^ n - 1))) else (ky g n).1, gN (ky g n).2) := it_s _ _ _
theorem ky_ok {g : Int} (h : 0 ≤ g ∧ g < 256) : ∀ n, 0 ≤ (ky g n).2 ∧ (ky g n).2 < 256
 | 0 => h
 | n + 1 => by rw [ky_s]; exact gN_ok (ky_ok h n)
def kyT (p : List Int × Int) (_ : Nat) : List Int × Int := (p.1 ++ [(ky p.2 7).1], (ky p.2 7).2)
def kys (n : Nat) : List Int × Int := it kyT n ([], 1)
theorem kys_s (n : Nat) : kys (n + 1) = ((kys n).1 ++ [(ky (kys n).2 7).1], (ky (kys n).2 7).2) := it_s _ _ _
theorem kys_ok : ∀ n, (kys n).1.length = n ∧ 0 ≤ (kys n).2 ∧ (kys n).2 < 256
 | 0 => by decide
 | n + 1 => by
  obtain ⟨h1, h2⟩ := kys_ok n
  rw [kys_s]
  exact ⟨by simp only [List.length_append, List.length_cons, List.length_nil, h1], ky_ok h2 7⟩
theorem kys_24 : (kys 24).1 = kKeys := by decide +kernel
end Go.Proofs.YthdpgfdfgidokaaDoor
