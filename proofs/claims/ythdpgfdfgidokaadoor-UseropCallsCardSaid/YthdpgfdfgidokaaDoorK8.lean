/-
 Keccak-256 by the document (quaestorref02), walked: the rounds' keys, all rounds. No condition.
-/
import Derived.Test.YthdpgfdfgidokaaDoorK7
import Derived.Test.YthdpgfdfgidokaaDoorR9
set_option maxRecDepth 10000
set_option maxHeartbeats 4000000
set_option linter.defProp false
set_option linter.unusedVariables false
set_option linter.unusedSimpArgs false
namespace Go.Proofs.YthdpgfdfgidokaaDoor
open Go.RowKit
theorem qkeys_vc (w : World) : Calls Tryd.prog 104 (cvs []).toArray w (fun en w' => ∃ u, en = .returned u ∧ ∃ v m', u = cv v ∧ MemOk w [] m' w' ∧ ∃ nm s, v = .own nm s 24 ∧ bget m' nm = .own s 24 24 1 (.ints .u64 kKeys)) := by
 refine Vc.calls T0_ok Tryd.func104 rfl rfl (args := []) (k := 37) rfl (MemOk.start _) ?_; change Vc _ _ (c8 .undef .undef .undef .undef .undef .undef .undef .undef (c8 .undef .undef .undef .undef .undef .undef .undef .undef (c8 .undef .undef .undef .undef .undef .undef .undef .undef (c8 .undef .undef .undef .undef .undef .undef .undef .undef ([.undef, .undef, .undef, .undef, .undef]))))) _ _
 ((repeat (first | (with_reducible first | refine Vc.seq fun N hN => ?_ | refine Vc.block ?_) | ((with_reducible refine And.intro ?_ ?_); exact sdB) | ((first | ((with_reducible refine Vc.hold ?_); first | refine Vc.regiont T0_ok GZ0_ok ?_)); (try simp only [v8Y, Nat.beq, Nat.ble, seval, tabs])) | ((with_reducible refine hN _ _ ?_); clear hN N))))
 (revert N; intro N1 hN1)
 refine Vc.nilown 1 24 1 .u64 rfl ?_
 (simp only [v8Y, Nat.beq, Nat.ble, seval, tabs])
 refine Vc.loop 1 37 (fun (x : Value × Nat) => [(1, .own 0 x.1 x.2), (2, .int .i64 (kys x.2).2), (3, .int .i64 (x.2 : Nat))]) (fun x => [.own x.1 x.2 24 1 (.ints .u64 (kys x.2).1)]) (fun x => x.2 ≤ 24) (fun x => 24 - x.2) (.slice none 0 0, 0) ⟨by simp only; omega, ?_, ?_⟩ (fun x junk hx => ?_)
 ·((try simp only [v8Y, Nat.beq, Nat.ble, seval, tabs]); (repeat' with_reducible apply And.intro) <;> first | with_reducible exact True.intro | rfl | with_reducible rfl | (congr 1 <;> omega) | trivial)
 ·((try simp only [v8Y, Nat.beq, Nat.ble, seval, tabs]); (repeat' with_reducible apply And.intro) <;> first | with_reducible exact True.intro | rfl | with_reducible rfl | (congr 1 <;> omega) | trivial)
 ·obtain ⟨v, k⟩ := x
  simp only at hx ⊢
  obtain ⟨o1, o2⟩ := kys_ok k
  have hs := kys_s k
  generalize hkk : kys k = q at *
  obtain ⟨ql, g⟩ := q
  simp only at o1 o2 hs ⊢
  (simp only [v8Y, Nat.beq, Nat.ble, seval, tabs])
  by_cases hlt : k < 24
  ·have d1 : decide ((k : Int) < 24) = true := decide_eq_true (by omega)
   ((repeat (first | (with_reducible refine Vc.seq fun N hN => ?_) | ((with_reducible refine And.intro ?_ ?_); exact sdB) | ((first | ((with_reducible refine Vc.hold ?_); first | refine Vc.regiont T0_ok GZ0_ok ?_)); (try simp only [v8Y, Nat.beq, Nat.ble, seval, tabs, d1])) | ((with_reducible refine hN _ _ ?_); clear hN N))))
   (refine Vc.cond T0_ok (t := true) (by rfl) (fun _ => ?_) (fun h => Bool.noConfusion h))
   ((repeat (first | (with_reducible first | refine Vc.seq fun N hN => ?_ | refine Vc.block ?_) | ((with_reducible first | refine Vc.skip ?_ | refine Vc.exit ?_); dsimp only [thenK, blockK, Nat.beq]; (first | (refine hN _ _ ?_; clear hN N) | skip)) | ((with_reducible refine And.intro ?_ ?_); exact sdB) | ((first | ((with_reducible refine Vc.fin ?_); dsimp only [thenK, blockK, retK, resS, resOne, resAll]) | ((with_reducible refine Vc.hold ?_); first | refine Vc.regiont T0_ok GZ0_ok ?_)); (try simp only [v8Y, Nat.beq, Nat.ble, seval, tabs])) | ((with_reducible refine hN _ _ ?_); clear hN N))); (try ((with_reducible refine Fin.of ?_); (try with_reducible exact True.intro))))
   (revert N; intro N2 hN2)
   refine Vc.loop 2 37 (fun j => [(2, .int .i64 (ky g j).2), (3, .int .i64 (k : Nat)), (4, .int .u64 (ky g j).1), (5, .int .i64 ((2 ^ j : Nat) : Int)), (6, .int .i64 (j : Nat))]) (fun j => [.own v k 24 1 (.ints .u64 ql)]) (fun j => j ≤ 7) (fun j => 7 - j) 0 ⟨Nat.zero_le _, ?_, ?_⟩ (fun j junk2 hj => ?_)
   ·((try simp only [v8Y, Nat.beq, Nat.ble, seval, tabs]); (repeat' with_reducible apply And.intro) <;> first | with_reducible exact True.intro | rfl | with_reducible rfl | (congr 1 <;> omega) | trivial)
   ·((try simp only [v8Y, Nat.beq, Nat.ble, seval, tabs]); (repeat' with_reducible apply And.intro) <;> first | with_reducible exact True.intro | rfl | with_reducible rfl | (congr 1 <;> omega) | trivial)
   ·have p2 := ky_ok o2 j
    have hs2 := ky_s g j
    have hA : j ≤ 6 → 2 ^ j ≤ 2 ^ 6 := fun h => Nat.pow_le_pow_right (by decide) h
    have hA1 : 0 < 2 ^ j := Nat.two_pow_pos j
    have hA2 : ((2 ^ (j + 1) : Nat) : Int) = 2 * ((2 ^ j : Nat) : Int) := by rw [Nat.pow_succ]; omega
    have hA3 : j ≤ 7 → 2 ^ j ≤ 2 ^ 7 := fun h => Nat.pow_le_pow_right (by decide) h
    have hA4 := hA3 hj
    generalize 2 ^ j = A at *
    generalize hkj : ky g j = p at *
    obtain ⟨kv, gg⟩ := p
    simp only at p2 hs2 ⊢
    (simp only [v8Y, Nat.beq, Nat.ble, seval, tabs])
    by_cases hlj : j < 7
    ·have d2 : decide ((j : Int) < 7) = true := decide_eq_true (by omega)
     have hA6 := hA (by omega)
     have e1 : min (((A : Nat) : Int) - 1).toNat 64 = A - 1 := by omega
     rcases (by omega : (gg % 2 = 1 ∨ ¬ gg % 2 = 1)) with c1 | c1 <;> rcases (by omega : (256 ≤ 2 * gg ∨ ¬ 256 ≤ 2 * gg)) with c2 | c2
     ·have d3 : decide (gg % 2 = 1) = true := decide_eq_true c1
      have d4 : decide (256 ≤ 2 * gg) = true := decide_eq_true c2
      rw [if_pos c1, gN, if_pos c2] at hs2
      ((repeat (first | (with_reducible refine Vc.seq fun N hN => ?_) | ((with_reducible refine And.intro ?_ ?_); exact sdB) | ((first | ((with_reducible refine Vc.hold ?_); first | refine Vc.regiont T0_ok GZ0_ok ?_)); (try simp only [v8Y, Nat.beq, Nat.ble, seval, tabs, d2])) | ((with_reducible refine hN _ _ ?_); clear hN N))))
      (refine Vc.cond T0_ok (t := true) (by rfl) (fun _ => ?_) (fun h => Bool.noConfusion h))
      ((repeat (first | (with_reducible first | refine Vc.seq fun N hN => ?_ | refine Vc.block ?_) | ((first | with_reducible refine Vc.skip ?_); dsimp only [thenK, blockK, Nat.beq]; (first | (refine hN _ _ ?_; clear hN N))) | ((with_reducible refine And.intro ?_ ?_); exact sdB) | ((first | ((with_reducible refine Vc.hold ?_); first | refine Vc.regiont T0_ok GZ0_ok ?_)); (try simp only [v8Y, Nat.beq, Nat.ble, seval, tabs, d3])) | ((with_reducible refine hN _ _ ?_); clear hN N))))
      (refine Vc.cond T0_ok (t := true) (by rfl) (fun _ => ?_) (fun h => Bool.noConfusion h))
      ((repeat (first | (with_reducible refine Vc.seq fun N hN => ?_) | ((first | with_reducible refine Vc.skip ?_); dsimp only [thenK, blockK, Nat.beq]; (first | (refine hN _ _ ?_; clear hN N))) | ((with_reducible refine And.intro ?_ ?_); exact sdB) | ((first | ((with_reducible refine Vc.hold ?_); first | refine Vc.regiont T0_ok GZ0_ok ?_)); (try simp only [v8Y, Nat.beq, Nat.ble, seval, tabs, e1, d4]); (try simp (disch := omega) only [v8W])) | ((with_reducible refine hN _ _ ?_); clear hN N))))
      (refine Vc.cond T0_ok (t := true) (by rfl) (fun _ => ?_) (fun h => Bool.noConfusion h))
      ((repeat (first | ((first | with_reducible refine Vc.skip ?_); dsimp only [thenK, blockK, Nat.beq]; (first | (refine hN _ _ ?_; clear hN N))) | ((with_reducible refine And.intro ?_ ?_); exact sdB) | ((first | ((with_reducible refine Vc.hold ?_); first | refine Vc.regiont T0_ok GZ0_ok ?_)); (try simp only [v8Y, Nat.beq, Nat.ble, seval, tabs])) | ((with_reducible refine hN _ _ ?_); clear hN N))))
      refine ⟨j + 1, by omega, ?_, ?_, by omega⟩
      ·((try simp only [v8Y, Nat.beq, Nat.ble, seval, tabs]); (repeat' with_reducible apply And.intro) <;> first | with_reducible exact True.intro | rw [hs2] | rw [hA2] | with_reducible rfl | (congr 1 <;> omega) | trivial)
      ·((try simp only [v8Y, Nat.beq, Nat.ble, seval, tabs]); (repeat' with_reducible apply And.intro) <;> first | with_reducible exact True.intro | rfl | with_reducible rfl | (congr 1 <;> omega) | trivial)
     ·have d3 : decide (gg % 2 = 1) = true := decide_eq_true c1
      have d4 : decide (256 ≤ 2 * gg) = false := decide_eq_false c2
      rw [if_pos c1, gN, if_neg c2] at hs2
      ((repeat (first | (with_reducible refine Vc.seq fun N hN => ?_) | ((with_reducible refine And.intro ?_ ?_); exact sdB) | ((first | ((with_reducible refine Vc.hold ?_); first | refine Vc.regiont T0_ok GZ0_ok ?_)); (try simp only [v8Y, Nat.beq, Nat.ble, seval, tabs, d2])) | ((with_reducible refine hN _ _ ?_); clear hN N))))
      (refine Vc.cond T0_ok (t := true) (by rfl) (fun _ => ?_) (fun h => Bool.noConfusion h))
      ((repeat (first | (with_reducible first | refine Vc.seq fun N hN => ?_ | refine Vc.block ?_) | ((first | with_reducible refine Vc.skip ?_); dsimp only [thenK, blockK, Nat.beq]; (first | (refine hN _ _ ?_; clear hN N))) | ((with_reducible refine And.intro ?_ ?_); exact sdB) | ((first | ((with_reducible refine Vc.hold ?_); first | refine Vc.regiont T0_ok GZ0_ok ?_)); (try simp only [v8Y, Nat.beq, Nat.ble, seval, tabs, d3])) | ((with_reducible refine hN _ _ ?_); clear hN N))))
      (refine Vc.cond T0_ok (t := true) (by rfl) (fun _ => ?_) (fun h => Bool.noConfusion h))
      ((repeat (first | (with_reducible refine Vc.seq fun N hN => ?_) | ((first | with_reducible refine Vc.skip ?_); dsimp only [thenK, blockK, Nat.beq]; (first | (refine hN _ _ ?_; clear hN N))) | ((with_reducible refine And.intro ?_ ?_); exact sdB) | ((first | ((with_reducible refine Vc.hold ?_); first | refine Vc.regiont T0_ok GZ0_ok ?_)); (try simp only [v8Y, Nat.beq, Nat.ble, seval, tabs, e1, d4]); (try simp (disch := omega) only [v8W])) | ((with_reducible refine hN _ _ ?_); clear hN N))))
      (refine Vc.cond T0_ok (t := false) (by rfl) (fun h => Bool.noConfusion h) (fun _ => ?_))
      ((repeat (first | ((first | with_reducible refine Vc.skip ?_); dsimp only [thenK, blockK, Nat.beq]; (first | (refine hN _ _ ?_; clear hN N))) | ((with_reducible refine And.intro ?_ ?_); exact sdB) | ((first | ((with_reducible refine Vc.hold ?_); first | refine Vc.regiont T0_ok GZ0_ok ?_)); (try simp only [v8Y, Nat.beq, Nat.ble, seval, tabs])) | ((with_reducible refine hN _ _ ?_); clear hN N))))
      refine ⟨j + 1, by omega, ?_, ?_, by omega⟩
      ·((try simp only [v8Y, Nat.beq, Nat.ble, seval, tabs]); (repeat' with_reducible apply And.intro) <;> first | with_reducible exact True.intro | rw [hs2] | rw [hA2] | with_reducible rfl | (congr 1 <;> omega) | trivial)
      ·((try simp only [v8Y, Nat.beq, Nat.ble, seval, tabs]); (repeat' with_reducible apply And.intro) <;> first | with_reducible exact True.intro | rfl | with_reducible rfl | (congr 1 <;> omega) | trivial)
     ·have d3 : decide (gg % 2 = 1) = false := decide_eq_false c1
      have d4 : decide (256 ≤ 2 * gg) = true := decide_eq_true c2
      rw [if_neg c1, gN, if_pos c2] at hs2
      ((repeat (first | (with_reducible refine Vc.seq fun N hN => ?_) | ((with_reducible refine And.intro ?_ ?_); exact sdB) | ((first | ((with_reducible refine Vc.hold ?_); first | refine Vc.regiont T0_ok GZ0_ok ?_)); (try simp only [v8Y, Nat.beq, Nat.ble, seval, tabs, d2])) | ((with_reducible refine hN _ _ ?_); clear hN N))))
      (refine Vc.cond T0_ok (t := true) (by rfl) (fun _ => ?_) (fun h => Bool.noConfusion h))
      ((repeat (first | (with_reducible first | refine Vc.seq fun N hN => ?_ | refine Vc.block ?_) | ((first | with_reducible refine Vc.skip ?_); dsimp only [thenK, blockK, Nat.beq]; (first | (refine hN _ _ ?_; clear hN N))) | ((with_reducible refine And.intro ?_ ?_); exact sdB) | ((first | ((with_reducible refine Vc.hold ?_); first | refine Vc.regiont T0_ok GZ0_ok ?_)); (try simp only [v8Y, Nat.beq, Nat.ble, seval, tabs, d3])) | ((with_reducible refine hN _ _ ?_); clear hN N))))
      (refine Vc.cond T0_ok (t := false) (by rfl) (fun h => Bool.noConfusion h) (fun _ => ?_))
      ((repeat (first | (with_reducible refine Vc.seq fun N hN => ?_) | ((first | with_reducible refine Vc.skip ?_); dsimp only [thenK, blockK, Nat.beq]; (first | (refine hN _ _ ?_; clear hN N))) | ((with_reducible refine And.intro ?_ ?_); exact sdB) | ((first | ((with_reducible refine Vc.hold ?_); first | refine Vc.regiont T0_ok GZ0_ok ?_)); (try simp only [v8Y, Nat.beq, Nat.ble, seval, tabs, e1, d4]); (try simp (disch := omega) only [v8W])) | ((with_reducible refine hN _ _ ?_); clear hN N))))
      (refine Vc.cond T0_ok (t := true) (by rfl) (fun _ => ?_) (fun h => Bool.noConfusion h))
      ((repeat (first | ((first | with_reducible refine Vc.skip ?_); dsimp only [thenK, blockK, Nat.beq]; (first | (refine hN _ _ ?_; clear hN N))) | ((with_reducible refine And.intro ?_ ?_); exact sdB) | ((first | ((with_reducible refine Vc.hold ?_); first | refine Vc.regiont T0_ok GZ0_ok ?_)); (try simp only [v8Y, Nat.beq, Nat.ble, seval, tabs])) | ((with_reducible refine hN _ _ ?_); clear hN N))))
      refine ⟨j + 1, by omega, ?_, ?_, by omega⟩
      ·((try simp only [v8Y, Nat.beq, Nat.ble, seval, tabs]); (repeat' with_reducible apply And.intro) <;> first | with_reducible exact True.intro | rw [hs2] | rw [hA2] | with_reducible rfl | (congr 1 <;> omega) | trivial)
      ·((try simp only [v8Y, Nat.beq, Nat.ble, seval, tabs]); (repeat' with_reducible apply And.intro) <;> first | with_reducible exact True.intro | rfl | with_reducible rfl | (congr 1 <;> omega) | trivial)
     ·have d3 : decide (gg % 2 = 1) = false := decide_eq_false c1
      have d4 : decide (256 ≤ 2 * gg) = false := decide_eq_false c2
      rw [if_neg c1, gN, if_neg c2] at hs2
      ((repeat (first | (with_reducible refine Vc.seq fun N hN => ?_) | ((with_reducible refine And.intro ?_ ?_); exact sdB) | ((first | ((with_reducible refine Vc.hold ?_); first | refine Vc.regiont T0_ok GZ0_ok ?_)); (try simp only [v8Y, Nat.beq, Nat.ble, seval, tabs, d2])) | ((with_reducible refine hN _ _ ?_); clear hN N))))
      (refine Vc.cond T0_ok (t := true) (by rfl) (fun _ => ?_) (fun h => Bool.noConfusion h))
      ((repeat (first | (with_reducible first | refine Vc.seq fun N hN => ?_ | refine Vc.block ?_) | ((first | with_reducible refine Vc.skip ?_); dsimp only [thenK, blockK, Nat.beq]; (first | (refine hN _ _ ?_; clear hN N))) | ((with_reducible refine And.intro ?_ ?_); exact sdB) | ((first | ((with_reducible refine Vc.hold ?_); first | refine Vc.regiont T0_ok GZ0_ok ?_)); (try simp only [v8Y, Nat.beq, Nat.ble, seval, tabs, d3])) | ((with_reducible refine hN _ _ ?_); clear hN N))))
      (refine Vc.cond T0_ok (t := false) (by rfl) (fun h => Bool.noConfusion h) (fun _ => ?_))
      ((repeat (first | (with_reducible refine Vc.seq fun N hN => ?_) | ((first | with_reducible refine Vc.skip ?_); dsimp only [thenK, blockK, Nat.beq]; (first | (refine hN _ _ ?_; clear hN N))) | ((with_reducible refine And.intro ?_ ?_); exact sdB) | ((first | ((with_reducible refine Vc.hold ?_); first | refine Vc.regiont T0_ok GZ0_ok ?_)); (try simp only [v8Y, Nat.beq, Nat.ble, seval, tabs, e1, d4]); (try simp (disch := omega) only [v8W])) | ((with_reducible refine hN _ _ ?_); clear hN N))))
      (refine Vc.cond T0_ok (t := false) (by rfl) (fun h => Bool.noConfusion h) (fun _ => ?_))
      ((repeat (first | ((first | with_reducible refine Vc.skip ?_); dsimp only [thenK, blockK, Nat.beq]; (first | (refine hN _ _ ?_; clear hN N))) | ((with_reducible refine And.intro ?_ ?_); exact sdB) | ((first | ((with_reducible refine Vc.hold ?_); first | refine Vc.regiont T0_ok GZ0_ok ?_)); (try simp only [v8Y, Nat.beq, Nat.ble, seval, tabs])) | ((with_reducible refine hN _ _ ?_); clear hN N))))
      refine ⟨j + 1, by omega, ?_, ?_, by omega⟩
      ·((try simp only [v8Y, Nat.beq, Nat.ble, seval, tabs]); (repeat' with_reducible apply And.intro) <;> first | with_reducible exact True.intro | rw [hs2] | rw [hA2] | with_reducible rfl | (congr 1 <;> omega) | trivial)
      ·((try simp only [v8Y, Nat.beq, Nat.ble, seval, tabs]); (repeat' with_reducible apply And.intro) <;> first | with_reducible exact True.intro | rfl | with_reducible rfl | (congr 1 <;> omega) | trivial)
    ·have d2 : decide ((j : Int) < 7) = false := decide_eq_false (by omega)
     obtain rfl : j = 7 := by omega
     rw [hkj] at hs
     ((repeat (first | (with_reducible refine Vc.seq fun N hN => ?_) | ((with_reducible refine And.intro ?_ ?_); exact sdB) | ((first | ((with_reducible refine Vc.hold ?_); first | refine Vc.regiont T0_ok GZ0_ok ?_)); (try simp only [v8Y, Nat.beq, Nat.ble, seval, tabs, d2])) | ((with_reducible refine hN _ _ ?_); clear hN N))))
     (refine Vc.cond T0_ok (t := false) (by rfl) (fun h => Bool.noConfusion h) (fun _ => ?_))
     ((repeat (first | (with_reducible refine Vc.seq fun N hN => ?_) | ((first | with_reducible refine Vc.exit ?_); dsimp only [thenK, blockK, Nat.beq]; (first | skip)) | ((with_reducible refine And.intro ?_ ?_); exact sdB) | ((first | ((with_reducible refine Vc.fin ?_); dsimp only [thenK, blockK, retK, resS, resOne, resAll]) | ((with_reducible refine Vc.hold ?_); first | refine Vc.regiont T0_ok GZ0_ok ?_)); (try simp only [v8Y, Nat.beq, Nat.ble, seval, tabs])) | ((with_reducible refine hN _ _ ?_); clear hN N))); (try ((with_reducible refine Fin.of ?_); (try with_reducible exact True.intro))))
     (refine hN2 _ _ ?_; (try clear hN N); clear hN2 N2)
     ((repeat (first | (with_reducible intro _) | ((with_reducible refine And.intro ?_ ?_); (focus (first | ((repeat' with_reducible apply And.intro) <;> first | exact sideQ | (simp only [List.length_cons, List.length_nil, o1]; omega)) | exact sd0))) | ((first | ((with_reducible refine Vc.hold ?_); first | refine Vc.regiont T0_ok GZ0_ok ?_)); (try simp only [v8Y, Nat.beq, Nat.ble, seval, tabs, List.drop_zero, List.take_succ_cons, List.take_zero])) | ((with_reducible refine hN _ _ ?_); clear hN N))))
     rename_i b2 v2
     refine ⟨(v2, k + 1), by simp only; omega, ?_, ?_, by simp only; omega⟩
     ·((try simp only [v8Y, Nat.beq, Nat.ble, seval, tabs]); (repeat' with_reducible apply And.intro) <;> first | with_reducible exact True.intro | rw [hs] | with_reducible rfl | (congr 1 <;> omega) | trivial)
     ·((try simp only [v8Y, Nat.beq, Nat.ble, seval, tabs]); (repeat' with_reducible apply And.intro) <;> first | with_reducible exact True.intro | rw [hs] | with_reducible rfl | (congr 1 <;> omega) | trivial)
  ·have d1 : decide ((k : Int) < 24) = false := decide_eq_false (by omega)
   obtain rfl : k = 24 := by omega
   have hql : ql = kKeys := by rw [← kys_24, hkk]
   ((repeat (first | (with_reducible refine Vc.seq fun N hN => ?_) | ((with_reducible refine And.intro ?_ ?_); exact sdB) | ((first | ((with_reducible refine Vc.hold ?_); first | refine Vc.regiont T0_ok GZ0_ok ?_)); (try simp only [v8Y, Nat.beq, Nat.ble, seval, tabs, d1])) | ((with_reducible refine hN _ _ ?_); clear hN N))))
   (refine Vc.cond T0_ok (t := false) (by rfl) (fun h => Bool.noConfusion h) (fun _ => ?_))
   ((repeat (first | (with_reducible first | refine Vc.seq fun N hN => ?_ | refine Vc.block ?_) | ((with_reducible first | refine Vc.skip ?_ | refine Vc.exit ?_); dsimp only [thenK, blockK, Nat.beq]; (first | (refine hN _ _ ?_; clear hN N) | skip)) | ((with_reducible refine And.intro ?_ ?_); exact sdB) | ((first | ((with_reducible refine Vc.fin ?_); dsimp only [thenK, blockK, retK, resS, resOne, resAll]) | ((with_reducible refine Vc.hold ?_); first | refine Vc.regiont T0_ok GZ0_ok ?_)); (try simp only [v8Y, Nat.beq, Nat.ble, seval, tabs])) | ((with_reducible refine hN _ _ ?_); clear hN N))); (try ((with_reducible refine Fin.of ?_); (try with_reducible exact True.intro))))
   (refine hN1 _ _ ?_; (try clear hN N); clear hN1 N1)
   ((repeat (first | (with_reducible first | refine Vc.seq fun N hN => ?_ | refine Vc.block ?_) | ((with_reducible first | refine Vc.skip ?_ | refine Vc.exit ?_); dsimp only [thenK, blockK, Nat.beq]; (first | (refine hN _ _ ?_; clear hN N) | skip)) | ((with_reducible refine And.intro ?_ ?_); exact sdB) | ((first | ((with_reducible refine Vc.fin ?_); dsimp only [thenK, blockK, retK, resS, resOne, resAll]) | ((with_reducible refine Vc.hold ?_); first | refine Vc.regiont T0_ok GZ0_ok ?_)); (try simp only [v8Y, Nat.beq, Nat.ble, seval, tabs])) | ((with_reducible refine hN _ _ ?_); clear hN N))); (try ((with_reducible refine Fin.of ?_); (try with_reducible exact True.intro))))
   exact ⟨trivial, 0, v, rfl, by rw [← hql]; rfl⟩
theorem qC_s (l : List Int) (k : Nat) : qC l (k + 1) = qC l k ++ [bits .xor .u64 (bits .xor .u64 (bits .xor .u64 (bits .xor .u64 (l.getD k 0) (l.getD (5 + k) 0)) (l.getD (10 + k) 0)) (l.getD (15 + k) 0)) (l.getD (20 + k) 0)] := it_s _ _ _
theorem qC_len (l : List Int) : ∀ k, (qC l k).length = k
 | 0 => rfl
 | k + 1 => by rw [qC_s, List.length_append, qC_len l k]; rfl
def qIn (l : List Int) (d : Int) (x : Nat) (b : List Int) (n : Nat) : List Int := it (qIs l kTurns d x) n b
theorem qIn_s (l : List Int) (d : Int) (x : Nat) (b : List Int) (y : Nat) : qIn l d x b (y + 1) = (qIn l d x b y).set (5 * ((2 * x + 3 * y) % 5) + y) (qRot (bits .xor .u64 (l.getD (5 * y + x) 0) d) (kTurns.getD (5 * y + x) 0)) := it_s _ _ _
theorem qIn_len (l : List Int) (d : Int) (x : Nat) (b : List Int) (y : Nat) : (qIn l d x b y).length = b.length := it_len (fun _ _ => by unfold qIs; rw [List.length_set]) _ _
def qBk (l : List Int) (d : Nat → Int) (n : Nat) : List Int := qB l kTurns d n
theorem qBk_s (l : List Int) (d : Nat → Int) (x : Nat) : qBk l d (x + 1) = qIn l (d x) x (qBk l d x) 5 := it_s _ _ _
theorem qBk_len (l : List Int) (d : Nat → Int) (x : Nat) : (qBk l d x).length = 25 := it_len (fun _ _ => qIn_len _ _ _ _ _) _ _
def qNx (b n : List Int) (y k : Nat) : List Int := it (qNi b y) k n
theorem qNx_s (b n : List Int) (y k : Nat) : qNx b n y (k + 1) = qNx b n y k ++ [bits .xor .u64 (b.getD (5 * y + k) 0) (bits .and .u64 (bits .xor .u64 18446744073709551615 (b.getD (5 * y + (k + 1) % 5) 0)) (b.getD (5 * y + (k + 2) % 5) 0))] := it_s _ _ _
theorem qNx_len (b n : List Int) (y : Nat) : ∀ k, (qNx b n y k).length = n.length + k
 | 0 => rfl
 | k + 1 => by rw [qNx_s, List.length_append, qNx_len b n y k]; rfl
theorem qN_s (b : List Int) (y : Nat) : qN b (y + 1) = qNx b (qN b y) y 5 := it_s _ _ _
theorem qN_len (b : List Int) : ∀ y, (qN b y).length = 5 * y
 | 0 => rfl
 | y + 1 => by rw [qN_s, qNx_len, qN_len b y]; omega
def qMx (l : List Int) (n : Nat) : List Int := it (fun l i => qRnd (kKeys.getD i 0) kTurns l) n l
theorem qMx_s (l : List Int) (n : Nat) : qMx l (n + 1) = (qN (qBk (qMx l n) (kD (qC (qMx l n) 5)) 5) 5).set 0 (bits .xor .u64 ((qN (qBk (qMx l n) (kD (qC (qMx l n) 5)) 5) 5).getD 0 0) (kKeys.getD n 0)) := it_s _ _ _
theorem qMx_len (l : List Int) (h : l.length = 25) : ∀ n, (qMx l n).length = 25
 | 0 => h
 | n + 1 => by rw [qMx_s, List.length_set, qN_len]
theorem turns_at : ∀ k, k < 25 → (kTurnsI.getD k 0).toNat = kTurns.getD k 0 ∧ 0 ≤ kTurnsI.getD k 0 ∧ kTurnsI.getD k 0 ≤ 63 := by decide
noncomputable def GK4 : Ctr := fun f args m => match f with
 | 124 => g_qRot args m
 | _ => .none
theorem GK4_ok : GOk Tryd.prog GK4 := by
 intro w0 B f args m; unfold GK4; split
 ·exact g_qRot_ok _ _ _ _
 ·exact trivial
theorem GK4_qRot : GK4 124 = g_qRot := by funext args m; rfl
def GK4_set := And.intro (@GK4_qRot) (@g_qRot.eq_def)

end Go.Proofs.YthdpgfdfgidokaaDoor
