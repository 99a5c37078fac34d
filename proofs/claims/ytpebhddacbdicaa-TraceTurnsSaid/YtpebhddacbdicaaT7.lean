/-
 SamePlaces (quaestorref00), walked. No condition.
-/
import Derived.Test.YtpebhddacbdicaaT6
import Derived.Test.YtpebhddacbdicaaBS
set_option maxHeartbeats 4000000
set_option linter.unusedVariables false
set_option linter.unusedSimpArgs false
namespace Go.Proofs.Ytpebhddacbdicaa
open Go.RowKit
theorem take_step_pl {l1 l2 : List (List Int)} {k : Nat} {x : List Int} (h1 : l1[k]? = some x) (h2 : l2[k]? = some x) (h : l1.take k = l2.take k) : l1.take (k + 1) = l2.take (k + 1) := by
 rw [List.take_add_one, List.take_add_one, h, h1, h2]
theorem samePl_vc (l1 l2 : List (List Int)) (o1 o2 : Option Addr) (n1 n2 c1 c2 : Nat) (e1 : l1.length = n1) (e2 : l2.length = n2) (k1 : ∀ x ∈ l1, okP x) (k2 : ∀ x ∈ l2, okP x) (h1 : n1 ≤ c1) (h2 : n2 ≤ c2) (q1 : adr o1 n1 c1) (q2 : adr o2 n2 c2) (hM : n1 ≤ 1000000) (hM2 : n2 ≤ 1000000)
  (w : World) (hm : MemOk w [] [.ro o1 (.rows 25 (l1.map plL)), .ro o2 (.rows 25 (l2.map plL))] w) :
  Calls Try.prog 39 (cvs [.sl 0 o1 0 0 25 n1 c1, .sl 1 o2 0 0 25 n2 c2]).toArray w (fun en w' => ∃ u, en = .returned u ∧ ∃ v m', u = cv v ∧ MemOk w [] m' w' ∧ v = .bool (decide (l1 = l2))) := by
 by_cases hnn : n1 = n2
 ·subst hnn
  have d0 : decide ((n1 : Int) = (n1 : Int)) = true := decide_eq_true rfl
  have hr1 : ∀ r ∈ l1.map plL, r.length = 25 := fun r hr => by
   obtain ⟨y, hy, rfl⟩ := List.mem_map.1 hr
   exact plL_len (k1 y hy)
  have hr2 : ∀ r ∈ l2.map plL, r.length = 25 := fun r hr => by
   obtain ⟨y, hy, rfl⟩ := List.mem_map.1 hr
   exact plL_len (k2 y hy)
  have hl1 : (l1.map plL).length = n1 := by rw [List.length_map, e1]
  have hl2 : (l2.map plL).length = n1 := by rw [List.length_map, e2]
  refine Vc.calls T0_ok Try.func39 rfl rfl (args := [.sl 0 o1 0 0 25 n1 c1, .sl 1 o2 0 0 25 n1 c2]) (k := 24) rfl hm ?_; change Vc _ _ (c8 (.sl 0 o1 0 0 25 n1 c1) (.sl 1 o2 0 0 25 n1 c2) .undef .undef .undef .undef .undef .undef (c8 .undef .undef .undef .undef .undef .undef .undef .undef (c8 .undef .undef .undef .undef .undef .undef .undef .undef ([.undef, .undef])))) _ _
  ((repeat (first | (with_reducible first | refine Vc.seq fun N hN => ?_ | refine Vc.block ?_) | ((first | with_reducible refine Vc.skip ?_); dsimp only [thenK, blockK, Nat.beq]; (first | (refine hN _ _ ?_; clear hN N))) | ((with_reducible refine And.intro ?_ ?_); exact sX2) | ((first | ((with_reducible refine Vc.fin ?_); dsimp only [thenK, blockK, retK, resS, resOne, resAll]) | ((with_reducible refine Vc.hold ?_); first | refine Vc.regiont T0_ok GT1_ok ?_)); (try simp only [v8Y, Nat.beq, Nat.ble, seval, tabs, GT1_set, d0])) | ((with_reducible refine hN _ _ ?_); clear hN N))); (try ((with_reducible refine Fin.of ?_); (try with_reducible exact True.intro))))
  (refine Vc.cond T0_ok (t := false) (by rfl) (fun h => Bool.noConfusion h) (fun _ => ?_))
  ((repeat (first | (with_reducible first | refine Vc.seq fun N hN => ?_ | refine Vc.block ?_) | ((first | with_reducible refine Vc.skip ?_); dsimp only [thenK, blockK, Nat.beq]; (first | (refine hN _ _ ?_; clear hN N))) | ((with_reducible refine And.intro ?_ ?_); exact sX2) | ((first | ((with_reducible refine Vc.fin ?_); dsimp only [thenK, blockK, retK, resS, resOne, resAll]) | ((with_reducible refine Vc.hold ?_); first | refine Vc.regiont T0_ok GT1_ok ?_)); (try simp only [v8Y, Nat.beq, Nat.ble, seval, tabs, GT1_set, d0])) | ((with_reducible refine hN _ _ ?_); clear hN N))); (try ((with_reducible refine Fin.of ?_); (try with_reducible exact True.intro))))
  (revert N; intro N1 hN1)
  refine Vc.loop 5 26 (fun (k : Nat) => [(5, .int .i64 (k : Nat))]) (fun k => [.ro o1 (.rows 25 (l1.map plL)), .ro o2 (.rows 25 (l2.map plL))]) (fun k => k ≤ n1 ∧ l1.take k = l2.take k) (fun k => n1 - k) 0 ⟨⟨Nat.zero_le _, by simp⟩, ?_, ?_⟩ (fun i junk hk => ?_)
  ·((try simp only [v8Y, Nat.beq, Nat.ble, seval, tabs]); (repeat' with_reducible apply And.intro) <;> first | with_reducible exact True.intro | rfl | with_reducible rfl | (congr 1 <;> omega) | trivial)
  ·((try simp only [v8Y, Nat.beq, Nat.ble, seval, tabs]); (repeat' with_reducible apply And.intro) <;> first | with_reducible exact True.intro | rfl | with_reducible rfl | (congr 1 <;> omega) | trivial)
  ·obtain ⟨hk1, hk2⟩ := hk
   (simp only [v8Y, Nat.beq, Nat.ble, seval, tabs])
   by_cases hc1 : i < n1
   ·have d1 : decide ((i : Int) < (n1 : Int)) = true := decide_eq_true (by omega)
    have tk : ((i : Nat) : Int).toNat = i := by omega
    have g1 := List.getElem?_eq_getElem (show i < l1.length by omega)
    have g2 := List.getElem?_eq_getElem (show i < l2.length by omega)
    have m1 := k1 _ (List.mem_of_getElem? g1)
    have m2 := k2 _ (List.mem_of_getElem? g2)
    have p1 := getD_of (rs := l1.map plL) (i := i) (by rw [List.getElem?_map, g1]; rfl)
    have p2 := getD_of (rs := l2.map plL) (i := i) (by rw [List.getElem?_map, g2]; rfl)
    have hne : l1[i] ≠ l2[i] → l1 ≠ l2 := fun hn he => hn (by subst he; rfl)
    generalize l1[i] = x at *
    generalize l2[i] = y at *
    have heq := eqL_pl m1 m2
    obtain ⟨x0, x1, x2, x3, x4, x5, x6, x7, x8, x9, x10, x11, x12, x13, x14, x15, x16, x17, x18, x19, bx, k0, k1, k2, k3, rfl, a1, a2, a3⟩ := okP_forms m1
    obtain ⟨y0, y1, y2, y3, y4, y5, y6, y7, y8, y9, y10, y11, y12, y13, y14, y15, y16, y17, y18, y19, bz, j0, j1, j2, j3, rfl, b1, b2, b3⟩ := okP_forms m2
    obtain ⟨fk0, fk1, fk2, fk3, _⟩ := a3
    obtain ⟨fj0, fj1, fj2, fj3, _⟩ := b3
    have fx0 : 0 ≤ x0 ∧ x0 ≤ 255 := a1 x0 (by simp)
    have fx1 : 0 ≤ x1 ∧ x1 ≤ 255 := a1 x1 (by simp)
    have fx2 : 0 ≤ x2 ∧ x2 ≤ 255 := a1 x2 (by simp)
    have fx3 : 0 ≤ x3 ∧ x3 ≤ 255 := a1 x3 (by simp)
    have fx4 : 0 ≤ x4 ∧ x4 ≤ 255 := a1 x4 (by simp)
    have fx5 : 0 ≤ x5 ∧ x5 ≤ 255 := a1 x5 (by simp)
    have fx6 : 0 ≤ x6 ∧ x6 ≤ 255 := a1 x6 (by simp)
    have fx7 : 0 ≤ x7 ∧ x7 ≤ 255 := a1 x7 (by simp)
    have fx8 : 0 ≤ x8 ∧ x8 ≤ 255 := a1 x8 (by simp)
    have fx9 : 0 ≤ x9 ∧ x9 ≤ 255 := a1 x9 (by simp)
    have fx10 : 0 ≤ x10 ∧ x10 ≤ 255 := a1 x10 (by simp)
    have fx11 : 0 ≤ x11 ∧ x11 ≤ 255 := a1 x11 (by simp)
    have fx12 : 0 ≤ x12 ∧ x12 ≤ 255 := a1 x12 (by simp)
    have fx13 : 0 ≤ x13 ∧ x13 ≤ 255 := a1 x13 (by simp)
    have fx14 : 0 ≤ x14 ∧ x14 ≤ 255 := a1 x14 (by simp)
    have fx15 : 0 ≤ x15 ∧ x15 ≤ 255 := a1 x15 (by simp)
    have fx16 : 0 ≤ x16 ∧ x16 ≤ 255 := a1 x16 (by simp)
    have fx17 : 0 ≤ x17 ∧ x17 ≤ 255 := a1 x17 (by simp)
    have fx18 : 0 ≤ x18 ∧ x18 ≤ 255 := a1 x18 (by simp)
    have fx19 : 0 ≤ x19 ∧ x19 ≤ 255 := a1 x19 (by simp)
    have fy0 : 0 ≤ y0 ∧ y0 ≤ 255 := b1 y0 (by simp)
    have fy1 : 0 ≤ y1 ∧ y1 ≤ 255 := b1 y1 (by simp)
    have fy2 : 0 ≤ y2 ∧ y2 ≤ 255 := b1 y2 (by simp)
    have fy3 : 0 ≤ y3 ∧ y3 ≤ 255 := b1 y3 (by simp)
    have fy4 : 0 ≤ y4 ∧ y4 ≤ 255 := b1 y4 (by simp)
    have fy5 : 0 ≤ y5 ∧ y5 ≤ 255 := b1 y5 (by simp)
    have fy6 : 0 ≤ y6 ∧ y6 ≤ 255 := b1 y6 (by simp)
    have fy7 : 0 ≤ y7 ∧ y7 ≤ 255 := b1 y7 (by simp)
    have fy8 : 0 ≤ y8 ∧ y8 ≤ 255 := b1 y8 (by simp)
    have fy9 : 0 ≤ y9 ∧ y9 ≤ 255 := b1 y9 (by simp)
    have fy10 : 0 ≤ y10 ∧ y10 ≤ 255 := b1 y10 (by simp)
    have fy11 : 0 ≤ y11 ∧ y11 ≤ 255 := b1 y11 (by simp)
    have fy12 : 0 ≤ y12 ∧ y12 ≤ 255 := b1 y12 (by simp)
    have fy13 : 0 ≤ y13 ∧ y13 ≤ 255 := b1 y13 (by simp)
    have fy14 : 0 ≤ y14 ∧ y14 ≤ 255 := b1 y14 (by simp)
    have fy15 : 0 ≤ y15 ∧ y15 ≤ 255 := b1 y15 (by simp)
    have fy16 : 0 ≤ y16 ∧ y16 ≤ 255 := b1 y16 (by simp)
    have fy17 : 0 ≤ y17 ∧ y17 ≤ 255 := b1 y17 (by simp)
    have fy18 : 0 ≤ y18 ∧ y18 ≤ 255 := b1 y18 (by simp)
    have fy19 : 0 ≤ y19 ∧ y19 ≤ 255 := b1 y19 (by simp)
    rw [plL_mk] at p1 p2
    rw [plL_mk, plL_mk] at heq
    by_cases hx : [x0, x1, x2, x3, x4, x5, x6, x7, x8, x9, x10, x11, x12, x13, x14, x15, x16, x17, x18, x19, bx, k0, k1, k2, k3] = [y0, y1, y2, y3, y4, y5, y6, y7, y8, y9, y10, y11, y12, y13, y14, y15, y16, y17, y18, y19, bz, j0, j1, j2, j3]
    ·rw [decide_eq_true hx] at heq
     have hs := take_step_pl g1 (hx ▸ g2) hk2
     ((repeat (first | (with_reducible refine Vc.seq fun N hN => ?_) | ((with_reducible refine And.intro ?_ ?_); exact sX2) | ((first | ((with_reducible refine Vc.hold ?_); first | refine Vc.regiont T0_ok GT1_ok ?_)); (try simp only [v8Y, Nat.beq, Nat.ble, seval, tabs, GT1_set, d1])) | ((with_reducible refine hN _ _ ?_); clear hN N))))
     (refine Vc.cond T0_ok (t := true) (by rfl) (fun _ => ?_) (fun h => Bool.noConfusion h))
     ((repeat (first | (with_reducible first | refine Vc.seq fun N hN => ?_ | refine Vc.block ?_) | ((first | with_reducible refine Vc.skip ?_); dsimp only [thenK, blockK, Nat.beq]; (first | (refine hN _ _ ?_; clear hN N))) | ((with_reducible refine And.intro ?_ ?_); exact sX2) | ((first | ((with_reducible refine Vc.hold ?_); first | refine Vc.drawt (id := 6) T0_ok GT1_ok (by kernel_rfl) [0, 1, 2, 3, 4, 5, 6, 7] 8 [] trivial (by kernel_rfl) ?_)); (try simp only [v8Y, Nat.beq, Nat.ble, seval, tabs, GT1_set, d1, tk, Nat.zero_add, p1, p2, heq, hl1, hl2])) | ((with_reducible refine hN _ _ ?_); clear hN N))))
     (refine Vc.cond T0_ok (t := false) (by rfl) (fun h => Bool.noConfusion h) (fun _ => ?_))
     ((repeat (first | (with_reducible refine Vc.seq fun N hN => ?_) | ((first | with_reducible refine Vc.skip ?_); dsimp only [thenK, blockK, Nat.beq]; (first | (refine hN _ _ ?_; clear hN N))) | ((with_reducible refine And.intro ?_ ?_); exact sX2) | ((first | ((with_reducible refine Vc.fin ?_); dsimp only [thenK, blockK, retK, resS, resOne, resAll]) | ((with_reducible refine Vc.hold ?_); first | refine Vc.regiont T0_ok GT1_ok ?_)); (try simp only [v8Y, Nat.beq, Nat.ble, seval, tabs, GT1_set, ])) | ((with_reducible refine hN _ _ ?_); clear hN N))); (try ((with_reducible refine Fin.of ?_); (try with_reducible exact True.intro))))
     refine ⟨i + 1, ⟨by omega, hs⟩, ?_, ?_, by omega⟩
     ·((try simp only [v8Y, Nat.beq, Nat.ble, seval, tabs]); (repeat' with_reducible apply And.intro) <;> first | with_reducible exact True.intro | rfl | (congr 1 <;> omega))
     ·((try simp only [v8Y, Nat.beq, Nat.ble, seval, tabs]); (repeat' with_reducible apply And.intro) <;> first | with_reducible exact True.intro | rfl | (congr 1 <;> omega))
    ·rw [decide_eq_false hx] at heq
     have hs : decide (l1 = l2) = false := decide_eq_false (hne hx)
     ((repeat (first | (with_reducible refine Vc.seq fun N hN => ?_) | ((with_reducible refine And.intro ?_ ?_); exact sX2) | ((first | ((with_reducible refine Vc.hold ?_); first | refine Vc.regiont T0_ok GT1_ok ?_)); (try simp only [v8Y, Nat.beq, Nat.ble, seval, tabs, GT1_set, d1])) | ((with_reducible refine hN _ _ ?_); clear hN N))))
     (refine Vc.cond T0_ok (t := true) (by rfl) (fun _ => ?_) (fun h => Bool.noConfusion h))
     ((repeat (first | (with_reducible first | refine Vc.seq fun N hN => ?_ | refine Vc.block ?_) | ((first | with_reducible refine Vc.skip ?_); dsimp only [thenK, blockK, Nat.beq]; (first | (refine hN _ _ ?_; clear hN N))) | ((with_reducible refine And.intro ?_ ?_); exact sX2) | ((first | ((with_reducible refine Vc.hold ?_); first | refine Vc.drawt (id := 6) T0_ok GT1_ok (by kernel_rfl) [0, 1, 2, 3, 4, 5, 6, 7] 8 [] trivial (by kernel_rfl) ?_)); (try simp only [v8Y, Nat.beq, Nat.ble, seval, tabs, GT1_set, d1, tk, Nat.zero_add, p1, p2, heq, hl1, hl2])) | ((with_reducible refine hN _ _ ?_); clear hN N))))
     (refine Vc.cond T0_ok (t := true) (by rfl) (fun _ => ?_) (fun h => Bool.noConfusion h))
     ((repeat (first | (with_reducible refine Vc.seq fun N hN => ?_) | ((first | with_reducible refine Vc.skip ?_); dsimp only [thenK, blockK, Nat.beq]; (first | (refine hN _ _ ?_; clear hN N))) | ((with_reducible refine And.intro ?_ ?_); exact sX2) | ((first | ((with_reducible refine Vc.fin ?_); dsimp only [thenK, blockK, retK, resS, resOne, resAll]) | ((with_reducible refine Vc.hold ?_); first | refine Vc.regiont T0_ok GT1_ok ?_)); (try simp only [v8Y, Nat.beq, Nat.ble, seval, tabs, GT1_set, ])) | ((with_reducible refine hN _ _ ?_); clear hN N))); (try ((with_reducible refine Fin.of ?_); (try with_reducible exact True.intro))))
     exact ⟨trivial, by rw [hs]⟩
   ·have d1 : decide ((i : Int) < (n1 : Int)) = false := decide_eq_false (by omega)
    obtain rfl : i = n1 := by omega
    have hs : decide (l1 = l2) = true := decide_eq_true (by rw [List.take_of_length_le (by omega), List.take_of_length_le (by omega)] at hk2; exact hk2)
    ((repeat (first | (with_reducible refine Vc.seq fun N hN => ?_) | ((with_reducible refine And.intro ?_ ?_); exact sX2) | ((first | ((with_reducible refine Vc.hold ?_); first | refine Vc.regiont T0_ok GT1_ok ?_)); (try simp only [v8Y, Nat.beq, Nat.ble, seval, tabs, GT1_set, d1])) | ((with_reducible refine hN _ _ ?_); clear hN N))))
    (refine Vc.cond T0_ok (t := false) (by rfl) (fun h => Bool.noConfusion h) (fun _ => ?_))
    ((repeat (first | (with_reducible refine Vc.seq fun N hN => ?_) | ((first | with_reducible refine Vc.exit ?_); dsimp only [thenK, blockK, Nat.beq]; (first | skip)) | ((with_reducible refine And.intro ?_ ?_); exact sdB) | ((first | ((with_reducible refine Vc.fin ?_); dsimp only [thenK, blockK, retK, resS, resOne, resAll]) | ((with_reducible refine Vc.hold ?_); first | refine Vc.regiont T0_ok GT1_ok ?_)); (try simp only [v8Y, Nat.beq, Nat.ble, seval, tabs, GT1_set])) | ((with_reducible refine hN _ _ ?_); clear hN N))); (try ((with_reducible refine Fin.of ?_); (try with_reducible exact True.intro))))
    (refine hN1 _ _ ?_; (try clear hN N); clear hN1 N1)
    ((repeat (first | (with_reducible refine Vc.seq fun N hN => ?_) | ((first | with_reducible refine Vc.exit ?_); dsimp only [thenK, blockK, Nat.beq]; (first | skip)) | ((with_reducible refine And.intro ?_ ?_); exact sdB) | ((first | ((with_reducible refine Vc.fin ?_); dsimp only [thenK, blockK, retK, resS, resOne, resAll]) | ((with_reducible refine Vc.hold ?_); first | refine Vc.regiont T0_ok GT1_ok ?_)); (try simp only [v8Y, Nat.beq, Nat.ble, seval, tabs, GT1_set])) | ((with_reducible refine hN _ _ ?_); clear hN N))); (try ((with_reducible refine Fin.of ?_); (try with_reducible exact True.intro))))
    exact ⟨trivial, by rw [hs]⟩
 ·have d0 : decide ((n1 : Int) = (n2 : Int)) = false := decide_eq_false (by omega)
  have hs : decide (l1 = l2) = false := decide_eq_false (fun h => hnn (by rw [← e1, ← e2, h]))
  refine Vc.calls T0_ok Try.func39 rfl rfl (args := [.sl 0 o1 0 0 25 n1 c1, .sl 1 o2 0 0 25 n2 c2]) (k := 24) rfl hm ?_; change Vc _ _ (c8 (.sl 0 o1 0 0 25 n1 c1) (.sl 1 o2 0 0 25 n2 c2) .undef .undef .undef .undef .undef .undef (c8 .undef .undef .undef .undef .undef .undef .undef .undef (c8 .undef .undef .undef .undef .undef .undef .undef .undef ([.undef, .undef])))) _ _
  ((repeat (first | (with_reducible first | refine Vc.seq fun N hN => ?_ | refine Vc.block ?_) | ((first | with_reducible refine Vc.skip ?_); dsimp only [thenK, blockK, Nat.beq]; (first | (refine hN _ _ ?_; clear hN N))) | ((with_reducible refine And.intro ?_ ?_); exact sX2) | ((first | ((with_reducible refine Vc.fin ?_); dsimp only [thenK, blockK, retK, resS, resOne, resAll]) | ((with_reducible refine Vc.hold ?_); first | refine Vc.regiont T0_ok GT1_ok ?_)); (try simp only [v8Y, Nat.beq, Nat.ble, seval, tabs, GT1_set, d0])) | ((with_reducible refine hN _ _ ?_); clear hN N))); (try ((with_reducible refine Fin.of ?_); (try with_reducible exact True.intro))))
  (refine Vc.cond T0_ok (t := true) (by rfl) (fun _ => ?_) (fun h => Bool.noConfusion h))
  ((repeat (first | (with_reducible first | refine Vc.seq fun N hN => ?_ | refine Vc.block ?_) | ((first | with_reducible refine Vc.skip ?_); dsimp only [thenK, blockK, Nat.beq]; (first | (refine hN _ _ ?_; clear hN N))) | ((with_reducible refine And.intro ?_ ?_); exact sX2) | ((first | ((with_reducible refine Vc.fin ?_); dsimp only [thenK, blockK, retK, resS, resOne, resAll]) | ((with_reducible refine Vc.hold ?_); first | refine Vc.regiont T0_ok GT1_ok ?_)); (try simp only [v8Y, Nat.beq, Nat.ble, seval, tabs, GT1_set, d0])) | ((with_reducible refine hN _ _ ?_); clear hN N))); (try ((with_reducible refine Fin.of ?_); (try with_reducible exact True.intro))))
  exact ⟨trivial, by rw [hs]⟩
def g_samePl (args : List SV) (m : List Blk) : CR :=
 match args with
 | [x, y] => match srcC x m, srcC y m with
  | some (q, k, .rows 25 r1), some (q', k', .rows 25 r2) => .pure (q ∧ q' ∧ k ≤ 1000000 ∧ k' ≤ 1000000 ∧ (∃ l1 : List (List Int), r1 = l1.map plL ∧ ∀ x ∈ l1, okP x) ∧ (∃ l2 : List (List Int), r2 = l2.map plL ∧ ∀ x ∈ l2, okP x)) (.bool (decide (plsOf r1 = plsOf r2)))
  | _, _ => .none
 | _ => .none
theorem rows25 {l : List (List Int)} (h : ∀ x ∈ l, okP x) : (cc (.rows 25 (l.map plL))).length = l.length * 25 := by
 simp only [cc]
 induction l with
 | nil => simp
 | cons x l ih => rw [List.map_cons, List.flatMap_cons, List.length_append, ih (fun y hy => h y (List.mem_cons_of_mem _ hy)), cvs_eq, List.length_map, plL_len (h x List.mem_cons_self), List.length_cons]; omega
theorem g_samePl_ok (w0 : World) (B : List Nat) (args : List SV) (m : List Blk) : CROk Try.prog w0 B 39 args m (g_samePl args m) := by
 unfold g_samePl
 split
 ·rename_i x y
  split
  ·rename_i q k r1 q' k' r2 hs hs'
   rintro ⟨hq, hq', hk, hk', ⟨l1, rfl, o1⟩, ⟨l2, rfl, o2⟩⟩ w hm
   obtain ⟨e1, a1, c1, h1, b1, m1, d1⟩ := src_ro hs hq hm
   obtain ⟨e2, a2, c2, h2, b2, m2, d2⟩ := src_ro hs' hq' hm
   have e : cvs [x, y] = cvs [.sl 0 a1 0 0 25 k c1, .sl 1 a2 0 0 25 k' c2] := by simp only [cvs]; rw [h1, h2]; rfl
   rw [e, plsOf_eq o1, plsOf_eq o2]
   rw [rows25 o1] at e1
   rw [rows25 o2] at e2
   simp only [conEs] at e1 e2
   exact calls_pure Try.func39 rfl rfl (samePl_vc l1 l2 a1 a2 k k' c1 c2 (by omega) (by omega) o1 o2 b1 b2 d1 d2 hk hk' w (ro_two m1 m2))
  ·exact trivial
 ·exact trivial
end Go.Proofs.Ytpebhddacbdicaa
