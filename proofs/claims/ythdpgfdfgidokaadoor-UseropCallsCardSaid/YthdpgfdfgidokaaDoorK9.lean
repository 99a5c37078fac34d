/-
 Keccak-256 by the document (quaestorref02), walked: all rounds. No condition.
-/
import Derived.Test.YthdpgfdfgidokaaDoorK8
set_option maxRecDepth 10000
set_option maxHeartbeats 4000000
set_option linter.unusedVariables false
set_option linter.unusedSimpArgs false
namespace Go.Proofs.YthdpgfdfgidokaaDoor
open Go.RowKit
theorem mix_vc (l : List Int) (hl : l.length = 25) (al ar ak : Option Addr) (cl cr ck : Nat) (h1 : 25 ≤ cl) (h2 : 25 ≤ cr) (h3 : 24 ≤ ck) (d1 : adr al 25 cl) (d2 : adr ar 25 cr) (d3 : adr ak 24 ck) (w : World)
  (hm : MemOk w [] [.ro al (.ints .u64 l), .ro ar (.ints .i64 kTurnsI), .ro ak (.ints .u64 kKeys)] w) :
  Calls Tryd.prog 105 (cvs [.sl 0 al 0 0 1 25 cl, .sl 1 ar 0 0 1 25 cr, .sl 2 ak 0 0 1 24 ck]).toArray w (fun en w' => ∃ u, en = .returned u ∧ ∃ v m', u = cv v ∧ MemOk w [] m' w' ∧ ∃ nm s, v = .own nm s 25 ∧ bget m' nm = .own s 25 24 1 (.ints .u64 (qMx l 24))) := by
 have tl : kTurnsI.length = 25 := rfl
 have kl : kKeys.length = 24 := rfl
 refine Vc.calls T0_ok Tryd.func105 rfl rfl (args := [.sl 0 al 0 0 1 25 cl, .sl 1 ar 0 0 1 25 cr, .sl 2 ak 0 0 1 24 ck]) (k := 155) rfl hm ?_; change Vc _ _ (c8 (.sl 0 al 0 0 1 25 cl) (.sl 1 ar 0 0 1 25 cr) (.sl 2 ak 0 0 1 24 ck) .undef .undef .undef .undef .undef (c8 .undef .undef .undef .undef .undef .undef .undef .undef (c8 .undef .undef .undef .undef .undef .undef .undef .undef (c8 .undef .undef .undef .undef .undef .undef .undef .undef (c8 .undef .undef .undef .undef .undef .undef .undef .undef (c8 .undef .undef .undef .undef .undef .undef .undef .undef (c8 .undef .undef .undef .undef .undef .undef .undef .undef (c8 .undef .undef .undef .undef .undef .undef .undef .undef (c8 .undef .undef .undef .undef .undef .undef .undef .undef (c8 .undef .undef .undef .undef .undef .undef .undef .undef (c8 .undef .undef .undef .undef .undef .undef .undef .undef (c8 .undef .undef .undef .undef .undef .undef .undef .undef (c8 .undef .undef .undef .undef .undef .undef .undef .undef (c8 .undef .undef .undef .undef .undef .undef .undef .undef (c8 .undef .undef .undef .undef .undef .undef .undef .undef (c8 .undef .undef .undef .undef .undef .undef .undef .undef (c8 .undef .undef .undef .undef .undef .undef .undef .undef (c8 .undef .undef .undef .undef .undef .undef .undef .undef (c8 .undef .undef .undef .undef .undef .undef .undef .undef ([.undef, .undef, .undef, .undef, .undef, .undef])))))))))))))))))))) _ _
 ((repeat (first | (with_reducible first | refine Vc.seq fun N hN => ?_ | refine Vc.block ?_) | ((with_reducible refine And.intro ?_ ?_); exact sdB) | ((first | ((with_reducible refine Vc.hold ?_); first | refine Vc.regiont T0_ok GK4_ok ?_)); (try simp only [v8Y, Nat.beq, Nat.ble, seval, tabs, GK4_set])) | ((with_reducible refine hN _ _ ?_); clear hN N))))
 (revert N; intro N1 hN1)
 refine Vc.loop2 0 158 (fun (x : Nat × Value) => [(0, .own 3 x.2 25), (1, .sl 1 ar 0 0 1 25 cr), (2, .sl 2 ak 0 0 1 24 ck), (7, .int .i64 (x.1 : Nat))]) (fun x => [.ro al (.ints .u64 l), .ro ar (.ints .i64 kTurnsI), .ro ak (.ints .u64 kKeys), .own x.2 25 24 1 (.ints .u64 (qMx l x.1))]) (fun x => x.1 ≤ 24) (fun x => 24 - x.1) 100 ?_ (fun x junk hx => ?_)
 ·obtain ⟨k, hk0⟩ : ∃ k : Nat, k = 0 := ⟨0, rfl⟩
  obtain ⟨s, hsk⟩ : ∃ s, qMx l k = s := ⟨_, rfl⟩
  have hsl : s.length = 25 := by rw [← hsk]; exact qMx_len l hl k
  have hsl0 : s = l := by rw [← hsk, hk0]; rfl
  subst hsl0
  have hlt : k < 24 := by omega
  have hk24 : k ≤ 24 := by omega
  refine Vc.nameM [.ro al (.ints .u64 s), .ro ar (.ints .i64 kTurnsI), .ro ak (.ints .u64 kKeys), .gone] (List.nil_sublist _) (by intro e he; simp only [List.mem_cons, List.not_mem_nil, or_false] at he ⊢; rcases he with rfl | rfl | rfl | rfl <;> simp) ?_
  refine Vc.nameS 7 (.int .i64 (k : Nat)) (by rw [hk0]; rfl) ?_
  have e1 : decide ((k : Int) < 24) = true := decide_eq_true (by omega)
  have hms := qMx_s s k
  rw [hsk] at hms
  (simp only [v8Y, Nat.beq, Nat.ble, seval, tabs])
  ((repeat (first | (with_reducible refine Vc.seq fun N hN => ?_) | ((with_reducible refine And.intro ?_ ?_); exact sdB) | ((first | ((with_reducible refine Vc.hold ?_); first | refine Vc.regiont T0_ok GK4_ok ?_)); (try simp only [v8Y, Nat.beq, Nat.ble, seval, tabs, GK4_set, e1])) | ((with_reducible refine hN _ _ ?_); clear hN N))))
  (refine Vc.cond T0_ok (t := true) (by rfl) (fun _ => ?_) (fun h => Bool.noConfusion h))
  ((repeat (first | (with_reducible first | refine Vc.seq fun N hN => ?_ | refine Vc.block ?_) | ((first | with_reducible refine Vc.skip ?_); dsimp only [thenK, blockK, Nat.beq]; (first | (refine hN _ _ ?_; clear hN N))) | ((with_reducible refine And.intro ?_ ?_); exact sdB) | ((first | ((with_reducible refine Vc.hold ?_); first | refine Vc.regiont T0_ok GK4_ok ?_)); (try simp only [v8Y, Nat.beq, Nat.ble, seval, tabs, GK4_set])) | ((with_reducible refine hN _ _ ?_); clear hN N))))
  (revert N; intro N2 hN2)
  (revert N; intro N9 hN9 hN2)
  refine Vc.nilown 8 24 1 .u64 rfl ?_
  (simp only [v8Y, Nat.beq, Nat.ble, seval, tabs])
  refine Vc.loop 8 158 (fun (x : Nat × Value) => [(8, .own 4 x.2 x.1), (9, .int .i64 (x.1 : Nat))]) (fun x => [.ro al (.ints .u64 s), .ro ar (.ints .i64 kTurnsI), .ro ak (.ints .u64 kKeys), .gone, .own x.2 x.1 24 1 (.ints .u64 (qC s x.1))]) (fun x => x.1 ≤ 5) (fun x => 5 - x.1) (0, .slice none 0 0) ⟨Nat.zero_le _, ?_, ?_⟩ (fun x junk1 hx1 => ?_)
  ·((try simp only [v8Y, Nat.beq, Nat.ble, seval, tabs]); (repeat' with_reducible apply And.intro) <;> first | with_reducible exact True.intro | rfl | (congr 1 <;> omega))
  ·((try simp only [v8Y, Nat.beq, Nat.ble, seval, tabs]); (repeat' with_reducible apply And.intro) <;> first | with_reducible exact True.intro | rfl | (congr 1 <;> omega))
  ·obtain ⟨x, vc⟩ := x
   simp only at hx1 ⊢
   have hcl := qC_len s x
   have hcs := qC_s s x
   (simp only [v8Y, Nat.beq, Nat.ble, seval, tabs])
   by_cases hl1 : x < 5
   ·have e2 : decide ((x : Int) < 5) = true := decide_eq_true (by omega)
    have f1 : (5 + (x : Int)).toNat = 5 + x := by omega
    have f2 : (10 + (x : Int)).toNat = 10 + x := by omega
    have f3 : (15 + (x : Int)).toNat = 15 + x := by omega
    have f4 : (20 + (x : Int)).toNat = 20 + x := by omega
    ((repeat (first | (with_reducible refine Vc.seq fun N hN => ?_) | ((with_reducible refine And.intro ?_ ?_); exact sdB) | ((first | ((with_reducible refine Vc.hold ?_); first | refine Vc.regiont T0_ok GK4_ok ?_)); (try simp only [v8Y, Nat.beq, Nat.ble, seval, tabs, GK4_set, e2])) | ((with_reducible refine hN _ _ ?_); clear hN N))))
    (refine Vc.cond T0_ok (t := true) (by rfl) (fun _ => ?_) (fun h => Bool.noConfusion h))
    ((repeat (first | (with_reducible first | refine Vc.seq fun N hN => ?_ | refine Vc.block ?_) | ((first | with_reducible refine Vc.skip ?_); dsimp only [thenK, blockK, Nat.beq]; (first | (refine hN _ _ ?_; clear hN N))) | (with_reducible intro _) | ((with_reducible refine And.intro ?_ ?_); exact sX3) | ((first | ((with_reducible refine Vc.hold ?_); first | refine Vc.regiont T0_ok GK4_ok ?_ | refine Vc.drawt (id := 8) T0_ok GK4_ok (by kernel_rfl) [0, 1, 2, 3, 4, 5, 6, 7, 8, 9, 10, 11, 12, 13, 14, 15, 16, 17, 18, 19, 20, 21, 22, 23, 24, 25, 26, 27] 28 [] trivial (by kernel_rfl) ?_)); (try simp only [v8Y, Nat.beq, Nat.ble, seval, tabs, GK4_set, tnc, f1, f2, f3, f4, List.drop_zero, List.take_succ_cons, List.take_zero])) | ((with_reducible refine hN _ _ ?_); clear hN N))))
    rename_i bx vx
    refine ⟨(x + 1, vx), by simp only; omega, ?_, ?_, by simp only; omega⟩
    ·((try simp only [v8Y, Nat.beq, Nat.ble, seval, tabs]); (repeat' with_reducible apply And.intro) <;> first | with_reducible exact True.intro | rfl | (congr 1 <;> omega))
    ·((try simp only [v8Y, Nat.beq, Nat.ble, seval, tabs]); (repeat' with_reducible apply And.intro) <;> first | with_reducible exact True.intro | rw [hcs] | (congr 1 <;> omega))
   ·have e2 : decide ((x : Int) < 5) = false := decide_eq_false (by omega)
    obtain rfl : x = 5 := by omega
    ((repeat (first | (with_reducible refine Vc.seq fun N hN => ?_) | ((with_reducible refine And.intro ?_ ?_); exact sdB) | ((first | ((with_reducible refine Vc.hold ?_); first | refine Vc.regiont T0_ok GK4_ok ?_)); (try simp only [v8Y, Nat.beq, Nat.ble, seval, tabs, GK4_set, e2])) | ((with_reducible refine hN _ _ ?_); clear hN N))))
    (refine Vc.cond T0_ok (t := false) (by rfl) (fun h => Bool.noConfusion h) (fun _ => ?_))
    ((repeat (first | (with_reducible first | refine Vc.seq fun N hN => ?_ | refine Vc.block ?_) | ((first | with_reducible refine Vc.exit ?_); dsimp only [thenK, blockK, Nat.beq]; (first | skip)) | (with_reducible intro _) | ((with_reducible refine And.intro ?_ ?_); exact sdB) | ((first | ((with_reducible refine Vc.hold ?_); first | refine Vc.regiont T0_ok GK4_ok ?_)); (try simp only [v8Y, Nat.beq, Nat.ble, seval, tabs, GK4_set])) | ((with_reducible refine hN _ _ ?_); clear hN N))))
    (refine hN2 _ _ ?_; (try clear hN N); clear hN2 N2)
    ((repeat (first | (with_reducible first | refine Vc.seq fun N hN => ?_ | refine Vc.block ?_) | ((first | with_reducible refine Vc.exit ?_); dsimp only [thenK, blockK, Nat.beq]; (first | skip)) | (with_reducible intro _) | ((with_reducible refine And.intro ?_ ?_); exact sdB) | ((first | ((with_reducible refine Vc.hold ?_); first | refine Vc.regiont T0_ok GK4_ok ?_)); (try simp only [v8Y, Nat.beq, Nat.ble, seval, tabs, GK4_set])) | ((with_reducible refine hN _ _ ?_); clear hN N))))
    (revert N; intro N3 hN3)
    rename_i vb
    have hDq : ∀ z, qRot z 1 = rt z 1 := fun z => qRot_s z 0
    clear hcs
    generalize hCs : qC s 5 = cs at *
    refine Vc.loop 11 158 (fun x => [(11, .int .i64 (x : Nat))]) (fun x => [.ro al (.ints .u64 s), .ro ar (.ints .i64 kTurnsI), .ro ak (.ints .u64 kKeys), .gone, .own vc 5 24 1 (.ints .u64 cs), .own vb 25 24 1 (.ints .u64 (qBk s (kD cs) x))]) (fun x => x ≤ 5) (fun x => 5 - x) 0 ⟨Nat.zero_le _, ?_, ?_⟩ (fun x junk2 hx2 => ?_)
    ·((try simp only [v8Y, Nat.beq, Nat.ble, seval, tabs]); (repeat' with_reducible apply And.intro) <;> first | with_reducible exact True.intro | rfl | (congr 1 <;> omega))
    ·((try simp only [v8Y, Nat.beq, Nat.ble, seval, tabs]); (repeat' with_reducible apply And.intro) <;> first | with_reducible exact True.intro | rfl | (congr 1 <;> omega))
    ·have hbl := qBk_len s (kD cs) x
     have hbs := qBk_s s (kD cs) x
     generalize hbk : qBk s (kD cs) x = bb at *
     (simp only [v8Y, Nat.beq, Nat.ble, seval, tabs])
     by_cases hl2 : x < 5
     ·have e3 : decide ((x : Int) < 5) = true := decide_eq_true (by omega)
      have f1 : (((x : Int) + 4) % 5).toNat = (x + 4) % 5 := by omega
      have f2 : (((x : Int) + 1) % 5).toNat = (x + 1) % 5 := by omega
      have f3 : (1 : Int).toNat = 1 := rfl
      have hd : bits .xor .u64 (cs.getD ((x + 4) % 5) 0) (rt (cs.getD ((x + 1) % 5) 0) 1) = kD cs x := rfl
      have m4 : 0 ≤ ((x : Int) + 4) % 5 ∧ ((x : Int) + 4) % 5 < 5 := by omega
      have m1 : 0 ≤ ((x : Int) + 1) % 5 ∧ ((x : Int) + 1) % 5 < 5 := by omega
      have n4 : (x + 4) % 5 < cs.length := by omega
      have n1 : (x + 1) % 5 < cs.length := by omega
      ((repeat (first | (with_reducible refine Vc.seq fun N hN => ?_) | ((with_reducible refine And.intro ?_ ?_); exact sdB) | ((first | ((with_reducible refine Vc.hold ?_); first | refine Vc.regiont T0_ok GK4_ok ?_)); (try simp only [v8Y, Nat.beq, Nat.ble, seval, tabs, GK4_set, e3])) | ((with_reducible refine hN _ _ ?_); clear hN N))))
      (refine Vc.cond T0_ok (t := true) (by rfl) (fun _ => ?_) (fun h => Bool.noConfusion h))
      ((repeat (first | (with_reducible first | refine Vc.seq fun N hN => ?_ | refine Vc.block ?_) | ((first | with_reducible refine Vc.skip ?_); dsimp only [thenK, blockK, Nat.beq]; (first | (refine hN _ _ ?_; clear hN N))) | ((with_reducible refine And.intro ?_ ?_); exact sX3) | ((first | ((with_reducible refine Vc.hold ?_); first | refine Vc.regiont T0_ok GK4_ok ?_ | refine Vc.drawt (id := 13) T0_ok GK4_ok (by kernel_rfl) [0, 1, 2, 3, 4, 5, 6, 7, 8, 9, 10, 11, 12] 13 [] trivial (by kernel_rfl) ?_)); (try simp only [v8Y, Nat.beq, Nat.ble, seval, tabs, GK4_set, f1, f2, f3, hDq, hd])) | ((with_reducible refine hN _ _ ?_); clear hN N))))
      (revert N; intro N4 hN4)
      generalize hdx : kD cs x = dx at *
      refine Vc.loop 13 158 (fun y => [(13, .int .i64 (y : Nat))]) (fun y => [.ro al (.ints .u64 s), .ro ar (.ints .i64 kTurnsI), .ro ak (.ints .u64 kKeys), .gone, .own vc 5 24 1 (.ints .u64 cs), .own vb 25 24 1 (.ints .u64 (qIn s dx x bb y))]) (fun y => y ≤ 5) (fun y => 5 - y) 0 ⟨Nat.zero_le _, ?_, ?_⟩ (fun y junk3 hy => ?_)
      ·((try simp only [v8Y, Nat.beq, Nat.ble, seval, tabs]); (repeat' with_reducible apply And.intro) <;> first | with_reducible exact True.intro | rfl | (congr 1 <;> omega))
      ·((try simp only [v8Y, Nat.beq, Nat.ble, seval, tabs]); (repeat' with_reducible apply And.intro) <;> first | with_reducible exact True.intro | rfl | (congr 1 <;> omega))
      ·have hil := qIn_len s dx x bb y
       have his := qIn_s s dx x bb y
       generalize hin : qIn s dx x bb y = b1 at *
       (simp only [v8Y, Nat.beq, Nat.ble, seval, tabs])
       by_cases hl3 : y < 5
       ·have e4 : decide ((y : Int) < 5) = true := decide_eq_true (by omega)
        have g1 : (5 * (y : Int) + (x : Int)).toNat = 5 * y + x := by omega
        have g0 : (2 * (x : Int) + 3 * (y : Int)) % 5 = (((2 * x + 3 * y) % 5 : Nat) : Int) := by omega
        have g2 : (5 * ((2 * (x : Int) + 3 * (y : Int)) % 5) + (y : Int)).toNat = 5 * ((2 * x + 3 * y) % 5) + y := by rw [g0]; omega
        have g3 : 5 * ((2 * x + 3 * y) % 5) + y < b1.length := by omega
        have g4 : 0 ≤ 5 * ((2 * (x : Int) + 3 * (y : Int)) % 5) + (y : Int) ∧ 5 * ((2 * (x : Int) + 3 * (y : Int)) % 5) + (y : Int) < 25 := by omega
        obtain ⟨p1, p2, p3⟩ := turns_at (5 * y + x) (by omega)
        ((repeat (first | (with_reducible refine Vc.seq fun N hN => ?_) | ((with_reducible refine And.intro ?_ ?_); exact sdB) | ((first | ((with_reducible refine Vc.hold ?_); first | refine Vc.regiont T0_ok GK4_ok ?_)); (try simp only [v8Y, Nat.beq, Nat.ble, seval, tabs, GK4_set, e4])) | ((with_reducible refine hN _ _ ?_); clear hN N))))
        (refine Vc.cond T0_ok (t := true) (by rfl) (fun _ => ?_) (fun h => Bool.noConfusion h))
        ((repeat (first | (with_reducible first | refine Vc.seq fun N hN => ?_ | refine Vc.block ?_) | ((first | with_reducible refine Vc.skip ?_); dsimp only [thenK, blockK, Nat.beq]; (first | (refine hN _ _ ?_; clear hN N))) | ((with_reducible refine And.intro ?_ ?_); exact sX3) | ((first | ((with_reducible refine Vc.hold ?_); first | refine Vc.regiont T0_ok GK4_ok ?_ | refine Vc.drawt (id := 17) T0_ok GK4_ok (by kernel_rfl) [0, 1, 2, 3, 4, 5, 6, 7, 8, 9, 10, 11, 12, 13, 14, 15, 16, 17, 18, 19, 20, 21, 22, 23, 24, 25] 26 [] trivial (by kernel_rfl) ?_)); (try simp only [v8Y, Nat.beq, Nat.ble, seval, tabs, GK4_set, g1, g2, p1])) | ((with_reducible refine hN _ _ ?_); clear hN N))))
        refine ⟨y + 1, by omega, ?_, ?_, by omega⟩
        ·((try simp only [v8Y, Nat.beq, Nat.ble, seval, tabs]); (repeat' with_reducible apply And.intro) <;> first | with_reducible exact True.intro | rfl | (congr 1 <;> omega))
        ·((try simp only [v8Y, Nat.beq, Nat.ble, seval, tabs]); (repeat' with_reducible apply And.intro) <;> first | with_reducible exact True.intro | rw [his] | (congr 1 <;> omega))
       ·have e4 : decide ((y : Int) < 5) = false := decide_eq_false (by omega)
        obtain rfl : y = 5 := by omega
        rw [hin] at hbs
        ((repeat (first | (with_reducible refine Vc.seq fun N hN => ?_) | ((with_reducible refine And.intro ?_ ?_); exact sdB) | ((first | ((with_reducible refine Vc.hold ?_); first | refine Vc.regiont T0_ok GK4_ok ?_)); (try simp only [v8Y, Nat.beq, Nat.ble, seval, tabs, GK4_set, e4])) | ((with_reducible refine hN _ _ ?_); clear hN N))))
        (refine Vc.cond T0_ok (t := false) (by rfl) (fun h => Bool.noConfusion h) (fun _ => ?_))
        ((repeat (first | (with_reducible first | refine Vc.seq fun N hN => ?_ | refine Vc.block ?_) | ((with_reducible first | refine Vc.skip ?_ | refine Vc.exit ?_); dsimp only [thenK, blockK, Nat.beq]; (first | (refine hN _ _ ?_; clear hN N) | skip)) | ((with_reducible refine And.intro ?_ ?_); exact sdB) | ((first | ((with_reducible refine Vc.hold ?_); first | refine Vc.regiont T0_ok GK4_ok ?_)); (try simp only [v8Y, Nat.beq, Nat.ble, seval, tabs, GK4_set])) | ((with_reducible refine hN _ _ ?_); clear hN N))))
        (refine hN4 _ _ ?_; (try clear hN N); clear hN4 N4)
        ((repeat (first | (with_reducible first | refine Vc.seq fun N hN => ?_ | refine Vc.block ?_) | ((with_reducible first | refine Vc.skip ?_ | refine Vc.exit ?_); dsimp only [thenK, blockK, Nat.beq]; (first | (refine hN _ _ ?_; clear hN N) | skip)) | ((with_reducible refine And.intro ?_ ?_); exact sdB) | ((first | ((with_reducible refine Vc.hold ?_); first | refine Vc.regiont T0_ok GK4_ok ?_)); (try simp only [v8Y, Nat.beq, Nat.ble, seval, tabs, GK4_set])) | ((with_reducible refine hN _ _ ?_); clear hN N))))
        refine ⟨x + 1, by omega, ?_, ?_, by omega⟩
        ·((try simp only [v8Y, Nat.beq, Nat.ble, seval, tabs]); (repeat' with_reducible apply And.intro) <;> first | with_reducible exact True.intro | rfl | (congr 1 <;> omega))
        ·((try simp only [v8Y, Nat.beq, Nat.ble, seval, tabs]); (repeat' with_reducible apply And.intro) <;> first | with_reducible exact True.intro | rw [hbs] | (congr 1 <;> omega))
     ·have e3 : decide ((x : Int) < 5) = false := decide_eq_false (by omega)
      obtain rfl : x = 5 := by omega
      rw [hbk] at hms
      clear hbs
      ((repeat (first | (with_reducible refine Vc.seq fun N hN => ?_) | ((with_reducible refine And.intro ?_ ?_); exact sdB) | ((first | ((with_reducible refine Vc.hold ?_); first | refine Vc.regiont T0_ok GK4_ok ?_)); (try simp only [v8Y, Nat.beq, Nat.ble, seval, tabs, GK4_set, e3])) | ((with_reducible refine hN _ _ ?_); clear hN N))))
      (refine Vc.cond T0_ok (t := false) (by rfl) (fun h => Bool.noConfusion h) (fun _ => ?_))
      ((repeat (first | (with_reducible first | refine Vc.seq fun N hN => ?_ | refine Vc.block ?_) | ((first | with_reducible refine Vc.exit ?_); dsimp only [thenK, blockK, Nat.beq]; (first | skip)) | ((with_reducible refine And.intro ?_ ?_); exact sdB) | ((first | ((with_reducible refine Vc.hold ?_); first | refine Vc.regiont T0_ok GK4_ok ?_)); (try simp only [v8Y, Nat.beq, Nat.ble, seval, tabs, GK4_set])) | ((with_reducible refine hN _ _ ?_); clear hN N))))
      (refine hN3 _ _ ?_; (try clear hN N); clear hN3 N3)
      ((repeat (first | (with_reducible first | refine Vc.seq fun N hN => ?_ | refine Vc.block ?_) | ((first | with_reducible refine Vc.exit ?_); dsimp only [thenK, blockK, Nat.beq]; (first | skip)) | ((with_reducible refine And.intro ?_ ?_); exact sdB) | ((first | ((with_reducible refine Vc.hold ?_); first | refine Vc.regiont T0_ok GK4_ok ?_)); (try simp only [v8Y, Nat.beq, Nat.ble, seval, tabs, GK4_set])) | ((with_reducible refine hN _ _ ?_); clear hN N))))
      (revert N; intro N5 hN5)
      refine Vc.nilown 14 24 1 .u64 rfl ?_
      (simp only [v8Y, Nat.beq, Nat.ble, seval, tabs])
      refine Vc.loop 14 158 (fun (z : Nat × Value) => [(14, .own 6 z.2 (5 * z.1)), (15, .int .i64 (z.1 : Nat))]) (fun z => [.ro al (.ints .u64 s), .ro ar (.ints .i64 kTurnsI), .ro ak (.ints .u64 kKeys), .gone, .own vc 5 24 1 (.ints .u64 cs), .own vb 25 24 1 (.ints .u64 bb), .own z.2 (5 * z.1) 24 1 (.ints .u64 (qN bb z.1))]) (fun z => z.1 ≤ 5) (fun z => 5 - z.1) (0, .slice none 0 0) ⟨Nat.zero_le _, ?_, ?_⟩ (fun z junk4 hz => ?_)
      ·((try simp only [v8Y, Nat.beq, Nat.ble, seval, tabs]); (repeat' with_reducible apply And.intro) <;> first | with_reducible exact True.intro | rfl | (congr 1 <;> omega))
      ·((try simp only [v8Y, Nat.beq, Nat.ble, seval, tabs]); (repeat' with_reducible apply And.intro) <;> first | with_reducible exact True.intro | rfl | (congr 1 <;> omega))
      ·obtain ⟨y, vn⟩ := z
       simp only at hz ⊢
       have hnl := qN_len bb y
       have hns := qN_s bb y
       generalize hqn : qN bb y = nn at *
       (simp only [v8Y, Nat.beq, Nat.ble, seval, tabs])
       by_cases hl4 : y < 5
       ·have e5 : decide ((y : Int) < 5) = true := decide_eq_true (by omega)
        ((repeat (first | (with_reducible refine Vc.seq fun N hN => ?_) | ((with_reducible refine And.intro ?_ ?_); exact sdB) | ((first | ((with_reducible refine Vc.hold ?_); first | refine Vc.regiont T0_ok GK4_ok ?_)); (try simp only [v8Y, Nat.beq, Nat.ble, seval, tabs, GK4_set, e5])) | ((with_reducible refine hN _ _ ?_); clear hN N))))
        (refine Vc.cond T0_ok (t := true) (by rfl) (fun _ => ?_) (fun h => Bool.noConfusion h))
        ((repeat (first | (with_reducible first | refine Vc.seq fun N hN => ?_ | refine Vc.block ?_) | ((with_reducible first | refine Vc.skip ?_ | refine Vc.exit ?_); dsimp only [thenK, blockK, Nat.beq]; (first | (refine hN _ _ ?_; clear hN N) | skip)) | ((with_reducible refine And.intro ?_ ?_); exact sdB) | ((first | ((with_reducible refine Vc.hold ?_); first | refine Vc.regiont T0_ok GK4_ok ?_)); (try simp only [v8Y, Nat.beq, Nat.ble, seval, tabs, GK4_set])) | ((with_reducible refine hN _ _ ?_); clear hN N))))
        (revert N; intro N6 hN6)
        refine Vc.loop 14 158 (fun (z : Nat × Value) => [(14, .own 6 z.2 (5 * y + z.1)), (15, .int .i64 (y : Nat)), (16, .int .i64 (z.1 : Nat))]) (fun z => [.ro al (.ints .u64 s), .ro ar (.ints .i64 kTurnsI), .ro ak (.ints .u64 kKeys), .gone, .own vc 5 24 1 (.ints .u64 cs), .own vb 25 24 1 (.ints .u64 bb), .own z.2 (5 * y + z.1) 24 1 (.ints .u64 (qNx bb nn y z.1))]) (fun z => z.1 ≤ 5) (fun z => 5 - z.1) (0, vn) ⟨Nat.zero_le _, ?_, ?_⟩ (fun z junk5 hz5 => ?_)
        ·((try simp only [v8Y, Nat.beq, Nat.ble, seval, tabs]); (repeat' with_reducible apply And.intro) <;> first | with_reducible exact True.intro | rfl | (congr 1 <;> omega))
        ·((try simp only [v8Y, Nat.beq, Nat.ble, seval, tabs]); (repeat' with_reducible apply And.intro) <;> first | with_reducible exact True.intro | rfl | (congr 1 <;> omega))
        ·obtain ⟨q, vq⟩ := z
         simp only at hz5 ⊢
         have hxl := qNx_len bb nn y q
         have hxs := qNx_s bb nn y q
         generalize hnx : qNx bb nn y q = ll at *
         (simp only [v8Y, Nat.beq, Nat.ble, seval, tabs])
         by_cases hl5 : q < 5
         ·have e6 : decide ((q : Int) < 5) = true := decide_eq_true (by omega)
          have g1 : (5 * (y : Int) + (q : Int)).toNat = 5 * y + q := by omega
          have g2 : (5 * (y : Int) + ((q : Int) + 1) % 5).toNat = 5 * y + (q + 1) % 5 := by omega
          have g3 : (5 * (y : Int) + ((q : Int) + 2) % 5).toNat = 5 * y + (q + 2) % 5 := by omega
          have g5 : 5 * y + (q + 1) = 5 * y + q + 1 := by omega
          have hno : (if IntKind.signed .u64 = true then (-1 : Int) else IntKind.max .u64) = 18446744073709551615 := rfl
          ((repeat (first | (with_reducible refine Vc.seq fun N hN => ?_) | ((with_reducible refine And.intro ?_ ?_); exact sdB) | ((first | ((with_reducible refine Vc.hold ?_); first | refine Vc.regiont T0_ok GK4_ok ?_)); (try simp only [v8Y, Nat.beq, Nat.ble, seval, tabs, GK4_set, e6])) | ((with_reducible refine hN _ _ ?_); clear hN N))))
          (refine Vc.cond T0_ok (t := true) (by rfl) (fun _ => ?_) (fun h => Bool.noConfusion h))
          ((repeat (first | (with_reducible first | refine Vc.seq fun N hN => ?_ | refine Vc.block ?_) | ((first | with_reducible refine Vc.skip ?_); dsimp only [thenK, blockK, Nat.beq]; (first | (refine hN _ _ ?_; clear hN N))) | (with_reducible intro _) | ((with_reducible refine And.intro ?_ ?_); exact sX3) | ((first | ((with_reducible refine Vc.hold ?_); first | refine Vc.regiont T0_ok GK4_ok ?_ | refine Vc.drawt (id := 25) T0_ok GK4_ok (by kernel_rfl) [0, 1, 2, 3, 4, 5, 6, 7, 8, 9, 10, 11, 12, 13, 14, 15, 16, 17, 18, 19, 20, 21, 22, 23, 24, 25, 26, 27] 28 [] trivial (by kernel_rfl) ?_)); (try simp only [v8Y, Nat.beq, Nat.ble, seval, tabs, GK4_set, hno, g1, g2, g3, List.drop_zero, List.take_succ_cons, List.take_zero])) | ((with_reducible refine hN _ _ ?_); clear hN N))))
          rename_i bq vq2
          clear g1 g2 g3 e6
          refine ⟨(q + 1, vq2), by simp only; omega, ?_, ?_, by simp only; omega⟩
          ·((try simp only [v8Y, Nat.beq, Nat.ble, seval, tabs]); (repeat' with_reducible apply And.intro) <;> first | with_reducible exact True.intro | rw [g5] | (congr 1 <;> omega))
          ·((try simp only [v8Y, Nat.beq, Nat.ble, seval, tabs]); (repeat' with_reducible apply And.intro) <;> first | with_reducible exact True.intro | rw [hxs, g5] | (congr 1 <;> omega))
         ·have e6 : decide ((q : Int) < 5) = false := decide_eq_false (by omega)
          obtain rfl : q = 5 := by omega
          have g5 : 5 * (y + 1) = 5 * y + 5 := by omega
          rw [hnx] at hns
          ((repeat (first | (with_reducible refine Vc.seq fun N hN => ?_) | ((with_reducible refine And.intro ?_ ?_); exact sdB) | ((first | ((with_reducible refine Vc.hold ?_); first | refine Vc.regiont T0_ok GK4_ok ?_)); (try simp only [v8Y, Nat.beq, Nat.ble, seval, tabs, GK4_set, e6])) | ((with_reducible refine hN _ _ ?_); clear hN N))))
          (refine Vc.cond T0_ok (t := false) (by rfl) (fun h => Bool.noConfusion h) (fun _ => ?_))
          ((repeat (first | ((first | with_reducible refine Vc.exit ?_); dsimp only [thenK, blockK, Nat.beq]; (first | skip)) | ((with_reducible refine And.intro ?_ ?_); exact sdB) | ((first | ((with_reducible refine Vc.hold ?_); first | refine Vc.regiont T0_ok GK4_ok ?_)); (try simp only [v8Y, Nat.beq, Nat.ble, seval, tabs, GK4_set])))))
          (refine hN6 _ _ ?_; (try clear hN N); clear hN6 N6)
          ((repeat (first | ((first | with_reducible refine Vc.exit ?_); dsimp only [thenK, blockK, Nat.beq]; (first | skip)) | ((with_reducible refine And.intro ?_ ?_); exact sdB) | ((first | ((with_reducible refine Vc.hold ?_); first | refine Vc.regiont T0_ok GK4_ok ?_)); (try simp only [v8Y, Nat.beq, Nat.ble, seval, tabs, GK4_set])))))
          refine ⟨(y + 1, vq), by simp only; omega, ?_, ?_, by simp only; omega⟩
          ·((try simp only [v8Y, Nat.beq, Nat.ble, seval, tabs]); (repeat' with_reducible apply And.intro) <;> first | with_reducible exact True.intro | rw [g5] | (congr 1 <;> omega))
          ·((try simp only [v8Y, Nat.beq, Nat.ble, seval, tabs]); (repeat' with_reducible apply And.intro) <;> first | with_reducible exact True.intro | rw [hns, g5] | (congr 1 <;> omega))
       ·have e5 : decide ((y : Int) < 5) = false := decide_eq_false (by omega)
        obtain rfl : y = 5 := by omega
        rw [hqn] at hms
        obtain ⟨F, hF⟩ : ∃ F, F = nn.set 0 (bits .xor .u64 (nn.getD 0 0) (kKeys.getD k 0)) := ⟨_, rfl⟩
        rw [← hF] at hms
        have hFl : F.length = 25 := by rw [hF, List.length_set, hnl]
        ((repeat (first | (with_reducible refine Vc.seq fun N hN => ?_) | ((with_reducible refine And.intro ?_ ?_); exact sdB) | ((first | ((with_reducible refine Vc.hold ?_); first | refine Vc.regiont T0_ok GK4_ok ?_)); (try simp only [v8Y, Nat.beq, Nat.ble, seval, tabs, GK4_set, e5])) | ((with_reducible refine hN _ _ ?_); clear hN N))))
        (refine Vc.cond T0_ok (t := false) (by rfl) (fun h => Bool.noConfusion h) (fun _ => ?_))
        ((repeat (first | (with_reducible first | refine Vc.seq fun N hN => ?_ | refine Vc.block ?_) | ((with_reducible first | refine Vc.skip ?_ | refine Vc.exit ?_); dsimp only [thenK, blockK, Nat.beq]; (first | (refine hN _ _ ?_; clear hN N) | skip)) | ((with_reducible refine And.intro ?_ ?_); exact sdB) | ((first | ((with_reducible refine Vc.hold ?_); first | refine Vc.regiont T0_ok GK4_ok ?_)); (try simp only [v8Y, Nat.beq, Nat.ble, seval, tabs, GK4_set])) | ((with_reducible refine hN _ _ ?_); clear hN N))))
        (refine hN5 _ _ ?_; (try clear hN N); clear hN5 N5)
        ((repeat (first | (with_reducible refine Vc.seq fun N hN => ?_) | ((with_reducible refine And.intro ?_ ?_); exact sX3) | ((first | ((with_reducible refine Vc.hold ?_); first | refine Vc.regiont T0_ok GK4_ok ?_ | refine Vc.drawt (id := 26) T0_ok GK4_ok (by kernel_rfl) [0, 1, 2, 3, 4, 5, 6, 7] 8 [] trivial (by kernel_rfl) ?_)); (try simp only [v8Y, Nat.beq, Nat.ble, seval, tabs, GK4_set, tnc, ← hF])) | ((with_reducible refine hN _ _ ?_); clear hN N))))
        refine hN9 _ _ ?_
        clear hN9 N9
        refine Vc.nameM [.ro al (.ints .u64 s), .ro ar (.ints .i64 kTurnsI), .ro ak (.ints .u64 kKeys), .own vn 25 24 1 (.ints .u64 F)] (nums_sub (.cons_cons _ (.cons_cons _ (.cons_cons _ (.cons _ (.cons _ (.cons _ (.cons_cons _ .slnil)))))))) (by intro e he; left; simp only [List.mem_cons, List.not_mem_nil, or_false] at he ⊢; rcases he with rfl | rfl | rfl | rfl <;> simp) ?_
        refine Vc.nameS 0 (.own 3 vn 25) rfl ?_
        (simp only [v8Y, Nat.beq, Nat.ble, seval, tabs])
        ((repeat (first | (with_reducible first | refine Vc.seq fun N hN => ?_ | refine Vc.block ?_) | ((with_reducible first | refine Vc.skip ?_ | refine Vc.exit ?_); dsimp only [thenK, blockK, Nat.beq]; (first | (refine hN _ _ ?_; clear hN N) | skip)) | ((with_reducible refine And.intro ?_ ?_); exact sdB) | ((first | ((with_reducible refine Vc.hold ?_); first | refine Vc.regiont T0_ok GK4_ok ?_)); (try simp only [v8Y, Nat.beq, Nat.ble, seval, tabs, GK4_set])) | ((with_reducible refine hN _ _ ?_); clear hN N))))
        refine ⟨(k + 1, vn), by simp only; omega, ?_, ?_, by simp only; omega⟩
        ·((try simp only [v8Y, Nat.beq, Nat.ble, seval, tabs]); (repeat' with_reducible apply And.intro) <;> first | with_reducible exact True.intro | rfl | (congr 1 <;> omega))
        ·((try simp only [v8Y, Nat.beq, Nat.ble, seval, tabs]); (repeat' with_reducible apply And.intro) <;> first | with_reducible exact True.intro | rw [hms] | (congr 1 <;> omega))
 ·obtain ⟨k, v⟩ := x
  simp only at hx ⊢
  have hsl := qMx_len l hl k
  obtain ⟨s, hsk⟩ : ∃ s, qMx l k = s := ⟨_, rfl⟩
  rw [hsk] at hsl ⊢
  by_cases hlt : k < 24
  ·have e1 : decide ((k : Int) < 24) = true := decide_eq_true (by omega)
   have hms := qMx_s l k
   rw [hsk] at hms
   (simp only [v8Y, Nat.beq, Nat.ble, seval, tabs])
   ((repeat (first | (with_reducible refine Vc.seq fun N hN => ?_) | ((with_reducible refine And.intro ?_ ?_); exact sdB) | ((first | ((with_reducible refine Vc.hold ?_); first | refine Vc.regiont T0_ok GK4_ok ?_)); (try simp only [v8Y, Nat.beq, Nat.ble, seval, tabs, GK4_set, e1])) | ((with_reducible refine hN _ _ ?_); clear hN N))))
   (refine Vc.cond T0_ok (t := true) (by rfl) (fun _ => ?_) (fun h => Bool.noConfusion h))
   ((repeat (first | (with_reducible first | refine Vc.seq fun N hN => ?_ | refine Vc.block ?_) | ((with_reducible first | refine Vc.skip ?_ | refine Vc.exit ?_); dsimp only [thenK, blockK, Nat.beq]; (first | (refine hN _ _ ?_; clear hN N) | skip)) | ((with_reducible refine And.intro ?_ ?_); exact sdB) | ((first | ((with_reducible refine Vc.fin ?_); dsimp only [thenK, blockK, retK, resS, resOne, resAll]) | ((with_reducible refine Vc.hold ?_); first | refine Vc.regiont T0_ok GK4_ok ?_)); (try simp only [v8Y, Nat.beq, Nat.ble, seval, tabs, GK4_set])) | ((with_reducible refine hN _ _ ?_); clear hN N))); (try ((with_reducible refine Fin.of ?_); (try with_reducible exact True.intro))))
   (revert N; intro N2 hN2)
   (revert N; intro N9 hN9 hN2)
   refine Vc.nilown 8 24 1 .u64 rfl ?_
   (simp only [v8Y, Nat.beq, Nat.ble, seval, tabs])
   refine Vc.loop 8 158 (fun (x : Nat × Value) => [(8, .own 4 x.2 x.1), (9, .int .i64 (x.1 : Nat))]) (fun x => [.ro al (.ints .u64 l), .ro ar (.ints .i64 kTurnsI), .ro ak (.ints .u64 kKeys), .own v 25 24 1 (.ints .u64 s), .own x.2 x.1 24 1 (.ints .u64 (qC s x.1))]) (fun x => x.1 ≤ 5) (fun x => 5 - x.1) (0, .slice none 0 0) ⟨Nat.zero_le _, ?_, ?_⟩ (fun x junk1 hx1 => ?_)
   ·((try simp only [v8Y, Nat.beq, Nat.ble, seval, tabs]); (repeat' with_reducible apply And.intro) <;> first | with_reducible exact True.intro | rfl | (congr 1 <;> omega))
   ·((try simp only [v8Y, Nat.beq, Nat.ble, seval, tabs]); (repeat' with_reducible apply And.intro) <;> first | with_reducible exact True.intro | rfl | (congr 1 <;> omega))
   ·obtain ⟨x, vc⟩ := x
    simp only at hx1 ⊢
    have hcl := qC_len s x
    have hcs := qC_s s x
    (simp only [v8Y, Nat.beq, Nat.ble, seval, tabs])
    by_cases hl1 : x < 5
    ·have e2 : decide ((x : Int) < 5) = true := decide_eq_true (by omega)
     have f1 : (5 + (x : Int)).toNat = 5 + x := by omega
     have f2 : (10 + (x : Int)).toNat = 10 + x := by omega
     have f3 : (15 + (x : Int)).toNat = 15 + x := by omega
     have f4 : (20 + (x : Int)).toNat = 20 + x := by omega
     ((repeat (first | (with_reducible refine Vc.seq fun N hN => ?_) | ((with_reducible refine And.intro ?_ ?_); exact sdB) | ((first | ((with_reducible refine Vc.hold ?_); first | refine Vc.regiont T0_ok GK4_ok ?_)); (try simp only [v8Y, Nat.beq, Nat.ble, seval, tabs, GK4_set, e2])) | ((with_reducible refine hN _ _ ?_); clear hN N))))
     (refine Vc.cond T0_ok (t := true) (by rfl) (fun _ => ?_) (fun h => Bool.noConfusion h))
     ((repeat (first | (with_reducible first | refine Vc.seq fun N hN => ?_ | refine Vc.block ?_) | ((first | with_reducible refine Vc.skip ?_); dsimp only [thenK, blockK, Nat.beq]; (first | (refine hN _ _ ?_; clear hN N))) | (with_reducible intro _) | ((with_reducible refine And.intro ?_ ?_); exact sX3) | ((first | ((with_reducible refine Vc.hold ?_); first | refine Vc.regiont T0_ok GK4_ok ?_ | refine Vc.drawt (id := 8) T0_ok GK4_ok (by kernel_rfl) [0, 1, 2, 3, 4, 5, 6, 7, 8, 9, 10, 11, 12, 13, 14, 15, 16, 17, 18, 19, 20, 21, 22, 23, 24, 25, 26, 27] 28 [] trivial (by kernel_rfl) ?_)); (try simp only [v8Y, Nat.beq, Nat.ble, seval, tabs, GK4_set, tnc, f1, f2, f3, f4, List.drop_zero, List.take_succ_cons, List.take_zero])) | ((with_reducible refine hN _ _ ?_); clear hN N))))
     rename_i bx vx
     refine ⟨(x + 1, vx), by simp only; omega, ?_, ?_, by simp only; omega⟩
     ·((try simp only [v8Y, Nat.beq, Nat.ble, seval, tabs]); (repeat' with_reducible apply And.intro) <;> first | with_reducible exact True.intro | rfl | (congr 1 <;> omega))
     ·((try simp only [v8Y, Nat.beq, Nat.ble, seval, tabs]); (repeat' with_reducible apply And.intro) <;> first | with_reducible exact True.intro | rw [hcs] | (congr 1 <;> omega))
    ·have e2 : decide ((x : Int) < 5) = false := decide_eq_false (by omega)
     obtain rfl : x = 5 := by omega
     ((repeat (first | (with_reducible refine Vc.seq fun N hN => ?_) | ((with_reducible refine And.intro ?_ ?_); exact sdB) | ((first | ((with_reducible refine Vc.hold ?_); first | refine Vc.regiont T0_ok GK4_ok ?_)); (try simp only [v8Y, Nat.beq, Nat.ble, seval, tabs, GK4_set, e2])) | ((with_reducible refine hN _ _ ?_); clear hN N))))
     (refine Vc.cond T0_ok (t := false) (by rfl) (fun h => Bool.noConfusion h) (fun _ => ?_))
     ((repeat (first | (with_reducible first | refine Vc.seq fun N hN => ?_ | refine Vc.block ?_) | ((first | with_reducible refine Vc.exit ?_); dsimp only [thenK, blockK, Nat.beq]; (first | skip)) | (with_reducible intro _) | ((with_reducible refine And.intro ?_ ?_); exact sdB) | ((first | ((with_reducible refine Vc.hold ?_); first | refine Vc.regiont T0_ok GK4_ok ?_)); (try simp only [v8Y, Nat.beq, Nat.ble, seval, tabs, GK4_set])) | ((with_reducible refine hN _ _ ?_); clear hN N))))
     (refine hN2 _ _ ?_; (try clear hN N); clear hN2 N2)
     ((repeat (first | (with_reducible first | refine Vc.seq fun N hN => ?_ | refine Vc.block ?_) | ((first | with_reducible refine Vc.exit ?_); dsimp only [thenK, blockK, Nat.beq]; (first | skip)) | (with_reducible intro _) | ((with_reducible refine And.intro ?_ ?_); exact sdB) | ((first | ((with_reducible refine Vc.hold ?_); first | refine Vc.regiont T0_ok GK4_ok ?_)); (try simp only [v8Y, Nat.beq, Nat.ble, seval, tabs, GK4_set])) | ((with_reducible refine hN _ _ ?_); clear hN N))))
     (revert N; intro N3 hN3)
     rename_i vb
     have hDq : ∀ z, qRot z 1 = rt z 1 := fun z => qRot_s z 0
     clear hcs
     generalize hCs : qC s 5 = cs at *
     refine Vc.loop 11 158 (fun x => [(11, .int .i64 (x : Nat))]) (fun x => [.ro al (.ints .u64 l), .ro ar (.ints .i64 kTurnsI), .ro ak (.ints .u64 kKeys), .own v 25 24 1 (.ints .u64 s), .own vc 5 24 1 (.ints .u64 cs), .own vb 25 24 1 (.ints .u64 (qBk s (kD cs) x))]) (fun x => x ≤ 5) (fun x => 5 - x) 0 ⟨Nat.zero_le _, ?_, ?_⟩ (fun x junk2 hx2 => ?_)
     ·((try simp only [v8Y, Nat.beq, Nat.ble, seval, tabs]); (repeat' with_reducible apply And.intro) <;> first | with_reducible exact True.intro | rfl | (congr 1 <;> omega))
     ·((try simp only [v8Y, Nat.beq, Nat.ble, seval, tabs]); (repeat' with_reducible apply And.intro) <;> first | with_reducible exact True.intro | rfl | (congr 1 <;> omega))
     ·have hbl := qBk_len s (kD cs) x
      have hbs := qBk_s s (kD cs) x
      generalize hbk : qBk s (kD cs) x = bb at *
      (simp only [v8Y, Nat.beq, Nat.ble, seval, tabs])
      by_cases hl2 : x < 5
      ·have e3 : decide ((x : Int) < 5) = true := decide_eq_true (by omega)
       have f1 : (((x : Int) + 4) % 5).toNat = (x + 4) % 5 := by omega
       have f2 : (((x : Int) + 1) % 5).toNat = (x + 1) % 5 := by omega
       have f3 : (1 : Int).toNat = 1 := rfl
       have hd : bits .xor .u64 (cs.getD ((x + 4) % 5) 0) (rt (cs.getD ((x + 1) % 5) 0) 1) = kD cs x := rfl
       have m4 : 0 ≤ ((x : Int) + 4) % 5 ∧ ((x : Int) + 4) % 5 < 5 := by omega
       have m1 : 0 ≤ ((x : Int) + 1) % 5 ∧ ((x : Int) + 1) % 5 < 5 := by omega
       have n4 : (x + 4) % 5 < cs.length := by omega
       have n1 : (x + 1) % 5 < cs.length := by omega
       ((repeat (first | (with_reducible refine Vc.seq fun N hN => ?_) | ((with_reducible refine And.intro ?_ ?_); exact sdB) | ((first | ((with_reducible refine Vc.hold ?_); first | refine Vc.regiont T0_ok GK4_ok ?_)); (try simp only [v8Y, Nat.beq, Nat.ble, seval, tabs, GK4_set, e3])) | ((with_reducible refine hN _ _ ?_); clear hN N))))
       (refine Vc.cond T0_ok (t := true) (by rfl) (fun _ => ?_) (fun h => Bool.noConfusion h))
       ((repeat (first | (with_reducible first | refine Vc.seq fun N hN => ?_ | refine Vc.block ?_) | ((first | with_reducible refine Vc.skip ?_); dsimp only [thenK, blockK, Nat.beq]; (first | (refine hN _ _ ?_; clear hN N))) | ((with_reducible refine And.intro ?_ ?_); exact sX3) | ((first | ((with_reducible refine Vc.hold ?_); first | refine Vc.regiont T0_ok GK4_ok ?_ | refine Vc.drawt (id := 13) T0_ok GK4_ok (by kernel_rfl) [0, 1, 2, 3, 4, 5, 6, 7, 8, 9, 10, 11, 12] 13 [] trivial (by kernel_rfl) ?_)); (try simp only [v8Y, Nat.beq, Nat.ble, seval, tabs, GK4_set, f1, f2, f3, hDq, hd])) | ((with_reducible refine hN _ _ ?_); clear hN N))))
       (revert N; intro N4 hN4)
       generalize hdx : kD cs x = dx at *
       refine Vc.loop 13 158 (fun y => [(13, .int .i64 (y : Nat))]) (fun y => [.ro al (.ints .u64 l), .ro ar (.ints .i64 kTurnsI), .ro ak (.ints .u64 kKeys), .own v 25 24 1 (.ints .u64 s), .own vc 5 24 1 (.ints .u64 cs), .own vb 25 24 1 (.ints .u64 (qIn s dx x bb y))]) (fun y => y ≤ 5) (fun y => 5 - y) 0 ⟨Nat.zero_le _, ?_, ?_⟩ (fun y junk3 hy => ?_)
       ·((try simp only [v8Y, Nat.beq, Nat.ble, seval, tabs]); (repeat' with_reducible apply And.intro) <;> first | with_reducible exact True.intro | rfl | (congr 1 <;> omega))
       ·((try simp only [v8Y, Nat.beq, Nat.ble, seval, tabs]); (repeat' with_reducible apply And.intro) <;> first | with_reducible exact True.intro | rfl | (congr 1 <;> omega))
       ·have hil := qIn_len s dx x bb y
        have his := qIn_s s dx x bb y
        generalize hin : qIn s dx x bb y = b1 at *
        (simp only [v8Y, Nat.beq, Nat.ble, seval, tabs])
        by_cases hl3 : y < 5
        ·have e4 : decide ((y : Int) < 5) = true := decide_eq_true (by omega)
         have g1 : (5 * (y : Int) + (x : Int)).toNat = 5 * y + x := by omega
         have g0 : (2 * (x : Int) + 3 * (y : Int)) % 5 = (((2 * x + 3 * y) % 5 : Nat) : Int) := by omega
         have g2 : (5 * ((2 * (x : Int) + 3 * (y : Int)) % 5) + (y : Int)).toNat = 5 * ((2 * x + 3 * y) % 5) + y := by rw [g0]; omega
         have g3 : 5 * ((2 * x + 3 * y) % 5) + y < b1.length := by omega
         have g4 : 0 ≤ 5 * ((2 * (x : Int) + 3 * (y : Int)) % 5) + (y : Int) ∧ 5 * ((2 * (x : Int) + 3 * (y : Int)) % 5) + (y : Int) < 25 := by omega
         obtain ⟨p1, p2, p3⟩ := turns_at (5 * y + x) (by omega)
         ((repeat (first | (with_reducible refine Vc.seq fun N hN => ?_) | ((with_reducible refine And.intro ?_ ?_); exact sdB) | ((first | ((with_reducible refine Vc.hold ?_); first | refine Vc.regiont T0_ok GK4_ok ?_)); (try simp only [v8Y, Nat.beq, Nat.ble, seval, tabs, GK4_set, e4])) | ((with_reducible refine hN _ _ ?_); clear hN N))))
         (refine Vc.cond T0_ok (t := true) (by rfl) (fun _ => ?_) (fun h => Bool.noConfusion h))
         ((repeat (first | (with_reducible first | refine Vc.seq fun N hN => ?_ | refine Vc.block ?_) | ((first | with_reducible refine Vc.skip ?_); dsimp only [thenK, blockK, Nat.beq]; (first | (refine hN _ _ ?_; clear hN N))) | ((with_reducible refine And.intro ?_ ?_); exact sX3) | ((first | ((with_reducible refine Vc.hold ?_); first | refine Vc.regiont T0_ok GK4_ok ?_ | refine Vc.drawt (id := 17) T0_ok GK4_ok (by kernel_rfl) [0, 1, 2, 3, 4, 5, 6, 7, 8, 9, 10, 11, 12, 13, 14, 15, 16, 17, 18, 19, 20, 21, 22, 23, 24, 25] 26 [] trivial (by kernel_rfl) ?_)); (try simp only [v8Y, Nat.beq, Nat.ble, seval, tabs, GK4_set, g1, g2, p1])) | ((with_reducible refine hN _ _ ?_); clear hN N))))
         refine ⟨y + 1, by omega, ?_, ?_, by omega⟩
         ·((try simp only [v8Y, Nat.beq, Nat.ble, seval, tabs]); (repeat' with_reducible apply And.intro) <;> first | with_reducible exact True.intro | rfl | (congr 1 <;> omega))
         ·((try simp only [v8Y, Nat.beq, Nat.ble, seval, tabs]); (repeat' with_reducible apply And.intro) <;> first | with_reducible exact True.intro | rw [his] | (congr 1 <;> omega))
        ·have e4 : decide ((y : Int) < 5) = false := decide_eq_false (by omega)
         obtain rfl : y = 5 := by omega
         rw [hin] at hbs
         ((repeat (first | (with_reducible refine Vc.seq fun N hN => ?_) | ((with_reducible refine And.intro ?_ ?_); exact sdB) | ((first | ((with_reducible refine Vc.hold ?_); first | refine Vc.regiont T0_ok GK4_ok ?_)); (try simp only [v8Y, Nat.beq, Nat.ble, seval, tabs, GK4_set, e4])) | ((with_reducible refine hN _ _ ?_); clear hN N))))
         (refine Vc.cond T0_ok (t := false) (by rfl) (fun h => Bool.noConfusion h) (fun _ => ?_))
         ((repeat (first | (with_reducible first | refine Vc.seq fun N hN => ?_ | refine Vc.block ?_) | ((with_reducible first | refine Vc.skip ?_ | refine Vc.exit ?_); dsimp only [thenK, blockK, Nat.beq]; (first | (refine hN _ _ ?_; clear hN N) | skip)) | ((with_reducible refine And.intro ?_ ?_); exact sdB) | ((first | ((with_reducible refine Vc.hold ?_); first | refine Vc.regiont T0_ok GK4_ok ?_)); (try simp only [v8Y, Nat.beq, Nat.ble, seval, tabs, GK4_set])) | ((with_reducible refine hN _ _ ?_); clear hN N))))
         (refine hN4 _ _ ?_; (try clear hN N); clear hN4 N4)
         ((repeat (first | (with_reducible first | refine Vc.seq fun N hN => ?_ | refine Vc.block ?_) | ((with_reducible first | refine Vc.skip ?_ | refine Vc.exit ?_); dsimp only [thenK, blockK, Nat.beq]; (first | (refine hN _ _ ?_; clear hN N) | skip)) | ((with_reducible refine And.intro ?_ ?_); exact sdB) | ((first | ((with_reducible refine Vc.hold ?_); first | refine Vc.regiont T0_ok GK4_ok ?_)); (try simp only [v8Y, Nat.beq, Nat.ble, seval, tabs, GK4_set])) | ((with_reducible refine hN _ _ ?_); clear hN N))))
         refine ⟨x + 1, by omega, ?_, ?_, by omega⟩
         ·((try simp only [v8Y, Nat.beq, Nat.ble, seval, tabs]); (repeat' with_reducible apply And.intro) <;> first | with_reducible exact True.intro | rfl | (congr 1 <;> omega))
         ·((try simp only [v8Y, Nat.beq, Nat.ble, seval, tabs]); (repeat' with_reducible apply And.intro) <;> first | with_reducible exact True.intro | rw [hbs] | (congr 1 <;> omega))
      ·have e3 : decide ((x : Int) < 5) = false := decide_eq_false (by omega)
       obtain rfl : x = 5 := by omega
       rw [hbk] at hms
       clear hbs
       ((repeat (first | (with_reducible refine Vc.seq fun N hN => ?_) | ((with_reducible refine And.intro ?_ ?_); exact sdB) | ((first | ((with_reducible refine Vc.hold ?_); first | refine Vc.regiont T0_ok GK4_ok ?_)); (try simp only [v8Y, Nat.beq, Nat.ble, seval, tabs, GK4_set, e3])) | ((with_reducible refine hN _ _ ?_); clear hN N))))
       (refine Vc.cond T0_ok (t := false) (by rfl) (fun h => Bool.noConfusion h) (fun _ => ?_))
       ((repeat (first | (with_reducible first | refine Vc.seq fun N hN => ?_ | refine Vc.block ?_) | ((first | with_reducible refine Vc.exit ?_); dsimp only [thenK, blockK, Nat.beq]; (first | skip)) | ((with_reducible refine And.intro ?_ ?_); exact sdB) | ((first | ((with_reducible refine Vc.hold ?_); first | refine Vc.regiont T0_ok GK4_ok ?_)); (try simp only [v8Y, Nat.beq, Nat.ble, seval, tabs, GK4_set])) | ((with_reducible refine hN _ _ ?_); clear hN N))))
       (refine hN3 _ _ ?_; (try clear hN N); clear hN3 N3)
       ((repeat (first | (with_reducible first | refine Vc.seq fun N hN => ?_ | refine Vc.block ?_) | ((first | with_reducible refine Vc.exit ?_); dsimp only [thenK, blockK, Nat.beq]; (first | skip)) | ((with_reducible refine And.intro ?_ ?_); exact sdB) | ((first | ((with_reducible refine Vc.hold ?_); first | refine Vc.regiont T0_ok GK4_ok ?_)); (try simp only [v8Y, Nat.beq, Nat.ble, seval, tabs, GK4_set])) | ((with_reducible refine hN _ _ ?_); clear hN N))))
       (revert N; intro N5 hN5)
       refine Vc.nilown 14 24 1 .u64 rfl ?_
       (simp only [v8Y, Nat.beq, Nat.ble, seval, tabs])
       refine Vc.loop 14 158 (fun (z : Nat × Value) => [(14, .own 6 z.2 (5 * z.1)), (15, .int .i64 (z.1 : Nat))]) (fun z => [.ro al (.ints .u64 l), .ro ar (.ints .i64 kTurnsI), .ro ak (.ints .u64 kKeys), .own v 25 24 1 (.ints .u64 s), .own vc 5 24 1 (.ints .u64 cs), .own vb 25 24 1 (.ints .u64 bb), .own z.2 (5 * z.1) 24 1 (.ints .u64 (qN bb z.1))]) (fun z => z.1 ≤ 5) (fun z => 5 - z.1) (0, .slice none 0 0) ⟨Nat.zero_le _, ?_, ?_⟩ (fun z junk4 hz => ?_)
       ·((try simp only [v8Y, Nat.beq, Nat.ble, seval, tabs]); (repeat' with_reducible apply And.intro) <;> first | with_reducible exact True.intro | rfl | (congr 1 <;> omega))
       ·((try simp only [v8Y, Nat.beq, Nat.ble, seval, tabs]); (repeat' with_reducible apply And.intro) <;> first | with_reducible exact True.intro | rfl | (congr 1 <;> omega))
       ·obtain ⟨y, vn⟩ := z
        simp only at hz ⊢
        have hnl := qN_len bb y
        have hns := qN_s bb y
        generalize hqn : qN bb y = nn at *
        (simp only [v8Y, Nat.beq, Nat.ble, seval, tabs])
        by_cases hl4 : y < 5
        ·have e5 : decide ((y : Int) < 5) = true := decide_eq_true (by omega)
         ((repeat (first | (with_reducible refine Vc.seq fun N hN => ?_) | ((with_reducible refine And.intro ?_ ?_); exact sdB) | ((first | ((with_reducible refine Vc.hold ?_); first | refine Vc.regiont T0_ok GK4_ok ?_)); (try simp only [v8Y, Nat.beq, Nat.ble, seval, tabs, GK4_set, e5])) | ((with_reducible refine hN _ _ ?_); clear hN N))))
         (refine Vc.cond T0_ok (t := true) (by rfl) (fun _ => ?_) (fun h => Bool.noConfusion h))
         ((repeat (first | (with_reducible first | refine Vc.seq fun N hN => ?_ | refine Vc.block ?_) | ((with_reducible first | refine Vc.skip ?_ | refine Vc.exit ?_); dsimp only [thenK, blockK, Nat.beq]; (first | (refine hN _ _ ?_; clear hN N) | skip)) | ((with_reducible refine And.intro ?_ ?_); exact sdB) | ((first | ((with_reducible refine Vc.hold ?_); first | refine Vc.regiont T0_ok GK4_ok ?_)); (try simp only [v8Y, Nat.beq, Nat.ble, seval, tabs, GK4_set])) | ((with_reducible refine hN _ _ ?_); clear hN N))))
         (revert N; intro N6 hN6)
         refine Vc.loop 14 158 (fun (z : Nat × Value) => [(14, .own 6 z.2 (5 * y + z.1)), (15, .int .i64 (y : Nat)), (16, .int .i64 (z.1 : Nat))]) (fun z => [.ro al (.ints .u64 l), .ro ar (.ints .i64 kTurnsI), .ro ak (.ints .u64 kKeys), .own v 25 24 1 (.ints .u64 s), .own vc 5 24 1 (.ints .u64 cs), .own vb 25 24 1 (.ints .u64 bb), .own z.2 (5 * y + z.1) 24 1 (.ints .u64 (qNx bb nn y z.1))]) (fun z => z.1 ≤ 5) (fun z => 5 - z.1) (0, vn) ⟨Nat.zero_le _, ?_, ?_⟩ (fun z junk5 hz5 => ?_)
         ·((try simp only [v8Y, Nat.beq, Nat.ble, seval, tabs]); (repeat' with_reducible apply And.intro) <;> first | with_reducible exact True.intro | rfl | (congr 1 <;> omega))
         ·((try simp only [v8Y, Nat.beq, Nat.ble, seval, tabs]); (repeat' with_reducible apply And.intro) <;> first | with_reducible exact True.intro | rfl | (congr 1 <;> omega))
         ·obtain ⟨q, vq⟩ := z
          simp only at hz5 ⊢
          have hxl := qNx_len bb nn y q
          have hxs := qNx_s bb nn y q
          generalize hnx : qNx bb nn y q = ll at *
          (simp only [v8Y, Nat.beq, Nat.ble, seval, tabs])
          by_cases hl5 : q < 5
          ·have e6 : decide ((q : Int) < 5) = true := decide_eq_true (by omega)
           have g1 : (5 * (y : Int) + (q : Int)).toNat = 5 * y + q := by omega
           have g2 : (5 * (y : Int) + ((q : Int) + 1) % 5).toNat = 5 * y + (q + 1) % 5 := by omega
           have g3 : (5 * (y : Int) + ((q : Int) + 2) % 5).toNat = 5 * y + (q + 2) % 5 := by omega
           have g5 : 5 * y + (q + 1) = 5 * y + q + 1 := by omega
           have hno : (if IntKind.signed .u64 = true then (-1 : Int) else IntKind.max .u64) = 18446744073709551615 := rfl
           ((repeat (first | (with_reducible refine Vc.seq fun N hN => ?_) | ((with_reducible refine And.intro ?_ ?_); exact sdB) | ((first | ((with_reducible refine Vc.hold ?_); first | refine Vc.regiont T0_ok GK4_ok ?_)); (try simp only [v8Y, Nat.beq, Nat.ble, seval, tabs, GK4_set, e6])) | ((with_reducible refine hN _ _ ?_); clear hN N))))
           (refine Vc.cond T0_ok (t := true) (by rfl) (fun _ => ?_) (fun h => Bool.noConfusion h))
           ((repeat (first | (with_reducible first | refine Vc.seq fun N hN => ?_ | refine Vc.block ?_) | ((first | with_reducible refine Vc.skip ?_); dsimp only [thenK, blockK, Nat.beq]; (first | (refine hN _ _ ?_; clear hN N))) | (with_reducible intro _) | ((with_reducible refine And.intro ?_ ?_); exact sX3) | ((first | ((with_reducible refine Vc.hold ?_); first | refine Vc.regiont T0_ok GK4_ok ?_ | refine Vc.drawt (id := 25) T0_ok GK4_ok (by kernel_rfl) [0, 1, 2, 3, 4, 5, 6, 7, 8, 9, 10, 11, 12, 13, 14, 15, 16, 17, 18, 19, 20, 21, 22, 23, 24, 25, 26, 27] 28 [] trivial (by kernel_rfl) ?_)); (try simp only [v8Y, Nat.beq, Nat.ble, seval, tabs, GK4_set, hno, g1, g2, g3, List.drop_zero, List.take_succ_cons, List.take_zero])) | ((with_reducible refine hN _ _ ?_); clear hN N))))
           rename_i bq vq2
           clear g1 g2 g3 e6
           refine ⟨(q + 1, vq2), by simp only; omega, ?_, ?_, by simp only; omega⟩
           ·((try simp only [v8Y, Nat.beq, Nat.ble, seval, tabs]); (repeat' with_reducible apply And.intro) <;> first | with_reducible exact True.intro | rw [g5] | (congr 1 <;> omega))
           ·((try simp only [v8Y, Nat.beq, Nat.ble, seval, tabs]); (repeat' with_reducible apply And.intro) <;> first | with_reducible exact True.intro | rw [hxs, g5] | (congr 1 <;> omega))
          ·have e6 : decide ((q : Int) < 5) = false := decide_eq_false (by omega)
           obtain rfl : q = 5 := by omega
           have g5 : 5 * (y + 1) = 5 * y + 5 := by omega
           rw [hnx] at hns
           ((repeat (first | (with_reducible refine Vc.seq fun N hN => ?_) | ((with_reducible refine And.intro ?_ ?_); exact sdB) | ((first | ((with_reducible refine Vc.hold ?_); first | refine Vc.regiont T0_ok GK4_ok ?_)); (try simp only [v8Y, Nat.beq, Nat.ble, seval, tabs, GK4_set, e6])) | ((with_reducible refine hN _ _ ?_); clear hN N))))
           (refine Vc.cond T0_ok (t := false) (by rfl) (fun h => Bool.noConfusion h) (fun _ => ?_))
           ((repeat (first | ((first | with_reducible refine Vc.exit ?_); dsimp only [thenK, blockK, Nat.beq]; (first | skip)) | ((with_reducible refine And.intro ?_ ?_); exact sdB) | ((first | ((with_reducible refine Vc.hold ?_); first | refine Vc.regiont T0_ok GK4_ok ?_)); (try simp only [v8Y, Nat.beq, Nat.ble, seval, tabs, GK4_set])))))
           (refine hN6 _ _ ?_; (try clear hN N); clear hN6 N6)
           ((repeat (first | ((first | with_reducible refine Vc.exit ?_); dsimp only [thenK, blockK, Nat.beq]; (first | skip)) | ((with_reducible refine And.intro ?_ ?_); exact sdB) | ((first | ((with_reducible refine Vc.hold ?_); first | refine Vc.regiont T0_ok GK4_ok ?_)); (try simp only [v8Y, Nat.beq, Nat.ble, seval, tabs, GK4_set])))))
           refine ⟨(y + 1, vq), by simp only; omega, ?_, ?_, by simp only; omega⟩
           ·((try simp only [v8Y, Nat.beq, Nat.ble, seval, tabs]); (repeat' with_reducible apply And.intro) <;> first | with_reducible exact True.intro | rw [g5] | (congr 1 <;> omega))
           ·((try simp only [v8Y, Nat.beq, Nat.ble, seval, tabs]); (repeat' with_reducible apply And.intro) <;> first | with_reducible exact True.intro | rw [hns, g5] | (congr 1 <;> omega))
        ·have e5 : decide ((y : Int) < 5) = false := decide_eq_false (by omega)
         obtain rfl : y = 5 := by omega
         rw [hqn] at hms
         obtain ⟨F, hF⟩ : ∃ F, F = nn.set 0 (bits .xor .u64 (nn.getD 0 0) (kKeys.getD k 0)) := ⟨_, rfl⟩
         rw [← hF] at hms
         have hFl : F.length = 25 := by rw [hF, List.length_set, hnl]
         ((repeat (first | (with_reducible refine Vc.seq fun N hN => ?_) | ((with_reducible refine And.intro ?_ ?_); exact sdB) | ((first | ((with_reducible refine Vc.hold ?_); first | refine Vc.regiont T0_ok GK4_ok ?_)); (try simp only [v8Y, Nat.beq, Nat.ble, seval, tabs, GK4_set, e5])) | ((with_reducible refine hN _ _ ?_); clear hN N))))
         (refine Vc.cond T0_ok (t := false) (by rfl) (fun h => Bool.noConfusion h) (fun _ => ?_))
         ((repeat (first | (with_reducible first | refine Vc.seq fun N hN => ?_ | refine Vc.block ?_) | ((with_reducible first | refine Vc.skip ?_ | refine Vc.exit ?_); dsimp only [thenK, blockK, Nat.beq]; (first | (refine hN _ _ ?_; clear hN N) | skip)) | ((with_reducible refine And.intro ?_ ?_); exact sdB) | ((first | ((with_reducible refine Vc.hold ?_); first | refine Vc.regiont T0_ok GK4_ok ?_)); (try simp only [v8Y, Nat.beq, Nat.ble, seval, tabs, GK4_set])) | ((with_reducible refine hN _ _ ?_); clear hN N))))
         (refine hN5 _ _ ?_; (try clear hN N); clear hN5 N5)
         ((repeat (first | (with_reducible refine Vc.seq fun N hN => ?_) | ((with_reducible refine And.intro ?_ ?_); exact sX3) | ((first | ((with_reducible refine Vc.hold ?_); first | refine Vc.regiont T0_ok GK4_ok ?_ | refine Vc.drawt (id := 26) T0_ok GK4_ok (by kernel_rfl) [0, 1, 2, 3, 4, 5, 6, 7] 8 [] trivial (by kernel_rfl) ?_)); (try simp only [v8Y, Nat.beq, Nat.ble, seval, tabs, GK4_set, tnc, ← hF])) | ((with_reducible refine hN _ _ ?_); clear hN N))))
         refine hN9 _ _ ?_
         clear hN9 N9
         refine Vc.nameM [.ro al (.ints .u64 l), .ro ar (.ints .i64 kTurnsI), .ro ak (.ints .u64 kKeys), .own vn 25 24 1 (.ints .u64 F)] (nums_sub (.cons_cons _ (.cons_cons _ (.cons_cons _ (.cons _ (.cons _ (.cons _ (.cons_cons _ .slnil)))))))) (by intro e he; left; simp only [List.mem_cons, List.not_mem_nil, or_false] at he ⊢; rcases he with rfl | rfl | rfl | rfl <;> simp) ?_
         refine Vc.nameS 0 (.own 3 vn 25) rfl ?_
         (simp only [v8Y, Nat.beq, Nat.ble, seval, tabs])
         ((repeat (first | (with_reducible first | refine Vc.seq fun N hN => ?_ | refine Vc.block ?_) | ((with_reducible first | refine Vc.skip ?_ | refine Vc.exit ?_); dsimp only [thenK, blockK, Nat.beq]; (first | (refine hN _ _ ?_; clear hN N) | skip)) | ((with_reducible refine And.intro ?_ ?_); exact sdB) | ((first | ((with_reducible refine Vc.hold ?_); first | refine Vc.regiont T0_ok GK4_ok ?_)); (try simp only [v8Y, Nat.beq, Nat.ble, seval, tabs, GK4_set])) | ((with_reducible refine hN _ _ ?_); clear hN N))))
         refine ⟨(k + 1, vn), by simp only; omega, ?_, ?_, by simp only; omega⟩
         ·((try simp only [v8Y, Nat.beq, Nat.ble, seval, tabs]); (repeat' with_reducible apply And.intro) <;> first | with_reducible exact True.intro | rfl | (congr 1 <;> omega))
         ·((try simp only [v8Y, Nat.beq, Nat.ble, seval, tabs]); (repeat' with_reducible apply And.intro) <;> first | with_reducible exact True.intro | rw [hms] | (congr 1 <;> omega))
  ·have d1 : decide ((k : Int) < 24) = false := decide_eq_false (by omega)
   obtain rfl : k = 24 := by omega
   (simp only [v8Y, Nat.beq, Nat.ble, seval, tabs])
   ((repeat (first | (with_reducible refine Vc.seq fun N hN => ?_) | ((with_reducible refine And.intro ?_ ?_); exact sdB) | ((first | ((with_reducible refine Vc.hold ?_); first | refine Vc.regiont T0_ok GK4_ok ?_)); (try simp only [v8Y, Nat.beq, Nat.ble, seval, tabs, GK4_set, d1])) | ((with_reducible refine hN _ _ ?_); clear hN N))))
   (refine Vc.cond T0_ok (t := false) (by rfl) (fun h => Bool.noConfusion h) (fun _ => ?_))
   ((repeat (first | (with_reducible first | refine Vc.seq fun N hN => ?_ | refine Vc.block ?_) | ((with_reducible first | refine Vc.skip ?_ | refine Vc.exit ?_); dsimp only [thenK, blockK, Nat.beq]; (first | (refine hN _ _ ?_; clear hN N) | skip)) | ((with_reducible refine And.intro ?_ ?_); exact sdB) | ((first | ((with_reducible refine Vc.fin ?_); dsimp only [thenK, blockK, retK, resS, resOne, resAll]) | ((with_reducible refine Vc.hold ?_); first | refine Vc.regiont T0_ok GK4_ok ?_)); (try simp only [v8Y, Nat.beq, Nat.ble, seval, tabs, GK4_set])) | ((with_reducible refine hN _ _ ?_); clear hN N))); (try ((with_reducible refine Fin.of ?_); (try with_reducible exact True.intro))))
   (refine hN1 _ _ ?_; (try clear hN N); clear hN1 N1)
   ((repeat (first | (with_reducible first | refine Vc.seq fun N hN => ?_ | refine Vc.block ?_) | ((with_reducible first | refine Vc.skip ?_ | refine Vc.exit ?_); dsimp only [thenK, blockK, Nat.beq]; (first | (refine hN _ _ ?_; clear hN N) | skip)) | ((with_reducible refine And.intro ?_ ?_); exact sdB) | ((first | ((with_reducible refine Vc.fin ?_); dsimp only [thenK, blockK, retK, resS, resOne, resAll]) | ((with_reducible refine Vc.hold ?_); first | refine Vc.regiont T0_ok GK4_ok ?_)); (try simp only [v8Y, Nat.beq, Nat.ble, seval, tabs, GK4_set])) | ((with_reducible refine hN _ _ ?_); clear hN N))); (try ((with_reducible refine Fin.of ?_); (try with_reducible exact True.intro))))
   exact ⟨trivial, 3, v, rfl, by rw [hsk]; rfl⟩
end Go.Proofs.YthdpgfdfgidokaaDoor
