/-
 Keccak-256 (package keccak), walked: Sum of any bytes. No condition.
-/
import Derived.Test.YtoadeekdgikghaaDoorK5
import Derived.Test.YtoadeekdgikghaaDoorRE
set_option maxRecDepth 10000
set_option maxHeartbeats 4000000
set_option linter.unusedVariables false
set_option linter.unusedSimpArgs false
namespace Go.Proofs.YtoadeekdgikghaaDoor
open Go.RowKit
def kSt (xs : List Int) (n : Nat) : List Int := it (fun s k => kAbs s ((xs.drop (136 * k)).take 136)) n (List.replicate 25 0)
def kPad0 (ys : List Int) : List Int := (List.replicate 136 (0 : Int)).take 0 ++ ys ++ (List.replicate 136 (0 : Int)).drop ys.length
def kPad1 (ys : List Int) : List Int := (kPad0 ys).set ys.length 1
def kPad (ys : List Int) : List Int := (kPad1 ys).set 135 (bits .xor .u8 ((kPad1 ys).getD 135 0) 128)
def kSum (xs : List Int) : Nat := readN (kHs (kAbs (kSt xs (xs.length / 136)) (kPad (xs.drop (136 * (xs.length / 136))))) 32)
theorem kSt_s (xs : List Int) (k : Nat) : kSt xs (k + 1) = kAbs (kSt xs k) ((xs.drop (136 * k)).take 136) := it_s _ _ _
theorem kSt_len (xs : List Int) (k : Nat) : (kSt xs k).length = 25 := it_len (fun _ _ => kAbs_len _ _) _ _
theorem kPad0_len (ys : List Int) (h : ys.length ≤ 136) : (kPad0 ys).length = 136 := by
 unfold kPad0
 rw [List.length_append, List.length_append, List.take_zero, List.length_drop, List.length_replicate, List.length_nil]; omega
theorem kPad1_len (ys : List Int) (h : ys.length ≤ 136) : (kPad1 ys).length = 136 := by unfold kPad1; rw [List.length_set, kPad0_len ys h]
theorem kPad_len (ys : List Int) (h : ys.length ≤ 136) : (kPad ys).length = 136 := by unfold kPad; rw [List.length_set, kPad1_len ys h]
theorem xor8_rng (x : Int) (h : 0 ≤ x ∧ x ≤ 255) : 0 ≤ bits .xor .u8 x 128 ∧ bits .xor .u8 x 128 ≤ 255 := by
 have : ∀ n : Nat, n < 256 → 0 ≤ bits .xor .u8 (n : Int) 128 ∧ bits .xor .u8 (n : Int) 128 ≤ 255 := by decide +kernel
 have := this x.toNat (by omega)
 rwa [Int.toNat_of_nonneg h.1] at this
theorem allB_set {xs : List Int} (hx : allB xs) (k : Nat) {v : Int} (hv : 0 ≤ v ∧ v ≤ 255) : allB (xs.set k v) := fun y hy => by
 rcases List.mem_or_eq_of_mem_set hy with h | h
 ·exact hx y h
 ·rw [h]; exact hv
theorem allB_take {xs : List Int} (h : allB xs) (n : Nat) : allB (xs.take n) := fun x hx => h x (List.mem_of_mem_take hx)
theorem allB_rep (n : Nat) : allB (List.replicate n 0) := fun y hy => by rw [List.eq_of_mem_replicate hy]; decide
theorem kPad1_all {ys : List Int} (h : allB ys) : allB (kPad1 ys) := by
 refine allB_set (fun y hy => ?_) _ (by decide)
 rcases List.mem_append.1 hy with hy | hy
 ·rcases List.mem_append.1 hy with hy | hy
  ·exact allB_take (allB_rep 136) _ y hy
  ·exact h y hy
 ·exact allB_drop (allB_rep 136) _ y hy
theorem kPad_all {ys : List Int} (h : allB ys) : allB (kPad ys) := allB_set (kPad1_all h) _ (xor8_rng _ (by_rng (kPad1_all h) 135))
theorem ksum_vc (xs : List Int) (a : Option Addr) (n cp : Nat) (hn : xs.length = n) (hc : n ≤ cp) (hb0 : n ≤ 1000000) (hx : allB xs) (ha : adr a n cp) (w : World) (hm : MemOk w [] [.ro (some ⟨0, 0, none⟩) (.ints .u64 kKeys), .ro (some ⟨1, 0, none⟩) (.ints .u8 kPathI), .ro a (.ints .u8 xs)] w) :
  Calls Tryd.prog 69 (cvs [.sl 2 a 0 0 1 n cp]).toArray w (fun en w' => ∃ u, en = .returned u ∧ ∃ v m', u = cv v ∧ MemOk w [] m' w' ∧ v = .word (kSum xs)) := by
 refine Vc.calls T0_ok Tryd.func69 rfl rfl (args := [.sl 2 a 0 0 1 n cp]) (k := 26) rfl hm ?_; change Vc _ _ (c8 (.sl 2 a 0 0 1 n cp) .undef .undef .undef .undef .undef .undef .undef (c8 .undef .undef .undef .undef .undef .undef .undef .undef (c8 .undef .undef .undef .undef .undef .undef .undef .undef ([.undef, .undef, .undef])))) _ _
 ((repeat (first | (with_reducible first | refine Vc.seq fun N hN => ?_ | refine Vc.block ?_) | (with_reducible intro _) | ((first | ((with_reducible refine Vc.hold ?_); first | refine Vc.regiont T0_ok GK3_ok ?_)); (try simp only [v8Y, Nat.beq, Nat.ble, seval, -List.reduceReplicate, tabs, GK3_set])) | ((with_reducible refine hN _ _ ?_); clear hN N))))
 (revert N; intro N1 hN1)
 rename_i b0 b1
 refine Vc.loop 0 27 (fun x => [(0, .sl 2 a (136 * x.1) x.2 1 (n - 136 * x.1) (cp - 136 * x.1)), (2, .ptr 3 b0 0 0 0 0), (3, .ptr 4 b1 0 0 0 0)]) (fun x => [.ro (some ⟨0, 0, none⟩) (.ints .u64 kKeys), .ro (some ⟨1, 0, none⟩) (.ints .u8 kPathI), .ro a (.ints .u8 xs), .blk b0 27 (.words [0]), .blk b1 131 (.ints .u64 (kSt xs x.1))]) (fun x => 136 * x.1 ≤ n) (fun x => n - 136 * x.1) ((0 : Nat), (0 : Nat)) ⟨Nat.zero_le _, ?_, ?_⟩ (fun x junk hk => ?_)
 ·((try simp only [v8Y, Nat.beq, Nat.ble, seval, -List.reduceReplicate, tabs]); (repeat' with_reducible apply And.intro) <;> first | with_reducible exact True.intro | rfl | with_reducible rfl | (congr 1 <;> omega) | trivial)
 ·((try simp only [v8Y, Nat.beq, Nat.ble, seval, -List.reduceReplicate, tabs]); (repeat' with_reducible apply And.intro) <;> first | with_reducible exact True.intro | rfl | with_reducible rfl | (congr 1 <;> omega) | trivial)
 ·obtain ⟨k, s0⟩ := x
  simp only at hk ⊢
  have ad : adr a (n - 136 * k) (cp - 136 * k) := adr_cut (l := 136 * k) ha (by omega) rfl
  have h0 := kSt_len xs k
  have hs := kSt_s xs k
  generalize hsk : kSt xs k = s at *
  (simp only [v8Y, Nat.beq, Nat.ble, seval, -List.reduceReplicate, tabs])
  by_cases hlt : 136 * (k + 1) ≤ n
  ·have d1 : decide ((136 : Int) ≤ ((n - 136 * k : Nat) : Int)) = true := decide_eq_true (by omega)
   have hbl : ((xs.drop (136 * k)).take 136).length = 136 := by rw [List.length_take, List.length_drop]; omega
   have hba : allB ((xs.drop (136 * k)).take 136) := allB_take (allB_drop hx _) _
   have hal : (kAbs s ((xs.drop (136 * k)).take 136)).length = 25 := by rw [kAbs_len, h0]
   ((repeat (first | (with_reducible first | refine Vc.seq fun N hN => ?_ | refine Vc.block ?_) | ((first | with_reducible refine Vc.skip ?_); dsimp only [thenK, blockK, Nat.beq]; (first | (refine hN _ _ ?_; clear hN N))) | ((with_reducible refine And.intro ?_ ?_); exact sdB) | ((first | ((with_reducible refine Vc.hold ?_); first | refine Vc.regiont T0_ok GK3_ok ?_)); (try simp only [v8Y, Nat.beq, Nat.ble, seval, -List.reduceReplicate, tabs, GK3_set, d1])) | ((with_reducible refine hN _ _ ?_); clear hN N))))
   (refine Vc.cond T0_ok (t := true) (by rfl) (fun _ => ?_) (fun h => Bool.noConfusion h))
   ((repeat (first | (with_reducible first | refine Vc.seq fun N hN => ?_ | refine Vc.block ?_) | ((first | with_reducible refine Vc.skip ?_); dsimp only [thenK, blockK, Nat.beq]; (first | (refine hN _ _ ?_; clear hN N))) | ((with_reducible refine And.intro ?_ ?_); exact sdB) | ((first | ((with_reducible refine Vc.hold ?_); first | refine Vc.regiont T0_ok GK3_ok ?_)); (try simp only [v8Y, Nat.beq, Nat.ble, seval, -List.reduceReplicate, tabs, GK3_set, d1])) | ((with_reducible refine hN _ _ ?_); clear hN N))))
   refine ⟨(k + 1, if cp - 136 * k = 0 then s0 else 136 * k), by simp only; omega, ?_, ?_, by simp only; omega⟩
   ·((try simp only [v8Y, Nat.beq, Nat.ble, seval, -List.reduceReplicate, tabs]); (repeat' with_reducible apply And.intro) <;> first | with_reducible exact True.intro | (congr 1 <;> omega) | with_reducible rfl | (congr 1 <;> omega) | trivial)
   ·((try simp only [v8Y, Nat.beq, Nat.ble, seval, -List.reduceReplicate, tabs]); (repeat' with_reducible apply And.intro) <;> first | with_reducible exact True.intro | rw [hs] | with_reducible rfl | (congr 1 <;> omega) | trivial)
  ·have d1 : decide ((136 : Int) ≤ ((n - 136 * k : Nat) : Int)) = false := decide_eq_false (by omega)
   have hk2 : n / 136 = k := by omega
   have hsum : kSum xs = readN (kHs (kAbs s (kPad (xs.drop (136 * k)))) 32) := by unfold kSum; rw [hn, hk2, hsk]
   have hyl : (xs.drop (136 * k)).length = n - 136 * k := by rw [List.length_drop, hn]
   have hya := allB_drop hx (136 * k)
   ((repeat (first | (with_reducible first | refine Vc.seq fun N hN => ?_ | refine Vc.block ?_) | ((first | with_reducible refine Vc.skip ?_); dsimp only [thenK, blockK, Nat.beq]; (first | (refine hN _ _ ?_; clear hN N))) | ((with_reducible refine And.intro ?_ ?_); exact sdB) | ((first | ((with_reducible refine Vc.hold ?_); first | refine Vc.regiont T0_ok GK3_ok ?_)); (try simp only [v8Y, Nat.beq, Nat.ble, seval, -List.reduceReplicate, tabs, GK3_set, d1])) | ((with_reducible refine hN _ _ ?_); clear hN N))))
   (refine Vc.cond T0_ok (t := false) (by rfl) (fun h => Bool.noConfusion h) (fun _ => ?_))
   ((repeat (first | ((first | with_reducible refine Vc.exit ?_); dsimp only [thenK, blockK, Nat.beq]; (first | skip)))))
   (refine hN1 _ _ ?_; (try clear hN N); clear hN1 N1)
   generalize hys : xs.drop (136 * k) = ys at *
   have lr : (List.replicate 136 (0 : Int)).length = 136 := List.length_replicate
   have hr : n - 136 * k < 136 := by omega
   generalize hrr : n - 136 * k = r at *
   generalize hcr : cp - 136 * k = cr at *
   have f1 : min r 136 = r := by omega
   have f2 : ys.take r = ys := List.take_of_length_le (by omega)
   obtain ⟨q, hq⟩ : ∃ q, q = (List.replicate 136 (0 : Int)).take 0 ++ ys ++ (List.replicate 136 (0 : Int)).drop r := ⟨_, rfl⟩
   have hq' : q = kPad0 ys := by rw [hq, kPad0, hyl]
   obtain ⟨p1, hp1⟩ : ∃ p1, p1 = q.set r 1 := ⟨_, rfl⟩
   have hp1' : p1 = kPad1 ys := by rw [hp1, hq', kPad1, hyl]
   obtain ⟨p2, hp2⟩ : ∃ p2, p2 = p1.set 135 (bits .xor .u8 (p1.getD 135 0) 128) := ⟨_, rfl⟩
   have hp2' : p2 = kPad ys := by rw [hp2, hp1', kPad]
   have l0 : q.length = 136 := by rw [hq', kPad0_len ys (by omega)]
   have l1 : p1.length = 136 := by rw [hp1', kPad1_len ys (by omega)]
   have l2 : p2.length = 136 := by rw [hp2', kPad_len ys (by omega)]
   have a2 : allB p2 := by rw [hp2']; exact kPad_all hya
   have hal : (kAbs s p2).length = 25 := by rw [kAbs_len, h0]
   rw [← hp2'] at hsum
   clear hq' hp1' hp2'
   ((repeat (first | (with_reducible refine Vc.seq fun N hN => ?_) | (with_reducible intro _) | ((with_reducible refine And.intro ?_ ?_); exact sdB) | ((first | ((with_reducible refine Vc.fin ?_); dsimp only [thenK, blockK, retK, resS, resOne, resAll]) | ((with_reducible refine Vc.hold ?_); first | refine Vc.regiont T0_ok GK3_ok ?_)); (try simp only [v8Y, Nat.beq, Nat.ble, seval, -List.reduceReplicate, tabs, GK3_set, hys, f1, f2, ← hq, ← hp1, ← hp2])) | ((with_reducible refine hN _ _ ?_); clear hN N))); (try ((with_reducible refine Fin.of ?_); (try with_reducible exact True.intro))))
   exact ⟨⟨⟨trivial, trivial⟩, trivial, trivial⟩, by rw [hsum]⟩
end Go.Proofs.YtoadeekdgikghaaDoor
