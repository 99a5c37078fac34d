/-
 Keccak-256 by the document (quaestorref02), walked: Sum of any bytes. No condition.
-/
import Derived.Test.YthdpgfdfgidokaaDoorK9
import Derived.Test.YthdpgfdfgidokaaDoorKA
import Derived.Test.YthdpgfdfgidokaaDoorKC
set_option maxRecDepth 10000
set_option maxHeartbeats 4000000
set_option linter.defProp false
set_option linter.unusedVariables false
set_option linter.unusedSimpArgs false
namespace Go.Proofs.YthdpgfdfgidokaaDoor
open Go.RowKit
def g_qTurns (args : List SV) (_m : List Blk) : CR :=
 match args with
 | [] => .own True 3 1 25 (.ints .i64 kTurnsI) (fun v => v)
 | _ => .none
theorem g_qTurns_ok (w0 : World) (B : List Nat) (args : List SV) (m : List Blk) : CROk Tryd.prog w0 B 103 args m (g_qTurns args m) := by
 unfold g_qTurns
 split
 ·intro _ w _
  refine .inr ⟨enter_run Tryd.func103 rfl rfl _ w, (turns_vc w).mono fun e w' ⟨u, he, v', m', hu, hm, nm, s, hv, hs⟩ => ⟨u, he, s, ?_, hm.grown, ?_⟩⟩
  ·rw [hu, hv]; rfl
  ·exact own_ok0 (hm.each _ (bget_mem hs (by simp)))
 ·exact trivial
def g_qKeys (args : List SV) (_m : List Blk) : CR :=
 match args with
 | [] => .own True 24 1 24 (.ints .u64 kKeys) (fun v => v)
 | _ => .none
theorem g_qKeys_ok (w0 : World) (B : List Nat) (args : List SV) (m : List Blk) : CROk Tryd.prog w0 B 104 args m (g_qKeys args m) := by
 unfold g_qKeys
 split
 ·intro _ w _
  refine .inr ⟨enter_run Tryd.func104 rfl rfl _ w, (qkeys_vc w).mono fun e w' ⟨u, he, v', m', hu, hm, nm, s, hv, hs⟩ => ⟨u, he, s, ?_, hm.grown, ?_⟩⟩
  ·rw [hu, hv]; rfl
  ·exact own_ok0 (hm.each _ (bget_mem hs (by simp)))
 ·exact trivial
def g_qMix (args : List SV) (m : List Blk) : CR :=
 match args with
 | [x, y, z] => match srcC x m, srcC y m, srcC z m with
  | some (q1, n1, .ints .u64 l), some (q2, n2, .ints .i64 r), some (q3, n3, .ints .u64 k) => .own (q1 ∧ q2 ∧ q3 ∧ l.length = 25 ∧ n1 = 25 ∧ r = kTurnsI ∧ n2 = 25 ∧ k = kKeys ∧ n3 = 24) 24 1 25 (.ints .u64 (qMx l 24)) (fun v => v)
  | _, _, _ => .none
 | _ => .none
theorem g_qMix_ok (w0 : World) (B : List Nat) (args : List SV) (m : List Blk) : CROk Tryd.prog w0 B 105 args m (g_qMix args m) := by
 unfold g_qMix
 split
 ·rename_i x y z
  split
  ·rename_i q1 n1 l q2 n2 r q3 n3 k hx hy hz
   intro ⟨p1, p2, p3, hl, e1, e2, e3, e4, e5⟩ w hm
   subst e1 e2 e3 e4 e5
   obtain ⟨_, a1, c1, x1, b1, m1, d1⟩ := src_ro hx p1 hm
   obtain ⟨_, a2, c2, x2, b2, m2, d2⟩ := src_ro hy p2 hm
   obtain ⟨_, a3, c3, x3, b3, m3, d3⟩ := src_ro hz p3 hm
   have e : cvs [x, y, z] = cvs [.sl 0 a1 0 0 1 25 c1, .sl 1 a2 0 0 1 25 c2, .sl 2 a3 0 0 1 24 c3] := by simp only [cvs]; rw [x1, x2, x3]; rfl
   rw [e]
   refine .inr ⟨enter_run Tryd.func105 rfl rfl _ w, (mix_vc l hl a1 a2 a3 c1 c2 c3 b1 b2 b3 d1 d2 d3 w (ro_front (ro_front m3 m2) m1)).mono fun e w' ⟨u, he, v', m', hu, hm, nm, s, hv, hs⟩ => ⟨u, he, s, ?_, hm.grown, ?_⟩⟩
   ·rw [hu, hv]; rfl
   ·exact own_ok0 (hm.each _ (bget_mem hs (by simp)))
  ·exact trivial
 ·exact trivial
noncomputable def GK5 : Ctr := fun f args m => match f with
 | 103 => g_qTurns args m
 | 104 => g_qKeys args m
 | 105 => g_qMix args m
 | 83 => g_rRead args m
 | _ => .none
theorem GK5_ok : GOk Tryd.prog GK5 := by
 intro w0 B f args m; unfold GK5; split
 ·exact g_qTurns_ok _ _ _ _
 ·exact g_qKeys_ok _ _ _ _
 ·exact g_qMix_ok _ _ _ _
 ·exact g_rRead_ok _ _ _ _
 ·exact trivial
theorem GK5_qTurns : GK5 103 = g_qTurns := by funext args m; rfl
theorem GK5_qKeys : GK5 104 = g_qKeys := by funext args m; rfl
theorem GK5_qMix : GK5 105 = g_qMix := by funext args m; rfl
theorem GK5_rRead : GK5 83 = g_rRead := by funext args m; rfl
def GK5_set := And.intro (And.intro (And.intro (@GK5_qTurns) (@g_qTurns.eq_def)) (And.intro (@GK5_qKeys) (@g_qKeys.eq_def))) (And.intro (And.intro (@GK5_qMix) (@g_qMix.eq_def)) (And.intro (@GK5_rRead) (@g_rRead.eq_def)))

theorem dt136 (s : List Int) (a j : Nat) (h : j < 136) : ((s.drop a).take 136).getD j 0 = s.getD (a + j) 0 := by
 rw [List.getD_eq_getElem?_getD, List.getD_eq_getElem?_getD, List.getElem?_take, if_pos h, List.getElem?_drop]
theorem qZ_s (xs : List Int) (k : Nat) : qZ xs (k + 1) = qZ xs k ++ [0] := by unfold qZ; rw [List.replicate_succ', List.append_assoc, List.append_assoc, List.append_assoc]
theorem qZ_0 (xs : List Int) : qZ xs 0 = xs ++ [1] := by unfold qZ; rw [List.replicate_zero, List.append_nil]
def qHr (s o : List Int) (i j : Nat) : List Int := it (qHi s i) j o
theorem qHr_s (s o : List Int) (i j : Nat) : qHr s o i (j + 1) = qHr s o i j ++ [IntKind.u8.wrap (s.getD i 0 / 2 ^ (8 * j))] := it_s _ _ _
theorem qHr_0 (s o : List Int) (i : Nat) : qHr s o i 0 = o := it_0 _ _
theorem qHr_len (s o : List Int) (i j : Nat) : (qHr s o i j).length = o.length + j := by
 induction j with
 | zero => rw [qHr_0]; rfl
 | succ j ih => rw [qHr_s, List.length_append, ih]; rfl
theorem qHs_s (s : List Int) (i : Nat) : qHs s (i + 1) = qHr s (qHs s i) i 8 := it_s _ _ _
theorem qHs_len (s : List Int) (i : Nat) : (qHs s i).length = 8 * i := by rw [qHs_map, List.length_map, List.length_range]
theorem qHs_all (s : List Int) (i : Nat) : allB (qHs s i) := by
 rw [qHs_map]
 intro y hy
 obtain ⟨k, _, rfl⟩ := List.mem_map.1 hy
 exact wrap8_rng _
theorem qSt_len (xs : List Int) (k : Nat) : (qSt xs k).length = 25 := by
 induction k with
 | zero => rw [qSt_0]; exact List.length_replicate
 | succ k ih => rw [qSt_s]; exact qMx_len _ (by rw [kAb_len, ih]) 24
theorem qZ_all {xs : List Int} (h : allB xs) (k : Nat) : allB (qZ xs k) := by
 intro y hy
 unfold qZ at hy
 rcases List.mem_append.1 hy with hy | hy
 ·rcases List.mem_append.1 hy with hy | hy
  ·exact h y hy
  ·rw [List.mem_singleton.1 hy]; decide
 ·exact allB_rep k y hy
theorem qP_all {xs : List Int} (h : allB xs) : allB (qP xs) := allB_set (qZ_all h _) _ (xor8_rng _ (by_rng (qZ_all h _) _))
theorem qsum_vc (xs : List Int) (a : Option Addr) (n cp : Nat) (hn : xs.length = n) (hc : n ≤ cp) (hb0 : n ≤ 1000000) (hx : allB xs) (ha : adr a n cp) (w : World) (hm : MemOk w [] [.ro a (.ints .u8 xs)] w) :
  Calls Tryd.prog 69 (cvs [.sl 0 a 0 0 1 n cp]).toArray w (fun en w' => ∃ u, en = .returned u ∧ ∃ v m', u = cv v ∧ MemOk w [] m' w' ∧ v = .word (qSum xs)) := by
 have t1 : (xs.drop 0).take n = xs := by rw [List.drop_zero, List.take_of_length_le (by omega)]
 have t2 : xs.take n = xs := List.take_of_length_le (by omega)
 refine Vc.calls T0_ok Tryd.func69 rfl rfl (args := [.sl 0 a 0 0 1 n cp]) (k := 102) rfl hm ?_; change Vc _ _ (c8 (.sl 0 a 0 0 1 n cp) .undef .undef .undef .undef .undef .undef .undef (c8 .undef .undef .undef .undef .undef .undef .undef .undef (c8 .undef .undef .undef .undef .undef .undef .undef .undef (c8 .undef .undef .undef .undef .undef .undef .undef .undef (c8 .undef .undef .undef .undef .undef .undef .undef .undef (c8 .undef .undef .undef .undef .undef .undef .undef .undef (c8 .undef .undef .undef .undef .undef .undef .undef .undef (c8 .undef .undef .undef .undef .undef .undef .undef .undef (c8 .undef .undef .undef .undef .undef .undef .undef .undef (c8 .undef .undef .undef .undef .undef .undef .undef .undef (c8 .undef .undef .undef .undef .undef .undef .undef .undef (c8 .undef .undef .undef .undef .undef .undef .undef .undef ([.undef, .undef, .undef, .undef, .undef, .undef, .undef]))))))))))))) _ _
 ((repeat (first | (with_reducible first | refine Vc.seq fun N hN => ?_ | refine Vc.block ?_) | (with_reducible intro _) | ((with_reducible refine And.intro ?_ ?_); exact sX19) | ((first | ((with_reducible refine Vc.hold ?_); first | refine Vc.regiont T0_ok GK5_ok ?_)); (try simp only [v8Y, Nat.beq, Nat.ble, seval, -List.reduceReplicate, tabs, GK5_set, t1, t2, List.drop_zero, List.take_succ_cons, List.take_zero])) | ((with_reducible refine hN _ _ ?_); clear hN N))))
 (revert N; intro N1 hN1)
 rename_i b0 v0 bl v1
 have hq := qP_len xs
 rw [hn] at hq
 refine Vc.loop 3 103 (fun (x : Nat × Value) => [(3, .own 2 x.2 (n + 1 + x.1))]) (fun x => [.ro a (.ints .u8 xs), .blk b0 26 (.words [0]), .own x.2 (n + 1 + x.1) 5 1 (.ints .u8 (qZ xs x.1))]) (fun x => x.1 ≤ qNz n) (fun x => qNz n - x.1) (0, v1) ⟨Nat.zero_le _, ?_, ?_⟩ (fun x junk hx1 => ?_)
 ·((try simp only [v8Y, Nat.beq, Nat.ble, seval, -List.reduceReplicate, tabs]); (repeat' with_reducible apply And.intro) <;> first | with_reducible exact True.intro | rfl | with_reducible rfl | (congr 1 <;> omega) | trivial)
 ·((try simp only [v8Y, Nat.beq, Nat.ble, seval, -List.reduceReplicate, tabs]); (repeat' with_reducible apply And.intro) <;> first | with_reducible exact True.intro | rw [qZ_0] | with_reducible rfl | (congr 1 <;> omega) | trivial)
 ·obtain ⟨k, v⟩ := x
  simp only at hx1 ⊢
  have hzl := qZ_len xs k
  rw [hn] at hzl
  have hzs := qZ_s xs k
  generalize hz : qZ xs k = z at *
  (simp only [v8Y, Nat.beq, Nat.ble, seval, -List.reduceReplicate, tabs])
  by_cases hlt : k < qNz n
  ·have d1 : decide (((n + 1 + k : Nat) : Int) % 136 = 0) = false := decide_eq_false (by unfold qNz at hlt; omega)
   ((repeat (first | (with_reducible refine Vc.seq fun N hN => ?_) | ((with_reducible refine And.intro ?_ ?_); exact sdB) | ((first | ((with_reducible refine Vc.hold ?_); first | refine Vc.regiont T0_ok GK5_ok ?_)); (try simp only [v8Y, Nat.beq, Nat.ble, seval, -List.reduceReplicate, tabs, GK5_set, d1])) | ((with_reducible refine hN _ _ ?_); clear hN N))))
   (refine Vc.cond T0_ok (t := true) (by rfl) (fun _ => ?_) (fun h => Bool.noConfusion h))
   ((repeat (first | (with_reducible refine Vc.block ?_) | ((first | with_reducible refine Vc.skip ?_); dsimp only [thenK, blockK, Nat.beq]; (first | (refine hN _ _ ?_; clear hN N))) | (with_reducible intro _) | ((with_reducible refine And.intro ?_ ?_); (focus (first | ((repeat' with_reducible apply And.intro) <;> first | (with_reducible first | exact True.intro | assumption | rfl) | (unfold qNz at hlt; omega) | (unfold qNz at hlt; simp only [List.length_append, List.length_cons, List.length_nil]; omega)) | exact sd0))) | ((first | ((with_reducible refine Vc.hold ?_); first | refine Vc.regiont T0_ok GK5_ok ?_)); (try simp only [v8Y, Nat.beq, Nat.ble, seval, -List.reduceReplicate, tabs, GK5_set, List.drop_zero, List.take_succ_cons, List.take_zero])))))
   rename_i b2 v2
   refine ⟨(k + 1, v2), by simp only; omega, ?_, ?_, by simp only; omega⟩
   ·((try simp only [v8Y, Nat.beq, Nat.ble, seval, -List.reduceReplicate, tabs]); (repeat' with_reducible apply And.intro) <;> first | with_reducible exact True.intro | rfl | (congr 1 <;> omega))
   ·((try simp only [v8Y, Nat.beq, Nat.ble, seval, -List.reduceReplicate, tabs]); (repeat' with_reducible apply And.intro) <;> first | with_reducible exact True.intro | rw [hzs]; rfl | (congr 1 <;> omega))
  ·have hk : k = qNz n := by omega
   have hL : n + 1 + k = 136 * (n / 136 + 1) := by rw [hk]; unfold qNz; omega
   have d1 : decide (((n + 1 + k : Nat) : Int) % 136 = 0) = true := decide_eq_true (by omega)
   ((repeat (first | (with_reducible refine Vc.seq fun N hN => ?_) | ((with_reducible refine And.intro ?_ ?_); exact sdB) | ((first | ((with_reducible refine Vc.hold ?_); first | refine Vc.regiont T0_ok GK5_ok ?_)); (try simp only [v8Y, Nat.beq, Nat.ble, seval, -List.reduceReplicate, tabs, GK5_set, d1])) | ((with_reducible refine hN _ _ ?_); clear hN N))))
   (refine Vc.cond T0_ok (t := false) (by rfl) (fun h => Bool.noConfusion h) (fun _ => ?_))
   ((repeat (first | ((first | with_reducible refine Vc.exit ?_); dsimp only [thenK, blockK, Nat.beq]; (first | skip)))))
   (refine hN1 _ _ ?_; (try clear hN N); clear hN1 N1)
   have hP : z.set (n + k) (bits .xor .u8 (z.getD (n + k) 0) 128) = qP xs := by
    unfold qP
    rw [hn, ← hk, hz, hzl, show n + 1 + k - 1 = n + k by omega]
   have hPa := qP_all hx
   have hPs := qSt_s xs
   generalize qP xs = P at *
   have e1 : (((n + 1 + k : Nat) : Int) - 1).toNat = n + k := by omega
   clear hzs d1
   ((repeat (first | (with_reducible first | refine Vc.seq fun N hN => ?_ | refine Vc.block ?_) | (with_reducible intro _) | ((with_reducible refine And.intro ?_ ?_); exact sdB) | ((first | ((with_reducible refine Vc.hold ?_); first | refine Vc.regiont T0_ok GK5_ok ?_)); (try simp only [v8Y, Nat.beq, Nat.ble, seval, -List.reduceReplicate, tabs, GK5_set, e1, hP])) | ((with_reducible refine hN _ _ ?_); clear hN N))))
   (revert N; intro N2 hN2)
   rename_i vt vk vl
   refine Vc.loop 6 103 (fun (x : Nat × Value) => [(6, .own 5 x.2 25), (7, .int .i64 ((136 * x.1 : Nat) : Int))]) (fun x => [.ro a (.ints .u8 xs), .blk b0 26 (.words [0]), .own v (n + 1 + k) 5 1 (.ints .u8 P), .own vt 25 3 1 (.ints .i64 kTurnsI), .own vk 24 24 1 (.ints .u64 kKeys), .own x.2 25 24 1 (.ints .u64 (qSt xs x.1))]) (fun x => x.1 ≤ n / 136 + 1) (fun x => n / 136 + 1 - x.1) (0, vl) ⟨Nat.zero_le _, ?_, ?_⟩ (fun x junk1 hx2 => ?_)
   ·((try simp only [v8Y, Nat.beq, Nat.ble, seval, -List.reduceReplicate, tabs]); (repeat' with_reducible apply And.intro) <;> first | with_reducible exact True.intro | rfl | with_reducible rfl | (congr 1 <;> omega) | trivial)
   ·((try simp only [v8Y, Nat.beq, Nat.ble, seval, -List.reduceReplicate, tabs]); (repeat' with_reducible apply And.intro) <;> first | with_reducible exact True.intro | rw [qSt_0] | with_reducible rfl | (congr 1 <;> omega) | trivial)
   ·obtain ⟨kk, vs⟩ := x
    simp only at hx2 ⊢
    have hsl := qSt_len xs kk
    have hss := hPs kk
    clear hPs
    generalize hst : qSt xs kk = s at *
    (simp only [v8Y, Nat.beq, Nat.ble, seval, -List.reduceReplicate, tabs])
    by_cases hlk : kk < n / 136 + 1
    ·have d2 : decide (((136 * kk : Nat) : Int) < ((n + 1 + k : Nat) : Int)) = true := decide_eq_true (by omega)
     have hbl : ((P.drop (136 * kk)).take 136).length = 136 := by rw [List.length_take, List.length_drop]; omega
     have hgP := fun j h => dt136 P (136 * kk) j h
     generalize hblk : (P.drop (136 * kk)).take 136 = blk at *
     ((repeat (first | (with_reducible refine Vc.seq fun N hN => ?_) | ((with_reducible refine And.intro ?_ ?_); exact sdB) | ((first | ((with_reducible refine Vc.hold ?_); first | refine Vc.regiont T0_ok GK5_ok ?_)); (try simp only [v8Y, Nat.beq, Nat.ble, seval, -List.reduceReplicate, tabs, GK5_set, d2])) | ((with_reducible refine hN _ _ ?_); clear hN N))))
     (refine Vc.cond T0_ok (t := true) (by rfl) (fun _ => ?_) (fun h => Bool.noConfusion h))
     ((repeat (first | (with_reducible first | refine Vc.seq fun N hN => ?_ | refine Vc.block ?_) | ((with_reducible first | refine Vc.skip ?_ | refine Vc.exit ?_); dsimp only [thenK, blockK, Nat.beq]; (first | (refine hN _ _ ?_; clear hN N) | skip)) | ((with_reducible refine And.intro ?_ ?_); exact sdB) | ((first | ((with_reducible refine Vc.hold ?_); first | refine Vc.regiont T0_ok GK5_ok ?_)); (try simp only [v8Y, Nat.beq, Nat.ble, seval, -List.reduceReplicate, tabs, GK5_set])) | ((with_reducible refine hN _ _ ?_); clear hN N))))
     (revert N; intro N3 hN3)
     (revert N; intro N9 hN9 hN3)
     refine Vc.loop 8 103 (fun i => [(8, .int .i64 (i : Nat))]) (fun i => [.ro a (.ints .u8 xs), .blk b0 26 (.words [0]), .own v (n + 1 + k) 5 1 (.ints .u8 P), .own vt 25 3 1 (.ints .i64 kTurnsI), .own vk 24 24 1 (.ints .u64 kKeys), .own vs 25 24 1 (.ints .u64 (kAb blk s i))]) (fun i => i ≤ 17) (fun i => 17 - i) 0 ⟨Nat.zero_le _, ?_, ?_⟩ (fun i junk2 hi => ?_)
     ·((try simp only [v8Y, Nat.beq, Nat.ble, seval, -List.reduceReplicate, tabs]); (repeat' with_reducible apply And.intro) <;> first | with_reducible exact True.intro | rfl | with_reducible rfl | (congr 1 <;> omega) | trivial)
     ·((try simp only [v8Y, Nat.beq, Nat.ble, seval, -List.reduceReplicate, tabs]); (repeat' with_reducible apply And.intro) <;> first | with_reducible exact True.intro | rfl | with_reducible rfl | (congr 1 <;> omega) | trivial)
     ·have h0 := kAb_len blk s i
      have hs0 := kAb_s blk s i
      generalize hsi : kAb blk s i = s0 at *
      (simp only [v8Y, Nat.beq, Nat.ble, seval, -List.reduceReplicate, tabs])
      by_cases hli : i < 17
      ·have d3 : decide ((i : Int) < 17) = true := decide_eq_true (by omega)
       ((repeat (first | (with_reducible refine Vc.seq fun N hN => ?_) | ((with_reducible refine And.intro ?_ ?_); exact sdB) | ((first | ((with_reducible refine Vc.hold ?_); first | refine Vc.regiont T0_ok GK5_ok ?_)); (try simp only [v8Y, Nat.beq, Nat.ble, seval, -List.reduceReplicate, tabs, GK5_set, d3])) | ((with_reducible refine hN _ _ ?_); clear hN N))))
       (refine Vc.cond T0_ok (t := true) (by rfl) (fun _ => ?_) (fun h => Bool.noConfusion h))
       ((repeat (first | (with_reducible first | refine Vc.seq fun N hN => ?_ | refine Vc.block ?_) | ((with_reducible first | refine Vc.skip ?_ | refine Vc.exit ?_); dsimp only [thenK, blockK, Nat.beq]; (first | (refine hN _ _ ?_; clear hN N) | skip)) | ((with_reducible refine And.intro ?_ ?_); exact sdB) | ((first | ((with_reducible refine Vc.hold ?_); first | refine Vc.regiont T0_ok GK5_ok ?_)); (try simp only [v8Y, Nat.beq, Nat.ble, seval, -List.reduceReplicate, tabs, GK5_set])) | ((with_reducible refine hN _ _ ?_); clear hN N))))
       (revert N; intro N4 hN4)
       refine Vc.loop 9 103 (fun j => [(9, .int .i64 (j : Nat))]) (fun j => [.ro a (.ints .u8 xs), .blk b0 26 (.words [0]), .own v (n + 1 + k) 5 1 (.ints .u8 P), .own vt 25 3 1 (.ints .i64 kTurnsI), .own vk 24 24 1 (.ints .u64 kKeys), .own vs 25 24 1 (.ints .u64 (kAi blk i s0 j))]) (fun j => j ≤ 8) (fun j => 8 - j) 0 ⟨Nat.zero_le _, ?_, ?_⟩ (fun j junk3 hj => ?_)
       ·((try simp only [v8Y, Nat.beq, Nat.ble, seval, -List.reduceReplicate, tabs]); (repeat' with_reducible apply And.intro) <;> first | with_reducible exact True.intro | rfl | with_reducible rfl | (congr 1 <;> omega) | trivial)
       ·((try simp only [v8Y, Nat.beq, Nat.ble, seval, -List.reduceReplicate, tabs]); (repeat' with_reducible apply And.intro) <;> first | with_reducible exact True.intro | rfl | with_reducible rfl | (congr 1 <;> omega) | trivial)
       ·have h1 := kAi_len blk i s0 j
        have hs1 := kAi_s blk i s0 j
        generalize hsj : kAi blk i s0 j = s1 at *
        (simp only [v8Y, Nat.beq, Nat.ble, seval, -List.reduceReplicate, tabs])
        by_cases hlj : j < 8
        ·have d4 : decide ((j : Int) < 8) = true := decide_eq_true (by omega)
         have e3 : (((136 * kk : Nat) : Int) + 8 * (i : Int) + (j : Int)).toNat = 136 * kk + (8 * i + j) := by omega
         have e4 : min (8 * (j : Int)).toNat 64 = 8 * j := by omega
         have y := by_rng hPa (136 * kk + (8 * i + j))
         rw [← hgP (8 * i + j) (by omega)] at y
         have e5 := (hgP (8 * i + j) (by omega)).symm
         ((repeat (first | (with_reducible refine Vc.seq fun N hN => ?_) | ((with_reducible refine And.intro ?_ ?_); exact sdB) | ((first | ((with_reducible refine Vc.hold ?_); first | refine Vc.regiont T0_ok GK5_ok ?_)); (try simp only [v8Y, Nat.beq, Nat.ble, seval, -List.reduceReplicate, tabs, GK5_set, d4])) | ((with_reducible refine hN _ _ ?_); clear hN N))))
         (refine Vc.cond T0_ok (t := true) (by rfl) (fun _ => ?_) (fun h => Bool.noConfusion h))
         ((repeat (first | (with_reducible first | refine Vc.seq fun N hN => ?_ | refine Vc.block ?_) | ((first | with_reducible refine Vc.skip ?_); dsimp only [thenK, blockK, Nat.beq]; (first | (refine hN _ _ ?_; clear hN N))) | ((with_reducible refine And.intro ?_ ?_); exact sdB) | ((first | ((with_reducible refine Vc.hold ?_); first | refine Vc.regiont T0_ok GK5_ok ?_ | refine Vc.drawt (id := 19) T0_ok GK5_ok (by kernel_rfl) [0, 1, 2, 3, 4, 5, 6, 7, 8, 9, 10, 11, 12, 13, 14, 15, 16, 17, 18, 19] 20 [] trivial (by kernel_rfl) ?_)); (try simp only [v8Y, Nat.beq, Nat.ble, seval, -List.reduceReplicate, tabs, GK5_set, tnc, e3, e4, e5]); (try simp (disch := omega) only [v8W])) | ((with_reducible refine hN _ _ ?_); clear hN N))))
         clear e3 e4 e5 y d4
         refine ⟨j + 1, by omega, ?_, ?_, by omega⟩
         ·((try simp only [v8Y, Nat.beq, Nat.ble, seval, -List.reduceReplicate, tabs]); (repeat' with_reducible apply And.intro) <;> first | with_reducible exact True.intro | rfl | (congr 1 <;> omega))
         ·((try simp only [v8Y, Nat.beq, Nat.ble, seval, -List.reduceReplicate, tabs]); (repeat' with_reducible apply And.intro) <;> first | with_reducible exact True.intro | rw [hs1] | (congr 1 <;> omega))
        ·have d4 : decide ((j : Int) < 8) = false := decide_eq_false (by omega)
         obtain rfl : j = 8 := by omega
         ((repeat (first | (with_reducible refine Vc.seq fun N hN => ?_) | ((with_reducible refine And.intro ?_ ?_); exact sdB) | ((first | ((with_reducible refine Vc.hold ?_); first | refine Vc.regiont T0_ok GK5_ok ?_)); (try simp only [v8Y, Nat.beq, Nat.ble, seval, -List.reduceReplicate, tabs, GK5_set, d4])) | ((with_reducible refine hN _ _ ?_); clear hN N))))
         (refine Vc.cond T0_ok (t := false) (by rfl) (fun h => Bool.noConfusion h) (fun _ => ?_))
         ((repeat (first | ((first | with_reducible refine Vc.exit ?_); dsimp only [thenK, blockK, Nat.beq]; (first | skip)) | ((with_reducible refine And.intro ?_ ?_); exact sdB) | ((first | ((with_reducible refine Vc.hold ?_); first | refine Vc.regiont T0_ok GK5_ok ?_)); (try simp only [v8Y, Nat.beq, Nat.ble, seval, -List.reduceReplicate, tabs, GK5_set])))))
         (refine hN4 _ _ ?_; (try clear hN N); clear hN4 N4)
         ((repeat (first | ((first | with_reducible refine Vc.exit ?_); dsimp only [thenK, blockK, Nat.beq]; (first | skip)) | ((with_reducible refine And.intro ?_ ?_); exact sdB) | ((first | ((with_reducible refine Vc.hold ?_); first | refine Vc.regiont T0_ok GK5_ok ?_)); (try simp only [v8Y, Nat.beq, Nat.ble, seval, -List.reduceReplicate, tabs, GK5_set])))))
         refine ⟨i + 1, by omega, ?_, ?_, by omega⟩
         ·((try simp only [v8Y, Nat.beq, Nat.ble, seval, -List.reduceReplicate, tabs]); (repeat' with_reducible apply And.intro) <;> first | with_reducible exact True.intro | rfl | (congr 1 <;> omega))
         ·((try simp only [v8Y, Nat.beq, Nat.ble, seval, -List.reduceReplicate, tabs]); (repeat' with_reducible apply And.intro) <;> first | with_reducible exact True.intro | rw [hs0, hsj] | (congr 1 <;> omega))
      ·have d3 : decide ((i : Int) < 17) = false := decide_eq_false (by omega)
       obtain rfl : i = 17 := by omega
       rw [hsi] at hss
       have l25 : s0.length = 25 := by omega
       have u1 : s0.take 25 = s0 := List.take_of_length_le (by omega)
       have u2 : kTurnsI.take 25 = kTurnsI := rfl
       have u3 : kKeys.take 24 = kKeys := rfl
       ((repeat (first | (with_reducible refine Vc.seq fun N hN => ?_) | ((with_reducible refine And.intro ?_ ?_); exact sdB) | ((first | ((with_reducible refine Vc.hold ?_); first | refine Vc.regiont T0_ok GK5_ok ?_)); (try simp only [v8Y, Nat.beq, Nat.ble, seval, -List.reduceReplicate, tabs, GK5_set, d3])) | ((with_reducible refine hN _ _ ?_); clear hN N))))
       (refine Vc.cond T0_ok (t := false) (by rfl) (fun h => Bool.noConfusion h) (fun _ => ?_))
       ((repeat (first | (with_reducible first | refine Vc.seq fun N hN => ?_ | refine Vc.block ?_) | ((with_reducible first | refine Vc.skip ?_ | refine Vc.exit ?_); dsimp only [thenK, blockK, Nat.beq]; (first | (refine hN _ _ ?_; clear hN N) | skip)) | ((with_reducible refine And.intro ?_ ?_); exact sdB) | ((first | ((with_reducible refine Vc.hold ?_); first | refine Vc.regiont T0_ok GK5_ok ?_)); (try simp only [v8Y, Nat.beq, Nat.ble, seval, -List.reduceReplicate, tabs, GK5_set])) | ((with_reducible refine hN _ _ ?_); clear hN N))))
       (refine hN3 _ _ ?_; (try clear hN N); clear hN3 N3)
       ((repeat (first | (with_reducible intro _) | ((with_reducible refine And.intro ?_ ?_); (focus (first | ((repeat' with_reducible apply And.intro) <;> first | (with_reducible first | exact True.intro | assumption | rfl) | exact Nat.le_of_eq rfl | omega) | exact sd0))) | ((first | ((with_reducible refine Vc.hold ?_); first | refine Vc.regiont T0_ok GK5_ok ?_)); (try simp only [v8Y, Nat.beq, Nat.ble, seval, -List.reduceReplicate, tabs, GK5_set, List.drop_zero, u1, u2, u3])))))
       rename_i vm
       refine hN9 _ _ ?_
       clear hN9 N9
       refine Vc.nameM [.ro a (.ints .u8 xs), .blk b0 26 (.words [0]), .own v (n + 1 + k) 5 1 (.ints .u8 P), .own vt 25 3 1 (.ints .i64 kTurnsI), .own vk 24 24 1 (.ints .u64 kKeys), .own vm 25 24 1 (.ints .u64 (qMx s0 24))] (nums_sub (.cons_cons _ (.cons_cons _ (.cons_cons _ (.cons_cons _ (.cons_cons _ (.cons _ (.cons_cons _ .slnil)))))))) (by intro e he; left; simp only [List.mem_cons, List.not_mem_nil, or_false] at he ⊢; rcases he with rfl | rfl | rfl | rfl | rfl | rfl <;> simp) ?_
       refine Vc.nameS 6 (.own 5 vm 25) rfl ?_
       have e6 : ((136 * (kk + 1) : Nat) : Int) = ((136 * kk : Nat) : Int) + 136 := by omega
       (simp only [v8Y, Nat.beq, Nat.ble, seval, -List.reduceReplicate, tabs])
       ((repeat (first | (with_reducible first | refine Vc.seq fun N hN => ?_ | refine Vc.block ?_) | ((with_reducible first | refine Vc.skip ?_ | refine Vc.exit ?_); dsimp only [thenK, blockK, Nat.beq]; (first | (refine hN _ _ ?_; clear hN N) | skip)) | ((with_reducible refine And.intro ?_ ?_); exact sdB) | ((first | ((with_reducible refine Vc.hold ?_); first | refine Vc.regiont T0_ok GK5_ok ?_)); (try simp only [v8Y, Nat.beq, Nat.ble, seval, -List.reduceReplicate, tabs, GK5_set])) | ((with_reducible refine hN _ _ ?_); clear hN N))))
       refine ⟨(kk + 1, vm), by simp only; omega, ?_, ?_, by simp only; omega⟩
       ·((try simp only [v8Y, Nat.beq, Nat.ble, seval, -List.reduceReplicate, tabs]); (repeat' with_reducible apply And.intro) <;> first | with_reducible exact True.intro | rw [e6] | (congr 1 <;> omega))
       ·((try simp only [v8Y, Nat.beq, Nat.ble, seval, -List.reduceReplicate, tabs]); (repeat' with_reducible apply And.intro) <;> first | with_reducible exact True.intro | rw [hss] | (congr 1 <;> omega))
    ·have hkk : kk = n / 136 + 1 := by omega
     have d2 : decide (((136 * kk : Nat) : Int) < ((n + 1 + k : Nat) : Int)) = false := decide_eq_false (by omega)
     ((repeat (first | (with_reducible refine Vc.seq fun N hN => ?_) | ((with_reducible refine And.intro ?_ ?_); exact sdB) | ((first | ((with_reducible refine Vc.hold ?_); first | refine Vc.regiont T0_ok GK5_ok ?_)); (try simp only [v8Y, Nat.beq, Nat.ble, seval, -List.reduceReplicate, tabs, GK5_set, d2])) | ((with_reducible refine hN _ _ ?_); clear hN N))))
     (refine Vc.cond T0_ok (t := false) (by rfl) (fun h => Bool.noConfusion h) (fun _ => ?_))
     ((repeat (first | (with_reducible first | refine Vc.seq fun N hN => ?_ | refine Vc.block ?_) | ((with_reducible first | refine Vc.skip ?_ | refine Vc.exit ?_); dsimp only [thenK, blockK, Nat.beq]; (first | (refine hN _ _ ?_; clear hN N) | skip)) | ((with_reducible refine And.intro ?_ ?_); exact sdB) | ((first | ((with_reducible refine Vc.hold ?_); first | refine Vc.regiont T0_ok GK5_ok ?_)); (try simp only [v8Y, Nat.beq, Nat.ble, seval, -List.reduceReplicate, tabs, GK5_set])) | ((with_reducible refine hN _ _ ?_); clear hN N))))
     (refine hN2 _ _ ?_; (try clear hN N); clear hN2 N2)
     ((repeat (first | (with_reducible first | refine Vc.seq fun N hN => ?_ | refine Vc.block ?_) | ((with_reducible first | refine Vc.skip ?_ | refine Vc.exit ?_); dsimp only [thenK, blockK, Nat.beq]; (first | (refine hN _ _ ?_; clear hN N) | skip)) | ((with_reducible refine And.intro ?_ ?_); exact sdB) | ((first | ((with_reducible refine Vc.hold ?_); first | refine Vc.regiont T0_ok GK5_ok ?_)); (try simp only [v8Y, Nat.beq, Nat.ble, seval, -List.reduceReplicate, tabs, GK5_set])) | ((with_reducible refine hN _ _ ?_); clear hN N))))
     (revert N; intro N5 hN5)
     have hsum : qSum xs = readN (qHs s 4) := by unfold qSum; rw [hn, ← hkk, hst]
     clear hss hst
     refine Vc.nilown 10 5 1 .u8 rfl ?_
     (simp only [v8Y, Nat.beq, Nat.ble, seval, -List.reduceReplicate, tabs])
     refine Vc.loop 10 103 (fun (x : Nat × Value) => [(10, .own 6 x.2 (8 * x.1)), (11, .int .i64 (x.1 : Nat))]) (fun x => [.ro a (.ints .u8 xs), .blk b0 26 (.words [0]), .own v (n + 1 + k) 5 1 (.ints .u8 P), .own vt 25 3 1 (.ints .i64 kTurnsI), .own vk 24 24 1 (.ints .u64 kKeys), .own vs 25 24 1 (.ints .u64 s), .own x.2 (8 * x.1) 5 1 (.ints .u8 (qHs s x.1))]) (fun x => x.1 ≤ 4) (fun x => 4 - x.1) (0, .slice none 0 0) ⟨Nat.zero_le _, ?_, ?_⟩ (fun x junk2 hx3 => ?_)
     ·((try simp only [v8Y, Nat.beq, Nat.ble, seval, -List.reduceReplicate, tabs]); (repeat' with_reducible apply And.intro) <;> first | with_reducible exact True.intro | rfl | with_reducible rfl | (congr 1 <;> omega) | trivial)
     ·((try simp only [v8Y, Nat.beq, Nat.ble, seval, -List.reduceReplicate, tabs]); (repeat' with_reducible apply And.intro) <;> first | with_reducible exact True.intro | rfl | with_reducible rfl | (congr 1 <;> omega) | trivial)
     ·obtain ⟨i, vo⟩ := x
      simp only at hx3 ⊢
      have h0 := qHs_len s i
      have ha0 := qHs_all s i
      have hs0 := qHs_s s i
      generalize hqi : qHs s i = o at *
      (simp only [v8Y, Nat.beq, Nat.ble, seval, -List.reduceReplicate, tabs])
      by_cases hli : i < 4
      ·have d3 : decide ((i : Int) < 4) = true := decide_eq_true (by omega)
       ((repeat (first | (with_reducible refine Vc.seq fun N hN => ?_) | ((with_reducible refine And.intro ?_ ?_); exact sdB) | ((first | ((with_reducible refine Vc.hold ?_); first | refine Vc.regiont T0_ok GK5_ok ?_)); (try simp only [v8Y, Nat.beq, Nat.ble, seval, -List.reduceReplicate, tabs, GK5_set, d3])) | ((with_reducible refine hN _ _ ?_); clear hN N))))
       (refine Vc.cond T0_ok (t := true) (by rfl) (fun _ => ?_) (fun h => Bool.noConfusion h))
       ((repeat (first | (with_reducible first | refine Vc.seq fun N hN => ?_ | refine Vc.block ?_) | ((with_reducible first | refine Vc.skip ?_ | refine Vc.exit ?_); dsimp only [thenK, blockK, Nat.beq]; (first | (refine hN _ _ ?_; clear hN N) | skip)) | ((with_reducible refine And.intro ?_ ?_); exact sdB) | ((first | ((with_reducible refine Vc.hold ?_); first | refine Vc.regiont T0_ok GK5_ok ?_)); (try simp only [v8Y, Nat.beq, Nat.ble, seval, -List.reduceReplicate, tabs, GK5_set])) | ((with_reducible refine hN _ _ ?_); clear hN N))))
       (revert N; intro N6 hN6)
       refine Vc.loop 10 103 (fun (x : Nat × Value) => [(10, .own 6 x.2 (8 * i + x.1)), (11, .int .i64 (i : Nat)), (12, .int .i64 (x.1 : Nat))]) (fun x => [.ro a (.ints .u8 xs), .blk b0 26 (.words [0]), .own v (n + 1 + k) 5 1 (.ints .u8 P), .own vt 25 3 1 (.ints .i64 kTurnsI), .own vk 24 24 1 (.ints .u64 kKeys), .own vs 25 24 1 (.ints .u64 s), .own x.2 (8 * i + x.1) 5 1 (.ints .u8 (qHr s o i x.1))]) (fun x => x.1 ≤ 8) (fun x => 8 - x.1) (0, vo) ⟨Nat.zero_le _, ?_, ?_⟩ (fun x junk3 hx4 => ?_)
       ·((try simp only [v8Y, Nat.beq, Nat.ble, seval, -List.reduceReplicate, tabs]); (repeat' with_reducible apply And.intro) <;> first | with_reducible exact True.intro | rfl | with_reducible rfl | (congr 1 <;> omega) | trivial)
       ·((try simp only [v8Y, Nat.beq, Nat.ble, seval, -List.reduceReplicate, tabs]); (repeat' with_reducible apply And.intro) <;> first | with_reducible exact True.intro | (rw [qHr_0]; rfl) | with_reducible rfl | (congr 1 <;> omega) | trivial)
       ·obtain ⟨j, vj⟩ := x
        simp only at hx4 ⊢
        have h1 := qHr_len s o i j
        have hs1 := qHr_s s o i j
        generalize hqj : qHr s o i j = o1 at *
        (simp only [v8Y, Nat.beq, Nat.ble, seval, -List.reduceReplicate, tabs])
        by_cases hlj : j < 8
        ·have d4 : decide ((j : Int) < 8) = true := decide_eq_true (by omega)
         have e4 : min (8 * (j : Int)).toNat 64 = 8 * j := by omega
         have e5 : 8 * i + (j + 1) = 8 * i + j + 1 := by omega
         ((repeat (first | (with_reducible refine Vc.seq fun N hN => ?_) | ((with_reducible refine And.intro ?_ ?_); exact sdB) | ((first | ((with_reducible refine Vc.hold ?_); first | refine Vc.regiont T0_ok GK5_ok ?_)); (try simp only [v8Y, Nat.beq, Nat.ble, seval, -List.reduceReplicate, tabs, GK5_set, d4])) | ((with_reducible refine hN _ _ ?_); clear hN N))))
         (refine Vc.cond T0_ok (t := true) (by rfl) (fun _ => ?_) (fun h => Bool.noConfusion h))
         ((repeat (first | (with_reducible first | refine Vc.seq fun N hN => ?_ | refine Vc.block ?_) | ((first | with_reducible refine Vc.skip ?_); dsimp only [thenK, blockK, Nat.beq]; (first | (refine hN _ _ ?_; clear hN N))) | (with_reducible intro _) | ((with_reducible refine And.intro ?_ ?_); exact sX19) | ((first | ((with_reducible refine Vc.hold ?_); first | refine Vc.regiont T0_ok GK5_ok ?_)); (try simp only [v8Y, Nat.beq, Nat.ble, seval, -List.reduceReplicate, tabs, GK5_set, tnc, e4, List.drop_zero, List.take_succ_cons, List.take_zero]); (try simp (disch := omega) only [v8W])) | ((with_reducible refine hN _ _ ?_); clear hN N))))
         rename_i bq vq
         clear e4 d4
         refine ⟨(j + 1, vq), by simp only; omega, ?_, ?_, by simp only; omega⟩
         ·((try simp only [v8Y, Nat.beq, Nat.ble, seval, -List.reduceReplicate, tabs]); (repeat' with_reducible apply And.intro) <;> first | with_reducible exact True.intro | rw [e5] | (congr 1 <;> omega))
         ·((try simp only [v8Y, Nat.beq, Nat.ble, seval, -List.reduceReplicate, tabs]); (repeat' with_reducible apply And.intro) <;> first | with_reducible exact True.intro | rw [hs1, e5] | (congr 1 <;> omega))
        ·have d4 : decide ((j : Int) < 8) = false := decide_eq_false (by omega)
         obtain rfl : j = 8 := by omega
         have e5 : 8 * (i + 1) = 8 * i + 8 := by omega
         rw [hqj] at hs0
         ((repeat (first | (with_reducible refine Vc.seq fun N hN => ?_) | ((with_reducible refine And.intro ?_ ?_); exact sdB) | ((first | ((with_reducible refine Vc.hold ?_); first | refine Vc.regiont T0_ok GK5_ok ?_)); (try simp only [v8Y, Nat.beq, Nat.ble, seval, -List.reduceReplicate, tabs, GK5_set, d4])) | ((with_reducible refine hN _ _ ?_); clear hN N))))
         (refine Vc.cond T0_ok (t := false) (by rfl) (fun h => Bool.noConfusion h) (fun _ => ?_))
         ((repeat (first | ((first | with_reducible refine Vc.exit ?_); dsimp only [thenK, blockK, Nat.beq]; (first | skip)) | ((with_reducible refine And.intro ?_ ?_); exact sdB) | ((first | ((with_reducible refine Vc.hold ?_); first | refine Vc.regiont T0_ok GK5_ok ?_)); (try simp only [v8Y, Nat.beq, Nat.ble, seval, -List.reduceReplicate, tabs, GK5_set])))))
         (refine hN6 _ _ ?_; (try clear hN N); clear hN6 N6)
         ((repeat (first | ((first | with_reducible refine Vc.exit ?_); dsimp only [thenK, blockK, Nat.beq]; (first | skip)) | ((with_reducible refine And.intro ?_ ?_); exact sdB) | ((first | ((with_reducible refine Vc.hold ?_); first | refine Vc.regiont T0_ok GK5_ok ?_)); (try simp only [v8Y, Nat.beq, Nat.ble, seval, -List.reduceReplicate, tabs, GK5_set])))))
         refine ⟨(i + 1, vj), by simp only; omega, ?_, ?_, by simp only; omega⟩
         ·((try simp only [v8Y, Nat.beq, Nat.ble, seval, -List.reduceReplicate, tabs]); (repeat' with_reducible apply And.intro) <;> first | with_reducible exact True.intro | rw [e5] | (congr 1 <;> omega))
         ·((try simp only [v8Y, Nat.beq, Nat.ble, seval, -List.reduceReplicate, tabs]); (repeat' with_reducible apply And.intro) <;> first | with_reducible exact True.intro | rw [hs0, e5] | (congr 1 <;> omega))
      ·have d3 : decide ((i : Int) < 4) = false := decide_eq_false (by omega)
       obtain rfl : i = 4 := by omega
       rw [hqi] at hsum
       have u1 : o.take 32 = o := List.take_of_length_le (by omega)
       ((repeat (first | (with_reducible refine Vc.seq fun N hN => ?_) | ((with_reducible refine And.intro ?_ ?_); exact sdB) | ((first | ((with_reducible refine Vc.hold ?_); first | refine Vc.regiont T0_ok GK5_ok ?_)); (try simp only [v8Y, Nat.beq, Nat.ble, seval, -List.reduceReplicate, tabs, GK5_set, d3])) | ((with_reducible refine hN _ _ ?_); clear hN N))))
       (refine Vc.cond T0_ok (t := false) (by rfl) (fun h => Bool.noConfusion h) (fun _ => ?_))
       ((repeat (first | (with_reducible first | refine Vc.seq fun N hN => ?_ | refine Vc.block ?_) | ((with_reducible first | refine Vc.skip ?_ | refine Vc.exit ?_); dsimp only [thenK, blockK, Nat.beq]; (first | (refine hN _ _ ?_; clear hN N) | skip)) | ((with_reducible refine And.intro ?_ ?_); exact sdB) | ((first | ((with_reducible refine Vc.hold ?_); first | refine Vc.regiont T0_ok GK5_ok ?_)); (try simp only [v8Y, Nat.beq, Nat.ble, seval, -List.reduceReplicate, tabs, GK5_set])) | ((with_reducible refine hN _ _ ?_); clear hN N))))
       (refine hN5 _ _ ?_; (try clear hN N); clear hN5 N5)
       ((repeat (first | (with_reducible refine Vc.seq fun N hN => ?_) | ((with_reducible refine And.intro ?_ ?_); exact sdB) | ((first | ((with_reducible refine Vc.fin ?_); dsimp only [thenK, blockK, retK, resS, resOne, resAll]) | ((with_reducible refine Vc.hold ?_); first | refine Vc.regiont T0_ok GK5_ok ?_)); (try simp only [v8Y, Nat.beq, Nat.ble, seval, -List.reduceReplicate, tabs, GK5_set, List.drop_zero, u1])) | ((with_reducible refine hN _ _ ?_); clear hN N))); (try ((with_reducible refine Fin.of ?_); (try with_reducible exact True.intro))))
       exact ⟨⟨⟨trivial, trivial⟩, trivial, trivial⟩, by rw [hsum]⟩
end Go.Proofs.YthdpgfdfgidokaaDoor
