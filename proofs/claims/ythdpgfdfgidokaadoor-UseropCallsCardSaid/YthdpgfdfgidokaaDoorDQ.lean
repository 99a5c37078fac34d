/-
 The document's answer for layer 5 (package quaestorref05: Encode), walked. No condition.
-/
import Derived.Test.YthdpgfdfgidokaaDoorO2
import Derived.Test.YthdpgfdfgidokaaDoorKB
import Derived.Test.YthdpgfdfgidokaaDoorOE
import Derived.Test.YthdpgfdfgidokaaDoorKC
import Derived.Test.YthdpgfdfgidokaaDoorFO
import Derived.Test.YthdpgfdfgidokaaDoorRE
import Derived.Test.YthdpgfdfgidokaaDoorD2
import Derived.Test.YthdpgfdfgidokaaDoorR9
set_option maxRecDepth 10000
set_option maxHeartbeats 4000000
set_option linter.defProp false
set_option linter.unusedVariables false
set_option linter.unusedSimpArgs false
namespace Go.Proofs.YthdpgfdfgidokaaDoor
open Go.RowKit
def g_qSum (args : List SV) (m : List Blk) : CR :=
 match args with
 | [x] => match srcC x m with
  | some (q, k, .ints .u8 xs) => .pure (q ∧ k ≤ 1000000 ∧ allB xs) (.word (kSum xs))
  | _ => .none
 | _ => .none
theorem g_qSum_ok (w0 : World) (B : List Nat) (args : List SV) (m : List Blk) : CROk Tryd.prog w0 B 69 args m (g_qSum args m) := by
 unfold g_qSum
 split
 ·rename_i x
  split
  ·rename_i q k xs hs
   intro ⟨hq, hk, hx⟩ w hm
   obtain ⟨l1, a, cp, e1, b1, m1, d1⟩ := src_ro hs hq hm
   have hl : xs.length = k := by simpa [cc, conEs] using l1
   have e : cvs [x] = cvs [.sl 0 a 0 0 1 k cp] := by simp only [cvs]; rw [e1]; rfl
   rw [e, ← qSum_eq]
   exact calls_pure Tryd.func69 rfl rfl (qsum_vc xs a k cp hl b1 hk hx d1 w m1)
  ·exact trivial
 ·exact trivial
def RpF (x : Nat × List (List SV)) : SV := .gh (some ⟨x.1, 0, none⟩) 9 9 (.rows 6 x.2)
def RpQ (x : OpD) (y : Nat × List (List SV)) (h : List (Nat × Obj)) : Prop := PsL (Hl h) (some ⟨y.1, 0, none⟩) 9 9 y.2 (pkP x)
noncomputable def g_rpack (args : List SV) (m : List Blk) : CR :=
 match args with
 | [.agg l] => .grw (∃ x, OpR (HM m) l x ∧ OpS 10000 x) ((Nat × List (List SV)) × List (Nat × Obj)) (fun a => RpQ (opOf l) a.1 a.2) (fun a => .gh (some ⟨a.1.1, 0, none⟩) 9 9 (.rows 6 a.1.2)) (fun a => .heap a.2)
 | _ => .none
theorem g_rpack_ok (w0 : World) (B : List Nat) (args : List SV) (m : List Blk) : CROk Tryd.prog w0 B 25 args m (g_rpack args m) := by
 unfold g_rpack
 split
 ·rename_i l
  intro ⟨x, hO, hS⟩ w hm
  rw [opOf_eq hO]
  refine calls_new (F := RpF) (Q := RpQ x) Tryd.func25 rfl rfl hm ((rpack_vc l x w (hO.mono fun b o h => hm.hm h) hS).mono fun e w' ⟨u, he, v', m', hu, hm', hp⟩ => ⟨u, he, v', m', hu, hm', fun w2 hm2 => ?_⟩)
  obtain ⟨k, b, rs, q, hv, hb, hk, hq⟩ := hp
  obtain ⟨rs', h1, h2⟩ := prts_new hb hk hq hm2
  exact ⟨(b, rs'), by rw [hv]; simp [RpF, cv, addr_add], h2⟩
 ·exact trivial
end Go.Proofs.YthdpgfdfgidokaaDoor
namespace Go.Proofs.YthdpgfdfgidokaaDoor
open Go.RowKit
noncomputable def GDR : Ctr := fun f args m => match f with
 | 43 => g_rFrom args m
 | 81 => g_rBytes args m
 | _ => .none
theorem GDR_ok : GOk Tryd.prog GDR := by
 intro w0 B f args m; unfold GDR; split
 ·exact g_rFrom_ok _ _ _ _
 ·exact g_rBytes_ok _ _ _ _
 ·exact trivial
theorem GDR_rFrom : GDR 43 = g_rFrom := by funext args m; rfl
theorem GDR_rBytes : GDR 81 = g_rBytes := by funext args m; rfl
def GDR_set := And.intro (And.intro (@GDR_rFrom) (@g_rFrom.eq_def)) (And.intro (@GDR_rBytes) (@g_rBytes.eq_def))

set_option maxRecDepth 20000 in
theorem renc_vc (a : Option Addr) (n c : Nat) (rs : List (List SV)) (l : List Prt) (hl : l.length = n) (hc : n ≤ c) (ha : adr a n c) (hz : psz l ≤ 100000) (w : World) (hL : LiesH (H0 w) a (cc (.rows 6 rs))) (hR : PsR (H0 w) rs l) :
  Calls Tryd.prog 78 (cvs [.gh a n c (.rows 6 rs)]).toArray w (fun en w' => ∃ u, en = .returned u ∧ ∃ v' m', u = cv v' ∧ MemOk w [] m' w' ∧ ∃ k s, v' = .own k s (abEnc l).length ∧ bget m' k = .own s (abEnc l).length 5 1 (.ints .u8 (abEnc l))) := by
 obtain ⟨r1, r2, r3⟩ := hR
 have hLx : ∀ m, allOld w ∈ m → LiesH (HM m) a (cc (.rows 6 rs)) := fun m hin => hL.mono fun b o h => ⟨_, hin, h⟩
 have hnl := psz_len l
 refine Vc.calls T0_ok Tryd.func78 rfl rfl (args := [.gh a n c (.rows 6 rs)]) (k := 66) rfl (old_start w) ?_; change Vc _ _ (c8 (.gh a n c (.rows 6 rs)) .undef .undef .undef .undef .undef .undef .undef (c8 .undef .undef .undef .undef .undef .undef .undef .undef (c8 .undef .undef .undef .undef .undef .undef .undef .undef (c8 .undef .undef .undef .undef .undef .undef .undef .undef (c8 .undef .undef .undef .undef .undef .undef .undef .undef (c8 .undef .undef .undef .undef .undef .undef .undef .undef (c8 .undef .undef .undef .undef .undef .undef .undef .undef (c8 .undef .undef .undef .undef .undef .undef .undef .undef ([.undef, .undef, .undef]))))))))) _ _
 ((repeat (first | (with_reducible first | refine Vc.seq fun N hN => ?_ | refine Vc.block ?_) | ((with_reducible refine And.intro ?_ ?_); exact sdB) | ((first | ((with_reducible refine Vc.hold ?_); first | refine Vc.regiont T0_ok GDR_ok ?_)); (try simp only [v8Y, Nat.beq, Nat.ble, seval, -List.reduceReplicate, tabs, GDR_set])) | ((with_reducible refine hN _ _ ?_); clear hN N))))
 (revert N; intro N1 hN1)
 refine Vc.nilown 3 5 1 .u8 rfl ?_
 refine Vc.nilown 4 5 1 .u8 rfl ?_
 (simp only [v8Y, Nat.beq, Nat.ble, seval, -List.reduceReplicate, tabs])
 refine Vc.loop 3 67 (fun (x : (Nat × List Int × List Int) × Value × Value) => [(3, .own 1 x.2.1 (32 * x.1.1)), (4, .own 2 x.2.2 x.1.2.2.length), (5, .int .i64 (x.1.1 : Nat))]) (fun x => [allOld w, .own x.2.1 (32 * x.1.1) 5 1 (.ints .u8 x.1.2.1), .own x.2.2 x.1.2.2.length 5 1 (.ints .u8 x.1.2.2)]) (fun x => x.1.1 ≤ n ∧ (x.1.2.1, x.1.2.2) = encS n (l.take x.1.1)) (fun x => n - x.1.1) ((0, [], []), .slice none 0 0, .slice none 0 0) ⟨⟨Nat.zero_le _, rfl⟩, ?_, ?_⟩ (fun x junk hx2 => ?_)
 ·((try simp only [v8Y, Nat.beq, Nat.ble, seval, -List.reduceReplicate, tabs]); (repeat' with_reducible apply And.intro) <;> first | with_reducible exact True.intro | rfl | with_reducible rfl | (congr 1 <;> omega) | trivial)
 ·((try simp only [v8Y, Nat.beq, Nat.ble, seval, -List.reduceReplicate, tabs]); (repeat' with_reducible apply And.intro) <;> first | with_reducible exact True.intro | rfl | with_reducible rfl | (congr 1 <;> omega) | trivial)
 ·obtain ⟨⟨k, hs, ts⟩, v3, v4⟩ := x
  simp only at hx2 ⊢
  obtain ⟨hk1, hst⟩ := hx2
  obtain ⟨q1, q2, q3⟩ := encS_len n (l.take k)
  rw [← hst] at q1 q2 q3
  simp only [List.length_take] at q1 q2 q3
  have hpz := psz_take l k
  (simp only [v8Y, Nat.beq, Nat.ble, seval, -List.reduceReplicate, tabs])
  by_cases hc1 : k < n
  ·have d1 : decide ((k : Int) < (n : Int)) = true := decide_eq_true (by omega)
   have e1 := List.getElem?_eq_getElem (show k < rs.length by omega)
   have e2 := List.getElem?_eq_getElem (show k < l.length by omega)
   have hp := r3 k _ _ e1 e2
   have hgd := getD_of e1
   have hnx := encS_s (N := n) e2
   have hpg := psz_get e2
   rw [← hst] at hnx
   generalize rs[k] = r at *
   generalize l[k] = p at *
   obtain ⟨x0, x1, x2, x3, pa, pn, pc, rfl, g1, g2, g3, g4, g5, g6, g7, g8⟩ := hp
   obtain ⟨pd, pw, ps⟩ := p
   simp only at g2 g3 g6 g7 hgd hnx hpg
   have hLp : ∀ m, allOld w ∈ m → LiesH (HM m) pa (cc (.ints .u8 ps)) := fun m hin => g6.mono (H0.hm hin)
   have tk : ((k : Nat) : Int).toNat = k := by omega
   have u4 : (bytI pw 32).take 32 = bytI pw 32 := List.take_of_length_le (by rw [bytI_len]; exact Nat.le_refl _)
   cases pd with
   | false =>
    ((repeat (first | (with_reducible refine Vc.seq fun N hN => ?_) | ((with_reducible refine And.intro ?_ ?_); exact sdB) | ((first | ((with_reducible refine Vc.hold ?_); first | refine Vc.regiont T0_ok GDR_ok ?_)); (try simp only [v8Y, Nat.beq, Nat.ble, seval, -List.reduceReplicate, tabs, GDR_set, d1])) | ((with_reducible refine hN _ _ ?_); clear hN N))))
    (refine Vc.cond T0_ok (t := true) (by rfl) (fun _ => ?_) (fun h => Bool.noConfusion h))
    ((repeat (first | (with_reducible first | refine Vc.seq fun N hN => ?_ | refine Vc.block ?_) | ((first | with_reducible refine Vc.skip ?_); dsimp only [thenK, blockK, Nat.beq]; (first | (refine hN _ _ ?_; clear hN N))) | ((with_reducible refine And.intro ?_ ?_); exact sX7) | ((first | ((with_reducible refine Vc.hold ?_); first | refine Vc.regiont T0_ok GDR_ok ?_)); (try simp only [v8Y, Nat.beq, Nat.ble, seval, -List.reduceReplicate, tabs, GDR_set, tk, hgd])) | ((with_reducible refine hN _ _ ?_); clear hN N))))
    (refine Vc.cond T0_ok (t := true) (by rfl) (fun _ => ?_) (fun h => Bool.noConfusion h))
    ((repeat (first | (with_reducible refine Vc.seq fun N hN => ?_) | ((first | with_reducible refine Vc.exit ?_); dsimp only [thenK, blockK, Nat.beq]; (first | skip)) | (with_reducible intro _) | ((with_reducible refine And.intro ?_ ?_); exact sX7) | ((first | ((with_reducible refine Vc.hold ?_); first | refine Vc.regiont T0_ok GDR_ok ?_)); (try simp only [v8Y, Nat.beq, Nat.ble, seval, -List.reduceReplicate, tabs, GDR_set, tk, hgd, g2, u4, bytI_len, List.drop_zero])) | ((with_reducible refine hN _ _ ?_); clear hN N))))
    rename_i _ v3'
    clear hN N
    refine hN _ _ ?_
    clear hN N
    ((repeat (first | ((with_reducible refine And.intro ?_ ?_); exact sdB) | ((first | ((with_reducible refine Vc.hold ?_); first | refine Vc.regiont T0_ok GDR_ok ?_)); (try simp only [v8Y, Nat.beq, Nat.ble, seval, -List.reduceReplicate, tabs, GDR_set, ])))))
    refine ⟨((k + 1, hs ++ bytI pw 32, ts), v3', v4), ⟨by simp only; omega, by rw [hnx]; rfl⟩, ?_, ?_, by simp only; omega⟩
    ·((try simp only [v8Y, Nat.beq, Nat.ble, seval, -List.reduceReplicate, tabs]); (repeat' with_reducible apply And.intro) <;> first | with_reducible exact True.intro | rfl | (congr 1 <;> omega))
    ·((try simp only [v8Y, Nat.beq, Nat.ble, seval, -List.reduceReplicate, tabs]); (repeat' with_reducible apply And.intro) <;> first | with_reducible exact True.intro | rfl | (congr 1 <;> omega))
   | true =>
    ((repeat (first | (with_reducible refine Vc.seq fun N hN => ?_) | ((with_reducible refine And.intro ?_ ?_); exact sdB) | ((first | ((with_reducible refine Vc.hold ?_); first | refine Vc.regiont T0_ok GDR_ok ?_)); (try simp only [v8Y, Nat.beq, Nat.ble, seval, -List.reduceReplicate, tabs, GDR_set, d1])) | ((with_reducible refine hN _ _ ?_); clear hN N))))
    (refine Vc.cond T0_ok (t := true) (by rfl) (fun _ => ?_) (fun h => Bool.noConfusion h))
    ((repeat (first | (with_reducible first | refine Vc.seq fun N hN => ?_ | refine Vc.block ?_) | ((first | with_reducible refine Vc.skip ?_); dsimp only [thenK, blockK, Nat.beq]; (first | (refine hN _ _ ?_; clear hN N))) | ((with_reducible refine And.intro ?_ ?_); exact sX7) | ((first | ((with_reducible refine Vc.hold ?_); first | refine Vc.regiont T0_ok GDR_ok ?_)); (try simp only [v8Y, Nat.beq, Nat.ble, seval, -List.reduceReplicate, tabs, GDR_set, tk, hgd])) | ((with_reducible refine hN _ _ ?_); clear hN N))))
    (refine Vc.cond T0_ok (t := false) (by rfl) (fun h => Bool.noConfusion h) (fun _ => ?_))
    have e9 := w64c (x := 32 * (n : Int) + ((ts.length : Nat) : Int)) (by omega)
    have e8 := w64c (x := (pn : Int)) (by omega)
    have n1 : (32 * (n : Int) + ((ts.length : Nat) : Int)).toNat = 32 * n + ts.length := by omega
    have n2 : (pn : Int).toNat = pn := by omega
    have u5 : (bytI (32 * n + ts.length) 32).take 32 = bytI (32 * n + ts.length) 32 := List.take_of_length_le (by rw [bytI_len]; exact Nat.le_refl _)
    have u6 : (bytI pn 32).take 32 = bytI pn 32 := List.take_of_length_le (by rw [bytI_len]; exact Nat.le_refl _)
    have up : ps.take pn = ps := List.take_of_length_le (by omega)
    ((repeat (first | (with_reducible first | refine Vc.seq fun N hN => ?_ | refine Vc.block ?_) | ((first | with_reducible refine Vc.skip ?_); dsimp only [thenK, blockK, Nat.beq]; (first | (refine hN _ _ ?_; clear hN N))) | (with_reducible intro _) | ((with_reducible refine And.intro ?_ ?_); exact sX7) | ((first | ((with_reducible refine Vc.hold ?_); first | refine Vc.regiont T0_ok GDR_ok ?_)); (try simp only [v8Y, Nat.beq, Nat.ble, seval, -List.reduceReplicate, tabs, GDR_set, tk, hgd, e9, e8, n1, n2, u5, u6, up, bytI_len, List.drop_zero])) | ((with_reducible refine hN _ _ ?_); clear hN N))))
    rename_i _ v3' _ _ v4'
    generalize hb : ts ++ bytI pn 32 ++ ps = zs at *
    have hzl : zs.length = ts.length + 32 + pn := by rw [← hb, List.length_append, List.length_append, bytI_len, g3]
    have hpN := padN_le pn
    have hal : abTail ps = bytI pn 32 ++ ps ++ List.replicate (padN pn) 0 := by unfold abTail; rw [g3]
    have hta : ts ++ abTail ps = zs ++ List.replicate (padN pn) 0 := by rw [hal, ← hb]; simp only [List.append_assoc]
    (revert N; intro N2 hN2)
    refine Vc.loop 4 67 (fun (x : Nat × Value) => [(4, .own 2 x.2 (ts.length + 32 + pn + x.1)), (5, .int .i64 (k : Nat))]) (fun x => [allOld w, .own v3' (32 * k + 32) 5 1 (.ints .u8 (hs ++ bytI (32 * n + ts.length) 32)), .own x.2 (ts.length + 32 + pn + x.1) 5 1 (.ints .u8 (zs ++ List.replicate x.1 0))]) (fun x => x.1 ≤ padN pn) (fun x => padN pn - x.1) (0, v4') ⟨Nat.zero_le _, ?_, ?_⟩ (fun x junk2 hx3 => ?_)
    ·((try simp only [v8Y, Nat.beq, Nat.ble, seval, -List.reduceReplicate, tabs]); (repeat' with_reducible apply And.intro) <;> first | with_reducible exact True.intro | rfl | with_reducible rfl | (congr 1 <;> omega) | trivial)
    ·((try simp only [v8Y, Nat.beq, Nat.ble, seval, -List.reduceReplicate, tabs]); (repeat' with_reducible apply And.intro) <;> first | with_reducible exact True.intro | (simp only [List.replicate_zero, List.append_nil, Nat.add_zero]) | with_reducible rfl | (congr 1 <;> omega) | trivial)
    ·obtain ⟨j, v⟩ := x
     simp only at hx3 ⊢
     have hlk : (zs ++ List.replicate j (0 : Int)).length = ts.length + 32 + pn + j := by rw [List.length_append, List.length_replicate, hzl]
     (simp only [v8Y, Nat.beq, Nat.ble, seval, -List.reduceReplicate, tabs])
     by_cases hc2 : j < padN pn
     ·have d2 : decide (((ts.length + 32 + pn + j : Nat) : Int) % 32 = 0) = false := decide_eq_false (by unfold padN at hc2; omega)
      have hr : zs ++ List.replicate (j + 1) (0 : Int) = zs ++ List.replicate j 0 ++ [0] := by rw [List.append_assoc, List.replicate_succ']
      ((repeat (first | (with_reducible refine Vc.seq fun N hN => ?_) | ((with_reducible refine And.intro ?_ ?_); exact sdB) | ((first | ((with_reducible refine Vc.hold ?_); first | refine Vc.regiont T0_ok GDR_ok ?_)); (try simp only [v8Y, Nat.beq, Nat.ble, seval, -List.reduceReplicate, tabs, GDR_set, d2])) | ((with_reducible refine hN _ _ ?_); clear hN N))))
      (refine Vc.cond T0_ok (t := true) (by rfl) (fun _ => ?_) (fun h => Bool.noConfusion h))
      ((repeat (first | (with_reducible refine Vc.block ?_) | ((first | with_reducible refine Vc.skip ?_); dsimp only [thenK, blockK, Nat.beq]; (first | (refine hN _ _ ?_; clear hN N))) | (with_reducible intro _) | ((with_reducible refine And.intro ?_ ?_); (focus (first | ((repeat' with_reducible apply And.intro) <;> first | exact sideQ | (simp only [List.length_append, bytI_len]; omega)) | exact sd0))) | ((first | ((with_reducible refine Vc.hold ?_); first | refine Vc.regiont T0_ok GDR_ok ?_)); (try simp only [v8Y, Nat.beq, Nat.ble, seval, -List.reduceReplicate, tabs, GDR_set, List.take_succ_cons, List.take_zero, List.drop_zero])))))
      rename_i _ v5
      refine ⟨(j + 1, v5), by simp only; omega, ?_, ?_, by simp only; omega⟩
      ·((try simp only [v8Y, Nat.beq, Nat.ble, seval, -List.reduceReplicate, tabs]); (repeat' with_reducible apply And.intro) <;> first | with_reducible exact True.intro | rfl | (congr 1 <;> omega))
      ·((try simp only [v8Y, Nat.beq, Nat.ble, seval, -List.reduceReplicate, tabs]); (repeat' with_reducible apply And.intro) <;> first | with_reducible exact True.intro | (rw [hr]; rfl) | (congr 1 <;> omega))
     ·have d2 : decide (((ts.length + 32 + pn + j : Nat) : Int) % 32 = 0) = true := decide_eq_true (by unfold padN at hc2 hx3; omega)
      have hj : j = padN pn := by omega
      subst hj
      ((repeat (first | (with_reducible refine Vc.seq fun N hN => ?_) | ((with_reducible refine And.intro ?_ ?_); exact sdB) | ((first | ((with_reducible refine Vc.hold ?_); first | refine Vc.regiont T0_ok GDR_ok ?_)); (try simp only [v8Y, Nat.beq, Nat.ble, seval, -List.reduceReplicate, tabs, GDR_set, d2])) | ((with_reducible refine hN _ _ ?_); clear hN N))))
      (refine Vc.cond T0_ok (t := false) (by rfl) (fun h => Bool.noConfusion h) (fun _ => ?_))
      ((repeat (first | ((first | with_reducible refine Vc.exit ?_); dsimp only [thenK, blockK, Nat.beq]; (first | skip)))))
      (refine hN2 _ _ ?_; (try clear hN N); clear hN2 N2)
      ((repeat (first | ((with_reducible refine And.intro ?_ ?_); exact sdB) | ((first | ((with_reducible refine Vc.hold ?_); first | refine Vc.regiont T0_ok GDR_ok ?_)); (try simp only [v8Y, Nat.beq, Nat.ble, seval, -List.reduceReplicate, tabs, GDR_set, ])))))
      have hln : ts.length + 32 + pn + padN pn = (ts ++ abTail ps).length := by rw [hta, List.length_append, List.length_replicate, hzl]
      refine ⟨((k + 1, hs ++ bytI (32 * n + ts.length) 32, ts ++ abTail ps), v3', v), ⟨by simp only; omega, by rw [hnx]; rfl⟩, ?_, ?_, by simp only; omega⟩
      ·((try simp only [v8Y, Nat.beq, Nat.ble, seval, -List.reduceReplicate, tabs]); (repeat' with_reducible apply And.intro) <;> first | with_reducible exact True.intro | (congr 1; simp only [hta, List.length_append, List.length_replicate, hzl]) | (congr 1 <;> omega))
      ·((try simp only [v8Y, Nat.beq, Nat.ble, seval, -List.reduceReplicate, tabs]); (repeat' with_reducible apply And.intro) <;> first | with_reducible exact True.intro | (rw [← hta, hln]) | (congr 1 <;> omega))
  ·have d1 : decide ((k : Int) < (n : Int)) = false := decide_eq_false (by omega)
   obtain rfl : k = n := by omega
   have ht : l.take k = l := List.take_of_length_le (by omega)
   rw [ht] at hst
   have hfin : abEnc l = hs ++ ts := by unfold abEnc; rw [hl, ← hst]
   have hfl : (abEnc l).length = 32 * k + ts.length := by rw [hfin, List.length_append]; omega
   have ut : ts.take ts.length = ts := List.take_length
   ((repeat (first | (with_reducible refine Vc.seq fun N hN => ?_) | ((with_reducible refine And.intro ?_ ?_); exact sdB) | ((first | ((with_reducible refine Vc.hold ?_); first | refine Vc.regiont T0_ok GDR_ok ?_)); (try simp only [v8Y, Nat.beq, Nat.ble, seval, -List.reduceReplicate, tabs, GDR_set, d1])) | ((with_reducible refine hN _ _ ?_); clear hN N))))
   (refine Vc.cond T0_ok (t := false) (by rfl) (fun h => Bool.noConfusion h) (fun _ => ?_))
   ((repeat (first | ((first | with_reducible refine Vc.exit ?_); dsimp only [thenK, blockK, Nat.beq]; (first | skip)))))
   (refine hN1 _ _ ?_; (try clear hN N); clear hN1 N1)
   ((repeat (first | (with_reducible refine Vc.seq fun N hN => ?_) | (with_reducible intro _) | ((with_reducible refine And.intro ?_ ?_); exact sX7) | ((first | ((with_reducible refine Vc.fin ?_); dsimp only [thenK, blockK, retK, resS, resOne, resAll]) | ((with_reducible refine Vc.hold ?_); first | refine Vc.regiont T0_ok GDR_ok ?_)); (try simp only [v8Y, Nat.beq, Nat.ble, seval, -List.reduceReplicate, tabs, GDR_set, ut, List.drop_zero])) | ((with_reducible refine hN _ _ ?_); clear hN N))); (try ((with_reducible refine Fin.of ?_); (try with_reducible exact True.intro))))
   exact ⟨trivial, 1, _, by rw [hfl], by rw [hfl, hfin]; rfl⟩
noncomputable def g_rEnc (args : List SV) (m : List Blk) : CR :=
 match args with
 | [.gh a n c (.rows 6 rs)] => .own (∃ l, PsR (HM m) rs l ∧ l.length = n ∧ n ≤ c ∧ adr a n c ∧ psz l ≤ 100000 ∧ LiesH (HM m) a (cc (.rows 6 rs))) 5 1 (abEnc (lOf rs)).length (.ints .u8 (abEnc (lOf rs))) (fun v => v)
 | _ => .none
theorem g_rEnc_ok (w0 : World) (B : List Nat) (args : List SV) (m : List Blk) : CROk Tryd.prog w0 B 78 args m (g_rEnc args m) := by
 unfold g_rEnc
 split
 ·rename_i a n c rs
  intro ⟨l, hR, h1, h2, h3, h4, h5⟩ w hm
  rw [lOf_eq hR]
  exact own_new Tryd.func78 rfl rfl hm (renc_vc a n c rs l h1 h2 h3 h4 w (h5.mono fun b o h => hm.hm h) (hR.mono fun b o h => hm.hm h))
 ·exact trivial
end Go.Proofs.YthdpgfdfgidokaaDoor
