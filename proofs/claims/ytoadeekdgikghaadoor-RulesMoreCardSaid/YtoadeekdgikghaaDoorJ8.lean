/-
 Package rules: the hashes among events, kept for a function that is handed on. No condition.
-/
import Derived.Test.YtoadeekdgikghaaDoorJ7
set_option maxRecDepth 20000
set_option maxHeartbeats 4000000
set_option linter.unusedVariables false
set_option linter.unusedSimpArgs false
namespace Go.Proofs.YtoadeekdgikghaaDoor
open Go.RowKit
noncomputable def hashR (r : List SV) : Bool := decide ((evtOf r).op = 32)
def hashE (e : Evt) : Bool := decide (e.op = 32)
theorem evr_facts {H : Nat → Obj → Prop} {r : List SV} {e : Evt} (h : EvR H r e) : r.length = 32 ∧ allOne r = true ∧ takeN r 0 32 = some r ∧ nth? r 0 = some (.int .u8 e.op) ∧ (0 ≤ e.op ∧ e.op ≤ 255) := by
 obtain ⟨s0, s1, s2, s3, s4, s5, s6, s7, s8, s9, s10, s11, s12, s13, s14, s15, s16, s17, s18, s19, x0, x1, x2, x3, y0, y1, y2, y3, a, n, c, rfl, g2, g3, g4, g5, g6, g7, g8, g9, g10, g11, g12, g13, g14, g15, g16⟩ := h
 exact ⟨rfl, rfl, rfl, rfl, g14, g15⟩
theorem splice_all : ∀ {l r : List SV}, l.length = r.length → splice l 0 r = some r
 | [], [], _ => rfl
 | x :: l, y :: r, h => by simp only [splice, splice_all (l := l) (r := r) (by simpa using h)]
 | [], _ :: _, h => by simp at h
 | _ :: _, [], h => by simp at h
theorem filt_s {rs : List (List SV)} {k : Nat} {r : List SV} (h : rs[k]? = some r) : (rs.take (k + 1)).filter hashR = (rs.take k).filter hashR ++ if hashR r = true then [r] else [] := by
 rw [take_more h, List.filter_append]
 congr 1
 by_cases hr : hashR r = true
 ·rw [if_pos hr, List.filter_cons_of_pos hr]; rfl
 ·rw [if_neg hr, List.filter_cons_of_neg hr]; rfl
theorem filt_len (rs : List (List SV)) (k : Nat) : ((rs.take k).filter hashR).length ≤ k := Nat.le_trans (List.length_filter_le _ _) (by rw [List.length_take]; omega)
structure OwX where
 b : Nat
 a : Option Addr
 c : Nat
 h : List (Nat × Obj)
structure OwQ (hr : List (List SV)) (x : OwX) : Prop where
 box : LiesH (Hl x.h) (some ⟨x.b, 0, none⟩) (cc (.cells [.gh x.a hr.length x.c (.rows 32 hr)]))
 le : hr.length ≤ x.c
 adr : adr x.a hr.length x.c
 max : hr.length ≤ maxLen
 lies : LiesH (Hl x.h) x.a (cc (.rows 32 hr))
theorem owner_vc (la : Option Addr) (n c : Nat) (rs : List (List SV)) (l : List Evt) (w : World) (hE : EvL (H0 w) la n c rs l) (hM : n ≤ 1000000) :
  Calls Tryd.prog 23 (cvs [.gh la n c (.rows 32 rs)]).toArray w (fun en w' => ∃ u, en = .returned u ∧ ∃ v' m', u = cv v' ∧ MemOk w [] m' w' ∧ ∃ b s t t2, v' = .fn (.func 32) [] [.ptr 1 b 0 0 0 0] ∧ bget m' 1 = .blk b t (.cells [.own 2 s (rs.filter hashR).length]) ∧ bget m' 2 = .own s (rs.filter hashR).length t2 32 (.rows 32 (rs.filter hashR))) := by
 obtain ⟨hl, hn, ha, hm, hL, r1, r2, r3⟩ := hE
 unfold maxLen at hm
 have hLx : ∀ m, allOld w ∈ m → LiesH (HM m) la (cc (.rows 32 rs)) := fun m hin => hL.mono (H0.hm hin)
 refine Vc.calls T0_ok Tryd.func23 rfl rfl (args := [.gh la n c (.rows 32 rs)]) (k := 20) rfl (old_start w) ?_; change Vc _ _ (c8 (.gh la n c (.rows 32 rs)) .undef .undef .undef .undef .undef .undef .undef (c8 .undef .undef .undef .undef .undef .undef .undef .undef ([.undef, .undef, .undef, .undef, .undef]))) _ _
 ((with_reducible refine Vc.seq fun N hN => ?_); (refine Vc.regiont T0_ok GJ0_ok ?_); simp only [v8Y, Nat.beq, Nat.ble, seval, tabs, GJ0_set]; (try simp (disch := omega) only [v8W]); (repeat (first | with_reducible intro _ | ((with_reducible refine And.intro ?_ ?_); exact sX5))); (first | (refine hN _ _ ?_; clear hN N; (try simp (disch := omega) only [v8W])) | skip))
 ((with_reducible refine Vc.seq fun N hN => ?_); (refine Vc.regiont T0_ok GJ0_ok ?_); simp only [v8Y, Nat.beq, Nat.ble, seval, tabs, GJ0_set]; (try simp (disch := omega) only [v8W]); (repeat (first | with_reducible intro _ | ((with_reducible refine And.intro ?_ ?_); exact sX5))); (first | (refine hN _ _ ?_; clear hN N; (try simp (disch := omega) only [v8W])) | skip))
 rename_i b3
 refine Vc.pushnil 47 32 ?_
 (simp only [v8Y, Nat.beq, Nat.ble, seval, tabs])
 refine Vc.recon 1 (.cells [.own 2 (.slice none 0 0) 0]) rfl rfl ?_
 (simp only [v8Y, Nat.beq, Nat.ble, seval, tabs])
 ((repeat (first | (with_reducible first | refine Vc.seq fun N hN => ?_ | refine Vc.block ?_) | ((with_reducible refine And.intro ?_ ?_); exact sX5) | ((first | ((with_reducible refine Vc.hold ?_); first | refine Vc.regiont T0_ok GJ0_ok ?_)); (try simp only [v8Y, Nat.beq, Nat.ble, seval, tabs, GJ0_set])) | ((with_reducible refine hN _ _ ?_); clear hN N))))
 (revert N; intro N1 hN1)
 refine Vc.loop 5 20 (fun (x : Nat × SV × Value) => [(5, x.2.1), (6, .gh la n c (.rows 32 rs)), (7, .int .i64 (n : Nat)), (8, .int .i64 (x.1 : Nat))]) (fun x => [allOld w, .blk b3 31 (.cells [.own 2 x.2.2 ((rs.take x.1).filter hashR).length]), .own x.2.2 ((rs.take x.1).filter hashR).length 47 32 (.rows 32 ((rs.take x.1).filter hashR))]) (fun x => x.1 ≤ n) (fun x => n - x.1) (0, .undef, .slice none 0 0) ⟨Nat.zero_le _, ?_, ?_⟩ (fun x junk hx => ?_)
 ·((try simp only [v8Y, Nat.beq, Nat.ble, seval, tabs]); (repeat' with_reducible apply And.intro) <;> first | with_reducible exact True.intro | rfl | with_reducible rfl | (congr 1 <;> omega) | trivial)
 ·((try simp only [v8Y, Nat.beq, Nat.ble, seval, tabs]); (repeat' with_reducible apply And.intro) <;> first | with_reducible exact True.intro | rfl | with_reducible rfl | (congr 1 <;> omega) | trivial)
 ·obtain ⟨k, z5, v⟩ := x
  dsimp only at hx ⊢
  (simp only [v8Y, Nat.beq, Nat.ble, seval, tabs])
  by_cases hc1 : k < n
  ·have d1 : decide ((k : Int) < (n : Int)) = true := decide_eq_true (by omega)
   have tk : ((k : Nat) : Int).toNat = k := by omega
   have e1 := List.getElem?_eq_getElem (show k < rs.length by omega)
   have e2 := List.getElem?_eq_getElem (show k < l.length by omega)
   have hp := r3 k _ _ e1 e2
   have hgd := getD_of e1
   have hev := evtOf_eq hp
   have hfs := filt_s e1
   have hfl := filt_len rs k
   have hkr : k < rs.length := by omega
   generalize rs[k] = r at *
   generalize l[k] = e at *
   obtain ⟨f1, f2, f3, f4, f5⟩ := evr_facts hp
   have f6 : Nat.beq r.length 32 = true := by rw [f1]; rfl
   have hsp : ∀ a0 a1 a2 a3 a4 a5 a6 a7 a8 a9 a10 a11 a12 a13 a14 a15 a16 a17 a18 a19 a20 a21 a22 a23 a24 a25 a26 a27 a28 a29 a30 a31 : SV, splice [a0, a1, a2, a3, a4, a5, a6, a7, a8, a9, a10, a11, a12, a13, a14, a15, a16, a17, a18, a19, a20, a21, a22, a23, a24, a25, a26, a27, a28, a29, a30, a31] 0 r = some r := fun a0 a1 a2 a3 a4 a5 a6 a7 a8 a9 a10 a11 a12 a13 a14 a15 a16 a17 a18 a19 a20 a21 a22 a23 a24 a25 a26 a27 a28 a29 a30 a31 => splice_all (by rw [f1]; rfl)
   have hh : hashR r = decide (e.op = 32) := by unfold hashR; rw [hev]
   cases h1 : decide (e.op = 32)
   ·rw [hh, h1] at hfs
    simp only [Bool.false_eq_true, if_false, List.append_nil] at hfs
    ((repeat (first | (with_reducible refine Vc.seq fun N hN => ?_) | ((with_reducible refine And.intro ?_ ?_); exact sX5) | ((first | ((with_reducible refine Vc.hold ?_); first | refine Vc.regiont T0_ok GJ0_ok ?_)); (try simp only [v8Y, Nat.beq, Nat.ble, seval, tabs, GJ0_set, d1])) | ((with_reducible refine hN _ _ ?_); clear hN N))))
    (refine Vc.cond T0_ok (t := true) (by rfl) (fun _ => ?_) (fun h => Bool.noConfusion h))
    ((repeat (first | (with_reducible first | refine Vc.seq fun N hN => ?_ | refine Vc.block ?_) | ((first | with_reducible refine Vc.skip ?_); dsimp only [thenK, blockK, Nat.beq]; (first | (refine hN _ _ ?_; clear hN N))) | (with_reducible intro _) | ((with_reducible refine And.intro ?_ ?_); exact sX5) | ((first | ((with_reducible refine Vc.hold ?_); first | refine Vc.regiont T0_ok GJ0_ok ?_)); (try simp only [v8Y, Nat.beq, Nat.ble, seval, tabs, GJ0_set, tk, hgd, f1, f2, f3, f4, hsp, h1])) | ((with_reducible refine hN _ _ ?_); clear hN N))))
    (refine Vc.cond T0_ok (t := false) (by rfl) (fun h => Bool.noConfusion h) (fun _ => ?_))
    ((repeat (first | ((first | with_reducible refine Vc.skip ?_); dsimp only [thenK, blockK, Nat.beq]; (first | (refine hN _ _ ?_; clear hN N))) | ((with_reducible refine And.intro ?_ ?_); exact sX5) | ((first | ((with_reducible refine Vc.hold ?_); first | refine Vc.regiont T0_ok GJ0_ok ?_)); (try simp only [v8Y, Nat.beq, Nat.ble, seval, tabs, GJ0_set, ])))))
    rename_i b5 _
    refine ⟨(k + 1, .ptr 3 b5 0 0 0 0, v), by dsimp only; omega, ?_, ?_, by dsimp only; omega⟩
    ·((try simp only [v8Y, Nat.beq, Nat.ble, seval, tabs]); (repeat' with_reducible apply And.intro) <;> first | with_reducible exact True.intro | rfl | (congr 1 <;> omega))
    ·dsimp only; rw [hfs]; ((try simp only [v8Y, Nat.beq, Nat.ble, seval, tabs]); (repeat' with_reducible apply And.intro) <;> first | with_reducible exact True.intro | rfl | (congr 1 <;> omega))
   ·rw [hh, h1] at hfs
    simp only [if_true] at hfs
    ((repeat (first | (with_reducible refine Vc.seq fun N hN => ?_) | ((with_reducible refine And.intro ?_ ?_); exact sX5) | ((first | ((with_reducible refine Vc.hold ?_); first | refine Vc.regiont T0_ok GJ0_ok ?_)); (try simp only [v8Y, Nat.beq, Nat.ble, seval, tabs, GJ0_set, d1])) | ((with_reducible refine hN _ _ ?_); clear hN N))))
    (refine Vc.cond T0_ok (t := true) (by rfl) (fun _ => ?_) (fun h => Bool.noConfusion h))
    ((repeat (first | (with_reducible first | refine Vc.seq fun N hN => ?_ | refine Vc.block ?_) | ((first | with_reducible refine Vc.skip ?_); dsimp only [thenK, blockK, Nat.beq]; (first | (refine hN _ _ ?_; clear hN N))) | (with_reducible intro _) | ((with_reducible refine And.intro ?_ ?_); exact sX5) | ((first | ((with_reducible refine Vc.hold ?_); first | refine Vc.regiont T0_ok GJ0_ok ?_)); (try simp only [v8Y, Nat.beq, Nat.ble, seval, tabs, GJ0_set, tk, hgd, f1, f2, f3, f4, hsp, h1])) | ((with_reducible refine hN _ _ ?_); clear hN N))))
    (refine Vc.cond T0_ok (t := true) (by rfl) (fun _ => ?_) (fun h => Bool.noConfusion h))
    ((repeat (first | (with_reducible intro _) | ((with_reducible refine And.intro ?_ ?_); exact sX5) | ((first | ((with_reducible refine Vc.hold ?_); first | refine Vc.regiont T0_ok GJ0_ok ?_)); (try simp only [v8Y, Nat.beq, Nat.ble, seval, tabs, GJ0_set, f1, f2, f3, f6, List.drop_zero, List.take_succ_cons, List.take_zero])) | ((with_reducible refine hN _ _ ?_); clear hN N))))
    rename_i b5 _ b6 v2
    refine ⟨(k + 1, .ptr 3 b5 0 0 0 0, v2), by dsimp only; omega, ?_, ?_, by dsimp only; omega⟩
    ·((try simp only [v8Y, Nat.beq, Nat.ble, seval, tabs]); (repeat' with_reducible apply And.intro) <;> first | with_reducible exact True.intro | rfl | (congr 1 <;> omega))
    ·dsimp only; rw [hfs, List.length_append]; ((try simp only [v8Y, Nat.beq, Nat.ble, seval, tabs]); (repeat' with_reducible apply And.intro) <;> first | with_reducible exact True.intro | rfl | (congr 1 <;> omega))
  ·have d1 : decide ((k : Int) < (n : Int)) = false := decide_eq_false (by omega)
   obtain rfl : k = n := by omega
   have hta : rs.take k = rs := List.take_of_length_le (by omega)
   ((repeat (first | (with_reducible refine Vc.seq fun N hN => ?_) | ((with_reducible refine And.intro ?_ ?_); exact sX5) | ((first | ((with_reducible refine Vc.hold ?_); first | refine Vc.regiont T0_ok GJ0_ok ?_)); (try simp only [v8Y, Nat.beq, Nat.ble, seval, tabs, GJ0_set, d1])) | ((with_reducible refine hN _ _ ?_); clear hN N))))
   (refine Vc.cond T0_ok (t := false) (by rfl) (fun h => Bool.noConfusion h) (fun _ => ?_))
   ((repeat (first | (with_reducible refine Vc.seq fun N hN => ?_) | ((first | with_reducible refine Vc.exit ?_); dsimp only [thenK, blockK, Nat.beq]; (first | skip)) | ((with_reducible refine And.intro ?_ ?_); exact sX5) | ((first | ((with_reducible refine Vc.fin ?_); dsimp only [thenK, blockK, retK, resS, resOne, resAll]) | ((with_reducible refine Vc.hold ?_); first | refine Vc.regiont T0_ok GJ0_ok ?_)); (try simp only [v8Y, Nat.beq, Nat.ble, seval, tabs, GJ0_set])) | ((with_reducible refine hN _ _ ?_); clear hN N))); (try ((with_reducible refine Fin.of ?_); (try with_reducible exact True.intro))))
   (refine hN1 _ _ ?_; (try clear hN N); clear hN1 N1)
   ((repeat (first | (with_reducible refine Vc.seq fun N hN => ?_) | ((first | with_reducible refine Vc.exit ?_); dsimp only [thenK, blockK, Nat.beq]; (first | skip)) | ((with_reducible refine And.intro ?_ ?_); exact sX5) | ((first | ((with_reducible refine Vc.fin ?_); dsimp only [thenK, blockK, retK, resS, resOne, resAll]) | ((with_reducible refine Vc.hold ?_); first | refine Vc.regiont T0_ok GJ0_ok ?_)); (try simp only [v8Y, Nat.beq, Nat.ble, seval, tabs, GJ0_set])) | ((with_reducible refine hN _ _ ?_); clear hN N))); (try ((with_reducible refine Fin.of ?_); (try with_reducible exact True.intro))))
   refine ⟨by first | trivial | simp, b3, v, 31, 47, rfl, ?_, ?_⟩
   ·rw [hta]
   ·rw [hta]
noncomputable def g_owner (args : List SV) (m : List Blk) : CR := match args with
 | [.gh la n c (.rows 32 rs)] => .grw ((∃ l, EvL (HM m) la n c rs l) ∧ n ≤ 1000000) OwX (OwQ (rs.filter hashR)) (fun x => .fn (.func 32) [] [.gp (some ⟨x.b, 0, none⟩) (.cells [.gh x.a (rs.filter hashR).length x.c (.rows 32 (rs.filter hashR))]) 0 0 0]) (fun x => .heap x.h)
 | _ => .none
theorem g_owner_ok (w0 : World) (B : List Nat) (args : List SV) (m : List Blk) : CROk Tryd.prog w0 B 23 args m (g_owner args m) := by
 unfold g_owner; split
 ·rename_i la n c rs
  rintro ⟨⟨l, hE⟩, hM⟩ w hm
  have h1 := calls_new (A := Nat × Option Addr × Nat) (Q := fun p h => OwQ (rs.filter hashR) ⟨p.1, p.2.1, p.2.2, h⟩) (F := fun p => .fn (.func 32) [] [.gp (some ⟨p.1, 0, none⟩) (.cells [.gh p.2.1 (rs.filter hashR).length p.2.2 (.rows 32 (rs.filter hashR))]) 0 0 0]) Tryd.func23 rfl rfl hm ((owner_vc la n c rs l w (hE.mono fun b o h => hm.hm h) hM).mono fun en w' ⟨u, hu, v', m', hv, hm', b, s, t, t2, hvv, hb, hs⟩ => ⟨u, hu, v', m', hv, hm', fun w2 hm2 => by
   obtain ⟨a, c2, e1, e2, e3, e4, e5, e6⟩ := own_lies hm2 hs
   have hk := blk_lies hm2 hb
   refine ⟨(b, a, c2), by rw [hvv]; rfl, ?_, e3, e2, e4, e6⟩
   have : cc (.cells [.own 2 s (rs.filter hashR).length]) = cc (.cells [.gh a (rs.filter hashR).length c2 (.rows 32 (rs.filter hashR))]) := by simp only [cc, cvs, cv, e1]
   rw [← this]; exact hk⟩)
  exact h1.mono fun u w' ⟨a, h⟩ => ⟨⟨a.1.1, a.1.2.1, a.1.2.2, a.2⟩, h⟩
 ·exact trivial
end Go.Proofs.YtoadeekdgikghaaDoor
