/-
 Package rules: who makes the sender, which events are hashes; what is kept. No condition.
-/
import Derived.Test.YtoadeekdgikghaaDoorJ6
set_option maxRecDepth 20000
set_option maxHeartbeats 4000000
set_option linter.defProp false
set_option linter.unusedVariables false
set_option linter.unusedSimpArgs false
namespace Go.Proofs.YtoadeekdgikghaaDoor
open Go.RowKit
def mkF (e : Evt) : Bool := decide (e.op = 245) && decide (e.flt = 0)
set_option maxRecDepth 20000 in
theorem mk1_vc (r : List SV) (e : Evt) (w : World) {H : Nat → Obj → Prop} (hR : EvR H r e) : Calls Tryd.prog 31 (cvs [.agg r]).toArray w (fun en w' => ∃ u, en = .returned u ∧ ∃ v' m', u = cv v' ∧ MemOk w [] m' w' ∧ v' = .bool (mkF e)) := by
 obtain ⟨s0, s1, s2, s3, s4, s5, s6, s7, s8, s9, s10, s11, s12, s13, s14, s15, s16, s17, s18, s19, x0, x1, x2, x3, y0, y1, y2, y3, pa, pn, pc, rfl, g1, g2, g3, g4, g5, g6, g7, g8, g9, g10, g11, g12, g13, g14, g15, g16, g17⟩ := hR
 unfold mkF
 cases h1 : decide (e.op = 245) <;> cases h2 : decide (e.flt = 0)
 all_goals
  refine Vc.calls T0_ok Tryd.func31 rfl rfl (args := [.agg [.int .u8 e.op, .int .i64 e.dep, .int .u8 s0, .int .u8 s1, .int .u8 s2, .int .u8 s3, .int .u8 s4, .int .u8 s5, .int .u8 s6, .int .u8 s7, .int .u8 s8, .int .u8 s9, .int .u8 s10, .int .u8 s11, .int .u8 s12, .int .u8 s13, .int .u8 s14, .int .u8 s15, .int .u8 s16, .int .u8 s17, .int .u8 s18, .int .u8 s19, .int .u64 x0, .int .u64 x1, .int .u64 x2, .int .u64 x3, .int .u64 y0, .int .u64 y1, .int .u64 y2, .int .u64 y3, .gh pa pn pc (.ints .u8 e.bs), .int .u16 e.flt]]) (k := 10) rfl (old_start w) ?_; change Vc _ _ (c8 (.agg [.int .u8 e.op, .int .i64 e.dep, .int .u8 s0, .int .u8 s1, .int .u8 s2, .int .u8 s3, .int .u8 s4, .int .u8 s5, .int .u8 s6, .int .u8 s7, .int .u8 s8, .int .u8 s9, .int .u8 s10, .int .u8 s11, .int .u8 s12, .int .u8 s13, .int .u8 s14, .int .u8 s15, .int .u8 s16, .int .u8 s17, .int .u8 s18, .int .u8 s19, .int .u64 x0, .int .u64 x1, .int .u64 x2, .int .u64 x3, .int .u64 y0, .int .u64 y1, .int .u64 y2, .int .u64 y3, .gh pa pn pc (.ints .u8 e.bs), .int .u16 e.flt]) .undef .undef .undef .undef .undef .undef .undef ([.undef, .undef, .undef])) _ _
  ((repeat (first | (with_reducible refine Vc.seq fun N hN => ?_) | (with_reducible intro _) | ((with_reducible refine And.intro ?_ ?_); exact sX0) | ((first | ((with_reducible refine Vc.fin ?_); dsimp only [thenK, blockK, retK, resS, resOne, resAll]) | ((with_reducible refine Vc.hold ?_); first | refine Vc.regiont T0_ok GJ0_ok ?_)); (try simp only [v8Y, Nat.beq, Nat.ble, seval, tabs, GJ0_set, h1, h2, Bool.and_false, Bool.false_and, Bool.and_true, Bool.true_and])) | ((with_reducible refine hN _ _ ?_); clear hN N))); (try ((with_reducible refine Fin.of ?_); (try with_reducible exact True.intro))))
  exact ⟨by first | trivial | simp, by first | rfl | trivial⟩
noncomputable def g_mk1 (args : List SV) (m : List Blk) : CR := match args with
 | [.agg r] => .pure (∃ e, EvR (HM m) r e) (.bool (mkF (evtOf r)))
 | _ => .none
theorem g_mk1_ok (w0 : World) (B : List Nat) (args : List SV) (m : List Blk) : CROk Tryd.prog w0 B 31 args m (g_mk1 args m) := by
 unfold g_mk1; split
 ·rename_i r
  rintro ⟨e, hR⟩ w hm
  rw [evtOf_eq hR]
  exact calls_pure Tryd.func31 rfl rfl (mk1_vc r e w hR)
 ·exact trivial
noncomputable def GJB : Ctr := fun f args m => match f with
 | 31 => g_mk1 args m
 | _ => .none
theorem GJB_ok : GOk Tryd.prog GJB := by
 intro w0 B f args m; unfold GJB; split
 ·exact g_mk1_ok _ _ _ _
 ·exact trivial
theorem GJB_mk1 : GJB 31 = g_mk1 := by funext args m; rfl
def GJB_set := And.intro (@GJB_mk1) (@g_mk1.eq_def)

set_option maxRecDepth 20000 in
theorem idxM_vc (la : Option Addr) (n c : Nat) (rs : List (List SV)) (l : List Evt) (w : World) (hE : EvL (H0 w) la n c rs l) (hM : n ≤ 1000000) :
  Calls Tryd.prog 30 (cvs [.gh la n c (.rows 32 rs), .fn (.func 31) [] []]).toArray w (fun en w' => ∃ u, en = .returned u ∧ ∃ v' m', u = cv v' ∧ MemOk w [] m' w' ∧ v' = .int .i64 (idxB mkF l 0)) := by
 obtain ⟨hl, hn, ha, hm, hL, r1, r2, r3⟩ := hE
 unfold maxLen at hm
 have hLx : ∀ m, allOld w ∈ m → LiesH (HM m) la (cc (.rows 32 rs)) := fun m hin => hL.mono (H0.hm hin)
 refine Vc.calls T0_ok Tryd.func30 rfl rfl (args := [.gh la n c (.rows 32 rs), .fn (.func 31) [] []]) (k := 17) rfl (old_start w) ?_; change Vc _ _ (c8 (.gh la n c (.rows 32 rs)) (.fn (.func 31) [] []) .undef .undef .undef .undef .undef .undef (c8 .undef .undef .undef .undef .undef .undef .undef .undef ([.undef, .undef, .undef]))) _ _
 ((repeat (first | (with_reducible first | refine Vc.seq fun N hN => ?_ | refine Vc.block ?_) | ((with_reducible refine And.intro ?_ ?_); exact sX8) | ((first | ((with_reducible refine Vc.hold ?_); first | refine Vc.regiont T0_ok GJB_ok ?_)); (try simp only [v8Y, Nat.beq, Nat.ble, seval, tabs, GJB_set, ])) | ((with_reducible refine hN _ _ ?_); clear hN N))))
 (revert N; intro N1 hN1)
 refine Vc.loop 5 19 (fun (k : Nat) => [(6, .gh la n c (.rows 32 rs)), (7, .int .i64 (n : Nat)), (8, .int .i64 (k : Nat))]) (fun k => [allOld w]) (fun k => k ≤ n ∧ idxB mkF (l.drop k) (k : Nat) = idxB mkF l 0) (fun k => n - k) 0 ⟨⟨Nat.zero_le _, by rw [List.drop_zero]; rfl⟩, ?_, ?_⟩ (fun k junk hk => ?_)
 ·((try simp only [v8Y, Nat.beq, Nat.ble, seval, tabs]); (repeat' with_reducible apply And.intro) <;> first | with_reducible exact True.intro | rfl | with_reducible rfl | (congr 1 <;> omega) | trivial)
 ·((try simp only [v8Y, Nat.beq, Nat.ble, seval, tabs]); (repeat' with_reducible apply And.intro) <;> first | with_reducible exact True.intro | rfl | with_reducible rfl | (congr 1 <;> omega) | trivial)
 ·obtain ⟨k1, k2⟩ := hk
  (simp only [v8Y, Nat.beq, Nat.ble, seval, tabs])
  by_cases hc1 : k < n
  ·have d1 : decide ((k : Int) < (n : Int)) = true := decide_eq_true (by omega)
   have tk : ((k : Nat) : Int).toNat = k := by omega
   have e1 := List.getElem?_eq_getElem (show k < rs.length by omega)
   have e2 := List.getElem?_eq_getElem (show k < l.length by omega)
   have hp := r3 k _ _ e1 e2
   have hgd := getD_of e1
   have hev := evtOf_eq hp
   have hRx : ∀ m, allOld w ∈ m → EvR (HM m) rs[k] l[k] := fun m hin => hp.mono (H0.hm hin)
   rw [idxB_drop e2] at k2
   generalize rs[k] = r at *
   generalize l[k] = e at *
   obtain ⟨s0, s1, s2, s3, s4, s5, s6, s7, s8, s9, s10, s11, s12, s13, s14, s15, s16, s17, s18, s19, x0, x1, x2, x3, y0, y1, y2, y3, pa, pn, pc, rfl, g1, g2, g3, g4, g5, g6, g7, g8, g9, g10, g11, g12, g13, g14, g15, g16, g17⟩ := hp
   cases h1 : mkF e
   ·rw [if_neg (by rw [h1]; exact Bool.false_ne_true)] at k2
    ((repeat (first | (with_reducible refine Vc.seq fun N hN => ?_) | ((with_reducible refine And.intro ?_ ?_); exact sX8) | ((first | ((with_reducible refine Vc.hold ?_); first | refine Vc.regiont T0_ok GJB_ok ?_)); (try simp only [v8Y, Nat.beq, Nat.ble, seval, tabs, GJB_set, d1])) | ((with_reducible refine hN _ _ ?_); clear hN N))))
    (refine Vc.cond T0_ok (t := true) (by rfl) (fun _ => ?_) (fun h => Bool.noConfusion h))
    ((repeat (first | (with_reducible first | refine Vc.seq fun N hN => ?_ | refine Vc.block ?_) | ((first | with_reducible refine Vc.skip ?_); dsimp only [thenK, blockK, Nat.beq]; (first | (refine hN _ _ ?_; clear hN N))) | ((with_reducible refine And.intro ?_ ?_); exact sX8) | ((first | ((with_reducible refine Vc.hold ?_); first | refine Vc.regiont T0_ok GJB_ok ?_)); (try simp only [v8Y, Nat.beq, Nat.ble, seval, tabs, GJB_set, tk, hgd, hev, h1])) | ((with_reducible refine hN _ _ ?_); clear hN N))))
    (refine Vc.cond T0_ok (t := false) (by rfl) (fun h => Bool.noConfusion h) (fun _ => ?_))
    ((repeat (first | (with_reducible refine Vc.seq fun N hN => ?_) | ((first | with_reducible refine Vc.skip ?_); dsimp only [thenK, blockK, Nat.beq]; (first | (refine hN _ _ ?_; clear hN N))) | ((with_reducible refine And.intro ?_ ?_); exact sX8) | ((first | ((with_reducible refine Vc.fin ?_); dsimp only [thenK, blockK, retK, resS, resOne, resAll]) | ((with_reducible refine Vc.hold ?_); first | refine Vc.regiont T0_ok GJB_ok ?_)); (try simp only [v8Y, Nat.beq, Nat.ble, seval, tabs, GJB_set, ])) | ((with_reducible refine hN _ _ ?_); clear hN N))); (try ((with_reducible refine Fin.of ?_); (try with_reducible exact True.intro))))
    refine ⟨k + 1, ⟨by omega, k2⟩, ?_, ?_, by omega⟩
    ·((try simp only [v8Y, Nat.beq, Nat.ble, seval, tabs]); (repeat' with_reducible apply And.intro) <;> first | with_reducible exact True.intro | rfl | (congr 1 <;> omega))
    ·((try simp only [v8Y, Nat.beq, Nat.ble, seval, tabs]); (repeat' with_reducible apply And.intro) <;> first | with_reducible exact True.intro | rfl | (congr 1 <;> omega))
   ·rw [if_pos h1] at k2
    ((repeat (first | (with_reducible refine Vc.seq fun N hN => ?_) | ((with_reducible refine And.intro ?_ ?_); exact sX8) | ((first | ((with_reducible refine Vc.hold ?_); first | refine Vc.regiont T0_ok GJB_ok ?_)); (try simp only [v8Y, Nat.beq, Nat.ble, seval, tabs, GJB_set, d1])) | ((with_reducible refine hN _ _ ?_); clear hN N))))
    (refine Vc.cond T0_ok (t := true) (by rfl) (fun _ => ?_) (fun h => Bool.noConfusion h))
    ((repeat (first | (with_reducible first | refine Vc.seq fun N hN => ?_ | refine Vc.block ?_) | ((first | with_reducible refine Vc.skip ?_); dsimp only [thenK, blockK, Nat.beq]; (first | (refine hN _ _ ?_; clear hN N))) | ((with_reducible refine And.intro ?_ ?_); exact sX8) | ((first | ((with_reducible refine Vc.hold ?_); first | refine Vc.regiont T0_ok GJB_ok ?_)); (try simp only [v8Y, Nat.beq, Nat.ble, seval, tabs, GJB_set, tk, hgd, hev, h1])) | ((with_reducible refine hN _ _ ?_); clear hN N))))
    (refine Vc.cond T0_ok (t := true) (by rfl) (fun _ => ?_) (fun h => Bool.noConfusion h))
    ((repeat (first | (with_reducible refine Vc.seq fun N hN => ?_) | ((first | with_reducible refine Vc.skip ?_); dsimp only [thenK, blockK, Nat.beq]; (first | (refine hN _ _ ?_; clear hN N))) | ((with_reducible refine And.intro ?_ ?_); exact sX8) | ((first | ((with_reducible refine Vc.fin ?_); dsimp only [thenK, blockK, retK, resS, resOne, resAll]) | ((with_reducible refine Vc.hold ?_); first | refine Vc.regiont T0_ok GJB_ok ?_)); (try simp only [v8Y, Nat.beq, Nat.ble, seval, tabs, GJB_set, ])) | ((with_reducible refine hN _ _ ?_); clear hN N))); (try ((with_reducible refine Fin.of ?_); (try with_reducible exact True.intro))))
    exact ⟨trivial, by rw [k2]⟩
  ·have d1 : decide ((k : Int) < (n : Int)) = false := decide_eq_false (by omega)
   obtain rfl : k = n := by omega
   rw [List.drop_eq_nil_of_le (by omega)] at k2
   simp only [idxB] at k2
   ((repeat (first | (with_reducible refine Vc.seq fun N hN => ?_) | ((with_reducible refine And.intro ?_ ?_); exact sX8) | ((first | ((with_reducible refine Vc.hold ?_); first | refine Vc.regiont T0_ok GJB_ok ?_)); (try simp only [v8Y, Nat.beq, Nat.ble, seval, tabs, GJB_set, d1])) | ((with_reducible refine hN _ _ ?_); clear hN N))))
   (refine Vc.cond T0_ok (t := false) (by rfl) (fun h => Bool.noConfusion h) (fun _ => ?_))
   ((repeat (first | (with_reducible refine Vc.seq fun N hN => ?_) | ((first | with_reducible refine Vc.exit ?_); dsimp only [thenK, blockK, Nat.beq]; (first | skip)) | ((with_reducible refine And.intro ?_ ?_); exact sX8) | ((first | ((with_reducible refine Vc.fin ?_); dsimp only [thenK, blockK, retK, resS, resOne, resAll]) | ((with_reducible refine Vc.hold ?_); first | refine Vc.regiont T0_ok GJB_ok ?_)); (try simp only [v8Y, Nat.beq, Nat.ble, seval, tabs, GJB_set])) | ((with_reducible refine hN _ _ ?_); clear hN N))); (try ((with_reducible refine Fin.of ?_); (try with_reducible exact True.intro))))
   (refine hN1 _ _ ?_; (try clear hN N); clear hN1 N1)
   ((repeat (first | (with_reducible refine Vc.seq fun N hN => ?_) | ((first | with_reducible refine Vc.exit ?_); dsimp only [thenK, blockK, Nat.beq]; (first | skip)) | ((with_reducible refine And.intro ?_ ?_); exact sX8) | ((first | ((with_reducible refine Vc.fin ?_); dsimp only [thenK, blockK, retK, resS, resOne, resAll]) | ((with_reducible refine Vc.hold ?_); first | refine Vc.regiont T0_ok GJB_ok ?_)); (try simp only [v8Y, Nat.beq, Nat.ble, seval, tabs, GJB_set])) | ((with_reducible refine hN _ _ ?_); clear hN N))); (try ((with_reducible refine Fin.of ?_); (try with_reducible exact True.intro))))
   exact ⟨trivial, by rw [← k2]⟩
noncomputable def g_idxM (args : List SV) (m : List Blk) : CR := match args with
 | [.gh la n c (.rows 32 rs), .fn (.func 31) [] []] => .pure ((∃ l, EvL (HM m) la n c rs l) ∧ n ≤ 1000000) (.int .i64 (idxB mkF (evOf rs) 0))
 | _ => .none
theorem g_idxM_ok (w0 : World) (B : List Nat) (args : List SV) (m : List Blk) : CROk Tryd.prog w0 B 30 args m (g_idxM args m) := by
 unfold g_idxM; split
 ·rename_i la n c rs
  rintro ⟨⟨l, hE⟩, hM⟩ w hm
  rw [evOf_eq hE.rows]
  exact calls_pure Tryd.func30 rfl rfl (idxM_vc la n c rs l w (hE.mono fun b o h => hm.hm h) hM)
 ·exact trivial
def mkIx (r : Int) (l : List Evt) : Int := if r = 2 then idxB mkF l 0 else -1
noncomputable def GJC : Ctr := fun f args m => match f with
 | 30 => g_idxM args m
 | _ => .none
theorem GJC_ok : GOk Tryd.prog GJC := by
 intro w0 B f args m; unfold GJC; split
 ·exact g_idxM_ok _ _ _ _
 ·exact trivial
theorem GJC_idxM : GJC 30 = g_idxM := by funext args m; rfl
def GJC_set := And.intro (@GJC_idxM) (@g_idxM.eq_def)

theorem maker_vc (pb : Nat) (P : List SV) (role : Int) (la : Option Addr) (n c : Nat) (rs : List (List SV)) (l : List Evt) (w : World) (hP : LiesH (H0 w) (some ⟨pb, 0, none⟩) (cc (.cells P))) (hr : nth? P 84 = some (.int .u8 role)) (hE : EvL (H0 w) la n c rs l) (hM : n ≤ 1000000) :
  Calls Tryd.prog 22 (cvs [.gp (some ⟨pb, 0, none⟩) (.cells P) 0 0 0, .gh la n c (.rows 32 rs)]).toArray w (fun en w' => ∃ u, en = .returned u ∧ ∃ v' m', u = cv v' ∧ MemOk w [] m' w' ∧ v' = .int .i64 (mkIx role l)) := by
 have hPl : ∀ m, allOld w ∈ m → LiesH (HM m) (some ⟨pb, 0, none⟩) (cc (.cells P)) := fun m hin => hP.mono (H0.hm hin)
 have hEx : ∀ m, allOld w ∈ m → EvL (HM m) la n c rs l := fun m hin => hE.mono (H0.hm hin)
 have hev := evOf_eq hE.rows
 by_cases h2 : role = 2
 ·have d2 : decide (role = 2) = true := decide_eq_true h2
  have e : mkIx role l = idxB mkF l 0 := if_pos h2
  rw [e]
  refine Vc.calls T0_ok Tryd.func22 rfl rfl (args := [.gp (some ⟨pb, 0, none⟩) (.cells P) 0 0 0, .gh la n c (.rows 32 rs)]) (k := 10) rfl (old_start w) ?_; change Vc _ _ (c8 (.gp (some ⟨pb, 0, none⟩) (.cells P) 0 0 0) (.gh la n c (.rows 32 rs)) .undef .undef .undef .undef .undef .undef ([.undef, .undef, .undef, .undef])) _ _
  ((repeat (first | (with_reducible refine Vc.seq fun N hN => ?_) | ((with_reducible refine And.intro ?_ ?_); exact sX17) | ((first | ((with_reducible refine Vc.hold ?_); first | refine Vc.regiont T0_ok GJC_ok ?_)); (try simp only [v8Y, Nat.beq, Nat.ble, seval, tabs, GJC_set, hr, d2, Bool.not_true, hev])) | ((with_reducible refine hN _ _ ?_); clear hN N))))
  (refine Vc.cond T0_ok (t := false) (by rfl) (fun h => Bool.noConfusion h) (fun _ => ?_))
  ((repeat (first | (with_reducible refine Vc.seq fun N hN => ?_) | ((first | with_reducible refine Vc.skip ?_); dsimp only [thenK, blockK, Nat.beq]; (first | (refine hN _ _ ?_; clear hN N))) | ((with_reducible refine And.intro ?_ ?_); exact sX17) | ((first | ((with_reducible refine Vc.fin ?_); dsimp only [thenK, blockK, retK, resS, resOne, resAll]) | ((with_reducible refine Vc.hold ?_); first | refine Vc.regiont T0_ok GJC_ok ?_)); (try simp only [v8Y, Nat.beq, Nat.ble, seval, tabs, GJC_set, hr, d2, hev])) | ((with_reducible refine hN _ _ ?_); clear hN N))); (try ((with_reducible refine Fin.of ?_); (try with_reducible exact True.intro))))
  exact ⟨by first | trivial | simp, by first | rfl | trivial⟩
 ·have d2 : decide (role = 2) = false := decide_eq_false h2
  have e : mkIx role l = -1 := if_neg h2
  rw [e]
  refine Vc.calls T0_ok Tryd.func22 rfl rfl (args := [.gp (some ⟨pb, 0, none⟩) (.cells P) 0 0 0, .gh la n c (.rows 32 rs)]) (k := 10) rfl (old_start w) ?_; change Vc _ _ (c8 (.gp (some ⟨pb, 0, none⟩) (.cells P) 0 0 0) (.gh la n c (.rows 32 rs)) .undef .undef .undef .undef .undef .undef ([.undef, .undef, .undef, .undef])) _ _
  ((repeat (first | (with_reducible refine Vc.seq fun N hN => ?_) | ((with_reducible refine And.intro ?_ ?_); exact sX17) | ((first | ((with_reducible refine Vc.hold ?_); first | refine Vc.regiont T0_ok GJC_ok ?_)); (try simp only [v8Y, Nat.beq, Nat.ble, seval, tabs, GJC_set, hr, d2, Bool.not_false, hev])) | ((with_reducible refine hN _ _ ?_); clear hN N))))
  (refine Vc.cond T0_ok (t := true) (by rfl) (fun _ => ?_) (fun h => Bool.noConfusion h))
  ((repeat (first | (with_reducible refine Vc.seq fun N hN => ?_) | ((first | with_reducible refine Vc.skip ?_); dsimp only [thenK, blockK, Nat.beq]; (first | (refine hN _ _ ?_; clear hN N))) | ((with_reducible refine And.intro ?_ ?_); exact sX17) | ((first | ((with_reducible refine Vc.fin ?_); dsimp only [thenK, blockK, retK, resS, resOne, resAll]) | ((with_reducible refine Vc.hold ?_); first | refine Vc.regiont T0_ok GJC_ok ?_)); (try simp only [v8Y, Nat.beq, Nat.ble, seval, tabs, GJC_set, hr, d2, hev])) | ((with_reducible refine hN _ _ ?_); clear hN N))); (try ((with_reducible refine Fin.of ?_); (try with_reducible exact True.intro))))
  exact ⟨by first | trivial | simp, by first | rfl | trivial⟩
def rolP (P : List SV) : Int := match nth? P 84 with | some (.int .u8 r) => r | _ => 0
noncomputable def g_maker (args : List SV) (m : List Blk) : CR := match args with
 | [.ptr nm b 0 0 0 0, .gh la n c (.rows 32 rs)] => match bget m nm with
  | .blk b' _ (.cells P) => .pure (b' = b ∧ nth? P 84 = some (.int .u8 (rolP P)) ∧ (∃ l, EvL (HM m) la n c rs l) ∧ n ≤ 1000000) (.int .i64 (mkIx (rolP P) (evOf rs)))
  | _ => .none
 | _ => .none
theorem g_maker_ok (w0 : World) (B : List Nat) (args : List SV) (m : List Blk) : CROk Tryd.prog w0 B 22 args m (g_maker args m) := by
 unfold g_maker; split
 ·rename_i nm b la n c rs
  split
  ·rename_i b' t P hb
   rintro ⟨rfl, h2, ⟨l, hE⟩, hM⟩ w hm
   have k1 := (hm.each _ (bget_mem hb (by simp))).1
   rw [evOf_eq hE.rows]
   have e : cvs [.ptr nm b' 0 0 0 0, .gh la n c (.rows 32 rs)] = cvs [.gp (some ⟨b', 0, none⟩) (.cells P) 0 0 0, .gh la n c (.rows 32 rs)] := rfl
   rw [e]
   exact calls_pure Tryd.func22 rfl rfl (maker_vc b' P _ la n c rs l w (.inr ⟨b', 0, _, _, _, rfl, k1, fun j u hj => by rw [Nat.zero_add, List.getElem?_toArray, ← hj]⟩) h2 (hE.mono fun b o h => hm.hm h) hM)
  ·exact trivial
 ·exact trivial
structure IlX where
 a : Option Addr
 c : Nat
 h : List (Nat × Obj)
def IlQ (xs : List Int) (x : IlX) : Prop := xs.length ≤ 1000000 ∧ SlI (Hl x.h) x.a xs.length x.c xs
theorem grw_ints {P : Program} {f : FuncId} {fn : Func} {args : Array Value} {w0 w : World} {B : List Nat} {m : List Blk} {xs : List Int} (hf : P.funcs[f]? = some fn) (hn : (fn.name == "runtime.NumGoroutine") = false) (hb : fn.body.isNone = false) (hm : MemOk w0 B m w) (hl : xs.length ≤ 1000000)
  (h : Calls P f args w (fun en w' => ∃ u, en = .returned u ∧ ∃ v' m', u = cv v' ∧ MemOk w [] m' w' ∧ ∃ k s, v' = .own k s xs.length ∧ bget m' k = .own s xs.length 3 1 (.ints .i64 xs))) :
  Enters P f args w fun u w' => ∃ a : IlX, IlQ xs a ∧ u = cv (.gh a.a xs.length a.c (.ints .i64 xs)) ∧ w.grownBy w' .none ∧ (Blk.heap a.h).ok w0 B w' ∧ (∀ b ∈ (Blk.heap a.h).nums, w.heap.size ≤ b) ∧ (Blk.heap a.h).nums.Nodup := by
 have h1 := calls_new (A := Option Addr × Nat) (Q := fun p l => IlQ xs ⟨p.1, p.2, l⟩) (F := fun p => .gh p.1 xs.length p.2 (.ints .i64 xs)) hf hn hb hm (h.mono fun en w' ⟨u, hu, v', m', hv, hm', k, s, hvv, hk⟩ => ⟨u, hu, v', m', hv, hm', fun w2 hm2 => by
  obtain ⟨a, c, e1, e2, e3, e4, e5, e6⟩ := own_lies hm2 hk
  exact ⟨(a, c), by rw [hvv]; exact e1, hl, rfl, e3, e2, hl, e6⟩⟩)
 exact h1.mono fun u w' ⟨a, h⟩ => ⟨⟨a.1.1, a.1.2, a.2⟩, h⟩
noncomputable def g_LooseG (args : List SV) (m : List Blk) : CR := match args with
 | [.gh a n c (.rows 32 rs)] => .grw ((∃ l, EvL (HM m) a n c rs l) ∧ n ≤ 1000000) IlX (IlQ (evSel looseE 0 (evOf rs))) (fun x => .gh x.a (evSel looseE 0 (evOf rs)).length x.c (.ints .i64 (evSel looseE 0 (evOf rs)))) (fun x => .heap x.h)
 | _ => .none
theorem g_LooseG_ok (w0 : World) (B : List Nat) (args : List SV) (m : List Blk) : CROk Tryd.prog w0 B 20 args m (g_LooseG args m) := by
 unfold g_LooseG; split
 ·rename_i a n c rs
  rintro ⟨⟨l, hE⟩, h1⟩ w hm
  rw [evOf_eq hE.rows]
  have h2 := evSel_len looseE l 0
  have h3 := hE.len
  exact grw_ints Tryd.func20 rfl rfl hm (by omega) ((tLoose_vc a n c rs l w (hE.mono fun b o h => hm.hm h) h1).mono fun en w' ⟨u, hu, v', m', hv, hm', k, s, h4, h5⟩ => ⟨u, hu, v', m', hv, hm', k, s, h4, h5⟩)
 ·exact trivial
noncomputable def g_StarvedG (args : List SV) (m : List Blk) : CR := match args with
 | [.gh a n c (.rows 32 rs)] => .grw ((∃ l, EvL (HM m) a n c rs l) ∧ n ≤ 1000000) IlX (IlQ (evSel starvedE 0 (evOf rs))) (fun x => .gh x.a (evSel starvedE 0 (evOf rs)).length x.c (.ints .i64 (evSel starvedE 0 (evOf rs)))) (fun x => .heap x.h)
 | _ => .none
theorem g_StarvedG_ok (w0 : World) (B : List Nat) (args : List SV) (m : List Blk) : CROk Tryd.prog w0 B 21 args m (g_StarvedG args m) := by
 unfold g_StarvedG; split
 ·rename_i a n c rs
  rintro ⟨⟨l, hE⟩, h1⟩ w hm
  rw [evOf_eq hE.rows]
  have h2 := evSel_len starvedE l 0
  have h3 := hE.len
  exact grw_ints Tryd.func21 rfl rfl hm (by omega) ((tStarved_vc a n c rs l w (hE.mono fun b o h => hm.hm h) h1).mono fun en w' ⟨u, hu, v', m', hv, hm', k, s, h4, h5⟩ => ⟨u, hu, v', m', hv, hm', k, s, h4, h5⟩)
 ·exact trivial
end Go.Proofs.YtoadeekdgikghaaDoor
