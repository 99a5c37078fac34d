/-
 Package trace: does, called, walked. No condition.
-/
import Derived.Test.YtoadeekdgikghaaDoorU1
set_option maxRecDepth 10000
set_option maxHeartbeats 4000000
set_option linter.defProp false
set_option linter.unusedVariables false
set_option linter.unusedSimpArgs false
namespace Go.Proofs.YtoadeekdgikghaaDoor
open Go.RowKit
noncomputable def evtOf (r : List SV) : Evt := open Classical in if h : ∃ e, EvR (fun _ _ => True) r e then h.choose else default
theorem evtOf_eq {H : Nat → Obj → Prop} {r : List SV} {e : Evt} (h : EvR H r e) : evtOf r = e := by
 have h0 : ∃ e, EvR (fun _ _ => True) r e := ⟨e, h.mono fun _ _ _ => trivial⟩
 unfold evtOf
 rw [dif_pos h0]
 exact h0.choose_spec.bs h
def calledE (e : Evt) : List Evt → Bool
 | [] => false
 | n :: _ => callOp n.op && decide (n.flt = 0) && decide (n.dep = e.dep) && decide (n.self = e.self)
theorem looseE_called (e : Evt) (l : List Evt) : looseE e l = (decide (e.op = 90) && decide (e.flt = 0) && !calledE e l) := by cases l <;> rfl
theorem hasI_call (x : Int) : hasI [241, 242, 244, 250] x = callOp x := by
 simp only [hasI, callOp, List.any_cons, List.any_nil, Bool.or_false, Bool.or_assoc]
theorem hasI_one (y x : Int) : hasI [y] x = decide (x = y) := by
 simp only [hasI, List.any_cons, List.any_nil, Bool.or_false]
set_option maxRecDepth 20000 in
theorem does_vc (xs : List Int) (a : Option Addr) (n cp : Nat) (hn : xs.length = n) (hc : n ≤ cp) (hM : n ≤ 1000000000) (ha : adr a n cp) {H : Nat → Obj → Prop} (r : List SV) (e : Evt) (hR : EvR H r e) (w : World) (hm : MemOk w [] [.ro a (.ints .u8 xs)] w) :
  Calls Tryd.prog 27 (cvs [.agg r, .sl 0 a 0 0 1 n cp]).toArray w (fun en w' => ∃ u, en = .returned u ∧ ∃ v' m', u = cv v' ∧ MemOk w [] m' w' ∧ v' = .bool (decide (e.flt = 0) && hasI xs e.op)) := by
 have t1 : (xs.drop 0).take n = xs := by rw [List.drop_zero, List.take_of_length_le (by omega)]
 obtain ⟨s0, s1, s2, s3, s4, s5, s6, s7, s8, s9, s10, s11, s12, s13, s14, s15, s16, s17, s18, s19, x0, x1, x2, x3, y0, y1, y2, y3, pa, pn, pc, rfl, g1, g2, g3, g4, g5, g6, g7, g8, g9, g10, g11, g12, g13, g14, g15, g16, g17⟩ := hR
 generalize h1 : decide (e.flt = 0) = b1
 cases b1
 case true =>
  refine Vc.calls T0_ok Tryd.func27 rfl rfl (args := [.agg [.int .u8 e.op, .int .i64 e.dep, .int .u8 s0, .int .u8 s1, .int .u8 s2, .int .u8 s3, .int .u8 s4, .int .u8 s5, .int .u8 s6, .int .u8 s7, .int .u8 s8, .int .u8 s9, .int .u8 s10, .int .u8 s11, .int .u8 s12, .int .u8 s13, .int .u8 s14, .int .u8 s15, .int .u8 s16, .int .u8 s17, .int .u8 s18, .int .u8 s19, .int .u64 x0, .int .u64 x1, .int .u64 x2, .int .u64 x3, .int .u64 y0, .int .u64 y1, .int .u64 y2, .int .u64 y3, .gh pa pn pc (.ints .u8 e.bs), .int .u16 e.flt], .sl 0 a 0 0 1 n cp]) (k := 12) rfl hm ?_; change Vc _ _ (c8 (.agg [.int .u8 e.op, .int .i64 e.dep, .int .u8 s0, .int .u8 s1, .int .u8 s2, .int .u8 s3, .int .u8 s4, .int .u8 s5, .int .u8 s6, .int .u8 s7, .int .u8 s8, .int .u8 s9, .int .u8 s10, .int .u8 s11, .int .u8 s12, .int .u8 s13, .int .u8 s14, .int .u8 s15, .int .u8 s16, .int .u8 s17, .int .u8 s18, .int .u8 s19, .int .u64 x0, .int .u64 x1, .int .u64 x2, .int .u64 x3, .int .u64 y0, .int .u64 y1, .int .u64 y2, .int .u64 y3, .gh pa pn pc (.ints .u8 e.bs), .int .u16 e.flt]) (.sl 0 a 0 0 1 n cp) .undef .undef .undef .undef .undef .undef ([.undef, .undef, .undef, .undef, .undef, .undef])) _ _
  ((repeat (first | (with_reducible refine Vc.seq fun N hN => ?_) | (with_reducible intro _) | ((with_reducible refine And.intro ?_ ?_); exact sX0) | ((first | ((with_reducible refine Vc.fin ?_); dsimp only [thenK, blockK, retK, resS, resOne, resAll]) | ((with_reducible refine Vc.hold ?_); first | refine Vc.regiont T0_ok GU2_ok ?_)); (try simp only [v8Y, Nat.beq, Nat.ble, seval, tabs, GU2_set, h1, t1])) | ((with_reducible refine hN _ _ ?_); clear hN N))); (try ((with_reducible refine Fin.of ?_); (try with_reducible exact True.intro))))
  exact ⟨trivial, rfl⟩
 ·refine Vc.calls T0_ok Tryd.func27 rfl rfl (args := [.agg [.int .u8 e.op, .int .i64 e.dep, .int .u8 s0, .int .u8 s1, .int .u8 s2, .int .u8 s3, .int .u8 s4, .int .u8 s5, .int .u8 s6, .int .u8 s7, .int .u8 s8, .int .u8 s9, .int .u8 s10, .int .u8 s11, .int .u8 s12, .int .u8 s13, .int .u8 s14, .int .u8 s15, .int .u8 s16, .int .u8 s17, .int .u8 s18, .int .u8 s19, .int .u64 x0, .int .u64 x1, .int .u64 x2, .int .u64 x3, .int .u64 y0, .int .u64 y1, .int .u64 y2, .int .u64 y3, .gh pa pn pc (.ints .u8 e.bs), .int .u16 e.flt], .sl 0 a 0 0 1 n cp]) (k := 12) rfl hm ?_; change Vc _ _ (c8 (.agg [.int .u8 e.op, .int .i64 e.dep, .int .u8 s0, .int .u8 s1, .int .u8 s2, .int .u8 s3, .int .u8 s4, .int .u8 s5, .int .u8 s6, .int .u8 s7, .int .u8 s8, .int .u8 s9, .int .u8 s10, .int .u8 s11, .int .u8 s12, .int .u8 s13, .int .u8 s14, .int .u8 s15, .int .u8 s16, .int .u8 s17, .int .u8 s18, .int .u8 s19, .int .u64 x0, .int .u64 x1, .int .u64 x2, .int .u64 x3, .int .u64 y0, .int .u64 y1, .int .u64 y2, .int .u64 y3, .gh pa pn pc (.ints .u8 e.bs), .int .u16 e.flt]) (.sl 0 a 0 0 1 n cp) .undef .undef .undef .undef .undef .undef ([.undef, .undef, .undef, .undef, .undef, .undef])) _ _
  ((repeat (first | (with_reducible refine Vc.seq fun N hN => ?_) | (with_reducible intro _) | ((with_reducible refine And.intro ?_ ?_); exact sX0) | ((first | ((with_reducible refine Vc.fin ?_); dsimp only [thenK, blockK, retK, resS, resOne, resAll]) | ((with_reducible refine Vc.hold ?_); first | refine Vc.regiont T0_ok GU2_ok ?_)); (try simp only [v8Y, Nat.beq, Nat.ble, seval, tabs, GU2_set, h1, t1])) | ((with_reducible refine hN _ _ ?_); clear hN N))); (try ((with_reducible refine Fin.of ?_); (try with_reducible exact True.intro))))
  exact ⟨trivial, rfl⟩
noncomputable def g_does (args : List SV) (m : List Blk) : CR :=
 match args with
 | [.agg r, x] => match srcC x m with
  | some (q, k, .ints .u8 xs) => .pure (q ∧ k ≤ 1000000000 ∧ ∃ e, EvR (HM m) r e) (.bool (decide ((evtOf r).flt = 0) && hasI xs (evtOf r).op))
  | _ => .none
 | _ => .none
theorem g_does_ok (w0 : World) (B : List Nat) (args : List SV) (m : List Blk) : CROk Tryd.prog w0 B 27 args m (g_does args m) := by
 unfold g_does
 split
 ·rename_i r x
  split
  ·rename_i q k xs hs
   intro ⟨hq, hk, ev, hR⟩ w hm
   obtain ⟨h1, a, cp, h2, h3, h4, h5⟩ := src_ro hs hq hm
   have hl : xs.length = k := by simpa [cc, conEs] using h1
   have e : cvs [.agg r, x] = cvs [.agg r, .sl 0 a 0 0 1 k cp] := by simp only [cvs]; rw [h2]; rfl
   rw [e, evtOf_eq hR]
   exact calls_pure Tryd.func27 rfl rfl (does_vc xs a k cp hl h3 hk h5 r ev hR w h4)
  ·exact trivial
 ·exact trivial
noncomputable def GU3 : Ctr := fun f args m => match f with
 | 52 => g_index args m
 | 35 => g_contains args m
 | 55 => g_byEqual args m
 | 27 => g_does args m
 | 40 => g_hasPre args m
 | _ => .none
theorem GU3_ok : GOk Tryd.prog GU3 := by
 intro w0 B f args m; unfold GU3; split
 ·exact g_index_ok _ _ _ _
 ·exact g_contains_ok _ _ _ _
 ·exact g_byEqual_ok _ _ _ _
 ·exact g_does_ok _ _ _ _
 ·exact g_hasPre_ok _ _ _ _
 ·exact trivial
theorem GU3_index : GU3 52 = g_index := by funext args m; rfl
theorem GU3_contains : GU3 35 = g_contains := by funext args m; rfl
theorem GU3_byEqual : GU3 55 = g_byEqual := by funext args m; rfl
theorem GU3_does : GU3 27 = g_does := by funext args m; rfl
theorem GU3_hasPre : GU3 40 = g_hasPre := by funext args m; rfl
def GU3_set := And.intro (And.intro (And.intro (@GU3_index) (@g_index.eq_def)) (And.intro (@GU3_contains) (And.intro (@g_contains.eq_def) (@GU3_byEqual)))) (And.intro (And.intro (@g_byEqual.eq_def) (@GU3_does)) (And.intro (@g_does.eq_def) (And.intro (@GU3_hasPre) (@g_hasPre.eq_def))))

set_option maxRecDepth 20000 in
theorem called_vc (r : List SV) (e : Evt) (a : Option Addr) (n c : Nat) (rs : List (List SV)) (l : List Evt) (w : World) (hR : EvR (H0 w) r e) (hE : EvL (H0 w) a n c rs l) (hM : n ≤ 1000000) :
  Calls Tryd.prog 28 (cvs [.agg r, .gh a n c (.rows 32 rs)]).toArray w (fun en w' => ∃ u, en = .returned u ∧ ∃ v' m', u = cv v' ∧ MemOk w [] m' w' ∧ v' = .bool (calledE e l)) := by
 obtain ⟨hl, hn, ha, hm, hL, r1, r2, r3⟩ := hE
 unfold maxLen at hm
 have hLx : ∀ m, allOld w ∈ m → LiesH (HM m) a (cc (.rows 32 rs)) := fun m hin => hL.mono (H0.hm hin)
 obtain ⟨s0, s1, s2, s3, s4, s5, s6, s7, s8, s9, s10, s11, s12, s13, s14, s15, s16, s17, s18, s19, x0, x1, x2, x3, y0, y1, y2, y3, pa, pn, pc, rfl, g1, g2, g3, g4, g5, g6, g7, g8, g9, g10, g11, g12, g13, g14, g15, g16, g17⟩ := hR
 by_cases hc1 : n = 0
 ·subst hc1
  have hl0 : l = [] := List.eq_nil_of_length_eq_zero hl
  subst hl0
  have d1 : decide (((0 : Nat) : Int) = 0) = true := rfl
  refine Vc.calls T0_ok Tryd.func28 rfl rfl (args := [.agg [.int .u8 e.op, .int .i64 e.dep, .int .u8 s0, .int .u8 s1, .int .u8 s2, .int .u8 s3, .int .u8 s4, .int .u8 s5, .int .u8 s6, .int .u8 s7, .int .u8 s8, .int .u8 s9, .int .u8 s10, .int .u8 s11, .int .u8 s12, .int .u8 s13, .int .u8 s14, .int .u8 s15, .int .u8 s16, .int .u8 s17, .int .u8 s18, .int .u8 s19, .int .u64 x0, .int .u64 x1, .int .u64 x2, .int .u64 x3, .int .u64 y0, .int .u64 y1, .int .u64 y2, .int .u64 y3, .gh pa pn pc (.ints .u8 e.bs), .int .u16 e.flt], .gh a 0 c (.rows 32 rs)]) (k := 27) rfl (old_start w) ?_; change Vc _ _ (c8 (.agg [.int .u8 e.op, .int .i64 e.dep, .int .u8 s0, .int .u8 s1, .int .u8 s2, .int .u8 s3, .int .u8 s4, .int .u8 s5, .int .u8 s6, .int .u8 s7, .int .u8 s8, .int .u8 s9, .int .u8 s10, .int .u8 s11, .int .u8 s12, .int .u8 s13, .int .u8 s14, .int .u8 s15, .int .u8 s16, .int .u8 s17, .int .u8 s18, .int .u8 s19, .int .u64 x0, .int .u64 x1, .int .u64 x2, .int .u64 x3, .int .u64 y0, .int .u64 y1, .int .u64 y2, .int .u64 y3, .gh pa pn pc (.ints .u8 e.bs), .int .u16 e.flt]) (.gh a 0 c (.rows 32 rs)) .undef .undef .undef .undef .undef .undef (c8 .undef .undef .undef .undef .undef .undef .undef .undef (c8 .undef .undef .undef .undef .undef .undef .undef .undef ([.undef, .undef, .undef, .undef, .undef])))) _ _
  ((repeat (first | (with_reducible refine Vc.seq fun N hN => ?_) | (with_reducible intro _) | ((with_reducible refine And.intro ?_ ?_); exact sX16) | ((first | ((with_reducible refine Vc.fin ?_); dsimp only [thenK, blockK, retK, resS, resOne, resAll]) | ((with_reducible refine Vc.hold ?_); first | refine Vc.regiont T0_ok GU3_ok ?_)); (try simp only [v8Y, Nat.beq, Nat.ble, seval, tabs, GU3_set, d1])) | ((with_reducible refine hN _ _ ?_); clear hN N))); (try ((with_reducible refine Fin.of ?_); (try with_reducible exact True.intro))))
  (refine Vc.cond T0_ok (t := true) (by rfl) (fun _ => ?_) (fun h => Bool.noConfusion h))
  ((repeat (first | (with_reducible refine Vc.seq fun N hN => ?_) | (with_reducible intro _) | ((with_reducible refine And.intro ?_ ?_); exact sX16) | ((first | ((with_reducible refine Vc.fin ?_); dsimp only [thenK, blockK, retK, resS, resOne, resAll]) | ((with_reducible refine Vc.hold ?_); first | refine Vc.regiont T0_ok GU3_ok ?_)); (try simp only [v8Y, Nat.beq, Nat.ble, seval, tabs, GU3_set, d1])) | ((with_reducible refine hN _ _ ?_); clear hN N))); (try ((with_reducible refine Fin.of ?_); (try with_reducible exact True.intro))))
  exact ⟨trivial, rfl⟩
 ·have d1 : decide ((n : Int) = 0) = false := decide_eq_false (by omega)
  have e3 := List.getElem?_eq_getElem (show 0 < rs.length by omega)
  have e4 := List.getElem?_eq_getElem (show 0 < l.length by omega)
  have hp' := r3 0 _ _ e3 e4
  have hgd' := getD_of e3
  have hdr : l = l[0] :: l.drop (0 + 1) := by have := List.drop_eq_getElem_cons (show 0 < l.length by omega); rwa [List.drop_zero] at this
  have hev := evtOf_eq hp'
  have hRn : ∀ m, allOld w ∈ m → EvR (HM m) rs[0] l[0] := fun m hin => hp'.mono (H0.hm hin)
  have tk : (0 : Int).toNat = 0 := rfl
  rw [hdr]
  generalize rs[0] = r' at *
  generalize l[0] = e' at *
  obtain ⟨t0, t1, t2, t3, t4, t5, t6, t7, t8, t9, t10, t11, t12, t13, t14, t15, t16, t17, t18, t19, u0, u1, u2, u3, v0, v1, v2, v3, qa, qn, qc, rfl, f1, f2, f3, f4, f5, f6, f7, f8, f9, f10, f11, f12, f13, f14, f15, f16, f17⟩ := hp'
  have hcal : calledE e (e' :: l.drop (0 + 1)) = (callOp e'.op && decide (e'.flt = 0) && decide (e'.dep = e.dep) && decide (e'.self = e.self)) := rfl
  rw [hcal, f1, g1]
  generalize h3 : callOp e'.op = b3
  generalize h4 : decide (e'.flt = 0) = b4
  generalize h5 : decide (e'.dep = e.dep) = b5
  generalize h6 : decide ([t0, t1, t2, t3, t4, t5, t6, t7, t8, t9, t10, t11, t12, t13, t14, t15, t16, t17, t18, t19] = [s0, s1, s2, s3, s4, s5, s6, s7, s8, s9, s10, s11, s12, s13, s14, s15, s16, s17, s18, s19]) = b6
  have h3' : hasI [241, 242, 244, 250] e'.op = b3 := by rw [hasI_call]; exact h3
  cases b3
  all_goals cases b4
  all_goals cases b5
  all_goals
   refine Vc.calls T0_ok Tryd.func28 rfl rfl (args := [.agg [.int .u8 e.op, .int .i64 e.dep, .int .u8 s0, .int .u8 s1, .int .u8 s2, .int .u8 s3, .int .u8 s4, .int .u8 s5, .int .u8 s6, .int .u8 s7, .int .u8 s8, .int .u8 s9, .int .u8 s10, .int .u8 s11, .int .u8 s12, .int .u8 s13, .int .u8 s14, .int .u8 s15, .int .u8 s16, .int .u8 s17, .int .u8 s18, .int .u8 s19, .int .u64 x0, .int .u64 x1, .int .u64 x2, .int .u64 x3, .int .u64 y0, .int .u64 y1, .int .u64 y2, .int .u64 y3, .gh pa pn pc (.ints .u8 e.bs), .int .u16 e.flt], .gh a n c (.rows 32 rs)]) (k := 27) rfl (old_start w) ?_; change Vc _ _ (c8 (.agg [.int .u8 e.op, .int .i64 e.dep, .int .u8 s0, .int .u8 s1, .int .u8 s2, .int .u8 s3, .int .u8 s4, .int .u8 s5, .int .u8 s6, .int .u8 s7, .int .u8 s8, .int .u8 s9, .int .u8 s10, .int .u8 s11, .int .u8 s12, .int .u8 s13, .int .u8 s14, .int .u8 s15, .int .u8 s16, .int .u8 s17, .int .u8 s18, .int .u8 s19, .int .u64 x0, .int .u64 x1, .int .u64 x2, .int .u64 x3, .int .u64 y0, .int .u64 y1, .int .u64 y2, .int .u64 y3, .gh pa pn pc (.ints .u8 e.bs), .int .u16 e.flt]) (.gh a n c (.rows 32 rs)) .undef .undef .undef .undef .undef .undef (c8 .undef .undef .undef .undef .undef .undef .undef .undef (c8 .undef .undef .undef .undef .undef .undef .undef .undef ([.undef, .undef, .undef, .undef, .undef])))) _ _
   ((repeat (first | (with_reducible refine Vc.seq fun N hN => ?_) | (with_reducible intro _) | ((with_reducible refine And.intro ?_ ?_); exact sX16) | ((first | ((with_reducible refine Vc.hold ?_); first | refine Vc.regiont T0_ok GU3_ok ?_)); (try simp only [v8Y, Nat.beq, Nat.ble, seval, tabs, GU3_set, d1])) | ((with_reducible refine hN _ _ ?_); clear hN N))))
   (refine Vc.cond T0_ok (t := false) (by rfl) (fun h => Bool.noConfusion h) (fun _ => ?_))
   ((repeat (first | (with_reducible refine Vc.seq fun N hN => ?_) | ((first | with_reducible refine Vc.skip ?_); dsimp only [thenK, blockK, Nat.beq]; (first | (refine hN _ _ ?_; clear hN N))) | (with_reducible intro _) | ((with_reducible refine And.intro ?_ ?_); exact sX16) | ((first | ((with_reducible refine Vc.fin ?_); dsimp only [thenK, blockK, retK, resS, resOne, resAll]) | ((with_reducible refine Vc.hold ?_); first | refine Vc.regiont T0_ok GU3_ok ?_)); (try simp only [v8Y, Nat.beq, Nat.ble, seval, tabs, GU3_set, tk, hgd', hev, h3', h4, h5, h6, List.drop_zero, List.take_succ_cons, List.take_zero, Bool.and_false, Bool.false_and, Bool.and_true, Bool.true_and])) | ((with_reducible refine hN _ _ ?_); clear hN N))); (try ((with_reducible refine Fin.of ?_); (try with_reducible exact True.intro))))
   exact ⟨trivial, by first | exact trivial | rfl | (cases b6 <;> rfl)⟩
noncomputable def g_called (args : List SV) (m : List Blk) : CR :=
 match args with
 | [.agg r, .gh a n c (.rows 32 rs)] => .pure ((∃ e, EvR (HM m) r e) ∧ (∃ l, EvL (HM m) a n c rs l) ∧ n ≤ 1000000) (.bool (calledE (evtOf r) (evOf rs)))
 | _ => .none
theorem g_called_ok (w0 : World) (B : List Nat) (args : List SV) (m : List Blk) : CROk Tryd.prog w0 B 28 args m (g_called args m) := by
 unfold g_called
 split
 ·rename_i r a n c rs
  intro ⟨⟨e, hR⟩, ⟨l, hE⟩, h1⟩ w hm
  rw [evOf_eq hE.rows, evtOf_eq hR]
  exact calls_pure Tryd.func28 rfl rfl (called_vc r e a n c rs l w (hR.mono fun b o h => hm.hm h) (hE.mono fun b o h => hm.hm h) h1)
 ·exact trivial
noncomputable def GU4 : Ctr := fun f args m => match f with
 | 52 => g_index args m
 | 35 => g_contains args m
 | 55 => g_byEqual args m
 | 27 => g_does args m
 | 40 => g_hasPre args m
 | 28 => g_called args m
 | _ => .none
theorem GU4_ok : GOk Tryd.prog GU4 := by
 intro w0 B f args m; unfold GU4; split
 ·exact g_index_ok _ _ _ _
 ·exact g_contains_ok _ _ _ _
 ·exact g_byEqual_ok _ _ _ _
 ·exact g_does_ok _ _ _ _
 ·exact g_hasPre_ok _ _ _ _
 ·exact g_called_ok _ _ _ _
 ·exact trivial
theorem GU4_index : GU4 52 = g_index := by funext args m; rfl
theorem GU4_contains : GU4 35 = g_contains := by funext args m; rfl
theorem GU4_byEqual : GU4 55 = g_byEqual := by funext args m; rfl
theorem GU4_does : GU4 27 = g_does := by funext args m; rfl
theorem GU4_hasPre : GU4 40 = g_hasPre := by funext args m; rfl
theorem GU4_called : GU4 28 = g_called := by funext args m; rfl
def GU4_set := And.intro (And.intro (And.intro (@GU4_index) (And.intro (@g_index.eq_def) (@GU4_contains))) (And.intro (@g_contains.eq_def) (And.intro (@GU4_byEqual) (@g_byEqual.eq_def)))) (And.intro (And.intro (@GU4_does) (And.intro (@g_does.eq_def) (@GU4_hasPre))) (And.intro (@g_hasPre.eq_def) (And.intro (@GU4_called) (@g_called.eq_def))))

end Go.Proofs.YtoadeekdgikghaaDoor
