/-
 Package rules: broken, walked. No condition.
-/
import Derived.Test.YtoadeekdgikghaaDoorJ9
set_option maxRecDepth 20000
set_option maxHeartbeats 4000000
set_option linter.defProp false
set_option linter.unusedVariables false
set_option linter.unusedSimpArgs false
namespace Go.Proofs.YtoadeekdgikghaaDoor
open Go.RowKit
theorem Vc.nilownJ {P : Program} {c : Code} {env : List SV} {m : List Blk} {K : Kont} (i : Nat) (t : TypeId) (es : Nat) (h0 : sget env i = .nilsl)
  (h : Vc P c (sset env i (.own (blen m) (.slice none 0 0) 0)) (bpush m (.own (.slice none 0 0) 0 t es (.rows es []))) K) : Vc P c env m K := by
 intro w0 B a w hf hd hm
 refine h w0 B a w (by unfold Fr at *; rw [cvs_sset_same env i (by rw [h0]; rfl)]; exact hf) hd ?_
 rw [bpush_eq]
 refine hm.push (grown_refl w) ⟨⟨by simp [cc], .inl ⟨rfl, rfl⟩⟩, fun b hb => by simp [Value.ownBlock] at hb⟩ (fun b hb => ?_)
 simp [Blk.nums, Value.ownBlock] at hb
theorem rows3 (E : JE) : ∀ l : List Int, rowsOk 3 (l.map (rowV E)) = true
 | [] => rfl
 | v :: l => by
  have := rows3 E l
  simp only [List.map_cons, rowsOk, this]; rfl
noncomputable def GJD (E : JE) : Ctr := fun f args m => match f with
 | 20 => g_LooseG args m
 | 21 => g_StarvedG args m
 | 22 => g_maker args m
 | 23 => g_owner args m
 | 24 => g_vio E args m
 | _ => .none
theorem GJD_mk {E : JE} : GOk Tryd.prog (GJD E) := by
 intro w0 B f args m; unfold GJD; split
 ·exact g_LooseG_ok _ _ _ _
 ·exact g_StarvedG_ok _ _ _ _
 ·exact g_maker_ok _ _ _ _
 ·exact g_owner_ok _ _ _ _
 ·exact g_vio_ok E _ _ _ _
 ·exact trivial
theorem GJD_LooseG {E : JE} : GJD E 20 = g_LooseG := by funext args m; rfl
theorem GJD_StarvedG {E : JE} : GJD E 21 = g_StarvedG := by funext args m; rfl
theorem GJD_maker {E : JE} : GJD E 22 = g_maker := by funext args m; rfl
theorem GJD_owner {E : JE} : GJD E 23 = g_owner := by funext args m; rfl
theorem GJD_vio {E : JE} : GJD E 24 = g_vio E := by funext args m; rfl
def GJD_set := And.intro (And.intro (And.intro (@GJD_LooseG) (@g_LooseG.eq_def)) (And.intro (@GJD_StarvedG) (And.intro (@g_StarvedG.eq_def) (@GJD_maker)))) (And.intro (And.intro (@g_maker.eq_def) (@GJD_owner)) (And.intro (@g_owner.eq_def) (And.intro (@GJD_vio) (@g_vio.eq_def))))

set_option maxRecDepth 20000 in
theorem brk_vc (E0 : JE) (b wp : Nat) (wc ol : List SV) (y0 y1 y2 y3 : SV) (la : Option Addr) (n c : Nat) (rs : List (List SV)) (l : List Evt) (w : World) (hmm : MemOk w [b] [.blk b 77 (.cells (mkP (.gp (some ⟨wp, 0, none⟩) (.cells wc) 0 0 0) ol (E0.role : Nat) (E0.stk 0) (E0.stk 1) (E0.stk 2) (E0.stk 3) y0 y1 y2 y3)), oldBut w b] w)
  (hE : EvL (HBut w b) la n c rs l) (hM : n ≤ 1000000) (hO : OpR (HBut w b) ol E0.x) (hW : WdH (HBut w b) E0.acc wp wc) (hrl : E0.role = 1 ∨ E0.role = 2 ∨ E0.role = 3) (k0 : LiesH (HBut w b) (some ⟨0, 0, none⟩) (cc (.ints .u64 kKeys))) (k1 : LiesH (HBut w b) (some ⟨1, 0, none⟩) (cc (.ints .u8 kPathI))) :
  Calls Tryd.prog 15 (cvs [.ptr 0 b 0 0 0 0, .gh la n c (.rows 32 rs)]).toArray w (fun en w' => ∃ u, en = .returned u ∧ ∃ v' m', u = cv v' ∧ MemOk w [b] m' w' ∧ ∃ i s t3 con, v' = .own i s (brkR E0 l n).length ∧ bget m' i = .own s (brkR E0 l n).length 41 3 (.rows 3 (brkR E0 l n)) ∧ bget m' 0 = .blk b t3 con) := by
 have GJD_ok := GJD_mk (E := E0)
 have h8 := hO.len
 have hev := evOf_eq hE.rows
 have hEx : ∀ m, oldBut w b ∈ m → EvL (HM m) la n c rs l := fun m hin => hE.mono (HBut.hm hin)
 have hEf := evsR_filter hE.rows
 have hfl : (rs.filter hashR).length ≤ n := by have := List.length_filter_le hashR rs; have := hE.len; have := hE.rows.1; omega
 have q0 : ∀ u0 u1 u2 u3 x, splice (mkP (.gp (some ⟨wp, 0, none⟩) (.cells wc) 0 0 0) ol (E0.role : Nat) (E0.stk 0) (E0.stk 1) (E0.stk 2) (E0.stk 3) u0 u1 u2 u3) 89 [x] = some (mkP (.gp (some ⟨wp, 0, none⟩) (.cells wc) 0 0 0) ol (E0.role : Nat) (E0.stk 0) (E0.stk 1) (E0.stk 2) (E0.stk 3) x u1 u2 u3) := fun u0 u1 u2 u3 x => mkP_s0 h8
 have q1 : ∀ u0 u1 u2 u3 x, splice (mkP (.gp (some ⟨wp, 0, none⟩) (.cells wc) 0 0 0) ol (E0.role : Nat) (E0.stk 0) (E0.stk 1) (E0.stk 2) (E0.stk 3) u0 u1 u2 u3) 90 [x] = some (mkP (.gp (some ⟨wp, 0, none⟩) (.cells wc) 0 0 0) ol (E0.role : Nat) (E0.stk 0) (E0.stk 1) (E0.stk 2) (E0.stk 3) u0 x u2 u3) := fun u0 u1 u2 u3 x => mkP_s1 h8
 have q2 : ∀ u0 u1 u2 u3 x, splice (mkP (.gp (some ⟨wp, 0, none⟩) (.cells wc) 0 0 0) ol (E0.role : Nat) (E0.stk 0) (E0.stk 1) (E0.stk 2) (E0.stk 3) u0 u1 u2 u3) 91 [x] = some (mkP (.gp (some ⟨wp, 0, none⟩) (.cells wc) 0 0 0) ol (E0.role : Nat) (E0.stk 0) (E0.stk 1) (E0.stk 2) (E0.stk 3) u0 u1 x u3) := fun u0 u1 u2 u3 x => mkP_s2 h8
 have q3 : ∀ u0 u1 u2 u3 x, splice (mkP (.gp (some ⟨wp, 0, none⟩) (.cells wc) 0 0 0) ol (E0.role : Nat) (E0.stk 0) (E0.stk 1) (E0.stk 2) (E0.stk 3) u0 u1 u2 u3) 92 [x] = some (mkP (.gp (some ⟨wp, 0, none⟩) (.cells wc) 0 0 0) ol (E0.role : Nat) (E0.stk 0) (E0.stk 1) (E0.stk 2) (E0.stk 3) u0 u1 u2 x) := fun u0 u1 u2 u3 x => mkP_s3 h8
 have q4 : ∀ u0 u1 u2 u3, nth? (mkP (.gp (some ⟨wp, 0, none⟩) (.cells wc) 0 0 0) ol (E0.role : Nat) (E0.stk 0) (E0.stk 1) (E0.stk 2) (E0.stk 3) u0 u1 u2 u3) 84 = some (.int .u8 (E0.role : Nat)) := fun u0 u1 u2 u3 => mkP_hi h8 0
 have q5 : ∀ u0 u1 u2 u3, rolP (mkP (.gp (some ⟨wp, 0, none⟩) (.cells wc) 0 0 0) ol (E0.role : Nat) (E0.stk 0) (E0.stk 1) (E0.stk 2) (E0.stk 3) u0 u1 u2 u3) = ((E0.role : Nat) : Int) := fun u0 u1 u2 u3 => by unfold rolP; rw [q4]
 refine Vc.calls T0_ok Tryd.func15 rfl rfl (args := [.ptr 0 b 0 0 0 0, .gh la n c (.rows 32 rs)]) (k := 59) rfl hmm ?_; change Vc _ _ (c8 (.ptr 0 b 0 0 0 0) (.gh la n c (.rows 32 rs)) .undef .undef .undef .undef .undef .undef (c8 .undef .undef .undef .undef .undef .undef .undef .undef (c8 .undef .undef .undef .undef .undef .undef .undef .undef (c8 .undef .undef .undef .undef .undef .undef .undef .undef (c8 .undef .undef .undef .undef .undef .undef .undef .undef (c8 .undef .undef .undef .undef .undef .undef .undef .undef (c8 .undef .undef .undef .undef .undef .undef .undef .undef ([.undef, .undef, .undef, .undef, .undef])))))))) _ _
 ((with_reducible refine Vc.seq fun N hN => ?_); (refine Vc.regiont T0_ok GJD_ok ?_); simp only [v8Y, Nat.beq, Nat.ble, seval, tabs, GJD_set]; (try simp (disch := omega) only [v8W]); (repeat (first | ((with_reducible refine And.intro ?_ ?_); exact sX18))); (first | (refine hN _ _ ?_; clear hN N; (try simp (disch := omega) only [v8W])) | skip))
 ((with_reducible refine Vc.seq fun N hN => ?_); (refine Vc.regiont T0_ok GJD_ok ?_); simp only [v8Y, Nat.beq, Nat.ble, seval, tabs, GJD_set, hev, q0, q1]; (try simp (disch := omega) only [v8W]); (repeat (first | with_reducible intro _ | ((with_reducible refine And.intro ?_ ?_); exact sX18))); (first | (refine hN _ _ ?_; clear hN N; (try simp (disch := omega) only [v8W])) | skip))
 rename_i z1 hz1 z2 hz2
 ((with_reducible refine Vc.seq fun N hN => ?_); (refine Vc.regiont T0_ok GJD_ok ?_); simp only [v8Y, Nat.beq, Nat.ble, seval, tabs, GJD_set, hev, q2, q3, q4, q5]; (try simp (disch := omega) only [v8W]); (repeat (first | with_reducible intro _ | ((with_reducible refine And.intro ?_ ?_); (focus (first | ((repeat' with_reducible apply And.intro) <;> first | exact sideQ | (exact ⟨_, hEx _ (by simp)⟩)) | exact sd0))))); (first | (refine hN _ _ ?_; clear hN N; (try simp (disch := omega) only [v8W])) | skip))
 rename_i z3 hz3
 have hPl : ∀ m, Blk.blk b 77 (.cells (mkP (.gp (some ⟨wp, 0, none⟩) (.cells wc) 0 0 0) ol (E0.role : Nat) (E0.stk 0) (E0.stk 1) (E0.stk 2) (E0.stk 3) (.gh z1.a (evSel looseE 0 l).length z1.c (.ints .i64 (evSel looseE 0 l))) (.gh z2.a (evSel starvedE 0 l).length z2.c (.ints .i64 (evSel starvedE 0 l))) (.int .i64 (mkIx (E0.role : Nat) l)) (.fn (.func 32) [] [.gp (some ⟨z3.b, 0, none⟩) (.cells [.gh z3.a (rs.filter hashR).length z3.c (.rows 32 (rs.filter hashR))]) 0 0 0]))) ∈ m → LiesH (HM m) (some ⟨b, 0, none⟩) (cc (.cells (mkP (.gp (some ⟨wp, 0, none⟩) (.cells wc) 0 0 0) ol (E0.role : Nat) (E0.stk 0) (E0.stk 1) (E0.stk 2) (E0.stk 3) (.gh z1.a (evSel looseE 0 l).length z1.c (.ints .i64 (evSel looseE 0 l))) (.gh z2.a (evSel starvedE 0 l).length z2.c (.ints .i64 (evSel starvedE 0 l))) (.int .i64 (mkIx (E0.role : Nat) l)) (.fn (.func 32) [] [.gp (some ⟨z3.b, 0, none⟩) (.cells [.gh z3.a (rs.filter hashR).length z3.c (.rows 32 (rs.filter hashR))]) 0 0 0])))) := fun m hin => .inr ⟨b, 0, _, _, _, rfl, ⟨_, hin, rfl, rfl⟩, fun j u hj => by rw [Nat.zero_add, List.getElem?_toArray, ← hj]⟩
 have hStk0 : ∀ (k : Nat) (r : List SV), EvR (HBut w b) r (l.getD k default) → ∀ m, Blk.blk b 77 (.cells (mkP (.gp (some ⟨wp, 0, none⟩) (.cells wc) 0 0 0) ol (E0.role : Nat) (E0.stk 0) (E0.stk 1) (E0.stk 2) (E0.stk 3) (.gh z1.a (evSel looseE 0 l).length z1.c (.ints .i64 (evSel looseE 0 l))) (.gh z2.a (evSel starvedE 0 l).length z2.c (.ints .i64 (evSel starvedE 0 l))) (.int .i64 (mkIx (E0.role : Nat) l)) (.fn (.func 32) [] [.gp (some ⟨z3.b, 0, none⟩) (.cells [.gh z3.a (rs.filter hashR).length z3.c (.rows 32 (rs.filter hashR))]) 0 0 0]))) ∈ m → oldBut w b ∈ m → Blk.heap z1.h ∈ m → Blk.heap z2.h ∈ m → Blk.heap z3.h ∈ m → StOk (stepE E0 l k) (HM m) (r ++ [.gp (some ⟨b, 0, none⟩) (.cells (mkP (.gp (some ⟨wp, 0, none⟩) (.cells wc) 0 0 0) ol (E0.role : Nat) (E0.stk 0) (E0.stk 1) (E0.stk 2) (E0.stk 3) (.gh z1.a (evSel looseE 0 l).length z1.c (.ints .i64 (evSel looseE 0 l))) (.gh z2.a (evSel starvedE 0 l).length z2.c (.ints .i64 (evSel starvedE 0 l))) (.int .i64 (mkIx (E0.role : Nat) l)) (.fn (.func 32) [] [.gp (some ⟨z3.b, 0, none⟩) (.cells [.gh z3.a (rs.filter hashR).length z3.c (.rows 32 (rs.filter hashR))]) 0 0 0]))) 0 0 0, .int .i64 ((k : Nat) : Int)]) := fun k r hr m m0 m1 m2 m3 m4 =>
  st_ok (E := stepE E0 l k) (hr.mono (HBut.hm m1)) (mkP_ok (E := stepE E0 l k) rfl (hPl m m0) (hO.mono (HBut.hm m1)) (hW.mono (HBut.hm m1)) hrl (hz1.2.mono (Hl.hm m2 fun p hp => hp)) (hz2.2.mono (Hl.hm m3 fun p hp => hp)) (hz3.box.mono (Hl.hm m4 fun p hp => hp))
   ⟨hEf.1.symm, hz3.le, hz3.adr, hz3.max, hz3.lies.mono (Hl.hm m4 fun p hp => hp), hEf.mono (HBut.hm m1)⟩ (by omega)) (k0.mono (HBut.hm m1)) (k1.mono (HBut.hm m1))
 obtain ⟨hl, hn, ha, hm, hL, r1, r2, r3⟩ := hE
 have hLx : ∀ m, oldBut w b ∈ m → LiesH (HM m) la (cc (.rows 32 rs)) := fun m hin => hL.mono (HBut.hm hin)
 obtain ⟨P, hP⟩ : ∃ P, P = mkP (.gp (some ⟨wp, 0, none⟩) (.cells wc) 0 0 0) ol (E0.role : Nat) (E0.stk 0) (E0.stk 1) (E0.stk 2) (E0.stk 3) (.gh z1.a (evSel looseE 0 l).length z1.c (.ints .i64 (evSel looseE 0 l))) (.gh z2.a (evSel starvedE 0 l).length z2.c (.ints .i64 (evSel starvedE 0 l))) (.int .i64 (mkIx (E0.role : Nat) l)) (.fn (.func 32) [] [.gp (some ⟨z3.b, 0, none⟩) (.cells [.gh z3.a (rs.filter hashR).length z3.c (.rows 32 (rs.filter hashR))]) 0 0 0]) := ⟨_, rfl⟩
 have q6 : nth? P 84 = some (.int .u8 (E0.role : Nat)) := by rw [hP]; exact q4 _ _ _ _
 simp only [← hP] at hPl hStk0 ⊢
 clear q0 q1 q2 q3 q4 q5
 ((repeat (first | (with_reducible first | refine Vc.seq fun N hN => ?_ | refine Vc.block ?_) | ((with_reducible refine And.intro ?_ ?_); exact sX18) | ((first | ((with_reducible refine Vc.hold ?_); first | refine Vc.regiont T0_ok GJD_ok ?_)); (try simp only [v8Y, Nat.beq, Nat.ble, seval, tabs, GJD_set, ])) | ((with_reducible refine hN _ _ ?_); clear hN N))))
 (revert N; intro N1 hN1)
 refine Vc.nameS 0 (.gp (some ⟨b, 0, none⟩) (.cells P) 0 0 0) rfl ?_
 refine Vc.nilownJ 5 41 3 rfl ?_
 (simp only [v8Y, Nat.beq, Nat.ble, seval, tabs])
 refine Vc.loop 5 61 (fun (x : Nat × Value) => [(5, .own 5 x.2 (brkR E0 l x.1).length), (31, .gh la n c (.rows 32 rs)), (32, .int .i64 (n : Nat)), (33, .int .i64 (x.1 : Nat))]) (fun x => [.blk b 77 (.cells P), oldBut w b, .heap z1.h, .heap z2.h, .heap z3.h, .own x.2 (brkR E0 l x.1).length 41 3 (.rows 3 (brkR E0 l x.1))]) (fun x => x.1 ≤ n) (fun x => n - x.1) (0, .slice none 0 0) ⟨Nat.zero_le _, ?_, ?_⟩ (fun x junk hx => ?_)
 ·((try simp only [v8Y, Nat.beq, Nat.ble, seval, tabs]); (repeat' with_reducible apply And.intro) <;> first | with_reducible exact True.intro | rfl | with_reducible rfl | (congr 1 <;> omega) | trivial)
 ·((try simp only [v8Y, Nat.beq, Nat.ble, seval, tabs]); (repeat' with_reducible apply And.intro) <;> first | with_reducible exact True.intro | rfl | with_reducible rfl | (congr 1 <;> omega) | trivial)
 ·obtain ⟨k, v⟩ := x
  dsimp only at hx ⊢
  (simp only [v8Y, Nat.beq, Nat.ble, seval, tabs])
  by_cases hc1 : k < n
  ·have d1 : decide ((k : Int) < (n : Int)) = true := decide_eq_true (by omega)
   have tk : ((k : Nat) : Int).toNat = k := by omega
   have e1 := List.getElem?_eq_getElem (show k < rs.length by omega)
   have e2 := List.getElem?_eq_getElem (show k < l.length by omega)
   have hp := r3 k _ _ e1 e2
   have hgd := getD_of e1
   have hld : l.getD k default = l[k] := by rw [List.getD_eq_getElem?_getD, e2]; rfl
   have hStk := hStk0 k rs[k] (by rw [hld]; exact hp)
   have hkr : k < rs.length := by omega
   generalize rs[k] = r at *
   generalize l[k] = e at *
   obtain ⟨f1, f2, f3, f4, f5⟩ := evr_facts hp
   have hsp : ∀ a0 a1 a2 a3 a4 a5 a6 a7 a8 a9 a10 a11 a12 a13 a14 a15 a16 a17 a18 a19 a20 a21 a22 a23 a24 a25 a26 a27 a28 a29 a30 a31 : SV, splice [a0, a1, a2, a3, a4, a5, a6, a7, a8, a9, a10, a11, a12, a13, a14, a15, a16, a17, a18, a19, a20, a21, a22, a23, a24, a25, a26, a27, a28, a29, a30, a31] 0 r = some r := fun a0 a1 a2 a3 a4 a5 a6 a7 a8 a9 a10 a11 a12 a13 a14 a15 a16 a17 a18 a19 a20 a21 a22 a23 a24 a25 a26 a27 a28 a29 a30 a31 => splice_all (by rw [f1]; rfl)
   have hs1 : ∀ a0 a1 a2 a3 a4 a5 a6 a7 a8 a9 a10 a11 a12 a13 a14 a15 a16 a17 a18 a19 a20 a21 a22 a23 a24 a25 a26 a27 a28 a29 a30 a31 a32 a33 : SV, splice [a0, a1, a2, a3, a4, a5, a6, a7, a8, a9, a10, a11, a12, a13, a14, a15, a16, a17, a18, a19, a20, a21, a22, a23, a24, a25, a26, a27, a28, a29, a30, a31, a32, a33] 0 r = some (r ++ [a32, a33]) := fun a0 a1 a2 a3 a4 a5 a6 a7 a8 a9 a10 a11 a12 a13 a14 a15 a16 a17 a18 a19 a20 a21 a22 a23 a24 a25 a26 a27 a28 a29 a30 a31 a32 a33 => by rw [splice_gen _ _ _ (by simp [f1])]; simp [f1]
   have hs2 : ∀ x p q : SV, splice (r ++ [p, q]) 32 [x] = some (r ++ [x, q]) := fun x p q => by rw [splice_gen _ _ _ (by simp [f1])]; simp [f1, List.take_append, List.drop_append, List.take_of_length_le, List.drop_of_length_le]
   have hs3 : ∀ x p q : SV, splice (r ++ [p, q]) 33 [x] = some (r ++ [p, x]) := fun x p q => by rw [splice_gen _ _ _ (by simp [f1])]; simp [f1, List.take_append, List.drop_append, List.take_of_length_le, List.drop_of_length_le]
   have GJD_ok := GJD_mk (E := stepE E0 l k)
   ((repeat (first | (with_reducible refine Vc.seq fun N hN => ?_) | ((with_reducible refine And.intro ?_ ?_); exact sX9) | ((first | ((with_reducible refine Vc.hold ?_); first | refine Vc.regiont T0_ok GJD_ok ?_)); (try simp only [v8Y, Nat.beq, Nat.ble, seval, tabs, GJD_set, d1])) | ((with_reducible refine hN _ _ ?_); clear hN N))))
   (refine Vc.cond T0_ok (t := true) (by rfl) (fun _ => ?_) (fun h => Bool.noConfusion h))
   ((repeat (first | (with_reducible first | refine Vc.seq fun N hN => ?_ | refine Vc.block ?_) | ((first | with_reducible refine Vc.skip ?_); dsimp only [thenK, blockK, Nat.beq]; (first | (refine hN _ _ ?_; clear hN N))) | (with_reducible intro _) | ((with_reducible refine And.intro ?_ ?_); exact sX9) | ((first | ((with_reducible refine Vc.hold ?_); first | refine Vc.regiont T0_ok GJD_ok ?_)); (try simp only [v8Y, Nat.beq, Nat.ble, seval, tabs, GJD_set, tk, hgd, f1, f2, f3, hsp, hs1, hs2, hs3])) | ((with_reducible refine hN _ _ ?_); clear hN N))))
   rename_i b7 sv
   have hbs := brkR_s E0 l k
   have hrl2 : (rowsE (stepE E0 l k)).length = (vioE (stepE E0 l k) 8).length := by unfold rowsE; rw [List.length_map]
   have hvl := vioE_len (stepE E0 l k) 8
   have hkl := brkR_len E0 l k
   (revert N; intro N2 hN2)
   refine Vc.loop 5 61 (fun (x : Nat × Value) => [(5, .own 5 x.2 (brkR E0 l k ++ (rowsE (stepE E0 l k)).take x.1).length), (6, .int .i64 (k : Nat)), (31, .gh la n c (.rows 32 rs)), (32, .int .i64 (n : Nat)), (33, .int .i64 (k : Nat)), (42, .own 7 sv (vioE (stepE E0 l k) 8).length), (43, .int .i64 ((vioE (stepE E0 l k) 8).length : Nat)), (44, .int .i64 (x.1 : Nat))]) (fun x => [.blk b 77 (.cells P), oldBut w b, .heap z1.h, .heap z2.h, .heap z3.h, .own x.2 (brkR E0 l k ++ (rowsE (stepE E0 l k)).take x.1).length 41 3 (.rows 3 (brkR E0 l k ++ (rowsE (stepE E0 l k)).take x.1)), .blk b7 47 (.cells r), .own sv (vioE (stepE E0 l k) 8).length 5 1 (.ints .u8 (vioE (stepE E0 l k) 8))]) (fun x => x.1 ≤ (vioE (stepE E0 l k) 8).length) (fun x => (vioE (stepE E0 l k) 8).length - x.1) (0, v) ⟨Nat.zero_le _, ?_, ?_⟩ (fun x junk hx => ?_)
   ·((try simp only [v8Y, Nat.beq, Nat.ble, seval, tabs]); (repeat' with_reducible apply And.intro) <;> first | with_reducible exact True.intro | (rw [List.take_zero, List.append_nil]) | with_reducible rfl | (congr 1 <;> omega) | trivial)
   ·((try simp only [v8Y, Nat.beq, Nat.ble, seval, tabs]); (repeat' with_reducible apply And.intro) <;> first | with_reducible exact True.intro | (rw [List.take_zero, List.append_nil]) | with_reducible rfl | (congr 1 <;> omega) | trivial)
   ·obtain ⟨j, v5⟩ := x
    dsimp only at hx ⊢
    (simp only [v8Y, Nat.beq, Nat.ble, seval, tabs])
    by_cases hc2 : j < (vioE (stepE E0 l k) 8).length
    ·have d2 : decide ((j : Int) < (((vioE (stepE E0 l k) 8).length : Nat) : Int)) = true := decide_eq_true (by omega)
     have tj : ((j : Nat) : Int).toNat = j := by omega
     have g1 := List.getElem?_eq_getElem hc2
     have hrs : (rowsE (stepE E0 l k)).take (j + 1) = (rowsE (stepE E0 l k)).take j ++ [[.int .u8 ((vioE (stepE E0 l k) 8).getD j 0), .int .u8 (E0.role : Nat), .int .i64 (k : Nat)]] := by
      refine take_more ?_
      unfold rowsE
      rw [List.getElem?_map, g1, List.getD_eq_getElem?_getD, g1]; rfl
     have hll : (brkR E0 l k ++ (rowsE (stepE E0 l k)).take j).length ≤ 8000008 := by rw [List.length_append, List.length_take]; omega
     generalize vioE (stepE E0 l k) 8 = vs at *
     ((repeat (first | (with_reducible refine Vc.seq fun N hN => ?_) | ((with_reducible refine And.intro ?_ ?_); exact sX9) | ((first | ((with_reducible refine Vc.hold ?_); first | refine Vc.regiont T0_ok GJD_ok ?_)); (try simp only [v8Y, Nat.beq, Nat.ble, seval, tabs, GJD_set, d2])) | ((with_reducible refine hN _ _ ?_); clear hN N))))
     (refine Vc.cond T0_ok (t := true) (by rfl) (fun _ => ?_) (fun h => Bool.noConfusion h))
     ((repeat (first | (with_reducible first | refine Vc.seq fun N hN => ?_ | refine Vc.block ?_) | ((first | with_reducible refine Vc.skip ?_); dsimp only [thenK, blockK, Nat.beq]; (first | (refine hN _ _ ?_; clear hN N))) | (with_reducible intro _) | ((with_reducible refine And.intro ?_ ?_); exact sX9) | ((first | ((with_reducible refine Vc.hold ?_); first | refine Vc.regiont T0_ok GJD_ok ?_)); (try simp only [v8Y, Nat.beq, Nat.ble, seval, tabs, GJD_set, tj, q6, List.drop_zero, List.take_succ_cons, List.take_zero])) | ((with_reducible refine hN _ _ ?_); clear hN N))))
     rename_i v6
     refine ⟨(j + 1, v6), by dsimp only; omega, ?_, ?_, by dsimp only; omega⟩
     ·dsimp only; rw [hrs, ← List.append_assoc, List.length_append (bs := [_])]; ((try simp only [v8Y, Nat.beq, Nat.ble, seval, tabs]); (repeat' with_reducible apply And.intro) <;> first | with_reducible exact True.intro | rfl | (congr 1 <;> omega))
     ·dsimp only; rw [hrs, ← List.append_assoc, List.length_append (bs := [_])]; ((try simp only [v8Y, Nat.beq, Nat.ble, seval, tabs]); (repeat' with_reducible apply And.intro) <;> first | with_reducible exact True.intro | rfl | (congr 1 <;> omega))
    ·have d2 : decide ((j : Int) < (((vioE (stepE E0 l k) 8).length : Nat) : Int)) = false := decide_eq_false (by omega)
     have hta : (rowsE (stepE E0 l k)).take j = rowsE (stepE E0 l k) := List.take_of_length_le (by omega)
     rw [hta, ← hbs]
     ((repeat (first | (with_reducible refine Vc.seq fun N hN => ?_) | ((with_reducible refine And.intro ?_ ?_); exact sX9) | ((first | ((with_reducible refine Vc.hold ?_); first | refine Vc.regiont T0_ok GJD_ok ?_)); (try simp only [v8Y, Nat.beq, Nat.ble, seval, tabs, GJD_set, d2])) | ((with_reducible refine hN _ _ ?_); clear hN N))))
     (refine Vc.cond T0_ok (t := false) (by rfl) (fun h => Bool.noConfusion h) (fun _ => ?_))
     ((repeat (first | ((first | with_reducible refine Vc.exit ?_); dsimp only [thenK, blockK, Nat.beq]; (first | skip)) | ((with_reducible refine And.intro ?_ ?_); exact sX9) | ((first | ((with_reducible refine Vc.hold ?_); first | refine Vc.regiont T0_ok GJD_ok ?_)); (try simp only [v8Y, Nat.beq, Nat.ble, seval, tabs, GJD_set, ])))))
     (refine hN2 _ _ ?_; (try clear hN N); clear hN2 N2)
     ((repeat (first | ((first | with_reducible refine Vc.exit ?_); dsimp only [thenK, blockK, Nat.beq]; (first | skip)) | ((with_reducible refine And.intro ?_ ?_); exact sX9) | ((first | ((with_reducible refine Vc.hold ?_); first | refine Vc.regiont T0_ok GJD_ok ?_)); (try simp only [v8Y, Nat.beq, Nat.ble, seval, tabs, GJD_set, ])))))
     refine ⟨(k + 1, v5), by dsimp only; omega, ?_, ?_, by dsimp only; omega⟩
     ·((try simp only [v8Y, Nat.beq, Nat.ble, seval, tabs]); (repeat' with_reducible apply And.intro) <;> first | with_reducible exact True.intro | rfl | (congr 1 <;> omega))
     ·((try simp only [v8Y, Nat.beq, Nat.ble, seval, tabs]); (repeat' with_reducible apply And.intro) <;> first | with_reducible exact True.intro | rfl | (congr 1 <;> omega))
  ·have d1 : decide ((k : Int) < (n : Int)) = false := decide_eq_false (by omega)
   obtain rfl : k = n := by omega
   ((repeat (first | (with_reducible refine Vc.seq fun N hN => ?_) | ((with_reducible refine And.intro ?_ ?_); exact sX9) | ((first | ((with_reducible refine Vc.hold ?_); first | refine Vc.regiont T0_ok GJD_ok ?_)); (try simp only [v8Y, Nat.beq, Nat.ble, seval, tabs, GJD_set, d1])) | ((with_reducible refine hN _ _ ?_); clear hN N))))
   (refine Vc.cond T0_ok (t := false) (by rfl) (fun h => Bool.noConfusion h) (fun _ => ?_))
   ((repeat (first | (with_reducible refine Vc.seq fun N hN => ?_) | ((first | with_reducible refine Vc.exit ?_); dsimp only [thenK, blockK, Nat.beq]; (first | skip)) | ((with_reducible refine And.intro ?_ ?_); exact sX9) | ((first | ((with_reducible refine Vc.fin ?_); dsimp only [thenK, blockK, retK, resS, resOne, resAll]) | ((with_reducible refine Vc.hold ?_); first | refine Vc.regiont T0_ok GJD_ok ?_)); (try simp only [v8Y, Nat.beq, Nat.ble, seval, tabs, GJD_set])) | ((with_reducible refine hN _ _ ?_); clear hN N))); (try ((with_reducible refine Fin.of ?_); (try with_reducible exact True.intro))))
   (refine hN1 _ _ ?_; (try clear hN N); clear hN1 N1)
   ((repeat (first | (with_reducible refine Vc.seq fun N hN => ?_) | ((first | with_reducible refine Vc.exit ?_); dsimp only [thenK, blockK, Nat.beq]; (first | skip)) | ((with_reducible refine And.intro ?_ ?_); exact sX9) | ((first | ((with_reducible refine Vc.fin ?_); dsimp only [thenK, blockK, retK, resS, resOne, resAll]) | ((with_reducible refine Vc.hold ?_); first | refine Vc.regiont T0_ok GJD_ok ?_)); (try simp only [v8Y, Nat.beq, Nat.ble, seval, tabs, GJD_set])) | ((with_reducible refine hN _ _ ?_); clear hN N))); (try ((with_reducible refine Fin.of ?_); (try with_reducible exact True.intro))))
   exact ⟨by first | trivial | simp, 5, v, _, _, rfl, rfl, rfl⟩
end Go.Proofs.YtoadeekdgikghaaDoor
