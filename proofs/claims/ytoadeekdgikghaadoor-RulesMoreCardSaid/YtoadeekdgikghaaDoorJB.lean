/-
 Package rules: Check, walked. No condition.
-/
import Derived.Test.YtoadeekdgikghaaDoorJA
set_option maxRecDepth 20000
set_option maxHeartbeats 4000000
set_option linter.defProp false
set_option linter.unusedVariables false
set_option linter.unusedSimpArgs false
namespace Go.Proofs.YtoadeekdgikghaaDoor
open Go.RowKit
def BrkOk (E0 : JE) (H : Nat → Obj → Prop) (P : List SV) : Prop := ∃ wp wc ol y0 y1 y2 y3, P = mkP (.gp (some ⟨wp, 0, none⟩) (.cells wc) 0 0 0) ol (E0.role : Nat) (E0.stk 0) (E0.stk 1) (E0.stk 2) (E0.stk 3) y0 y1 y2 y3 ∧ OpR H ol E0.x ∧ WdH H E0.acc wp wc ∧ (E0.role = 1 ∨ E0.role = 2 ∨ E0.role = 3) ∧ LiesH H (some ⟨0, 0, none⟩) (cc (.ints .u64 kKeys)) ∧ LiesH H (some ⟨1, 0, none⟩) (cc (.ints .u8 kPathI))
noncomputable def g_broken (E0 : JE) (args : List SV) (m : List Blk) : CR := match args with
 | [.ptr nm b 0 0 0 0, .gh la n c (.rows 32 rs)] => match bget m nm with
  | .blk b' t (.cells P) => .rel (b' = b ∧ t = 77 ∧ BrkOk E0 (HM (bset m nm .gone)) P ∧ (∃ l, EvL (HM (bset m nm .gone)) la n c rs l) ∧ n ≤ 1000000) Value (fun _ => True) (fun s => .own (blen m) s (brkR E0 (evOf rs) n).length) (fun s => bpush (bset m nm .gone) (.own s (brkR E0 (evOf rs) n).length 41 3 (.rows 3 (brkR E0 (evOf rs) n))))
  | _ => .none
 | _ => .none
theorem g_broken_ok (E0 : JE) (w0 : World) (B : List Nat) (args : List SV) (m : List Blk) : CROk Tryd.prog w0 B 15 args m (g_broken E0 args m) := by
 unfold g_broken; split
 ·rename_i nm b la n c rs
  split
  ·rename_i b' t P hb
   rintro ⟨rfl, rfl, ⟨wp, wc, ol, y0, y1, y2, y3, rfl, hO, hW, hr, k0, k1⟩, ⟨l, hE⟩, hM⟩ w hm
   have hH := HM.but hm hb
   rw [evOf_eq hE.rows]
   have e : cvs [.ptr nm b' 0 0 0 0, .gh la n c (.rows 32 rs)] = cvs [.ptr 0 b' 0 0 0 0, .gh la n c (.rows 32 rs)] := rfl
   rw [e]
   refine .inr ⟨enter_run Tryd.func15 rfl rfl _ w, (brk_vc E0 b' wp wc ol y0 y1 y2 y3 la n c rs l w (turn_old hm hb) (hE.mono hH) hM (hO.mono hH) (hW.mono hH) hr (k0.mono hH) (k1.mono hH)).mono fun en w' ⟨u, hu, v', m', hv, hm', i, s, t3, con, hvv, hi, h0⟩ => ⟨u, hu, s, trivial, by rw [hv, hvv]; rfl, turn_gone hm hb hm' hi h0⟩⟩
  ·exact trivial
 ·exact trivial
def chkE (x : OpD) (stk : Nat → Bool) (acc : List Int → Acc) : JE := ⟨default, 0, x, 0, stk, [], [], 0, [], acc⟩
def roleE (E : JE) (r : Nat) : JE := { E with role := r }
def chkR (E : JE) (L : Nat → List Evt) : Nat → List (List SV)
 | 0 => []
 | k + 1 => chkR E L k ++ brkR (roleE E (k + 1)) (L (k + 1)) (L (k + 1)).length
theorem chkR_len (E : JE) (L : Nat → List Evt) (hL : ∀ i, i = 1 ∨ i = 2 ∨ i = 3 → (L i).length ≤ 1000000) : ∀ k, k ≤ 3 → (chkR E L k).length ≤ 8000000 * k
 | 0, _ => Nat.le_refl _
 | k + 1, h => by
  have := chkR_len E L hL k (by omega)
  have := brkR_len (roleE E (k + 1)) (L (k + 1)) (L (k + 1)).length
  have := hL (k + 1) (by omega)
  simp only [chkR, List.length_append]
  omega
theorem rowsOk_app : ∀ {a b : List (List SV)} {s : Nat}, rowsOk s a = true → rowsOk s b = true → rowsOk s (a ++ b) = true
 | [], _, _, _, h => h
 | x :: a, b, s, h1, h2 => by
  simp only [rowsOk] at h1
  split at h1
  ·rename_i g1 g2
   simp only [List.cons_append, rowsOk, g1, g2]
   exact rowsOk_app h1 h2
  ·cases h1
theorem rows_brk (E0 : JE) (l : List Evt) : ∀ k, rowsOk 3 (brkR E0 l k) = true
 | 0 => rfl
 | k + 1 => by rw [brkR_s]; exact rowsOk_app (rows_brk E0 l k) (rows3 _ _)
noncomputable def GJE (E : JE) : Ctr := fun f args m => match f with
 | 14 => g_roles args m
 | 15 => g_broken E args m
 | _ => .none
theorem GJE_mk {E : JE} : GOk Tryd.prog (GJE E) := by
 intro w0 B f args m; unfold GJE; split
 ·exact g_roles_ok _ _ _ _
 ·exact g_broken_ok E _ _ _ _
 ·exact trivial
theorem GJE_roles {E : JE} : GJE E 14 = g_roles := by funext args m; rfl
theorem GJE_broken {E : JE} : GJE E 15 = g_broken E := by funext args m; rfl
def GJE_set := And.intro (And.intro (@GJE_roles) (@g_roles.eq_def)) (And.intro (@GJE_broken) (@g_broken.eq_def))

set_option maxRecDepth 40000 in
theorem chk_vc (E : JE) (wp : Nat) (wc ol : List SV) (x0 : SV) (hx0 : oneS x0 = true) (A : Nat → Option Addr) (n c : Nat → Nat) (rs : Nat → List (List SV)) (L : Nat → List Evt) (w : World)
  (hE : ∀ i, i = 1 ∨ i = 2 ∨ i = 3 → EvL (H0 w) (A i) (n i) (c i) (rs i) (L i) ∧ n i ≤ 1000000) (hO : OpR (H0 w) ol E.x) (hW : WdH (H0 w) E.acc wp wc) (k0 : LiesH (H0 w) (some ⟨0, 0, none⟩) (cc (.ints .u64 kKeys))) (k1 : LiesH (H0 w) (some ⟨1, 0, none⟩) (cc (.ints .u8 kPathI))) :
  Calls Tryd.prog 9 (cvs [.gp (some ⟨wp, 0, none⟩) (.cells wc) 0 0 0, .agg ol, .agg [x0, .gh (A 1) (n 1) (c 1) (.rows 32 (rs 1)), .gh (A 2) (n 2) (c 2) (.rows 32 (rs 2)), .gh (A 3) (n 3) (c 3) (.rows 32 (rs 3))], .agg [.bool (E.stk 0), .bool (E.stk 1), .bool (E.stk 2), .bool (E.stk 3)]]).toArray w (fun en w' => ∃ u, en = .returned u ∧ ∃ v' m', u = cv v' ∧ MemOk w [] m' w' ∧ ∃ i s, v' = .own i s (chkR E L 3).length ∧ bget m' i = .own s (chkR E L 3).length 41 3 (.rows 3 (chkR E L 3))) := by
 have GJE_ok := GJE_mk (E := E)
 have h8 := hO.len
 have h1 := hO.one
 have h2 := hO.all
 have hll := chkR_len E L (fun i hi => by have := (hE i hi).1.len; have := (hE i hi).2; omega)
 refine Vc.calls T0_ok Tryd.func9 rfl rfl (args := [.gp (some ⟨wp, 0, none⟩) (.cells wc) 0 0 0, .agg ol, .agg [x0, .gh (A 1) (n 1) (c 1) (.rows 32 (rs 1)), .gh (A 2) (n 2) (c 2) (.rows 32 (rs 2)), .gh (A 3) (n 3) (c 3) (.rows 32 (rs 3))], .agg [.bool (E.stk 0), .bool (E.stk 1), .bool (E.stk 2), .bool (E.stk 3)]]) (k := 30) rfl (old_start w) ?_; change Vc _ _ (c8 (.gp (some ⟨wp, 0, none⟩) (.cells wc) 0 0 0) (.agg ol) (.agg [x0, .gh (A 1) (n 1) (c 1) (.rows 32 (rs 1)), .gh (A 2) (n 2) (c 2) (.rows 32 (rs 2)), .gh (A 3) (n 3) (c 3) (.rows 32 (rs 3))]) (.agg [.bool (E.stk 0), .bool (E.stk 1), .bool (E.stk 2), .bool (E.stk 3)]) .undef .undef .undef .undef (c8 .undef .undef .undef .undef .undef .undef .undef .undef (c8 .undef .undef .undef .undef .undef .undef .undef .undef (c8 .undef .undef .undef .undef .undef .undef .undef .undef ([.undef, .undef]))))) _ _
 ((repeat (first | (with_reducible first | refine Vc.seq fun N hN => ?_ | refine Vc.block ?_) | (with_reducible intro _) | ((with_reducible refine And.intro ?_ ?_); exact sX13) | ((first | ((with_reducible refine Vc.hold ?_); first | refine Vc.regiont T0_ok GJE_ok ?_)); (try simp only [v8Y, Nat.beq, Nat.ble, seval, tabs, GJE_set, h1, h2, hx0, allOne])) | ((with_reducible refine hN _ _ ?_); clear hN N))))
 rename_i b5 b6 b7 y hy
 (revert N; intro N1 hN1)
 refine Vc.nilownJ 9 41 3 rfl ?_
 (simp only [v8Y, Nat.beq, Nat.ble, seval, tabs])
 have hRy : ∀ m, Blk.heap y.h ∈ m → LiesH (HM m) (some ⟨y.b, 0, none⟩) (cc (.ints .u8 [1, 2, 3])) := fun m hin => hy.mono (Hl.hm hin fun p hp => hp)
 refine Vc.loop 9 34 (fun (x : Nat × SV × SV × Value) => [(9, .own 5 x.2.2.2 (chkR E L x.1).length), (11, x.2.1), (12, x.2.2.1), (13, .gh (some ⟨y.b, 0, none⟩) 3 3 (.ints .u8 [1, 2, 3])), (14, .int .i64 3), (15, .int .i64 (x.1 : Nat))]) (fun x => [allOld w, .blk b5 30 (.cells ol), .blk b6 35 (.cells [x0, .gh (A 1) (n 1) (c 1) (.rows 32 (rs 1)), .gh (A 2) (n 2) (c 2) (.rows 32 (rs 2)), .gh (A 3) (n 3) (c 3) (.rows 32 (rs 3))]), .blk b7 32 (.cells [.bool (E.stk 0), .bool (E.stk 1), .bool (E.stk 2), .bool (E.stk 3)]), .heap y.h, .own x.2.2.2 (chkR E L x.1).length 41 3 (.rows 3 (chkR E L x.1))]) (fun x => x.1 ≤ 3) (fun x => 3 - x.1) (0, .undef, .undef, .slice none 0 0) ⟨Nat.zero_le _, ?_, ?_⟩ (fun x junk hx => ?_)
 ·((try simp only [v8Y, Nat.beq, Nat.ble, seval, tabs]); (repeat' with_reducible apply And.intro) <;> first | with_reducible exact True.intro | rfl | with_reducible rfl | (congr 1 <;> omega) | trivial)
 ·((try simp only [v8Y, Nat.beq, Nat.ble, seval, tabs]); (repeat' with_reducible apply And.intro) <;> first | with_reducible exact True.intro | rfl | with_reducible rfl | (congr 1 <;> omega) | trivial)
 ·obtain ⟨k, z11, z12, v⟩ := x
  dsimp only at hx ⊢
  (simp only [v8Y, Nat.beq, Nat.ble, seval, tabs])
  by_cases hc1 : k < 3
  ·have d1 : decide ((k : Int) < 3) = true := decide_eq_true (by omega)
   have tk : ((k : Nat) : Int).toNat = k := by omega
   have hlk := hll k (by omega)
   have hcs : chkR E L (k + 1) = chkR E L k ++ brkR (roleE E (k + 1)) (L (k + 1)) (L (k + 1)).length := rfl
   have hblr := rows_brk (roleE E (k + 1)) (L (k + 1)) (L (k + 1)).length
   have hbl2 := brkR_len (roleE E (k + 1)) (L (k + 1)) (L (k + 1)).length
   obtain ⟨hEk1, hn⟩ := hE (k + 1) (by omega)
   have hEk : ∀ m, allOld w ∈ m → EvL (HM m) (A (k + 1)) (n (k + 1)) (c (k + 1)) (rs (k + 1)) (L (k + 1)) := fun m hin => hEk1.mono (H0.hm hin)
   have hev := evOf_eq hEk1.rows
   have hln := hEk1.len
   have hBk : ∀ z : Int, z = ((k + 1 : Nat) : Int) → ∀ m, allOld w ∈ m → BrkOk (roleE E (k + 1)) (HM m) (.gp (some ⟨wp, 0, none⟩) (.cells wc) 0 0 0 :: (ol ++ [.int .u8 z, .bool (E.stk 0), .bool (E.stk 1), .bool (E.stk 2), .bool (E.stk 3), .nilsl, .nilsl, .int .i64 0, .raw .nilFunc])) := fun z hz m hin => ⟨wp, wc, ol, .nilsl, .nilsl, .int .i64 0, .raw .nilFunc, by rw [hz]; rfl, hO.mono (H0.hm hin), hW.mono (H0.hm hin), by show k + 1 = 1 ∨ k + 1 = 2 ∨ k + 1 = 3; omega, k0.mono (H0.hm hin), k1.mono (H0.hm hin)⟩
   have hsp : splice ((T0.zr 77).drop 1) 0 ol = some (ol ++ (T0.zr 77).drop 84) := by rw [splice_gen _ _ _ (by rw [h8]; decide), h8]; rfl
   simp only [zr_77, List.drop_succ_cons, List.drop_zero] at hsp
   have hs1 : ∀ a0 a1 a2 a3 a4 a5 a6 a7 a8 z : SV, splice (ol ++ [a0, a1, a2, a3, a4, a5, a6, a7, a8]) 83 [z] = some (ol ++ [z, a1, a2, a3, a4, a5, a6, a7, a8]) := fun _ _ _ _ _ _ _ _ _ _ => by rw [splice_gen _ _ _ (by simp [h8])]; simp [h8, List.take_append, List.drop_append, List.take_of_length_le, List.drop_of_length_le]
   have hs2 : ∀ a0 a1 a2 a3 a4 a5 a6 a7 a8 q0 q1 q2 q3 : SV, splice (ol ++ [a0, a1, a2, a3, a4, a5, a6, a7, a8]) 84 [q0, q1, q2, q3] = some (ol ++ [a0, q0, q1, q2, q3, a5, a6, a7, a8]) := fun _ _ _ _ _ _ _ _ _ _ _ _ _ => by rw [splice_gen _ _ _ (by simp [h8])]; simp [h8, List.take_append, List.drop_append, List.take_of_length_le, List.drop_of_length_le]
   have GJE_ok := GJE_mk (E := roleE E (k + 1))
   rw [hln] at hcs hblr hbl2
   obtain ⟨K, hK⟩ : ∃ K, K = k + 1 := ⟨_, rfl⟩
   obtain rfl | rfl | rfl : k = 0 ∨ k = 1 ∨ k = 2 := by omega
   all_goals simp only [Nat.zero_add, Nat.reduceAdd] at hcs hblr hbl2 hev hn
   all_goals
    ((repeat (first | (with_reducible refine Vc.seq fun N hN => ?_) | ((with_reducible refine And.intro ?_ ?_); exact sX13) | ((first | ((with_reducible refine Vc.hold ?_); first | refine Vc.regiont T0_ok GJE_ok ?_)); (try simp only [v8Y, Nat.beq, Nat.ble, seval, tabs, GJE_set, d1])) | ((with_reducible refine hN _ _ ?_); clear hN N))))
    (refine Vc.cond T0_ok (t := true) (by rfl) (fun _ => ?_) (fun h => Bool.noConfusion h))
    ((repeat (first | (with_reducible first | refine Vc.seq fun N hN => ?_ | refine Vc.block ?_) | ((first | with_reducible refine Vc.skip ?_); dsimp only [thenK, blockK, Nat.beq]; (first | (refine hN _ _ ?_; clear hN N))) | (with_reducible intro _) | ((with_reducible refine And.intro ?_ ?_); exact sX13) | ((first | ((with_reducible refine Vc.hold ?_); first | refine Vc.regiont T0_ok GJE_ok ?_)); (try simp only [v8Y, Nat.beq, Nat.ble, seval, tabs, GJE_set, tk, h1, h2, h8, hsp, hs1, hs2, hev, hblr, List.take_length, List.drop_zero])) | ((with_reducible refine hN _ _ ?_); clear hN N))))
    rename_i b12 a12 h12 v6
    refine ⟨(K, .int .u8 (K : Nat), .ptr 6 b12 0 0 0 0, v6), by dsimp only; omega, ?_, ?_, by dsimp only; omega⟩ <;> (subst hK; dsimp only; simp only [Nat.zero_add, Nat.reduceAdd, hcs, List.length_append]; (repeat' with_reducible apply And.intro) <;> first | exact trivial | rfl)
  ·have d1 : decide ((k : Int) < 3) = false := decide_eq_false (by omega)
   obtain rfl : k = 3 := by omega
   ((repeat (first | (with_reducible refine Vc.seq fun N hN => ?_) | ((with_reducible refine And.intro ?_ ?_); exact sX13) | ((first | ((with_reducible refine Vc.hold ?_); first | refine Vc.regiont T0_ok GJE_ok ?_)); (try simp only [v8Y, Nat.beq, Nat.ble, seval, tabs, GJE_set, d1])) | ((with_reducible refine hN _ _ ?_); clear hN N))))
   (refine Vc.cond T0_ok (t := false) (by rfl) (fun h => Bool.noConfusion h) (fun _ => ?_))
   ((repeat (first | (with_reducible refine Vc.seq fun N hN => ?_) | ((first | with_reducible refine Vc.exit ?_); dsimp only [thenK, blockK, Nat.beq]; (first | skip)) | ((with_reducible refine And.intro ?_ ?_); exact sX13) | ((first | ((with_reducible refine Vc.fin ?_); dsimp only [thenK, blockK, retK, resS, resOne, resAll]) | ((with_reducible refine Vc.hold ?_); first | refine Vc.regiont T0_ok GJE_ok ?_)); (try simp only [v8Y, Nat.beq, Nat.ble, seval, tabs, GJE_set])) | ((with_reducible refine hN _ _ ?_); clear hN N))); (try ((with_reducible refine Fin.of ?_); (try with_reducible exact True.intro))))
   (refine hN1 _ _ ?_; (try clear hN N); clear hN1 N1)
   ((repeat (first | (with_reducible refine Vc.seq fun N hN => ?_) | ((first | with_reducible refine Vc.exit ?_); dsimp only [thenK, blockK, Nat.beq]; (first | skip)) | ((with_reducible refine And.intro ?_ ?_); exact sX13) | ((first | ((with_reducible refine Vc.fin ?_); dsimp only [thenK, blockK, retK, resS, resOne, resAll]) | ((with_reducible refine Vc.hold ?_); first | refine Vc.regiont T0_ok GJE_ok ?_)); (try simp only [v8Y, Nat.beq, Nat.ble, seval, tabs, GJE_set])) | ((with_reducible refine hN _ _ ?_); clear hN N))); (try ((with_reducible refine Fin.of ?_); (try with_reducible exact True.intro))))
   exact ⟨by first | trivial | simp, 5, v, rfl, rfl⟩
end Go.Proofs.YtoadeekdgikghaaDoor
