/-
 slices.Grow of nothing, slices.Concat, and a part made of pieces of bytes (package userop: data), walked. No condition.
-/
import Derived.Test.YthdpgfdfgidokaaDoorET
import Derived.Test.YthdpgfdfgidokaaDoorKC
import Derived.Test.YthdpgfdfgidokaaDoorD2
import Derived.Lib.AppendZerosOnto
set_option maxRecDepth 10000
set_option maxHeartbeats 4000000
set_option linter.defProp false
set_option linter.unusedVariables false
set_option linter.unusedSimpArgs false
namespace Go.Proofs.YthdpgfdfgidokaaDoor
open Go.RowKit
set_option maxRecDepth 100000 in
theorem grow_0 (w : World) : Calls Tryd.prog 106 #[.slice none 0 0, .int .i64 0] w fun e w' => e = .returned (.slice none 0 0) ∧ w' = w := by
 go_enter Tryd.func106, Tryd.ntmps106
 go_wp2
 go_ret
 exact ⟨rfl, rfl⟩
set_option maxRecDepth 100000 in
theorem grow_n (n : Nat) (h0 : 0 < n) (hn : n ≤ 70000000) (w : World) : Calls Tryd.prog 106 #[.slice none 0 0, .int .i64 n] w fun e w' =>
  ∃ cap cells, n ≤ cap ∧ cap ≤ maxLen ∧ cells.size = cap ∧ e = .returned (.slice (some ⟨w.heap.size, 0, none⟩) 0 cap) ∧ w' = w.drew.alloc (.cells cells 5) := by
 obtain ⟨i0, hi0, hz0, hs0, hb0⟩ := T0_ok.b8 5 rfl
 have h1 : ¬ ((n : Int) < 0) := by omega
 have h3 : wrap64 ((n : Int) - 0) = (n : Int) := by unfold wrap64; omega
 have h4 : (n : Int) > 0 := by omega
 have hold : (Builtin.firstCells i0.size 0 (.slice none 0 0)).run Tryd.prog w.drew = .ok (([] : List Value)).toArray w.drew := run_firstCells_none w.drew i0.size 0 0 0
 have hrz : ∀ ty, (Builtin.append_ #[27, 3] ty #[.slice none 0 0, .int .i64 (n : Int)]).run Tryd.prog w =
   .ok (.slice (some ⟨w.heap.size, 0, none⟩) (0 + n) (grownCap w (0 + n) 0 5)) (w.drew.alloc (.cells (([] : List Value).toArray ++ Builtin.zeroCells (Value.int .u8 0).cells n ++ Builtin.zeroCells (Value.int .u8 0).cells (grownCap w (0 + n) 0 5 - (0 + n))) 5)) := fun ty =>
  Go.Lib.run_append_grow_zeros w 27 3 ty 5 i0 (.int .u8 0) .i64 .i64 Tryd.underlying27 Tryd.underlying3 hi0 hz0 none 0 0 [] hold n h0 (by omega) (by omega) (by omega) (by rw [hb0]; omega) (growslice_fits (by omega) (by rw [hb0]; omega))
 have hGn : 0 + n ≤ grownCap w (0 + n) 0 5 := grownCap_ge w _ _ _
 have hGm : grownCap w (0 + n) 0 5 ≤ maxLen := grownCap_le_maxLen w (0 + n) 0 5 (by unfold maxLen; omega)
 have hcz : (([] : List Value).toArray ++ Builtin.zeroCells (Value.int .u8 0).cells n ++ Builtin.zeroCells (Value.int .u8 0).cells (grownCap w (0 + n) 0 5 - (0 + n))).size = grownCap w (0 + n) 0 5 := by
  simp only [Array.size_append, size_zeroCells]
  have : (Value.int IntKind.u8 0).cells.size = 1 := rfl
  have hz : ([] : List Value).toArray.size = 0 := rfl
  rw [this, hz]; omega
 generalize (([] : List Value).toArray ++ Builtin.zeroCells (Value.int .u8 0).cells n ++ Builtin.zeroCells (Value.int .u8 0).cells (grownCap w (0 + n) 0 5 - (0 + n))) = cz at *
 generalize hG : grownCap w (0 + n) 0 5 = G at *
 have hG63 : G ≤ 9223372036854775807 := by unfold maxLen at hGm; omega
 rw [Nat.zero_add] at hrz hGn
 clear hold hG
 go_enter Tryd.func106, Tryd.ntmps106
 go_wp2_with (at_builtin; refine Go.Lib.wpList_append_run _ rfl _ _ _ _ rfl _ _ rfl rfl _ _ (hrz _) ?_)
 all_goals (go_ret; exact ⟨G, hGn, hGm, cz, hcz, rfl, rfl⟩)
def g_grow (args : List SV) (_m : List Blk) : CR :=
 match args with
 | [.nilsl, .int .i64 n] => .own (0 ≤ n ∧ n ≤ 70000000) 5 1 0 (.ints .u8 []) (fun v => v)
 | _ => .none
theorem g_grow_ok (w0 : World) (B : List Nat) (args : List SV) (m : List Blk) : CROk Tryd.prog w0 B 106 args m (g_grow args m) := by
 unfold g_grow
 split
 ·rename_i n
  intro ⟨h0, h1⟩ w _
  obtain ⟨k, rfl⟩ := Int.eq_ofNat_of_zero_le h0
  refine .inr ⟨enter_run Tryd.func106 rfl rfl _ w, ?_⟩
  by_cases hk : k = 0
  ·subst hk
   refine (grow_0 w).mono fun e w' ⟨he, hw⟩ => ⟨_, he, .slice none 0 0, rfl, by rw [hw]; exact grown_refl w, by rw [hw]; exact World.ownsRow_nil _ _ _ _⟩
  ·refine (grow_n k (by omega) (by omega) w).mono fun e w' ⟨cap, cz, c1, c2, c3, he, hw⟩ => ⟨_, he, .slice (some ⟨w.heap.size, 0, none⟩) 0 cap, rfl, ?_, ?_⟩
   ·rw [hw]
    exact ⟨rfl, rfl, rfl, by simp, fun k hk _ => heap_alloc_old w.drew _ hk⟩
   ·rw [hw]
    exact World.ownsRow_made w.drew cz cap (Nat.le_refl _) c2 (by rw [c3, Nat.mul_one])
 ·exact trivial
def byR (H : Nat → Obj → Prop) (v : SV) (xs : List Int) : Prop :=
 ∃ a n c, v = .gh a n c (.ints .u8 xs) ∧ xs.length = n ∧ n ≤ c ∧ adr a n c ∧ LiesH H a (cc (.ints .u8 xs)) ∧ allB xs ∧ n ≤ maxLen
theorem byR.mono {H H' : Nat → Obj → Prop} {v : SV} {xs : List Int} (h : byR H v xs) (hH : ∀ b o, H b o → H' b o) : byR H' v xs := by
 obtain ⟨a, n, c, h1, h2, h3, h4, h5, h6⟩ := h
 exact ⟨a, n, c, h1, h2, h3, h4, h5.mono hH, h6⟩
structure PcR (H : Nat → Obj → Prop) (l : List SV) (ls : List (List Int)) : Prop where
 len : l.length = ls.length
 each : ∀ (i : Nat) (v : SV) (xs : List Int), l[i]? = some v → ls[i]? = some xs → byR H v xs
theorem nth?_get : ∀ (l : List SV) (n : Nat), nth? l n = l[n]?
 | [], n => by simp [nth?]
 | x :: l, 0 => by simp [nth?]
 | x :: l, n + 1 => by simp [nth?]; exact nth?_get l n
theorem flat_more {ls : List (List Int)} {k : Nat} {xs : List Int} (h : ls[k]? = some xs) : (ls.take (k + 1)).flatten = (ls.take k).flatten ++ xs := by
 rw [List.take_add_one, h, Option.toList_some, List.flatten_append]; simp
theorem flat_le (ls : List (List Int)) (k : Nat) : (ls.take k).flatten.length ≤ ls.flatten.length := by
 have := congrArg (fun l => (List.flatten l).length) (List.take_append_drop k ls)
 simp only [List.flatten_append, List.length_append] at this
 omega
noncomputable def GOA : Ctr := fun f args m => match f with
 | 52 => g_From args m
 | 43 => g_rFrom args m
 | 141 => g_Small args m
 | 109 => g_lowByte args m
 | 120 => g_Shl args m
 | 89 => g_Shr args m
 | 54 => g_Cmp args m
 | 53 => g_Add args m
 | 51 => g_Mul args m
 | 106 => g_grow args m
 | _ => .none
theorem GOA_ok : GOk Tryd.prog GOA := by
 intro w0 B f args m; unfold GOA; split
 ·exact g_From_ok _ _ _ _
 ·exact g_rFrom_ok _ _ _ _
 ·exact g_Small_ok _ _ _ _
 ·exact g_lowByte_ok _ _ _ _
 ·exact g_Shl_ok _ _ _ _
 ·exact g_Shr_ok _ _ _ _
 ·exact g_Cmp_ok _ _ _ _
 ·exact g_Add_ok _ _ _ _
 ·exact g_Mul_ok _ _ _ _
 ·exact g_grow_ok _ _ _ _
 ·exact trivial
theorem GOA_From : GOA 52 = g_From := by funext args m; rfl
theorem GOA_rFrom : GOA 43 = g_rFrom := by funext args m; rfl
theorem GOA_Small : GOA 141 = g_Small := by funext args m; rfl
theorem GOA_lowByte : GOA 109 = g_lowByte := by funext args m; rfl
theorem GOA_Shl : GOA 120 = g_Shl := by funext args m; rfl
theorem GOA_Shr : GOA 89 = g_Shr := by funext args m; rfl
theorem GOA_Cmp : GOA 54 = g_Cmp := by funext args m; rfl
theorem GOA_Add : GOA 53 = g_Add := by funext args m; rfl
theorem GOA_Mul : GOA 51 = g_Mul := by funext args m; rfl
theorem GOA_grow : GOA 106 = g_grow := by funext args m; rfl
def GOA_set := And.intro (And.intro (And.intro (And.intro (@GOA_From) (@g_From.eq_def)) (And.intro (@GOA_rFrom) (And.intro (@g_rFrom.eq_def) (@GOA_Small)))) (And.intro (And.intro (@g_Small.eq_def) (@GOA_lowByte)) (And.intro (@g_lowByte.eq_def) (And.intro (@GOA_Shl) (@g_Shl.eq_def))))) (And.intro (And.intro (And.intro (@GOA_Shr) (@g_Shr.eq_def)) (And.intro (@GOA_Cmp) (And.intro (@g_Cmp.eq_def) (@GOA_Add)))) (And.intro (And.intro (@g_Add.eq_def) (@GOA_Mul)) (And.intro (@g_Mul.eq_def) (And.intro (@GOA_grow) (@g_grow.eq_def)))))

set_option maxRecDepth 20000 in
theorem concat_vc (a : Option Addr) (n c : Nat) (l : List SV) (ls : List (List Int)) (hl : l.length = n) (hc : n ≤ c) (ha : adr a n c) (hz : ls.flatten.length ≤ 70000000) (hn : n ≤ 100000) (w : World) (hL : LiesH (H0 w) a (cc (.cells l))) (hR : PcR (H0 w) l ls) :
  Calls Tryd.prog 74 (cvs [.gh a n c (.cells l)]).toArray w (fun en w' => ∃ u, en = .returned u ∧ ∃ v' m', u = cv v' ∧ MemOk w [] m' w' ∧ ∃ k s, v' = .own k s ls.flatten.length ∧ bget m' k = .own s ls.flatten.length 5 1 (.ints .u8 ls.flatten)) := by
 obtain ⟨r1, r2⟩ := hR
 have hLx : ∀ m, allOld w ∈ m → LiesH (HM m) a (cc (.cells l)) := fun m hin => hL.mono (H0.hm hin)
 refine Vc.calls T0_ok Tryd.func74 rfl rfl (args := [.gh a n c (.cells l)]) (k := 35) rfl (old_start w) ?_; change Vc _ _ (c8 (.gh a n c (.cells l)) .undef .undef .undef .undef .undef .undef .undef (c8 .undef .undef .undef .undef .undef .undef .undef .undef (c8 .undef .undef .undef .undef .undef .undef .undef .undef (c8 .undef .undef .undef .undef .undef .undef .undef .undef ([.undef, .undef, .undef, .undef]))))) _ _
 ((repeat (first | (with_reducible first | refine Vc.seq fun N hN => ?_ | refine Vc.block ?_) | ((with_reducible refine And.intro ?_ ?_); exact sdB) | ((first | ((with_reducible refine Vc.hold ?_); first | refine Vc.regiont T0_ok GOA_ok ?_)); (try simp only [v8Y, Nat.beq, Nat.ble, seval, tabs, GOA_set, ])) | ((with_reducible refine hN _ _ ?_); clear hN N))))
 (revert N; intro N1 hN1)
 refine Vc.loop 3 23 (fun (k : Nat) => [(3, .int .i64 ((ls.take k).flatten.length : Nat)), (9, .gh a n c (.cells l)), (10, .int .i64 (n : Nat)), (11, .int .i64 (k : Nat))]) (fun _ => [allOld w]) (fun k => k ≤ n) (fun k => n - k) 0 ⟨Nat.zero_le _, ?_, ?_⟩ (fun k junk hk => ?_)
 ·((try simp only [v8Y, Nat.beq, Nat.ble, seval, tabs]); (repeat' with_reducible apply And.intro) <;> first | with_reducible exact True.intro | rfl | with_reducible rfl | (congr 1 <;> omega) | trivial)
 ·((try simp only [v8Y, Nat.beq, Nat.ble, seval, tabs]); (repeat' with_reducible apply And.intro) <;> first | with_reducible exact True.intro | rfl | with_reducible rfl | (congr 1 <;> omega) | trivial)
 ·(simp only [v8Y, Nat.beq, Nat.ble, seval, tabs])
  have hfk := flat_le ls k
  by_cases hc1 : k < n
  ·have d1 : decide ((k : Int) < (n : Int)) = true := decide_eq_true (by omega)
   have e1 := List.getElem?_eq_getElem (show k < l.length by omega)
   have e2 := List.getElem?_eq_getElem (show k < ls.length by omega)
   have hp := r2 k _ _ e1 e2
   have hgd := (nth?_get l k).trans e1
   have hfm := flat_more e2
   have hfk2 := flat_le ls (k + 1)
   generalize l[k] = x at *
   generalize ls[k] = xs at *
   obtain ⟨pa, pn, pc, rfl, g1, g2, g3, g4, g5, g6⟩ := hp
   have hLp : ∀ m, allOld w ∈ m → LiesH (HM m) pa (cc (.ints .u8 xs)) := fun m hin => g4.mono (H0.hm hin)
   have hlen : (ls.take (k + 1)).flatten.length = (ls.take k).flatten.length + pn := by rw [hfm, List.length_append, g1]
   have tk : ((k : Nat) : Int).toNat = k := by omega
   have d2 : decide ((((ls.take k).flatten.length : Nat) : Int) + (pn : Int) < 0) = false := decide_eq_false (by omega)
   ((repeat (first | (with_reducible refine Vc.seq fun N hN => ?_) | ((with_reducible refine And.intro ?_ ?_); exact sdB) | ((first | ((with_reducible refine Vc.hold ?_); first | refine Vc.regiont T0_ok GOA_ok ?_)); (try simp only [v8Y, Nat.beq, Nat.ble, seval, tabs, GOA_set, d1])) | ((with_reducible refine hN _ _ ?_); clear hN N))))
   (refine Vc.cond T0_ok (t := true) (by rfl) (fun _ => ?_) (fun h => Bool.noConfusion h))
   ((repeat (first | (with_reducible first | refine Vc.seq fun N hN => ?_ | refine Vc.block ?_) | ((first | with_reducible refine Vc.skip ?_); dsimp only [thenK, blockK, Nat.beq]; (first | (refine hN _ _ ?_; clear hN N))) | ((with_reducible refine And.intro ?_ ?_); (focus (first | ((repeat' with_reducible apply And.intro) <;> first | exact sideQ | (exact hLx _ (by simp)) | (exact hLp _ (by simp)) | (simp only [inK]; omega)) | exact sd0))) | ((first | ((with_reducible refine Vc.hold ?_); first | refine Vc.regiont T0_ok GOA_ok ?_)); (try simp only [v8Y, Nat.beq, Nat.ble, seval, tabs, GOA_set, tk, hgd, d2])) | ((with_reducible refine hN _ _ ?_); clear hN N))))
   (refine Vc.cond T0_ok (t := false) (by rfl) (fun h => Bool.noConfusion h) (fun _ => ?_))
   ((repeat (first | (with_reducible first | refine Vc.seq fun N hN => ?_ | refine Vc.block ?_) | ((first | with_reducible refine Vc.skip ?_); dsimp only [thenK, blockK, Nat.beq]; (first | (refine hN _ _ ?_; clear hN N))) | (with_reducible intro _) | ((with_reducible refine And.intro ?_ ?_); exact sdB) | ((first | ((with_reducible refine Vc.hold ?_); first | refine Vc.regiont T0_ok GOA_ok ?_)); (try simp only [v8Y, Nat.beq, Nat.ble, seval, tabs, GOA_set, ])) | ((with_reducible refine hN _ _ ?_); clear hN N))))
   refine ⟨k + 1, by omega, ?_, ?_, by omega⟩
   ·((try simp only [v8Y, Nat.beq, Nat.ble, seval, tabs]); (repeat' with_reducible apply And.intro) <;> first | with_reducible exact True.intro | (first | rfl | (rw [hlen]; congr 1; omega)) | (congr 1 <;> omega))
   ·((try simp only [v8Y, Nat.beq, Nat.ble, seval, tabs]); (repeat' with_reducible apply And.intro) <;> first | with_reducible exact True.intro | rfl | (congr 1 <;> omega))
  ·have d1 : decide ((k : Int) < (n : Int)) = false := decide_eq_false (by omega)
   obtain rfl : k = n := by omega
   have hall : ls.take k = ls := List.take_of_length_le (by omega)
   rw [hall]
   ((repeat (first | (with_reducible refine Vc.seq fun N hN => ?_) | ((with_reducible refine And.intro ?_ ?_); exact sdB) | ((first | ((with_reducible refine Vc.hold ?_); first | refine Vc.regiont T0_ok GOA_ok ?_)); (try simp only [v8Y, Nat.beq, Nat.ble, seval, tabs, GOA_set, d1])) | ((with_reducible refine hN _ _ ?_); clear hN N))))
   (refine Vc.cond T0_ok (t := false) (by rfl) (fun h => Bool.noConfusion h) (fun _ => ?_))
   ((repeat (first | ((first | with_reducible refine Vc.exit ?_); dsimp only [thenK, blockK, Nat.beq]; (first | skip)))))
   (refine hN1 _ _ ?_; (try clear hN N); clear hN1 N1)
   ((repeat (first | (with_reducible first | refine Vc.seq fun N hN => ?_ | refine Vc.block ?_) | ((first | with_reducible refine Vc.skip ?_); dsimp only [thenK, blockK, Nat.beq]; (first | (refine hN _ _ ?_; clear hN N))) | (with_reducible intro _) | ((with_reducible refine And.intro ?_ ?_); exact sdB) | ((first | ((with_reducible refine Vc.hold ?_); first | refine Vc.regiont T0_ok GOA_ok ?_)); (try simp only [v8Y, Nat.beq, Nat.ble, seval, tabs, GOA_set, ])) | ((with_reducible refine hN _ _ ?_); clear hN N))))
   rename_i v0
   (revert N; intro N1 hN1)
   refine Vc.loop 6 35 (fun (x : Nat × Value) => [(6, .own 1 x.2 (ls.take x.1).flatten.length), (25, .gh a k c (.cells l)), (26, .int .i64 (k : Nat)), (27, .int .i64 (x.1 : Nat))]) (fun x => [allOld w, .own x.2 (ls.take x.1).flatten.length 5 1 (.ints .u8 (ls.take x.1).flatten)]) (fun x => x.1 ≤ k) (fun x => k - x.1) (0, v0) ⟨Nat.zero_le _, ?_, ?_⟩ (fun x junk2 hj => ?_)
   ·((try simp only [v8Y, Nat.beq, Nat.ble, seval, tabs]); (repeat' with_reducible apply And.intro) <;> first | with_reducible exact True.intro | rfl | with_reducible rfl | (congr 1 <;> omega) | trivial)
   ·((try simp only [v8Y, Nat.beq, Nat.ble, seval, tabs]); (repeat' with_reducible apply And.intro) <;> first | with_reducible exact True.intro | rfl | with_reducible rfl | (congr 1 <;> omega) | trivial)
   ·obtain ⟨j, v⟩ := x
    simp only at hj ⊢
    (simp only [v8Y, Nat.beq, Nat.ble, seval, tabs])
    have hfj := flat_le ls j
    by_cases hc2 : j < k
    ·have d3 : decide ((j : Int) < (k : Int)) = true := decide_eq_true (by omega)
     have e1 := List.getElem?_eq_getElem (show j < l.length by omega)
     have e2 := List.getElem?_eq_getElem (show j < ls.length by omega)
     have hp := r2 j _ _ e1 e2
     have hgd := (nth?_get l j).trans e1
     have hfm := flat_more e2
     have hfj2 := flat_le ls (j + 1)
     generalize l[j] = x at *
     generalize ls[j] = xs at *
     obtain ⟨pa, pn, pc, rfl, g1, g2, g3, g4, g5, g6⟩ := hp
     have hLp : ∀ m, allOld w ∈ m → LiesH (HM m) pa (cc (.ints .u8 xs)) := fun m hin => g4.mono (H0.hm hin)
     have hlen : (ls.take (j + 1)).flatten.length = (ls.take j).flatten.length + pn := by rw [hfm, List.length_append, g1]
     have tk : ((j : Nat) : Int).toNat = j := by omega
     have up : xs.take pn = xs := List.take_of_length_le (by omega)
     ((repeat (first | (with_reducible refine Vc.seq fun N hN => ?_) | ((with_reducible refine And.intro ?_ ?_); exact sdB) | ((first | ((with_reducible refine Vc.hold ?_); first | refine Vc.regiont T0_ok GOA_ok ?_)); (try simp only [v8Y, Nat.beq, Nat.ble, seval, tabs, GOA_set, d3])) | ((with_reducible refine hN _ _ ?_); clear hN N))))
     (refine Vc.cond T0_ok (t := true) (by rfl) (fun _ => ?_) (fun h => Bool.noConfusion h))
     ((repeat (first | (with_reducible first | refine Vc.seq fun N hN => ?_ | refine Vc.block ?_) | ((first | with_reducible refine Vc.skip ?_); dsimp only [thenK, blockK, Nat.beq]; (first | (refine hN _ _ ?_; clear hN N))) | (with_reducible intro _) | ((with_reducible refine And.intro ?_ ?_); (focus (first | ((repeat' with_reducible apply And.intro) <;> first | exact sideQ | (exact hLx _ (by simp)) | (exact hLp _ (by simp)) | (simp [noAlias]; done)) | exact sd0))) | ((first | ((with_reducible refine Vc.hold ?_); first | refine Vc.regiont T0_ok GOA_ok ?_)); (try simp only [v8Y, Nat.beq, Nat.ble, seval, tabs, GOA_set, tk, hgd, up, List.drop_zero])) | ((with_reducible refine hN _ _ ?_); clear hN N))))
     rename_i v2
     refine ⟨(j + 1, v2), by simp only; omega, ?_, ?_, by simp only; omega⟩
     ·((try simp only [v8Y, Nat.beq, Nat.ble, seval, tabs]); (repeat' with_reducible apply And.intro) <;> first | with_reducible exact True.intro | (rw [hlen]) | (congr 1 <;> omega))
     ·((try simp only [v8Y, Nat.beq, Nat.ble, seval, tabs]); (repeat' with_reducible apply And.intro) <;> first | with_reducible exact True.intro | (rw [hlen, hfm]) | (congr 1 <;> omega))
    ·have d3 : decide ((j : Int) < (k : Int)) = false := decide_eq_false (by omega)
     obtain rfl : j = k := by omega
     rw [hall]
     ((repeat (first | (with_reducible refine Vc.seq fun N hN => ?_) | ((with_reducible refine And.intro ?_ ?_); exact sdB) | ((first | ((with_reducible refine Vc.hold ?_); first | refine Vc.regiont T0_ok GOA_ok ?_)); (try simp only [v8Y, Nat.beq, Nat.ble, seval, tabs, GOA_set, d3])) | ((with_reducible refine hN _ _ ?_); clear hN N))))
     (refine Vc.cond T0_ok (t := false) (by rfl) (fun h => Bool.noConfusion h) (fun _ => ?_))
     ((repeat (first | ((first | with_reducible refine Vc.exit ?_); dsimp only [thenK, blockK, Nat.beq]; (first | skip)))))
     (refine hN1 _ _ ?_; (try clear hN N); clear hN1 N1)
     ((repeat (first | (with_reducible refine Vc.seq fun N hN => ?_) | ((with_reducible refine And.intro ?_ ?_); exact sdB) | ((first | ((with_reducible refine Vc.fin ?_); dsimp only [thenK, blockK, retK, resS, resOne, resAll]) | ((with_reducible refine Vc.hold ?_); first | refine Vc.regiont T0_ok GOA_ok ?_)); (try simp only [v8Y, Nat.beq, Nat.ble, seval, tabs, GOA_set, ])) | ((with_reducible refine hN _ _ ?_); clear hN N))); (try ((with_reducible refine Fin.of ?_); (try with_reducible exact True.intro))))
     exact ⟨trivial, 1, v, rfl, rfl⟩
end Go.Proofs.YthdpgfdfgidokaaDoor
