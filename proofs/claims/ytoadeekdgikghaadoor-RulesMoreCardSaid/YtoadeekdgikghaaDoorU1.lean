/-
 Bytes looked for, bytes compared (slices.Index, slices.Contains, bytes.Equal, bytes.HasPrefix), walked. No condition.
-/
import Derived.Test.YtoadeekdgikghaaDoorT2
set_option maxRecDepth 10000
set_option maxHeartbeats 4000000
set_option linter.defProp false
set_option linter.unusedVariables false
set_option linter.unusedSimpArgs false
namespace Go.Proofs.YtoadeekdgikghaaDoor
open Go.RowKit
def hasI (xs : List Int) (x : Int) : Bool := xs.any fun y => decide (x = y)
def idxI : List Int → Int → Int → Int
 | [], _, _ => -1
 | y :: l, x, i => if x = y then i else idxI l x (i + 1)
theorem idxI_drop {xs : List Int} {x : Int} {k : Nat} (h : k < xs.length) : idxI (xs.drop k) x (k : Nat) = if x = xs.getD k 0 then ((k : Nat) : Int) else idxI (xs.drop (k + 1)) x ((k + 1 : Nat) : Int) := by
 rw [List.drop_eq_getElem_cons h]
 simp only [idxI]
 rw [List.getD_eq_getElem?_getD, List.getElem?_eq_getElem h]
 rfl
theorem idxI_has : ∀ (xs : List Int) (x i : Int), 0 ≤ i → decide (0 ≤ idxI xs x i) = hasI xs x
 | [], x, i, _ => rfl
 | y :: l, x, i, h => by
  have h2 : hasI (y :: l) x = (decide (x = y) || hasI l x) := rfl
  rw [h2]
  by_cases hx : x = y
  ·have h1 : idxI (y :: l) x i = i := if_pos hx
   rw [h1, decide_eq_true h, decide_eq_true hx]; rfl
  ·have h1 : idxI (y :: l) x i = idxI l x (i + 1) := if_neg hx
   rw [h1, decide_eq_false hx, idxI_has l x (i + 1) (by omega)]; rfl
theorem adr_le {a : Option Addr} {n c k : Nat} (h : adr a n c) (hk : k ≤ n) : adr a k c := h.imp id fun h => ⟨h.1, by omega, h.2.2⟩
theorem index_vc (xs : List Int) (x : Int) (a : Option Addr) (n cp : Nat) (hn : xs.length = n) (hc : n ≤ cp) (hM : n ≤ 1000000000) (ha : adr a n cp) (w : World) (hm : MemOk w [] [.ro a (.ints .u8 xs)] w) :
  Calls Tryd.prog 52 (cvs [.sl 0 a 0 0 1 n cp, .int .u8 x]).toArray w (fun en w' => ∃ u, en = .returned u ∧ ∃ v m', u = cv v ∧ MemOk w [] m' w' ∧ v = .int .i64 (idxI xs x 0)) := by
 refine Vc.calls T0_ok Tryd.func52 rfl rfl (args := [.sl 0 a 0 0 1 n cp, .int .u8 x]) (k := 17) rfl hm ?_; change Vc _ _ (c8 (.sl 0 a 0 0 1 n cp) (.int .u8 x) .undef .undef .undef .undef .undef .undef (c8 .undef .undef .undef .undef .undef .undef .undef .undef ([.undef, .undef, .undef]))) _ _
 ((repeat (first | (with_reducible first | refine Vc.seq fun N hN => ?_ | refine Vc.block ?_) | ((with_reducible refine And.intro ?_ ?_); exact sX0) | ((first | ((with_reducible refine Vc.hold ?_); first | refine Vc.regiont T0_ok GT1_ok ?_)); (try simp only [v8Y, Nat.beq, Nat.ble, seval, tabs, GT1_set, ])) | ((with_reducible refine hN _ _ ?_); clear hN N))))
 (revert N; intro N1 hN1)
 refine Vc.loop 5 19 (fun (k : Nat) => [(6, .sl 0 a 0 0 1 n cp), (7, .int .i64 (n : Nat)), (8, .int .i64 (k : Nat))]) (fun k => [.ro a (.ints .u8 xs)]) (fun k => k ≤ n ∧ idxI (xs.drop k) x (k : Nat) = idxI xs x 0) (fun k => n - k) 0 ⟨⟨Nat.zero_le _, by rw [List.drop_zero]; rfl⟩, ?_, ?_⟩ (fun k junk hk => ?_)
 ·((try simp only [v8Y, Nat.beq, Nat.ble, seval, tabs]); (repeat' with_reducible apply And.intro) <;> first | with_reducible exact True.intro | rfl | with_reducible rfl | (congr 1 <;> omega) | trivial)
 ·((try simp only [v8Y, Nat.beq, Nat.ble, seval, tabs]); (repeat' with_reducible apply And.intro) <;> first | with_reducible exact True.intro | rfl | with_reducible rfl | (congr 1 <;> omega) | trivial)
 ·obtain ⟨k1, k2⟩ := hk
  (simp only [v8Y, Nat.beq, Nat.ble, seval, tabs])
  by_cases hc1 : k < n
  ·have d1 : decide ((k : Int) < (n : Int)) = true := decide_eq_true (by omega)
   have tk : ((k : Nat) : Int).toNat = k := by omega
   rw [idxI_drop (by omega)] at k2
   by_cases hx : x = xs.getD k 0
   ·have e1 : decide (x = xs.getD k 0) = true := decide_eq_true hx
    rw [if_pos hx] at k2
    ((repeat (first | (with_reducible refine Vc.seq fun N hN => ?_) | ((with_reducible refine And.intro ?_ ?_); exact sX0) | ((first | ((with_reducible refine Vc.hold ?_); first | refine Vc.regiont T0_ok GT1_ok ?_)); (try simp only [v8Y, Nat.beq, Nat.ble, seval, tabs, GT1_set, d1])) | ((with_reducible refine hN _ _ ?_); clear hN N))))
    (refine Vc.cond T0_ok (t := true) (by rfl) (fun _ => ?_) (fun h => Bool.noConfusion h))
    ((repeat (first | (with_reducible first | refine Vc.seq fun N hN => ?_ | refine Vc.block ?_) | ((first | with_reducible refine Vc.skip ?_); dsimp only [thenK, blockK, Nat.beq]; (first | (refine hN _ _ ?_; clear hN N))) | ((with_reducible refine And.intro ?_ ?_); exact sX0) | ((first | ((with_reducible refine Vc.hold ?_); first | refine Vc.regiont T0_ok GT1_ok ?_)); (try simp only [v8Y, Nat.beq, Nat.ble, seval, tabs, GT1_set, tk, e1, Nat.zero_add])) | ((with_reducible refine hN _ _ ?_); clear hN N))))
    (refine Vc.cond T0_ok (t := true) (by rfl) (fun _ => ?_) (fun h => Bool.noConfusion h))
    ((repeat (first | (with_reducible refine Vc.seq fun N hN => ?_) | ((first | with_reducible refine Vc.skip ?_); dsimp only [thenK, blockK, Nat.beq]; (first | (refine hN _ _ ?_; clear hN N))) | ((with_reducible refine And.intro ?_ ?_); exact sX0) | ((first | ((with_reducible refine Vc.fin ?_); dsimp only [thenK, blockK, retK, resS, resOne, resAll]) | ((with_reducible refine Vc.hold ?_); first | refine Vc.regiont T0_ok GT1_ok ?_)); (try simp only [v8Y, Nat.beq, Nat.ble, seval, tabs, GT1_set, ])) | ((with_reducible refine hN _ _ ?_); clear hN N))); (try ((with_reducible refine Fin.of ?_); (try with_reducible exact True.intro))))
    exact ⟨trivial, by rw [k2]⟩
   ·have e1 : decide (x = xs.getD k 0) = false := decide_eq_false hx
    rw [if_neg hx] at k2
    ((repeat (first | (with_reducible refine Vc.seq fun N hN => ?_) | ((with_reducible refine And.intro ?_ ?_); exact sX0) | ((first | ((with_reducible refine Vc.hold ?_); first | refine Vc.regiont T0_ok GT1_ok ?_)); (try simp only [v8Y, Nat.beq, Nat.ble, seval, tabs, GT1_set, d1])) | ((with_reducible refine hN _ _ ?_); clear hN N))))
    (refine Vc.cond T0_ok (t := true) (by rfl) (fun _ => ?_) (fun h => Bool.noConfusion h))
    ((repeat (first | (with_reducible first | refine Vc.seq fun N hN => ?_ | refine Vc.block ?_) | ((first | with_reducible refine Vc.skip ?_); dsimp only [thenK, blockK, Nat.beq]; (first | (refine hN _ _ ?_; clear hN N))) | ((with_reducible refine And.intro ?_ ?_); exact sX0) | ((first | ((with_reducible refine Vc.hold ?_); first | refine Vc.regiont T0_ok GT1_ok ?_)); (try simp only [v8Y, Nat.beq, Nat.ble, seval, tabs, GT1_set, tk, e1, Nat.zero_add])) | ((with_reducible refine hN _ _ ?_); clear hN N))))
    (refine Vc.cond T0_ok (t := false) (by rfl) (fun h => Bool.noConfusion h) (fun _ => ?_))
    ((repeat (first | (with_reducible refine Vc.seq fun N hN => ?_) | ((first | with_reducible refine Vc.skip ?_); dsimp only [thenK, blockK, Nat.beq]; (first | (refine hN _ _ ?_; clear hN N))) | ((with_reducible refine And.intro ?_ ?_); exact sX0) | ((first | ((with_reducible refine Vc.fin ?_); dsimp only [thenK, blockK, retK, resS, resOne, resAll]) | ((with_reducible refine Vc.hold ?_); first | refine Vc.regiont T0_ok GT1_ok ?_)); (try simp only [v8Y, Nat.beq, Nat.ble, seval, tabs, GT1_set, ])) | ((with_reducible refine hN _ _ ?_); clear hN N))); (try ((with_reducible refine Fin.of ?_); (try with_reducible exact True.intro))))
    refine ⟨k + 1, ⟨by omega, k2⟩, ?_, ?_, by omega⟩
    ·((try simp only [v8Y, Nat.beq, Nat.ble, seval, tabs]); (repeat' with_reducible apply And.intro) <;> first | with_reducible exact True.intro | rfl | (congr 1 <;> omega))
    ·((try simp only [v8Y, Nat.beq, Nat.ble, seval, tabs]); (repeat' with_reducible apply And.intro) <;> first | with_reducible exact True.intro | rfl | (congr 1 <;> omega))
  ·have d1 : decide ((k : Int) < (n : Int)) = false := decide_eq_false (by omega)
   obtain rfl : k = n := by omega
   rw [List.drop_eq_nil_of_le (by omega)] at k2
   simp only [idxI] at k2
   ((repeat (first | (with_reducible refine Vc.seq fun N hN => ?_) | ((with_reducible refine And.intro ?_ ?_); exact sX0) | ((first | ((with_reducible refine Vc.hold ?_); first | refine Vc.regiont T0_ok GT1_ok ?_)); (try simp only [v8Y, Nat.beq, Nat.ble, seval, tabs, GT1_set, d1])) | ((with_reducible refine hN _ _ ?_); clear hN N))))
   (refine Vc.cond T0_ok (t := false) (by rfl) (fun h => Bool.noConfusion h) (fun _ => ?_))
   ((repeat (first | (with_reducible refine Vc.seq fun N hN => ?_) | ((first | with_reducible refine Vc.exit ?_); dsimp only [thenK, blockK, Nat.beq]; (first | skip)) | ((with_reducible refine And.intro ?_ ?_); exact sX0) | ((first | ((with_reducible refine Vc.fin ?_); dsimp only [thenK, blockK, retK, resS, resOne, resAll]) | ((with_reducible refine Vc.hold ?_); first | refine Vc.regiont T0_ok GT1_ok ?_)); (try simp only [v8Y, Nat.beq, Nat.ble, seval, tabs, GT1_set])) | ((with_reducible refine hN _ _ ?_); clear hN N))); (try ((with_reducible refine Fin.of ?_); (try with_reducible exact True.intro))))
   (refine hN1 _ _ ?_; (try clear hN N); clear hN1 N1)
   ((repeat (first | (with_reducible refine Vc.seq fun N hN => ?_) | ((first | with_reducible refine Vc.exit ?_); dsimp only [thenK, blockK, Nat.beq]; (first | skip)) | ((with_reducible refine And.intro ?_ ?_); exact sX0) | ((first | ((with_reducible refine Vc.fin ?_); dsimp only [thenK, blockK, retK, resS, resOne, resAll]) | ((with_reducible refine Vc.hold ?_); first | refine Vc.regiont T0_ok GT1_ok ?_)); (try simp only [v8Y, Nat.beq, Nat.ble, seval, tabs, GT1_set])) | ((with_reducible refine hN _ _ ?_); clear hN N))); (try ((with_reducible refine Fin.of ?_); (try with_reducible exact True.intro))))
   exact ⟨trivial, by rw [← k2]⟩
def g_index (args : List SV) (m : List Blk) : CR :=
 match args with
 | [x, .int .u8 y] => match srcC x m with
  | some (q, k, .ints .u8 xs) => .pure (q ∧ k ≤ 1000000000) (.int .i64 (idxI xs y 0))
  | _ => .none
 | _ => .none
theorem g_index_ok (w0 : World) (B : List Nat) (args : List SV) (m : List Blk) : CROk Tryd.prog w0 B 52 args m (g_index args m) := by
 unfold g_index
 split
 ·rename_i x y
  split
  ·rename_i q k xs hs
   intro ⟨hq, hk⟩ w hm
   obtain ⟨h1, a, cp, h2, h3, h4, h5⟩ := src_ro hs hq hm
   have hl : xs.length = k := by simpa [cc, conEs] using h1
   have e : cvs [x, .int .u8 y] = cvs [.sl 0 a 0 0 1 k cp, .int .u8 y] := by simp only [cvs]; rw [h2]; rfl
   rw [e]
   exact calls_pure Tryd.func52 rfl rfl (index_vc xs y a k cp hl h3 hk h5 w h4)
  ·exact trivial
 ·exact trivial
noncomputable def GU1 : Ctr := fun f args m => match f with
 | 52 => g_index args m
 | _ => .none
theorem GU1_ok : GOk Tryd.prog GU1 := by
 intro w0 B f args m; unfold GU1; split
 ·exact g_index_ok _ _ _ _
 ·exact trivial
theorem GU1_index : GU1 52 = g_index := by funext args m; rfl
def GU1_set := And.intro (@GU1_index) (@g_index.eq_def)

theorem contains_vc (xs : List Int) (x : Int) (a : Option Addr) (n cp : Nat) (hn : xs.length = n) (hc : n ≤ cp) (hM : n ≤ 1000000000) (ha : adr a n cp) (w : World) (hm : MemOk w [] [.ro a (.ints .u8 xs)] w) :
  Calls Tryd.prog 35 (cvs [.sl 0 a 0 0 1 n cp, .int .u8 x]).toArray w (fun en w' => ∃ u, en = .returned u ∧ ∃ v m', u = cv v ∧ MemOk w [] m' w' ∧ v = .bool (hasI xs x)) := by
 have t1 : (xs.drop 0).take n = xs := by rw [List.drop_zero, List.take_of_length_le (by omega)]
 have e1 := idxI_has xs x 0 (Int.le_refl _)
 refine Vc.calls T0_ok Tryd.func35 rfl rfl (args := [.sl 0 a 0 0 1 n cp, .int .u8 x]) (k := 7) rfl hm ?_; change Vc _ _ (c8 (.sl 0 a 0 0 1 n cp) (.int .u8 x) .undef .undef .undef .undef .undef .undef ([.undef])) _ _
 ((repeat (first | (with_reducible refine Vc.seq fun N hN => ?_) | ((with_reducible refine And.intro ?_ ?_); exact sX0) | ((first | ((with_reducible refine Vc.fin ?_); dsimp only [thenK, blockK, retK, resS, resOne, resAll]) | ((with_reducible refine Vc.hold ?_); first | refine Vc.regiont T0_ok GU1_ok ?_)); (try simp only [v8Y, Nat.beq, Nat.ble, seval, tabs, GU1_set, t1, e1])) | ((with_reducible refine hN _ _ ?_); clear hN N))); (try ((with_reducible refine Fin.of ?_); (try with_reducible exact True.intro))))
 exact ⟨trivial, trivial⟩
def g_contains (args : List SV) (m : List Blk) : CR :=
 match args with
 | [x, .int .u8 y] => match srcC x m with
  | some (q, k, .ints .u8 xs) => .pure (q ∧ k ≤ 1000000000) (.bool (hasI xs y))
  | _ => .none
 | _ => .none
theorem g_contains_ok (w0 : World) (B : List Nat) (args : List SV) (m : List Blk) : CROk Tryd.prog w0 B 35 args m (g_contains args m) := by
 unfold g_contains
 split
 ·rename_i x y
  split
  ·rename_i q k xs hs
   intro ⟨hq, hk⟩ w hm
   obtain ⟨h1, a, cp, h2, h3, h4, h5⟩ := src_ro hs hq hm
   have hl : xs.length = k := by simpa [cc, conEs] using h1
   have e : cvs [x, .int .u8 y] = cvs [.sl 0 a 0 0 1 k cp, .int .u8 y] := by simp only [cvs]; rw [h2]; rfl
   rw [e]
   exact calls_pure Tryd.func35 rfl rfl (contains_vc xs y a k cp hl h3 hk h5 w h4)
  ·exact trivial
 ·exact trivial
theorem byEqual_vc (xs ys : List Int) (a1 a2 : Option Addr) (n1 n2 c1 c2 : Nat) (l1 : xs.length = n1) (l2 : ys.length = n2) (hx : allB xs) (hy : allB ys) (h1 : n1 ≤ c1) (h2 : n2 ≤ c2) (q1 : adr a1 n1 c1) (q2 : adr a2 n2 c2)
  (w : World) (hm : MemOk w [] [.ro a1 (.ints .u8 xs), .ro a2 (.ints .u8 ys)] w) :
  Calls Tryd.prog 55 (cvs [.sl 0 a1 0 0 1 n1 c1, .sl 1 a2 0 0 1 n2 c2]).toArray w (fun en w' => ∃ u, en = .returned u ∧ ∃ v m', u = cv v ∧ MemOk w [] m' w' ∧ v = .bool (decide (xs = ys))) := by
 have t1 : (xs.drop 0).take n1 = xs := by rw [List.drop_zero, List.take_of_length_le (by omega)]
 have t2 : (ys.drop 0).take n2 = ys := by rw [List.drop_zero, List.take_of_length_le (by omega)]
 refine Vc.calls T0_ok Tryd.func55 rfl rfl (args := [.sl 0 a1 0 0 1 n1 c1, .sl 1 a2 0 0 1 n2 c2]) (k := 8) rfl hm ?_; change Vc _ _ (c8 (.sl 0 a1 0 0 1 n1 c1) (.sl 1 a2 0 0 1 n2 c2) .undef .undef .undef .undef .undef .undef ([.undef, .undef])) _ _
 ((repeat (first | (with_reducible refine Vc.seq fun N hN => ?_) | ((with_reducible refine And.intro ?_ ?_); exact sX0) | ((first | ((with_reducible refine Vc.fin ?_); dsimp only [thenK, blockK, retK, resS, resOne, resAll]) | ((with_reducible refine Vc.hold ?_); first | refine Vc.regiont T0_ok GT1_ok ?_)); (try simp only [v8Y, Nat.beq, Nat.ble, seval, tabs, GT1_set, t1, t2])) | ((with_reducible refine hN _ _ ?_); clear hN N))); (try ((with_reducible refine Fin.of ?_); (try with_reducible exact True.intro))))
 exact ⟨trivial, trivial⟩
def g_byEqual (args : List SV) (m : List Blk) : CR :=
 match args with
 | [x, y] => match srcC x m, srcC y m with
  | some (q, _, .ints .u8 xs), some (q', _, .ints .u8 ys) => .pure (q ∧ q' ∧ allB xs ∧ allB ys) (.bool (decide (xs = ys)))
  | _, _ => .none
 | _ => .none
theorem g_byEqual_ok (w0 : World) (B : List Nat) (args : List SV) (m : List Blk) : CROk Tryd.prog w0 B 55 args m (g_byEqual args m) := by
 unfold g_byEqual
 split
 ·rename_i x y
  split
  ·rename_i q k xs q' k' ys hs hs'
   intro ⟨hq, hq', hx, hy⟩ w hm
   obtain ⟨l1, a1, c1, e1, b1, m1, d1⟩ := src_ro hs hq hm
   obtain ⟨l2, a2, c2, e2, b2, m2, d2⟩ := src_ro hs' hq' hm
   have e : cvs [x, y] = cvs [.sl 0 a1 0 0 1 k c1, .sl 1 a2 0 0 1 k' c2] := by simp only [cvs]; rw [e1, e2]; rfl
   rw [e]
   exact calls_pure Tryd.func55 rfl rfl (byEqual_vc xs ys a1 a2 k k' c1 c2 (by simpa [cc, conEs] using l1) (by simpa [cc, conEs] using l2) hx hy b1 b2 d1 d2 w (ro_two m1 m2))
  ·exact trivial
 ·exact trivial
noncomputable def GU2 : Ctr := fun f args m => match f with
 | 52 => g_index args m
 | 35 => g_contains args m
 | 55 => g_byEqual args m
 | _ => .none
theorem GU2_ok : GOk Tryd.prog GU2 := by
 intro w0 B f args m; unfold GU2; split
 ·exact g_index_ok _ _ _ _
 ·exact g_contains_ok _ _ _ _
 ·exact g_byEqual_ok _ _ _ _
 ·exact trivial
theorem GU2_index : GU2 52 = g_index := by funext args m; rfl
theorem GU2_contains : GU2 35 = g_contains := by funext args m; rfl
theorem GU2_byEqual : GU2 55 = g_byEqual := by funext args m; rfl
def GU2_set := And.intro (And.intro (@GU2_index) (And.intro (@g_index.eq_def) (@GU2_contains))) (And.intro (@g_contains.eq_def) (And.intro (@GU2_byEqual) (@g_byEqual.eq_def)))

theorem hasPre_vc (xs ys : List Int) (a1 a2 : Option Addr) (n1 n2 c1 c2 : Nat) (l1 : xs.length = n1) (l2 : ys.length = n2) (hx : allB xs) (hy : allB ys) (h1 : n1 ≤ c1) (h2 : n2 ≤ c2) (hM : n1 ≤ 9223372036854775807) (hM2 : n2 ≤ 9223372036854775807) (q1 : adr a1 n1 c1) (q2 : adr a2 n2 c2)
  (w : World) (hm : MemOk w [] [.ro a1 (.ints .u8 xs), .ro a2 (.ints .u8 ys)] w) :
  Calls Tryd.prog 40 (cvs [.sl 0 a1 0 0 1 n1 c1, .sl 1 a2 0 0 1 n2 c2]).toArray w (fun en w' => ∃ u, en = .returned u ∧ ∃ v m', u = cv v ∧ MemOk w [] m' w' ∧ v = .bool (decide (n2 ≤ n1) && decide (xs.take n2 = ys))) := by
 have t1 : (xs.drop 0).take n2 = xs.take n2 := by rw [List.drop_zero]
 have t2 : (ys.drop 0).take n2 = ys := by rw [List.drop_zero, List.take_of_length_le (by omega)]
 have hx2 : allB (xs.take n2) := fun z hz => hx z (List.mem_of_mem_take hz)
 have tn : ((n2 : Nat) : Int).toNat = n2 := by omega
 by_cases hle : n2 ≤ n1
 ·have d1 : decide ((n2 : Int) ≤ (n1 : Int)) = true := decide_eq_true (by omega)
  have d2 : decide (n2 ≤ n1) = true := decide_eq_true hle
  have q3 := adr_le q1 hle
  have tk2 : ys.take n2 = ys := List.take_of_length_le (by omega)
  rw [d2, Bool.true_and]
  refine Vc.calls T0_ok Tryd.func40 rfl rfl (args := [.sl 0 a1 0 0 1 n1 c1, .sl 1 a2 0 0 1 n2 c2]) (k := 16) rfl hm ?_; change Vc _ _ (c8 (.sl 0 a1 0 0 1 n1 c1) (.sl 1 a2 0 0 1 n2 c2) .undef .undef .undef .undef .undef .undef (c8 .undef .undef .undef .undef .undef .undef .undef .undef ([.undef, .undef]))) _ _
  ((repeat (first | (with_reducible refine Vc.seq fun N hN => ?_) | ((with_reducible refine And.intro ?_ ?_); exact sX0) | ((first | ((with_reducible refine Vc.fin ?_); dsimp only [thenK, blockK, retK, resS, resOne, resAll]) | ((with_reducible refine Vc.hold ?_); first | refine Vc.regiont T0_ok GU2_ok ?_)); (try simp only [v8Y, Nat.beq, Nat.ble, seval, tabs, GU2_set, d1, t1, t2, tn, Nat.sub_zero, List.drop_zero, tk2])) | ((with_reducible refine hN _ _ ?_); clear hN N))); (try ((with_reducible refine Fin.of ?_); (try with_reducible exact True.intro))))
  exact ⟨trivial, trivial⟩
 ·have d1 : decide ((n2 : Int) ≤ (n1 : Int)) = false := decide_eq_false (by omega)
  have d2 : decide (n2 ≤ n1) = false := decide_eq_false hle
  have tk2 : ys.take n2 = ys := List.take_of_length_le (by omega)
  rw [d2, Bool.false_and]
  refine Vc.calls T0_ok Tryd.func40 rfl rfl (args := [.sl 0 a1 0 0 1 n1 c1, .sl 1 a2 0 0 1 n2 c2]) (k := 16) rfl hm ?_; change Vc _ _ (c8 (.sl 0 a1 0 0 1 n1 c1) (.sl 1 a2 0 0 1 n2 c2) .undef .undef .undef .undef .undef .undef (c8 .undef .undef .undef .undef .undef .undef .undef .undef ([.undef, .undef]))) _ _
  ((repeat (first | (with_reducible refine Vc.seq fun N hN => ?_) | ((with_reducible refine And.intro ?_ ?_); exact sX0) | ((first | ((with_reducible refine Vc.fin ?_); dsimp only [thenK, blockK, retK, resS, resOne, resAll]) | ((with_reducible refine Vc.hold ?_); first | refine Vc.regiont T0_ok GU2_ok ?_)); (try simp only [v8Y, Nat.beq, Nat.ble, seval, tabs, GU2_set, d1, t1, t2, tn, Nat.sub_zero, List.drop_zero, tk2])) | ((with_reducible refine hN _ _ ?_); clear hN N))); (try ((with_reducible refine Fin.of ?_); (try with_reducible exact True.intro))))
  exact ⟨trivial, trivial⟩
def g_hasPre (args : List SV) (m : List Blk) : CR :=
 match args with
 | [x, y] => match srcC x m, srcC y m with
  | some (q, k, .ints .u8 xs), some (q', k', .ints .u8 ys) => .pure (q ∧ q' ∧ allB xs ∧ allB ys ∧ k ≤ 9223372036854775807 ∧ k' ≤ 9223372036854775807) (.bool (decide (k' ≤ k) && decide (xs.take k' = ys)))
  | _, _ => .none
 | _ => .none
theorem g_hasPre_ok (w0 : World) (B : List Nat) (args : List SV) (m : List Blk) : CROk Tryd.prog w0 B 40 args m (g_hasPre args m) := by
 unfold g_hasPre
 split
 ·rename_i x y
  split
  ·rename_i q k xs q' k' ys hs hs'
   intro ⟨hq, hq', hx, hy, hk, hk'⟩ w hm
   obtain ⟨l1, a1, c1, e1, b1, m1, d1⟩ := src_ro hs hq hm
   obtain ⟨l2, a2, c2, e2, b2, m2, d2⟩ := src_ro hs' hq' hm
   have e : cvs [x, y] = cvs [.sl 0 a1 0 0 1 k c1, .sl 1 a2 0 0 1 k' c2] := by simp only [cvs]; rw [e1, e2]; rfl
   rw [e]
   exact calls_pure Tryd.func40 rfl rfl (hasPre_vc xs ys a1 a2 k k' c1 c2 (by simpa [cc, conEs] using l1) (by simpa [cc, conEs] using l2) hx hy b1 b2 hk hk' d1 d2 w (ro_two m1 m2))
  ·exact trivial
 ·exact trivial
end Go.Proofs.YtoadeekdgikghaaDoor
