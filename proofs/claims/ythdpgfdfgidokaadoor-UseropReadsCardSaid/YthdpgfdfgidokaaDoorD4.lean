/-
 ABI: bytes cut off, a tail, a part, walked (package abi: cut, tail, part). No condition.
-/
import Derived.Test.YthdpgfdfgidokaaDoorD2
set_option maxRecDepth 10000
set_option maxHeartbeats 4000000
set_option linter.defProp false
set_option linter.unusedVariables false
set_option linter.unusedSimpArgs false
namespace Go.Proofs.YthdpgfdfgidokaaDoor
open Go.RowKit
def cutB (xs : List Int) (k : Nat) : Bool := smB k && decide (smN k ≤ xs.length)
theorem cutY_vc (a : Option Addr) (n c : Nat) (xs : List Int) (k : Nat) (hl : xs.length = n) (hn : n ≤ c) (hm : n ≤ 9223372036854775807) (hk : k < W) (h1 : smB k = true) (h2 : smN k ≤ n) (w : World) :
  Calls Tryd.prog 136 (cvs [.gh a n c (.ints .u8 xs), .word k]).toArray w (fun en w' => ∃ u, en = .returned u ∧ ∃ v' m', u = cv v' ∧ MemOk w [] m' w' ∧ v' = .tup [.gh a (smN k) c (.ints .u8 (xs.take (smN k))), .gh (shA a c (smN k) 1) (n - smN k) (c - smN k) (.ints .u8 (xs.drop (smN k))), .bool true]) := by
 have e1 := w64c (x := (n : Int)) (by omega)
 have d1 : decide ((n : Int) < (smN k : Nat)) = false := decide_eq_false (by omega)
 have s0 := shA_0 a c 1
 have t1 : (xs.drop (smN k)).take (n - smN k) = xs.drop (smN k) := List.take_of_length_le (by rw [List.length_drop]; omega)
 refine Vc.calls T0_ok Tryd.func136 rfl rfl (args := [.gh a n c (.ints .u8 xs), .word k]) (k := 27) rfl (MemOk.start _) ?_; change Vc _ _ (c8 (.gh a n c (.ints .u8 xs)) (.word k) .undef .undef .undef .undef .undef .undef (c8 .undef .undef .undef .undef .undef .undef .undef .undef (c8 .undef .undef .undef .undef .undef .undef .undef .undef ([.undef, .undef, .undef, .undef, .undef])))) _ _
 ((repeat (first | (with_reducible first | refine Vc.seq fun N hN => ?_ | refine Vc.block ?_) | ((with_reducible first | refine Vc.skip ?_ | refine Vc.exit ?_); dsimp only [thenK, blockK, Nat.beq]; (first | (refine hN _ _ ?_; clear hN N) | skip)) | (with_reducible intro _) | ((with_reducible refine And.intro ?_ ?_); exact sdB) | ((first | ((with_reducible refine askT_of ?_ (fun hb => ?_)); exact sdB; (try simp only [hb])) | ((with_reducible refine Vc.fin ?_); dsimp only [thenK, blockK, retK, resS, resOne, resAll]) | ((with_reducible refine Vc.hold ?_); first | refine Vc.regiont T0_ok GD2_ok ?_ | refine Vc.drawt (id := 4) T0_ok GD2_ok (by kernel_rfl) [0, 1, 2, 3, 4, 5, 6] 7 [] trivial (by kernel_rfl) ?_)); (try simp only [v8Y, Nat.beq, Nat.ble, seval, v8S, IntKind.bits, tabs, GD2_set, h1, e1, d1]); (try simp (disch := omega) only [v8W])) | ((with_reducible refine hN _ _ ?_); clear hN N; (try simp (disch := omega) only [v8W])))); (try ((with_reducible refine Fin.of ?_); (try with_reducible exact True.intro))))
 (refine Vc.cond T0_ok (t := false) (by rfl) (fun h => Bool.noConfusion h) (fun _ => ?_))
 ((repeat (first | (with_reducible first | refine Vc.seq fun N hN => ?_ | refine Vc.block ?_) | ((with_reducible first | refine Vc.skip ?_ | refine Vc.exit ?_); dsimp only [thenK, blockK, Nat.beq]; (first | (refine hN _ _ ?_; clear hN N) | skip)) | (with_reducible intro _) | ((with_reducible refine And.intro ?_ ?_); exact sdB) | ((first | ((with_reducible refine askT_of ?_ (fun hb => ?_)); exact sdB; (try simp only [hb])) | ((with_reducible refine Vc.fin ?_); dsimp only [thenK, blockK, retK, resS, resOne, resAll]) | ((with_reducible refine Vc.hold ?_); first | refine Vc.regiont T0_ok GD2_ok ?_ | refine Vc.drawt (id := 4) T0_ok GD2_ok (by kernel_rfl) [0, 1, 2, 3, 4, 5, 6] 7 [] trivial (by kernel_rfl) ?_)); (try simp only [v8Y, Nat.beq, Nat.ble, seval, v8S, IntKind.bits, tabs, GD2_set, s0, t1, tnc, Nat.sub_zero, List.drop_zero, conEs.eq_def, conSub.eq_def]); (try simp (disch := omega) only [v8W])) | ((with_reducible refine hN _ _ ?_); clear hN N; (try simp (disch := omega) only [v8W])))); (try ((with_reducible refine Fin.of ?_); (try with_reducible exact True.intro))))
 exact ⟨by simp, trivial⟩
theorem cutN_vc (a : Option Addr) (n c : Nat) (xs : List Int) (k : Nat) (hm : n ≤ 9223372036854775807) (hk : k < W) (h : smB k = false ∨ smB k = true ∧ n < smN k) (w : World) :
  Calls Tryd.prog 136 (cvs [.gh a n c (.ints .u8 xs), .word k]).toArray w (fun en w' => ∃ u, en = .returned u ∧ ∃ v' m', u = cv v' ∧ MemOk w [] m' w' ∧ v' = .tup [.nilsl, .nilsl, .bool false]) := by
 have e1 := w64c (x := (n : Int)) (by omega)
 rcases h with h1 | ⟨h1, h2⟩
 ·refine Vc.calls T0_ok Tryd.func136 rfl rfl (args := [.gh a n c (.ints .u8 xs), .word k]) (k := 27) rfl (MemOk.start _) ?_; change Vc _ _ (c8 (.gh a n c (.ints .u8 xs)) (.word k) .undef .undef .undef .undef .undef .undef (c8 .undef .undef .undef .undef .undef .undef .undef .undef (c8 .undef .undef .undef .undef .undef .undef .undef .undef ([.undef, .undef, .undef, .undef, .undef])))) _ _
  ((repeat (first | (with_reducible first | refine Vc.seq fun N hN => ?_ | refine Vc.block ?_) | ((with_reducible first | refine Vc.skip ?_ | refine Vc.exit ?_); dsimp only [thenK, blockK, Nat.beq]; (first | (refine hN _ _ ?_; clear hN N) | skip)) | (with_reducible intro _) | ((with_reducible refine And.intro ?_ ?_); exact sdB) | ((first | ((with_reducible refine askT_of ?_ (fun hb => ?_)); exact sdB; (try simp only [hb])) | ((with_reducible refine Vc.fin ?_); dsimp only [thenK, blockK, retK, resS, resOne, resAll]) | ((with_reducible refine Vc.hold ?_); first | refine Vc.regiont T0_ok GD2_ok ?_ | refine Vc.drawt (id := 4) T0_ok GD2_ok (by kernel_rfl) [0, 1, 2, 3, 4, 5, 6] 7 [] trivial (by kernel_rfl) ?_)); (try simp only [v8Y, Nat.beq, Nat.ble, seval, v8S, IntKind.bits, tabs, GD2_set, h1, e1]); (try simp (disch := omega) only [v8W])) | ((with_reducible refine hN _ _ ?_); clear hN N; (try simp (disch := omega) only [v8W])))); (try ((with_reducible refine Fin.of ?_); (try with_reducible exact True.intro))))
  (refine Vc.cond T0_ok (t := true) (by rfl) (fun _ => ?_) (fun h => Bool.noConfusion h))
  ((repeat (first | (with_reducible first | refine Vc.seq fun N hN => ?_ | refine Vc.block ?_) | ((with_reducible first | refine Vc.skip ?_ | refine Vc.exit ?_); dsimp only [thenK, blockK, Nat.beq]; (first | (refine hN _ _ ?_; clear hN N) | skip)) | (with_reducible intro _) | ((with_reducible refine And.intro ?_ ?_); exact sdB) | ((first | ((with_reducible refine askT_of ?_ (fun hb => ?_)); exact sdB; (try simp only [hb])) | ((with_reducible refine Vc.fin ?_); dsimp only [thenK, blockK, retK, resS, resOne, resAll]) | ((with_reducible refine Vc.hold ?_); first | refine Vc.regiont T0_ok GD2_ok ?_ | refine Vc.drawt (id := 4) T0_ok GD2_ok (by kernel_rfl) [0, 1, 2, 3, 4, 5, 6] 7 [] trivial (by kernel_rfl) ?_)); (try simp only [v8Y, Nat.beq, Nat.ble, seval, v8S, IntKind.bits, tabs, GD2_set]); (try simp (disch := omega) only [v8W])) | ((with_reducible refine hN _ _ ?_); clear hN N; (try simp (disch := omega) only [v8W])))); (try ((with_reducible refine Fin.of ?_); (try with_reducible exact True.intro))))
  exact ⟨by simp, trivial⟩
 ·have d1 : decide ((n : Int) < (smN k : Nat)) = true := decide_eq_true (by omega)
  refine Vc.calls T0_ok Tryd.func136 rfl rfl (args := [.gh a n c (.ints .u8 xs), .word k]) (k := 27) rfl (MemOk.start _) ?_; change Vc _ _ (c8 (.gh a n c (.ints .u8 xs)) (.word k) .undef .undef .undef .undef .undef .undef (c8 .undef .undef .undef .undef .undef .undef .undef .undef (c8 .undef .undef .undef .undef .undef .undef .undef .undef ([.undef, .undef, .undef, .undef, .undef])))) _ _
  ((repeat (first | (with_reducible first | refine Vc.seq fun N hN => ?_ | refine Vc.block ?_) | ((with_reducible first | refine Vc.skip ?_ | refine Vc.exit ?_); dsimp only [thenK, blockK, Nat.beq]; (first | (refine hN _ _ ?_; clear hN N) | skip)) | (with_reducible intro _) | ((with_reducible refine And.intro ?_ ?_); exact sdB) | ((first | ((with_reducible refine askT_of ?_ (fun hb => ?_)); exact sdB; (try simp only [hb])) | ((with_reducible refine Vc.fin ?_); dsimp only [thenK, blockK, retK, resS, resOne, resAll]) | ((with_reducible refine Vc.hold ?_); first | refine Vc.regiont T0_ok GD2_ok ?_ | refine Vc.drawt (id := 4) T0_ok GD2_ok (by kernel_rfl) [0, 1, 2, 3, 4, 5, 6] 7 [] trivial (by kernel_rfl) ?_)); (try simp only [v8Y, Nat.beq, Nat.ble, seval, v8S, IntKind.bits, tabs, GD2_set, h1, e1, d1]); (try simp (disch := omega) only [v8W])) | ((with_reducible refine hN _ _ ?_); clear hN N; (try simp (disch := omega) only [v8W])))); (try ((with_reducible refine Fin.of ?_); (try with_reducible exact True.intro))))
  (refine Vc.cond T0_ok (t := true) (by rfl) (fun _ => ?_) (fun h => Bool.noConfusion h))
  ((repeat (first | (with_reducible first | refine Vc.seq fun N hN => ?_ | refine Vc.block ?_) | ((with_reducible first | refine Vc.skip ?_ | refine Vc.exit ?_); dsimp only [thenK, blockK, Nat.beq]; (first | (refine hN _ _ ?_; clear hN N) | skip)) | (with_reducible intro _) | ((with_reducible refine And.intro ?_ ?_); exact sdB) | ((first | ((with_reducible refine askT_of ?_ (fun hb => ?_)); exact sdB; (try simp only [hb])) | ((with_reducible refine Vc.fin ?_); dsimp only [thenK, blockK, retK, resS, resOne, resAll]) | ((with_reducible refine Vc.hold ?_); first | refine Vc.regiont T0_ok GD2_ok ?_ | refine Vc.drawt (id := 4) T0_ok GD2_ok (by kernel_rfl) [0, 1, 2, 3, 4, 5, 6] 7 [] trivial (by kernel_rfl) ?_)); (try simp only [v8Y, Nat.beq, Nat.ble, seval, v8S, IntKind.bits, tabs, GD2_set]); (try simp (disch := omega) only [v8W])) | ((with_reducible refine hN _ _ ?_); clear hN N; (try simp (disch := omega) only [v8W])))); (try ((with_reducible refine Fin.of ?_); (try with_reducible exact True.intro))))
  exact ⟨by simp, trivial⟩
def g_cut (args : List SV) (_m : List Blk) : CR :=
 match args with
 | [.gh a n c (.ints .u8 xs), .word k] => match cutB xs k with
  | true => .pure (xs.length = n ∧ n ≤ c ∧ n ≤ 9223372036854775807 ∧ k < W) (.tup [.gh a (smN k) c (.ints .u8 (xs.take (smN k))), .gh (shA a c (smN k) 1) (n - smN k) (c - smN k) (.ints .u8 (xs.drop (smN k))), .bool true])
  | false => .pure (xs.length = n ∧ n ≤ c ∧ n ≤ 9223372036854775807 ∧ k < W) (.tup [.nilsl, .nilsl, .bool false])
 | _ => .none
theorem g_cut_ok (w0 : World) (B : List Nat) (args : List SV) (m : List Blk) : CROk Tryd.prog w0 B 136 args m (g_cut args m) := by
 unfold g_cut
 split
 ·rename_i a n c xs k
  split
  ·rename_i hc
   intro ⟨hl, hn, hm, hk⟩ w _
   unfold cutB at hc
   rw [Bool.and_eq_true, decide_eq_true_eq] at hc
   exact calls_pure Tryd.func136 rfl rfl (cutY_vc a n c xs k hl hn hm hk hc.1 (by omega) w)
  ·rename_i hc
   intro ⟨hl, hn, hm, hk⟩ w _
   unfold cutB at hc
   rw [Bool.and_eq_false_iff, decide_eq_false_iff_not] at hc
   refine calls_pure Tryd.func136 rfl rfl (cutN_vc a n c xs k hm hk ?_ w)
   cases hb : smB k with
   | false => exact .inl rfl
   | true => exact .inr ⟨rfl, by rcases hc with h | h; (rw [hb] at h; cases h); omega⟩
 ·exact trivial
noncomputable def GD4 : Ctr := fun f args m => match f with
 | 52 => g_From args m
 | 43 => g_rFrom args m
 | 141 => g_Small args m
 | 109 => g_lowByte args m
 | 120 => g_Shl args m
 | 89 => g_Shr args m
 | 54 => g_Cmp args m
 | 53 => g_Add args m
 | 51 => g_Mul args m
 | 93 => g_length args m
 | 102 => g_Read args m
 | 79 => g_Addr args m
 | 67 => g_Wide args m
 | 101 => g_Bytes args m
 | 107 => g_Count args m
 | 108 => g_apTail args m
 | 136 => g_cut args m
 | _ => .none
theorem GD4_ok : GOk Tryd.prog GD4 := by
 intro w0 B f args m; unfold GD4; split
 ·exact g_From_ok _ _ _ _
 ·exact g_rFrom_ok _ _ _ _
 ·exact g_Small_ok _ _ _ _
 ·exact g_lowByte_ok _ _ _ _
 ·exact g_Shl_ok _ _ _ _
 ·exact g_Shr_ok _ _ _ _
 ·exact g_Cmp_ok _ _ _ _
 ·exact g_Add_ok _ _ _ _
 ·exact g_Mul_ok _ _ _ _
 ·exact g_length_ok _ _ _ _
 ·exact g_Read_ok _ _ _ _
 ·exact g_Addr_ok _ _ _ _
 ·exact g_Wide_ok _ _ _ _
 ·exact g_Bytes_ok _ _ _ _
 ·exact g_Count_ok _ _ _ _
 ·exact g_apTail_ok _ _ _ _
 ·exact g_cut_ok _ _ _ _
 ·exact trivial
theorem GD4_From : GD4 52 = g_From := by funext args m; rfl
theorem GD4_rFrom : GD4 43 = g_rFrom := by funext args m; rfl
theorem GD4_Small : GD4 141 = g_Small := by funext args m; rfl
theorem GD4_lowByte : GD4 109 = g_lowByte := by funext args m; rfl
theorem GD4_Shl : GD4 120 = g_Shl := by funext args m; rfl
theorem GD4_Shr : GD4 89 = g_Shr := by funext args m; rfl
theorem GD4_Cmp : GD4 54 = g_Cmp := by funext args m; rfl
theorem GD4_Add : GD4 53 = g_Add := by funext args m; rfl
theorem GD4_Mul : GD4 51 = g_Mul := by funext args m; rfl
theorem GD4_length : GD4 93 = g_length := by funext args m; rfl
theorem GD4_Read : GD4 102 = g_Read := by funext args m; rfl
theorem GD4_Addr : GD4 79 = g_Addr := by funext args m; rfl
theorem GD4_Wide : GD4 67 = g_Wide := by funext args m; rfl
theorem GD4_Bytes : GD4 101 = g_Bytes := by funext args m; rfl
theorem GD4_Count : GD4 107 = g_Count := by funext args m; rfl
theorem GD4_apTail : GD4 108 = g_apTail := by funext args m; rfl
theorem GD4_cut : GD4 136 = g_cut := by funext args m; rfl
def GD4_set := And.intro (And.intro (And.intro (And.intro (And.intro (@GD4_From) (@g_From.eq_def)) (And.intro (@GD4_rFrom) (@g_rFrom.eq_def))) (And.intro (And.intro (@GD4_Small) (@g_Small.eq_def)) (And.intro (@GD4_lowByte) (@g_lowByte.eq_def)))) (And.intro (And.intro (And.intro (@GD4_Shl) (@g_Shl.eq_def)) (And.intro (@GD4_Shr) (@g_Shr.eq_def))) (And.intro (And.intro (@GD4_Cmp) (@g_Cmp.eq_def)) (And.intro (@GD4_Add) (And.intro (@g_Add.eq_def) (@GD4_Mul)))))) (And.intro (And.intro (And.intro (And.intro (@g_Mul.eq_def) (@GD4_length)) (And.intro (@g_length.eq_def) (@GD4_Read))) (And.intro (And.intro (@g_Read.eq_def) (@GD4_Addr)) (And.intro (@g_Addr.eq_def) (@GD4_Wide)))) (And.intro (And.intro (And.intro (@g_Wide.eq_def) (@GD4_Bytes)) (And.intro (@g_Bytes.eq_def) (@GD4_Count))) (And.intro (And.intro (@g_Count.eq_def) (@GD4_apTail)) (And.intro (@g_apTail.eq_def) (And.intro (@GD4_cut) (@g_cut.eq_def))))))

def tailO (xs : List Int) (h : Nat) : Option (List Int) :=
 if cutB xs h = true ∧ 32 ≤ (xs.drop (smN h)).length ∧ cutB ((xs.drop (smN h)).drop 32) (readN ((xs.drop (smN h)).take 32)) = true then some (((xs.drop (smN h)).drop 32).take (smN (readN ((xs.drop (smN h)).take 32)))) else none
set_option maxRecDepth 20000 in
theorem tail_vc (a : Option Addr) (n c : Nat) (xs : List Int) (h : Nat) (hl : xs.length = n) (hn : n ≤ c) (hm : n ≤ 9223372036854775807) (hx : allB xs) (ha : adr a n c) (hh : h < W) (w : World) (hL : LiesH (H0 w) a (cc (.ints .u8 xs))) :
  Calls Tryd.prog 125 (cvs [.word h, .gh a n c (.ints .u8 xs)]).toArray w (fun en w' => ∃ u, en = .returned u ∧ ∃ v' m', u = cv v' ∧ MemOk w [] m' w' ∧
   match tailO xs h with
   | none => v' = .tup [.nilsl, .bool false]
   | some ys => v' = .tup [.gh (shA (shA a c (smN h) 1) (c - smN h) 32 1) ys.length (c - smN h - 32) (.ints .u8 ys), .bool true]) := by
 have hLx : ∀ m, allOld w ∈ m → LiesH (HM m) a (cc (.ints .u8 xs)) := fun m hin => hL.mono (H0.hm hin)
 cases h1 : cutB xs h with
 | false =>
  have ht : tailO xs h = none := if_neg (by rw [h1]; simp)
  rw [ht]
  refine Vc.calls T0_ok Tryd.func125 rfl rfl (args := [.word h, .gh a n c (.ints .u8 xs)]) (k := 34) rfl (old_start w) ?_; change Vc _ _ (c8 (.word h) (.gh a n c (.ints .u8 xs)) .undef .undef .undef .undef .undef .undef (c8 .undef .undef .undef .undef .undef .undef .undef .undef (c8 .undef .undef .undef .undef .undef .undef .undef .undef (c8 .undef .undef .undef .undef .undef .undef .undef .undef ([.undef, .undef, .undef, .undef]))))) _ _
  ((repeat (first | (with_reducible first | refine Vc.seq fun N hN => ?_ | refine Vc.block ?_) | ((with_reducible first | refine Vc.skip ?_ | refine Vc.exit ?_); dsimp only [thenK, blockK, Nat.beq]; (first | (refine hN _ _ ?_; clear hN N) | skip)) | (with_reducible intro _) | ((with_reducible refine And.intro ?_ ?_); exact sdB) | ((first | ((with_reducible refine askT_of ?_ (fun hb => ?_)); exact sdB; (try simp only [hb])) | ((with_reducible refine Vc.fin ?_); dsimp only [thenK, blockK, retK, resS, resOne, resAll]) | ((with_reducible refine Vc.hold ?_); first | refine Vc.regiont T0_ok GD4_ok ?_ | refine Vc.drawt (id := 4) T0_ok GD4_ok (by kernel_rfl) [0, 1, 2, 3, 4, 5, 6, 7, 8, 9] 10 [] trivial (by kernel_rfl) ?_)); (try simp only [v8Y, Nat.beq, Nat.ble, seval, v8S, IntKind.bits, tabs, GD4_set, h1]); (try simp (disch := omega) only [v8W])) | ((with_reducible refine hN _ _ ?_); clear hN N; (try simp (disch := omega) only [v8W])))); (try ((with_reducible refine Fin.of ?_); (try with_reducible exact True.intro))))
  (refine Vc.cond T0_ok (t := true) (by rfl) (fun _ => ?_) (fun h => Bool.noConfusion h))
  ((repeat (first | (with_reducible first | refine Vc.seq fun N hN => ?_ | refine Vc.block ?_) | ((with_reducible first | refine Vc.skip ?_ | refine Vc.exit ?_); dsimp only [thenK, blockK, Nat.beq]; (first | (refine hN _ _ ?_; clear hN N) | skip)) | (with_reducible intro _) | ((with_reducible refine And.intro ?_ ?_); exact sdB) | ((first | ((with_reducible refine askT_of ?_ (fun hb => ?_)); exact sdB; (try simp only [hb])) | ((with_reducible refine Vc.fin ?_); dsimp only [thenK, blockK, retK, resS, resOne, resAll]) | ((with_reducible refine Vc.hold ?_); first | refine Vc.regiont T0_ok GD4_ok ?_ | refine Vc.drawt (id := 4) T0_ok GD4_ok (by kernel_rfl) [0, 1, 2, 3, 4, 5, 6, 7, 8, 9] 10 [] trivial (by kernel_rfl) ?_)); (try simp only [v8Y, Nat.beq, Nat.ble, seval, v8S, IntKind.bits, tabs, GD4_set]); (try simp (disch := omega) only [v8W])) | ((with_reducible refine hN _ _ ?_); clear hN N; (try simp (disch := omega) only [v8W])))); (try ((with_reducible refine Fin.of ?_); (try with_reducible exact True.intro))))
  exact ⟨by simp, trivial⟩
 | true =>
  have hi : smN h ≤ n := by unfold cutB at h1; rw [Bool.and_eq_true, decide_eq_true_eq] at h1; omega
  have hyl : (xs.drop (smN h)).length = n - smN h := by rw [List.length_drop, hl]
  have hLy : ∀ m, allOld w ∈ m → LiesH (HM m) (shA a c (smN h) 1) (cc (.ints .u8 (xs.drop (smN h)))) := fun m hin => lies_shA (hLx m hin) hl hn
  have hay := adr_shA (es := 1) ha hi hn
  have hby : allB (xs.drop (smN h)) := fun y hy => hx y (List.mem_of_mem_drop hy)
  generalize hys : xs.drop (smN h) = ys at *
  by_cases h2 : 32 ≤ ys.length
  ·have d2 : decide (((n - smN h : Nat) : Int) < 32) = false := decide_eq_false (by omega)
   have s0 := shA_0 (shA a c (smN h) 1) (c - smN h) 1
   have t1 : (ys.drop 32).take (n - smN h - 32) = ys.drop 32 := List.take_of_length_le (by rw [List.length_drop]; omega)
   have t2 : (ys.take 32).take 32 = ys.take 32 := by rw [List.take_take]; rfl
   have hb32 : allB (ys.take 32) := fun y hy => hby y (List.mem_of_mem_take hy)
   have hrW := readN_lt hb32
   have hl32 : (ys.take 32).length = 32 := by rw [List.length_take]; omega
   have hLr : ∀ m, allOld w ∈ m → LiesH (HM m) (shA a c (smN h) 1) (cc (.ints .u8 (ys.take 32))) := fun m hin => lies_take 32 (hLy m hin)
   have hyd : (ys.drop 32).length = n - smN h - 32 := by rw [List.length_drop, hyl]
   have ha32 : adr (shA a c (smN h) 1) 32 (c - smN h) := hay.imp id fun g => ⟨g.1, by omega, g.2.2⟩
   cases h3 : cutB (ys.drop 32) (readN (ys.take 32)) with
   | false =>
    have ht : tailO xs h = none := if_neg (by rw [hys]; exact fun g => by rw [h3] at g; exact Bool.noConfusion g.2.2)
    rw [ht]
    refine Vc.calls T0_ok Tryd.func125 rfl rfl (args := [.word h, .gh a n c (.ints .u8 xs)]) (k := 34) rfl (old_start w) ?_; change Vc _ _ (c8 (.word h) (.gh a n c (.ints .u8 xs)) .undef .undef .undef .undef .undef .undef (c8 .undef .undef .undef .undef .undef .undef .undef .undef (c8 .undef .undef .undef .undef .undef .undef .undef .undef (c8 .undef .undef .undef .undef .undef .undef .undef .undef ([.undef, .undef, .undef, .undef]))))) _ _
    ((repeat (first | (with_reducible first | refine Vc.seq fun N hN => ?_ | refine Vc.block ?_) | ((with_reducible first | refine Vc.skip ?_ | refine Vc.exit ?_); dsimp only [thenK, blockK, Nat.beq]; (first | (refine hN _ _ ?_; clear hN N) | skip)) | (with_reducible intro _) | ((with_reducible refine And.intro ?_ ?_); exact sdB) | ((first | ((with_reducible refine askT_of ?_ (fun hb => ?_)); exact sdB; (try simp only [hb])) | ((with_reducible refine Vc.fin ?_); dsimp only [thenK, blockK, retK, resS, resOne, resAll]) | ((with_reducible refine Vc.hold ?_); first | refine Vc.regiont T0_ok GD4_ok ?_ | refine Vc.drawt (id := 4) T0_ok GD4_ok (by kernel_rfl) [0, 1, 2, 3, 4, 5, 6, 7, 8, 9] 10 [] trivial (by kernel_rfl) ?_)); (try simp only [v8Y, Nat.beq, Nat.ble, seval, v8S, IntKind.bits, tabs, GD4_set, h1, hys, d2]); (try simp (disch := omega) only [v8W])) | ((with_reducible refine hN _ _ ?_); clear hN N; (try simp (disch := omega) only [v8W])))); (try ((with_reducible refine Fin.of ?_); (try with_reducible exact True.intro))))
    (refine Vc.cond T0_ok (t := false) (by rfl) (fun h => Bool.noConfusion h) (fun _ => ?_))
    ((repeat (first | (with_reducible first | refine Vc.seq fun N hN => ?_ | refine Vc.block ?_) | ((with_reducible first | refine Vc.skip ?_ | refine Vc.exit ?_); dsimp only [thenK, blockK, Nat.beq]; (first | (refine hN _ _ ?_; clear hN N) | skip)) | (with_reducible intro _) | ((with_reducible refine And.intro ?_ ?_); exact sX12) | ((first | ((with_reducible refine askT_of ?_ (fun hb => ?_)); exact sX12; (try simp only [hb])) | ((with_reducible refine Vc.fin ?_); dsimp only [thenK, blockK, retK, resS, resOne, resAll]) | ((with_reducible refine Vc.hold ?_); first | refine Vc.regiont T0_ok GD4_ok ?_ | refine Vc.drawt (id := 4) T0_ok GD4_ok (by kernel_rfl) [0, 1, 2, 3, 4, 5, 6, 7, 8, 9] 10 [] trivial (by kernel_rfl) ?_)); (try simp only [v8Y, Nat.beq, Nat.ble, seval, v8S, IntKind.bits, tabs, GD4_set, s0, t1, t2, h3, List.drop_zero, Nat.sub_zero, conEs.eq_def, conSub.eq_def]); (try simp (disch := omega) only [v8W])) | ((with_reducible refine hN _ _ ?_); clear hN N; (try simp (disch := omega) only [v8W])))); (try ((with_reducible refine Fin.of ?_); (try with_reducible exact True.intro))))
    exact ⟨by simp, trivial⟩
   | true =>
    have ht : tailO xs h = some ((ys.drop 32).take (smN (readN (ys.take 32)))) := by unfold tailO; rw [hys]; exact if_pos ⟨h1, h2, h3⟩
    have hkl : ((ys.drop 32).take (smN (readN (ys.take 32)))).length = smN (readN (ys.take 32)) := by
     have h4 := h3
     unfold cutB at h4; rw [Bool.and_eq_true, decide_eq_true_eq] at h4
     rw [List.length_take]; omega
    rw [ht]
    simp only [hkl]
    refine Vc.calls T0_ok Tryd.func125 rfl rfl (args := [.word h, .gh a n c (.ints .u8 xs)]) (k := 34) rfl (old_start w) ?_; change Vc _ _ (c8 (.word h) (.gh a n c (.ints .u8 xs)) .undef .undef .undef .undef .undef .undef (c8 .undef .undef .undef .undef .undef .undef .undef .undef (c8 .undef .undef .undef .undef .undef .undef .undef .undef (c8 .undef .undef .undef .undef .undef .undef .undef .undef ([.undef, .undef, .undef, .undef]))))) _ _
    ((repeat (first | (with_reducible first | refine Vc.seq fun N hN => ?_ | refine Vc.block ?_) | ((with_reducible first | refine Vc.skip ?_ | refine Vc.exit ?_); dsimp only [thenK, blockK, Nat.beq]; (first | (refine hN _ _ ?_; clear hN N) | skip)) | (with_reducible intro _) | ((with_reducible refine And.intro ?_ ?_); exact sdB) | ((first | ((with_reducible refine askT_of ?_ (fun hb => ?_)); exact sdB; (try simp only [hb])) | ((with_reducible refine Vc.fin ?_); dsimp only [thenK, blockK, retK, resS, resOne, resAll]) | ((with_reducible refine Vc.hold ?_); first | refine Vc.regiont T0_ok GD4_ok ?_ | refine Vc.drawt (id := 4) T0_ok GD4_ok (by kernel_rfl) [0, 1, 2, 3, 4, 5, 6, 7, 8, 9] 10 [] trivial (by kernel_rfl) ?_)); (try simp only [v8Y, Nat.beq, Nat.ble, seval, v8S, IntKind.bits, tabs, GD4_set, h1, hys, d2]); (try simp (disch := omega) only [v8W])) | ((with_reducible refine hN _ _ ?_); clear hN N; (try simp (disch := omega) only [v8W])))); (try ((with_reducible refine Fin.of ?_); (try with_reducible exact True.intro))))
    (refine Vc.cond T0_ok (t := false) (by rfl) (fun h => Bool.noConfusion h) (fun _ => ?_))
    ((repeat (first | (with_reducible first | refine Vc.seq fun N hN => ?_ | refine Vc.block ?_) | ((with_reducible first | refine Vc.skip ?_ | refine Vc.exit ?_); dsimp only [thenK, blockK, Nat.beq]; (first | (refine hN _ _ ?_; clear hN N) | skip)) | (with_reducible intro _) | ((with_reducible refine And.intro ?_ ?_); exact sX12) | ((first | ((with_reducible refine askT_of ?_ (fun hb => ?_)); exact sX12; (try simp only [hb])) | ((with_reducible refine Vc.fin ?_); dsimp only [thenK, blockK, retK, resS, resOne, resAll]) | ((with_reducible refine Vc.hold ?_); first | refine Vc.regiont T0_ok GD4_ok ?_ | refine Vc.drawt (id := 4) T0_ok GD4_ok (by kernel_rfl) [0, 1, 2, 3, 4, 5, 6, 7, 8, 9] 10 [] trivial (by kernel_rfl) ?_)); (try simp only [v8Y, Nat.beq, Nat.ble, seval, v8S, IntKind.bits, tabs, GD4_set, s0, t1, t2, h3, List.drop_zero, Nat.sub_zero, conEs.eq_def, conSub.eq_def]); (try simp (disch := omega) only [v8W])) | ((with_reducible refine hN _ _ ?_); clear hN N; (try simp (disch := omega) only [v8W])))); (try ((with_reducible refine Fin.of ?_); (try with_reducible exact True.intro))))
    exact ⟨by simp, trivial⟩
  ·have d2 : decide (((n - smN h : Nat) : Int) < 32) = true := decide_eq_true (by omega)
   have ht : tailO xs h = none := if_neg (by rw [hys]; exact fun g => h2 g.2.1)
   rw [ht]
   refine Vc.calls T0_ok Tryd.func125 rfl rfl (args := [.word h, .gh a n c (.ints .u8 xs)]) (k := 34) rfl (old_start w) ?_; change Vc _ _ (c8 (.word h) (.gh a n c (.ints .u8 xs)) .undef .undef .undef .undef .undef .undef (c8 .undef .undef .undef .undef .undef .undef .undef .undef (c8 .undef .undef .undef .undef .undef .undef .undef .undef (c8 .undef .undef .undef .undef .undef .undef .undef .undef ([.undef, .undef, .undef, .undef]))))) _ _
   ((repeat (first | (with_reducible first | refine Vc.seq fun N hN => ?_ | refine Vc.block ?_) | ((with_reducible first | refine Vc.skip ?_ | refine Vc.exit ?_); dsimp only [thenK, blockK, Nat.beq]; (first | (refine hN _ _ ?_; clear hN N) | skip)) | (with_reducible intro _) | ((with_reducible refine And.intro ?_ ?_); exact sdB) | ((first | ((with_reducible refine askT_of ?_ (fun hb => ?_)); exact sdB; (try simp only [hb])) | ((with_reducible refine Vc.fin ?_); dsimp only [thenK, blockK, retK, resS, resOne, resAll]) | ((with_reducible refine Vc.hold ?_); first | refine Vc.regiont T0_ok GD4_ok ?_ | refine Vc.drawt (id := 4) T0_ok GD4_ok (by kernel_rfl) [0, 1, 2, 3, 4, 5, 6, 7, 8, 9] 10 [] trivial (by kernel_rfl) ?_)); (try simp only [v8Y, Nat.beq, Nat.ble, seval, v8S, IntKind.bits, tabs, GD4_set, h1, hys, d2]); (try simp (disch := omega) only [v8W])) | ((with_reducible refine hN _ _ ?_); clear hN N; (try simp (disch := omega) only [v8W])))); (try ((with_reducible refine Fin.of ?_); (try with_reducible exact True.intro))))
   (refine Vc.cond T0_ok (t := true) (by rfl) (fun _ => ?_) (fun h => Bool.noConfusion h))
   ((repeat (first | (with_reducible first | refine Vc.seq fun N hN => ?_ | refine Vc.block ?_) | ((with_reducible first | refine Vc.skip ?_ | refine Vc.exit ?_); dsimp only [thenK, blockK, Nat.beq]; (first | (refine hN _ _ ?_; clear hN N) | skip)) | (with_reducible intro _) | ((with_reducible refine And.intro ?_ ?_); exact sdB) | ((first | ((with_reducible refine askT_of ?_ (fun hb => ?_)); exact sdB; (try simp only [hb])) | ((with_reducible refine Vc.fin ?_); dsimp only [thenK, blockK, retK, resS, resOne, resAll]) | ((with_reducible refine Vc.hold ?_); first | refine Vc.regiont T0_ok GD4_ok ?_ | refine Vc.drawt (id := 4) T0_ok GD4_ok (by kernel_rfl) [0, 1, 2, 3, 4, 5, 6, 7, 8, 9] 10 [] trivial (by kernel_rfl) ?_)); (try simp only [v8Y, Nat.beq, Nat.ble, seval, v8S, IntKind.bits, tabs, GD4_set]); (try simp (disch := omega) only [v8W])) | ((with_reducible refine hN _ _ ?_); clear hN N; (try simp (disch := omega) only [v8W])))); (try ((with_reducible refine Fin.of ?_); (try with_reducible exact True.intro))))
   exact ⟨by simp, trivial⟩
def g_tail (args : List SV) (m : List Blk) : CR :=
 match args with
 | [.word h, .gh a n c (.ints .u8 xs)] => match tailO xs h with
  | none => .pure (xs.length = n ∧ n ≤ c ∧ n ≤ 9223372036854775807 ∧ allB xs ∧ adr a n c ∧ h < W ∧ LiesH (HM m) a (cc (.ints .u8 xs))) (.tup [.nilsl, .bool false])
  | some ys => .pure (xs.length = n ∧ n ≤ c ∧ n ≤ 9223372036854775807 ∧ allB xs ∧ adr a n c ∧ h < W ∧ LiesH (HM m) a (cc (.ints .u8 xs))) (.tup [.gh (shA (shA a c (smN h) 1) (c - smN h) 32 1) ys.length (c - smN h - 32) (.ints .u8 ys), .bool true])
 | _ => .none
theorem g_tail_ok (w0 : World) (B : List Nat) (args : List SV) (m : List Blk) : CROk Tryd.prog w0 B 125 args m (g_tail args m) := by
 unfold g_tail
 split
 ·rename_i h a n c xs
  split
  ·rename_i ht
   intro ⟨h1, h2, h3, h4, h5, h6, h7⟩ w hm
   refine calls_pure Tryd.func125 rfl rfl ((tail_vc a n c xs h h1 h2 h3 h4 h5 h6 w (h7.mono fun b o h => hm.hm h)).mono fun e w' ⟨u, hu, v', m', hv, hm', ho⟩ => ⟨u, hu, v', m', hv, hm', ?_⟩)
   rw [ht] at ho; exact ho
  ·rename_i ys ht
   intro ⟨h1, h2, h3, h4, h5, h6, h7⟩ w hm
   refine calls_pure Tryd.func125 rfl rfl ((tail_vc a n c xs h h1 h2 h3 h4 h5 h6 w (h7.mono fun b o h => hm.hm h)).mono fun e w' ⟨u, hu, v', m', hv, hm', ho⟩ => ⟨u, hu, v', m', hv, hm', ?_⟩)
   rw [ht] at ho; exact ho
 ·exact trivial
noncomputable def GD5 : Ctr := fun f args m => match f with
 | 52 => g_From args m
 | 43 => g_rFrom args m
 | 141 => g_Small args m
 | 109 => g_lowByte args m
 | 120 => g_Shl args m
 | 89 => g_Shr args m
 | 54 => g_Cmp args m
 | 53 => g_Add args m
 | 51 => g_Mul args m
 | 93 => g_length args m
 | 102 => g_Read args m
 | 79 => g_Addr args m
 | 67 => g_Wide args m
 | 101 => g_Bytes args m
 | 107 => g_Count args m
 | 108 => g_apTail args m
 | 136 => g_cut args m
 | 125 => g_tail args m
 | _ => .none
theorem GD5_ok : GOk Tryd.prog GD5 := by
 intro w0 B f args m; unfold GD5; split
 ·exact g_From_ok _ _ _ _
 ·exact g_rFrom_ok _ _ _ _
 ·exact g_Small_ok _ _ _ _
 ·exact g_lowByte_ok _ _ _ _
 ·exact g_Shl_ok _ _ _ _
 ·exact g_Shr_ok _ _ _ _
 ·exact g_Cmp_ok _ _ _ _
 ·exact g_Add_ok _ _ _ _
 ·exact g_Mul_ok _ _ _ _
 ·exact g_length_ok _ _ _ _
 ·exact g_Read_ok _ _ _ _
 ·exact g_Addr_ok _ _ _ _
 ·exact g_Wide_ok _ _ _ _
 ·exact g_Bytes_ok _ _ _ _
 ·exact g_Count_ok _ _ _ _
 ·exact g_apTail_ok _ _ _ _
 ·exact g_cut_ok _ _ _ _
 ·exact g_tail_ok _ _ _ _
 ·exact trivial
theorem GD5_From : GD5 52 = g_From := by funext args m; rfl
theorem GD5_rFrom : GD5 43 = g_rFrom := by funext args m; rfl
theorem GD5_Small : GD5 141 = g_Small := by funext args m; rfl
theorem GD5_lowByte : GD5 109 = g_lowByte := by funext args m; rfl
theorem GD5_Shl : GD5 120 = g_Shl := by funext args m; rfl
theorem GD5_Shr : GD5 89 = g_Shr := by funext args m; rfl
theorem GD5_Cmp : GD5 54 = g_Cmp := by funext args m; rfl
theorem GD5_Add : GD5 53 = g_Add := by funext args m; rfl
theorem GD5_Mul : GD5 51 = g_Mul := by funext args m; rfl
theorem GD5_length : GD5 93 = g_length := by funext args m; rfl
theorem GD5_Read : GD5 102 = g_Read := by funext args m; rfl
theorem GD5_Addr : GD5 79 = g_Addr := by funext args m; rfl
theorem GD5_Wide : GD5 67 = g_Wide := by funext args m; rfl
theorem GD5_Bytes : GD5 101 = g_Bytes := by funext args m; rfl
theorem GD5_Count : GD5 107 = g_Count := by funext args m; rfl
theorem GD5_apTail : GD5 108 = g_apTail := by funext args m; rfl
theorem GD5_cut : GD5 136 = g_cut := by funext args m; rfl
theorem GD5_tail : GD5 125 = g_tail := by funext args m; rfl
def GD5_set := And.intro (And.intro (And.intro (And.intro (And.intro (@GD5_From) (@g_From.eq_def)) (And.intro (@GD5_rFrom) (@g_rFrom.eq_def))) (And.intro (And.intro (@GD5_Small) (@g_Small.eq_def)) (And.intro (@GD5_lowByte) (And.intro (@g_lowByte.eq_def) (@GD5_Shl))))) (And.intro (And.intro (And.intro (@g_Shl.eq_def) (@GD5_Shr)) (And.intro (@g_Shr.eq_def) (@GD5_Cmp))) (And.intro (And.intro (@g_Cmp.eq_def) (@GD5_Add)) (And.intro (@g_Add.eq_def) (And.intro (@GD5_Mul) (@g_Mul.eq_def)))))) (And.intro (And.intro (And.intro (And.intro (@GD5_length) (@g_length.eq_def)) (And.intro (@GD5_Read) (@g_Read.eq_def))) (And.intro (And.intro (@GD5_Addr) (@g_Addr.eq_def)) (And.intro (@GD5_Wide) (And.intro (@g_Wide.eq_def) (@GD5_Bytes))))) (And.intro (And.intro (And.intro (@g_Bytes.eq_def) (@GD5_Count)) (And.intro (@g_Count.eq_def) (@GD5_apTail))) (And.intro (And.intro (@g_apTail.eq_def) (@GD5_cut)) (And.intro (@g_cut.eq_def) (And.intro (@GD5_tail) (@g_tail.eq_def))))))

set_option maxRecDepth 20000 in
theorem part_vc (d : Bool) (a : Option Addr) (n c : Nat) (xs : List Int) (h : Nat) (hl : xs.length = n) (hn : n ≤ c) (hm : n ≤ 9223372036854775807) (hx : allB xs) (ha : adr a n c) (hh : h < W) (w : World) (hL : LiesH (H0 w) a (cc (.ints .u8 xs))) :
  Calls Tryd.prog 110 (cvs [.bool d, .word h, .gh a n c (.ints .u8 xs)]).toArray w (fun en w' => ∃ u, en = .returned u ∧ ∃ v' m', u = cv v' ∧ MemOk w [] m' w' ∧
   match d, tailO xs h with
   | false, _ => v' = .tup [.agg [.bool false, .int .u64 (lm h 0 : Nat), .int .u64 (lm h 1 : Nat), .int .u64 (lm h 2 : Nat), .int .u64 (lm h 3 : Nat), .nilsl], .bool true]
   | true, none => v' = .tup [.agg [.bool true, .int .u64 0, .int .u64 0, .int .u64 0, .int .u64 0, .nilsl], .bool false]
   | true, some ys => v' = .tup [.agg [.bool true, .int .u64 0, .int .u64 0, .int .u64 0, .int .u64 0, .gh (shA (shA a c (smN h) 1) (c - smN h) 32 1) ys.length (c - smN h - 32) (.ints .u8 ys)], .bool true]) := by
 have hLx : ∀ m, allOld w ∈ m → LiesH (HM m) a (cc (.ints .u8 xs)) := fun m hin => hL.mono (H0.hm hin)
 cases d with
 | false =>
  refine Vc.calls T0_ok Tryd.func110 rfl rfl (args := [.bool false, .word h, .gh a n c (.ints .u8 xs)]) (k := 20) rfl (old_start w) ?_; change Vc _ _ (c8 (.bool false) (.word h) (.gh a n c (.ints .u8 xs)) .undef .undef .undef .undef .undef (c8 .undef .undef .undef .undef .undef .undef .undef .undef ([.undef, .undef, .undef, .undef, .undef, .undef, .undef]))) _ _
  ((repeat (first | (with_reducible first | refine Vc.seq fun N hN => ?_ | refine Vc.block ?_) | ((with_reducible first | refine Vc.skip ?_ | refine Vc.exit ?_); dsimp only [thenK, blockK, Nat.beq]; (first | (refine hN _ _ ?_; clear hN N) | skip)) | (with_reducible intro _) | ((with_reducible refine And.intro ?_ ?_); exact sdB) | ((first | ((with_reducible refine askT_of ?_ (fun hb => ?_)); exact sdB; (try simp only [hb])) | ((with_reducible refine Vc.fin ?_); dsimp only [thenK, blockK, retK, resS, resOne, resAll]) | ((with_reducible refine Vc.hold ?_); first | refine Vc.regiont T0_ok GD5_ok ?_)); (try simp only [v8Y, Nat.beq, Nat.ble, seval, v8S, IntKind.bits, tabs, GD5_set, ]); (try simp (disch := omega) only [v8W])) | ((with_reducible refine hN _ _ ?_); clear hN N; (try simp (disch := omega) only [v8W])))); (try ((with_reducible refine Fin.of ?_); (try with_reducible exact True.intro))))
  (refine Vc.cond T0_ok (t := true) (by rfl) (fun _ => ?_) (fun h => Bool.noConfusion h))
  ((repeat (first | (with_reducible first | refine Vc.seq fun N hN => ?_ | refine Vc.block ?_) | ((with_reducible first | refine Vc.skip ?_ | refine Vc.exit ?_); dsimp only [thenK, blockK, Nat.beq]; (first | (refine hN _ _ ?_; clear hN N) | skip)) | (with_reducible intro _) | ((with_reducible refine And.intro ?_ ?_); exact sdB) | ((first | ((with_reducible refine askT_of ?_ (fun hb => ?_)); exact sdB; (try simp only [hb])) | ((with_reducible refine Vc.fin ?_); dsimp only [thenK, blockK, retK, resS, resOne, resAll]) | ((with_reducible refine Vc.hold ?_); first | refine Vc.regiont T0_ok GD5_ok ?_)); (try simp only [v8Y, Nat.beq, Nat.ble, seval, v8S, IntKind.bits, tabs, GD5_set]); (try simp (disch := omega) only [v8W])) | ((with_reducible refine hN _ _ ?_); clear hN N; (try simp (disch := omega) only [v8W])))); (try ((with_reducible refine Fin.of ?_); (try with_reducible exact True.intro))))
  exact ⟨by simp, trivial⟩
 | true =>
  cases ht : tailO xs h with
  | none =>
   refine Vc.calls T0_ok Tryd.func110 rfl rfl (args := [.bool true, .word h, .gh a n c (.ints .u8 xs)]) (k := 20) rfl (old_start w) ?_; change Vc _ _ (c8 (.bool true) (.word h) (.gh a n c (.ints .u8 xs)) .undef .undef .undef .undef .undef (c8 .undef .undef .undef .undef .undef .undef .undef .undef ([.undef, .undef, .undef, .undef, .undef, .undef, .undef]))) _ _
   ((repeat (first | (with_reducible first | refine Vc.seq fun N hN => ?_ | refine Vc.block ?_) | ((with_reducible first | refine Vc.skip ?_ | refine Vc.exit ?_); dsimp only [thenK, blockK, Nat.beq]; (first | (refine hN _ _ ?_; clear hN N) | skip)) | (with_reducible intro _) | ((with_reducible refine And.intro ?_ ?_); exact sdB) | ((first | ((with_reducible refine askT_of ?_ (fun hb => ?_)); exact sdB; (try simp only [hb])) | ((with_reducible refine Vc.fin ?_); dsimp only [thenK, blockK, retK, resS, resOne, resAll]) | ((with_reducible refine Vc.hold ?_); first | refine Vc.regiont T0_ok GD5_ok ?_)); (try simp only [v8Y, Nat.beq, Nat.ble, seval, v8S, IntKind.bits, tabs, GD5_set, ]); (try simp (disch := omega) only [v8W])) | ((with_reducible refine hN _ _ ?_); clear hN N; (try simp (disch := omega) only [v8W])))); (try ((with_reducible refine Fin.of ?_); (try with_reducible exact True.intro))))
   (refine Vc.cond T0_ok (t := false) (by rfl) (fun h => Bool.noConfusion h) (fun _ => ?_))
   ((repeat (first | (with_reducible first | refine Vc.seq fun N hN => ?_ | refine Vc.block ?_) | ((with_reducible first | refine Vc.skip ?_ | refine Vc.exit ?_); dsimp only [thenK, blockK, Nat.beq]; (first | (refine hN _ _ ?_; clear hN N) | skip)) | (with_reducible intro _) | ((with_reducible refine And.intro ?_ ?_); exact sX5) | ((first | ((with_reducible refine askT_of ?_ (fun hb => ?_)); exact sX5; (try simp only [hb])) | ((with_reducible refine Vc.fin ?_); dsimp only [thenK, blockK, retK, resS, resOne, resAll]) | ((with_reducible refine Vc.hold ?_); first | refine Vc.regiont T0_ok GD5_ok ?_)); (try simp only [v8Y, Nat.beq, Nat.ble, seval, v8S, IntKind.bits, tabs, GD5_set, ht]); (try simp (disch := omega) only [v8W])) | ((with_reducible refine hN _ _ ?_); clear hN N; (try simp (disch := omega) only [v8W])))); (try ((with_reducible refine Fin.of ?_); (try with_reducible exact True.intro))))
   exact ⟨by simp, trivial⟩
  | some ys =>
   refine Vc.calls T0_ok Tryd.func110 rfl rfl (args := [.bool true, .word h, .gh a n c (.ints .u8 xs)]) (k := 20) rfl (old_start w) ?_; change Vc _ _ (c8 (.bool true) (.word h) (.gh a n c (.ints .u8 xs)) .undef .undef .undef .undef .undef (c8 .undef .undef .undef .undef .undef .undef .undef .undef ([.undef, .undef, .undef, .undef, .undef, .undef, .undef]))) _ _
   ((repeat (first | (with_reducible first | refine Vc.seq fun N hN => ?_ | refine Vc.block ?_) | ((with_reducible first | refine Vc.skip ?_ | refine Vc.exit ?_); dsimp only [thenK, blockK, Nat.beq]; (first | (refine hN _ _ ?_; clear hN N) | skip)) | (with_reducible intro _) | ((with_reducible refine And.intro ?_ ?_); exact sdB) | ((first | ((with_reducible refine askT_of ?_ (fun hb => ?_)); exact sdB; (try simp only [hb])) | ((with_reducible refine Vc.fin ?_); dsimp only [thenK, blockK, retK, resS, resOne, resAll]) | ((with_reducible refine Vc.hold ?_); first | refine Vc.regiont T0_ok GD5_ok ?_)); (try simp only [v8Y, Nat.beq, Nat.ble, seval, v8S, IntKind.bits, tabs, GD5_set, ]); (try simp (disch := omega) only [v8W])) | ((with_reducible refine hN _ _ ?_); clear hN N; (try simp (disch := omega) only [v8W])))); (try ((with_reducible refine Fin.of ?_); (try with_reducible exact True.intro))))
   (refine Vc.cond T0_ok (t := false) (by rfl) (fun h => Bool.noConfusion h) (fun _ => ?_))
   ((repeat (first | (with_reducible first | refine Vc.seq fun N hN => ?_ | refine Vc.block ?_) | ((with_reducible first | refine Vc.skip ?_ | refine Vc.exit ?_); dsimp only [thenK, blockK, Nat.beq]; (first | (refine hN _ _ ?_; clear hN N) | skip)) | (with_reducible intro _) | ((with_reducible refine And.intro ?_ ?_); exact sX5) | ((first | ((with_reducible refine askT_of ?_ (fun hb => ?_)); exact sX5; (try simp only [hb])) | ((with_reducible refine Vc.fin ?_); dsimp only [thenK, blockK, retK, resS, resOne, resAll]) | ((with_reducible refine Vc.hold ?_); first | refine Vc.regiont T0_ok GD5_ok ?_)); (try simp only [v8Y, Nat.beq, Nat.ble, seval, v8S, IntKind.bits, tabs, GD5_set, ht]); (try simp (disch := omega) only [v8W])) | ((with_reducible refine hN _ _ ?_); clear hN N; (try simp (disch := omega) only [v8W])))); (try ((with_reducible refine Fin.of ?_); (try with_reducible exact True.intro))))
   exact ⟨by simp, trivial⟩
def g_part (args : List SV) (m : List Blk) : CR :=
 match args with
 | [.bool d, .word h, .gh a n c (.ints .u8 xs)] => match d, tailO xs h with
  | false, _ => .pure (xs.length = n ∧ n ≤ c ∧ n ≤ 9223372036854775807 ∧ allB xs ∧ adr a n c ∧ h < W ∧ LiesH (HM m) a (cc (.ints .u8 xs))) (.tup [.agg [.bool false, .int .u64 (lm h 0 : Nat), .int .u64 (lm h 1 : Nat), .int .u64 (lm h 2 : Nat), .int .u64 (lm h 3 : Nat), .nilsl], .bool true])
  | true, none => .pure (xs.length = n ∧ n ≤ c ∧ n ≤ 9223372036854775807 ∧ allB xs ∧ adr a n c ∧ h < W ∧ LiesH (HM m) a (cc (.ints .u8 xs))) (.tup [.agg [.bool true, .int .u64 0, .int .u64 0, .int .u64 0, .int .u64 0, .nilsl], .bool false])
  | true, some ys => .pure (xs.length = n ∧ n ≤ c ∧ n ≤ 9223372036854775807 ∧ allB xs ∧ adr a n c ∧ h < W ∧ LiesH (HM m) a (cc (.ints .u8 xs))) (.tup [.agg [.bool true, .int .u64 0, .int .u64 0, .int .u64 0, .int .u64 0, .gh (shA (shA a c (smN h) 1) (c - smN h) 32 1) ys.length (c - smN h - 32) (.ints .u8 ys)], .bool true])
 | _ => .none
theorem g_part_ok (w0 : World) (B : List Nat) (args : List SV) (m : List Blk) : CROk Tryd.prog w0 B 110 args m (g_part args m) := by
 unfold g_part
 split
 ·rename_i d h a n c xs
  split
  ·intro ⟨h1, h2, h3, h4, h5, h6, h7⟩ w hm
   exact calls_pure Tryd.func110 rfl rfl (part_vc false a n c xs h h1 h2 h3 h4 h5 h6 w (h7.mono fun b o h => hm.hm h))
  ·rename_i ht
   intro ⟨h1, h2, h3, h4, h5, h6, h7⟩ w hm
   refine calls_pure Tryd.func110 rfl rfl ((part_vc true a n c xs h h1 h2 h3 h4 h5 h6 w (h7.mono fun b o h => hm.hm h)).mono fun e w' ⟨u, hu, v', m', hv, hm', ho⟩ => ⟨u, hu, v', m', hv, hm', ?_⟩)
   rw [ht] at ho; exact ho
  ·rename_i ys ht
   intro ⟨h1, h2, h3, h4, h5, h6, h7⟩ w hm
   refine calls_pure Tryd.func110 rfl rfl ((part_vc true a n c xs h h1 h2 h3 h4 h5 h6 w (h7.mono fun b o h => hm.hm h)).mono fun e w' ⟨u, hu, v', m', hv, hm', ho⟩ => ⟨u, hu, v', m', hv, hm', ?_⟩)
   rw [ht] at ho; exact ho
 ·exact trivial
noncomputable def GD6 : Ctr := fun f args m => match f with
 | 52 => g_From args m
 | 43 => g_rFrom args m
 | 141 => g_Small args m
 | 109 => g_lowByte args m
 | 120 => g_Shl args m
 | 89 => g_Shr args m
 | 54 => g_Cmp args m
 | 53 => g_Add args m
 | 51 => g_Mul args m
 | 93 => g_length args m
 | 102 => g_Read args m
 | 79 => g_Addr args m
 | 67 => g_Wide args m
 | 101 => g_Bytes args m
 | 107 => g_Count args m
 | 108 => g_apTail args m
 | 136 => g_cut args m
 | 125 => g_tail args m
 | 110 => g_part args m
 | _ => .none
theorem GD6_ok : GOk Tryd.prog GD6 := by
 intro w0 B f args m; unfold GD6; split
 ·exact g_From_ok _ _ _ _
 ·exact g_rFrom_ok _ _ _ _
 ·exact g_Small_ok _ _ _ _
 ·exact g_lowByte_ok _ _ _ _
 ·exact g_Shl_ok _ _ _ _
 ·exact g_Shr_ok _ _ _ _
 ·exact g_Cmp_ok _ _ _ _
 ·exact g_Add_ok _ _ _ _
 ·exact g_Mul_ok _ _ _ _
 ·exact g_length_ok _ _ _ _
 ·exact g_Read_ok _ _ _ _
 ·exact g_Addr_ok _ _ _ _
 ·exact g_Wide_ok _ _ _ _
 ·exact g_Bytes_ok _ _ _ _
 ·exact g_Count_ok _ _ _ _
 ·exact g_apTail_ok _ _ _ _
 ·exact g_cut_ok _ _ _ _
 ·exact g_tail_ok _ _ _ _
 ·exact g_part_ok _ _ _ _
 ·exact trivial
theorem GD6_From : GD6 52 = g_From := by funext args m; rfl
theorem GD6_rFrom : GD6 43 = g_rFrom := by funext args m; rfl
theorem GD6_Small : GD6 141 = g_Small := by funext args m; rfl
theorem GD6_lowByte : GD6 109 = g_lowByte := by funext args m; rfl
theorem GD6_Shl : GD6 120 = g_Shl := by funext args m; rfl
theorem GD6_Shr : GD6 89 = g_Shr := by funext args m; rfl
theorem GD6_Cmp : GD6 54 = g_Cmp := by funext args m; rfl
theorem GD6_Add : GD6 53 = g_Add := by funext args m; rfl
theorem GD6_Mul : GD6 51 = g_Mul := by funext args m; rfl
theorem GD6_length : GD6 93 = g_length := by funext args m; rfl
theorem GD6_Read : GD6 102 = g_Read := by funext args m; rfl
theorem GD6_Addr : GD6 79 = g_Addr := by funext args m; rfl
theorem GD6_Wide : GD6 67 = g_Wide := by funext args m; rfl
theorem GD6_Bytes : GD6 101 = g_Bytes := by funext args m; rfl
theorem GD6_Count : GD6 107 = g_Count := by funext args m; rfl
theorem GD6_apTail : GD6 108 = g_apTail := by funext args m; rfl
theorem GD6_cut : GD6 136 = g_cut := by funext args m; rfl
theorem GD6_tail : GD6 125 = g_tail := by funext args m; rfl
theorem GD6_part : GD6 110 = g_part := by funext args m; rfl
def GD6_set := And.intro (And.intro (And.intro (And.intro (And.intro (@GD6_From) (@g_From.eq_def)) (And.intro (@GD6_rFrom) (@g_rFrom.eq_def))) (And.intro (And.intro (@GD6_Small) (@g_Small.eq_def)) (And.intro (@GD6_lowByte) (And.intro (@g_lowByte.eq_def) (@GD6_Shl))))) (And.intro (And.intro (And.intro (@g_Shl.eq_def) (@GD6_Shr)) (And.intro (@g_Shr.eq_def) (And.intro (@GD6_Cmp) (@g_Cmp.eq_def)))) (And.intro (And.intro (@GD6_Add) (@g_Add.eq_def)) (And.intro (@GD6_Mul) (And.intro (@g_Mul.eq_def) (@GD6_length)))))) (And.intro (And.intro (And.intro (And.intro (@g_length.eq_def) (@GD6_Read)) (And.intro (@g_Read.eq_def) (@GD6_Addr))) (And.intro (And.intro (@g_Addr.eq_def) (@GD6_Wide)) (And.intro (@g_Wide.eq_def) (And.intro (@GD6_Bytes) (@g_Bytes.eq_def))))) (And.intro (And.intro (And.intro (@GD6_Count) (@g_Count.eq_def)) (And.intro (@GD6_apTail) (And.intro (@g_apTail.eq_def) (@GD6_cut)))) (And.intro (And.intro (@g_cut.eq_def) (@GD6_tail)) (And.intro (@g_tail.eq_def) (And.intro (@GD6_part) (@g_part.eq_def))))))

end Go.Proofs.YthdpgfdfgidokaaDoor
