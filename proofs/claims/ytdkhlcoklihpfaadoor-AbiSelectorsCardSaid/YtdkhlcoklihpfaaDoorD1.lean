/-
  ABI: a count as a word, a string's tail, walked (package abi: count, appendTail). No condition.
-/
import Derived.Test.YtdkhlcoklihpfaaDoorX4
import Derived.Test.YtdkhlcoklihpfaaDoorEG
namespace Go.Proofs.YtdkhlcoklihpfaaDoor
set_option linter.unusedSimpArgs false
set_option linter.unusedVariables false
set_option maxHeartbeats 4000000
set_option maxRecDepth 10000
set_option linter.defProp false
open Go.RowKit
theorem w64c {x : Int} (h : 0 ≤ x ∧ x ≤ 18446744073709551615) : IntKind.u64.wrap x = x := by rw [IntKind.wrap_u64]; omega
theorem count_vc (n : Nat) (hn : n ≤ 9223372036854775807) (w : World) : Calls Tryd.prog 23 (cvs [.int .i64 (n : Int)]).toArray w (fun en w' => ∃ u, en = .returned u ∧ ∃ v m', u = cv v ∧ MemOk w [] m' w' ∧ v = .word n) := by
  have e1 := w64c (x := (n : Int)) (by omega)
  have e2 : (n : Int).toNat = n := Int.toNat_natCast n
  refine Vc.calls T0_ok Tryd.func23 rfl rfl (args := [.int .i64 (n : Int)]) (k := 5) rfl (MemOk.start _) ?_; change Vc _ _ ([.int .i64 (n : Int), .undef, .undef, .undef, .undef, .undef]) _ _
  ((repeat (first | (with_reducible refine Vc.seq fun N hN => ?_) | (with_reducible refine Vc.block ?_) | ((first | with_reducible refine Vc.skip ?_ | with_reducible refine Vc.exit ?_); dsimp only [thenK, blockK, Nat.beq]; (first | (refine hN _ _ ?_; clear hN N) | skip)) | (with_reducible intro _) | ((with_reducible refine And.intro ?_ ?_); (focus (first | exact sideQ | exact sd0))) | ((first | ((with_reducible refine askT_of ?_ (fun hb => ?_)); (focus (first | exact sideQ | exact sd0)); (try simp only [hb])) | ((with_reducible refine Vc.fin ?_); dsimp only [thenK, blockK, retK, resS, resOne, resAll]) | ((with_reducible refine Vc.hold ?_); first | refine Vc.regiont T0_ok G5_ok ?_)); (try simp only [v8X, v8A, v8B, v8C, Nat.beq, Nat.ble, Int.reduceToNat, Int.reduceLE, Int.reduceLT, Nat.reduceLT, Nat.reduceLeDiff, Nat.reduceAdd, Nat.reduceMul, Nat.reduceSub, Int.reduceAdd, Int.reduceSub, Int.reduceMul, eq_self, decide_true, beq_self_eq_true, List.length_cons, List.length_nil, Nat.min_eq_left, IntKind.bits, tabs, G5_set, e1, e2]); (try simp (disch := omega) only [v8W])) | ((with_reducible refine hN _ _ ?_); clear hN N; (try simp (disch := omega) only [v8W])))); (try ((with_reducible refine Fin.of ?_); (try with_reducible exact True.intro))))
  exact ⟨by simp, trivial⟩
def g_Count (args : List SV) (_m : List Blk) : CR :=
  match args with
  | [.int .i64 n] => .pure (0 ≤ n ∧ n ≤ 9223372036854775807) (.word n.toNat)
  | _ => .none
theorem g_Count_ok (w0 : World) (B : List Nat) (args : List SV) (m : List Blk) : CROk Tryd.prog w0 B 23 args m (g_Count args m) := by
  unfold g_Count
  split
  · rename_i n
    intro ⟨h0, h1⟩ w hm
    obtain ⟨k, rfl⟩ := Int.eq_ofNat_of_zero_le h0
    exact calls_pure Tryd.func23 rfl rfl (count_vc k (by omega) w)
  · exact trivial
noncomputable def GD1 : Ctr := fun f args m => match f with
  | 35 => g_From args m
  | 25 => g_rFrom args m
  | 57 => g_Small args m
  | 32 => g_lowByte args m
  | 40 => g_Read args m
  | 21 => g_Bytes args m
  | 23 => g_Count args m
  | _ => .none
theorem GD1_ok : GOk Tryd.prog GD1 := by
  intro w0 B f args m; unfold GD1; split
  · exact g_From_ok _ _ _ _
  · exact g_rFrom_ok _ _ _ _
  · exact g_Small_ok _ _ _ _
  · exact g_lowByte_ok _ _ _ _
  · exact g_Read_ok _ _ _ _
  · exact g_Bytes_ok _ _ _ _
  · exact g_Count_ok _ _ _ _
  · exact trivial
theorem GD1_From : GD1 35 = g_From := by funext args m; rfl
theorem GD1_rFrom : GD1 25 = g_rFrom := by funext args m; rfl
theorem GD1_Small : GD1 57 = g_Small := by funext args m; rfl
theorem GD1_lowByte : GD1 32 = g_lowByte := by funext args m; rfl
theorem GD1_Read : GD1 40 = g_Read := by funext args m; rfl
theorem GD1_Bytes : GD1 21 = g_Bytes := by funext args m; rfl
theorem GD1_Count : GD1 23 = g_Count := by funext args m; rfl
def GD1_set := And.intro (And.intro (And.intro (@GD1_From) (And.intro (@g_From.eq_def) (@GD1_rFrom))) (And.intro (And.intro (@g_rFrom.eq_def) (@GD1_Small)) (And.intro (@g_Small.eq_def) (@GD1_lowByte)))) (And.intro (And.intro (@g_lowByte.eq_def) (And.intro (@GD1_Read) (@g_Read.eq_def))) (And.intro (And.intro (@GD1_Bytes) (@g_Bytes.eq_def)) (And.intro (@GD1_Count) (@g_Count.eq_def))))

/-- How many bytes are wanting to a whole number of 32. -/
def padN (n : Nat) : Nat := (32 - n % 32) % 32
theorem padN_s {n : Nat} (h : n % 32 ≠ 0) : padN n = padN (n + 1) + 1 := by unfold padN; omega
theorem padN_0 {n : Nat} (h : n % 32 = 0) : padN n = 0 := by unfold padN; omega
theorem padN_le (n : Nat) : padN n ≤ 31 := by unfold padN; omega
/-- A string's tail. -/
def abTail (ys : List Int) : List Int := bytI ys.length 32 ++ ys ++ List.replicate (padN ys.length) 0
theorem apTail_vc (xs ys : List Int) (v : Value) (a : Option Addr) (n cp : Nat) (hl : ys.length = n) (hc : n ≤ cp) (ha : adr a n cp) (hx : xs.length ≤ 70000000) (h32 : xs.length % 32 = 0) (hy : n ≤ 70000000) (B : List Nat) (w : World) (hm : MemOk w B [.own v xs.length 5 1 (.ints .u8 xs), .ro a (.ints .u8 ys)] w) :
    Calls Tryd.prog 24 (cvs [.own 0 v xs.length, .sl 1 a 0 0 1 n cp]).toArray w (ApR 5 .u8 w B (xs ++ abTail ys)) := by
  unfold ApR
  have u1 : (ys.drop 0).take n = ys := by rw [List.drop_zero, List.take_of_length_le (by omega)]
  have u2 : ys.take n = ys := List.take_of_length_le (by omega)
  have u3 : (bytI n 32).length = 32 := bytI_len n 32
  have u4 : (bytI n 32).take 32 = bytI n 32 := List.take_of_length_le (by omega)
  have e2 : (n : Int).toNat = n := Int.toNat_natCast n
  refine Vc.calls T0_ok Tryd.func24 rfl rfl (args := [.own 0 v xs.length, .sl 1 a 0 0 1 n cp]) (k := 20) rfl hm ?_; change Vc _ _ (c8 (.own 0 v xs.length) (.sl 1 a 0 0 1 n cp) .undef .undef .undef .undef .undef .undef (c8 .undef .undef .undef .undef .undef .undef .undef .undef ([.undef, .undef, .undef, .undef, .undef, .undef]))) _ _
  ((repeat (first | (with_reducible refine Vc.seq fun N hN => ?_) | (with_reducible refine Vc.block ?_) | ((first | with_reducible refine Vc.skip ?_ | with_reducible refine Vc.exit ?_); dsimp only [thenK, blockK, Nat.beq]; (first | (refine hN _ _ ?_; clear hN N) | skip)) | (with_reducible intro _) | ((with_reducible refine And.intro ?_ ?_); (focus (first | ((repeat' with_reducible apply And.intro) <;> first | exact sideQ | (simp only [List.length_append]; omega) | (simp [noAlias]; done)) | exact sd0))) | ((first | ((with_reducible refine askT_of ?_ (fun hb => ?_)); (focus (first | ((repeat' with_reducible apply And.intro) <;> first | exact sideQ | (simp only [List.length_append]; omega) | (simp [noAlias]; done)) | exact sd0)); (try simp only [hb])) | ((with_reducible refine Vc.fin ?_); dsimp only [thenK, blockK, retK, resS, resOne, resAll]) | ((with_reducible refine Vc.hold ?_); first | refine Vc.regiont T0_ok GD1_ok ?_)); (try simp only [v8X, v8A, v8B, v8C, Nat.beq, Nat.ble, Int.reduceToNat, Int.reduceLE, Int.reduceLT, Nat.reduceLT, Nat.reduceLeDiff, Nat.reduceAdd, Nat.reduceMul, Nat.reduceSub, Int.reduceAdd, Int.reduceSub, Int.reduceMul, eq_self, decide_true, beq_self_eq_true, List.length_cons, List.length_nil, Nat.min_eq_left, IntKind.bits, tabs, GD1_set, u1, u2, u3, u4, e2, List.drop_zero]); (try simp (disch := omega) only [v8W])) | ((with_reducible refine hN _ _ ?_); clear hN N; (try simp (disch := omega) only [v8W])))); (try ((with_reducible refine Fin.of ?_); (try with_reducible exact True.intro))))
  rename_i v2 v1 v0
  generalize hb : xs ++ bytI n 32 ++ ys = zs at *
  have hzl : zs.length = xs.length + 32 + n := by rw [← hb, List.length_append, List.length_append, u3, hl]
  have hp := padN_le n
  (revert N; intro N1 hN1)
  refine Vc.loop 0 21 (fun (x : Nat × Value) => [(0, .own 0 x.2 (xs.length + 32 + n + x.1)), (4, .nilsl)]) (fun x => [.own x.2 (xs.length + 32 + n + x.1) 5 1 (.ints .u8 (zs ++ List.replicate x.1 0))]) (fun x => x.1 ≤ padN n) (fun x => padN n - x.1) (0, v0) ⟨Nat.zero_le _, ?_, ?_⟩ (fun x junk hx2 => ?_)
  · ((try simp only [v8X, v8A, v8B, v8C, Nat.beq, Nat.ble, Int.reduceToNat, Int.reduceLE, Int.reduceLT, Nat.reduceLT, Nat.reduceLeDiff, Nat.reduceAdd, Nat.reduceMul, Nat.reduceSub, Int.reduceAdd, Int.reduceSub, Int.reduceMul, eq_self, decide_true, beq_self_eq_true, List.length_cons, List.length_nil, Nat.min_eq_left, IntKind.bits, tabs]); (repeat' with_reducible apply And.intro) <;> first | with_reducible exact True.intro | rfl | with_reducible rfl | (congr 1 <;> omega) | trivial)
  · ((try simp only [v8X, v8A, v8B, v8C, Nat.beq, Nat.ble, Int.reduceToNat, Int.reduceLE, Int.reduceLT, Nat.reduceLT, Nat.reduceLeDiff, Nat.reduceAdd, Nat.reduceMul, Nat.reduceSub, Int.reduceAdd, Int.reduceSub, Int.reduceMul, eq_self, decide_true, beq_self_eq_true, List.length_cons, List.length_nil, Nat.min_eq_left, IntKind.bits, tabs]); (repeat' with_reducible apply And.intro) <;> first | with_reducible exact True.intro | (simp only [List.replicate_zero, List.append_nil, Nat.add_zero]) | with_reducible rfl | (congr 1 <;> omega) | trivial)
  · obtain ⟨k, v⟩ := x
    simp only at hx2 ⊢
    have hlk : (zs ++ List.replicate k (0 : Int)).length = xs.length + 32 + n + k := by rw [List.length_append, List.length_replicate, hzl]
    (simp only [v8X, v8A, v8B, v8C, Nat.beq, Nat.ble, Int.reduceToNat, Int.reduceLE, Int.reduceLT, Nat.reduceLT, Nat.reduceLeDiff, Nat.reduceAdd, Nat.reduceMul, Nat.reduceSub, Int.reduceAdd, Int.reduceSub, Int.reduceMul, eq_self, decide_true, beq_self_eq_true, List.length_cons, List.length_nil, Nat.min_eq_left, IntKind.bits, tabs])
    by_cases hc1 : k < padN n
    · have d1 : decide ((0 : Int) < ((xs.length + 32 + n + k : Nat) : Int) % 32) = true := decide_eq_true (by unfold padN at hc1; omega)
      have hr : zs ++ List.replicate (k + 1) (0 : Int) = zs ++ List.replicate k 0 ++ [0] := by rw [List.append_assoc, List.replicate_succ']
      ((repeat (first | (with_reducible refine Vc.seq fun N hN => ?_) | (with_reducible refine Vc.block ?_) | ((first | with_reducible refine Vc.skip ?_ | with_reducible refine Vc.exit ?_); dsimp only [thenK, blockK, Nat.beq]; (first | (refine hN _ _ ?_; clear hN N) | skip)) | (with_reducible intro _) | ((with_reducible refine And.intro ?_ ?_); (focus (first | exact sideQ | exact sd0))) | ((first | ((with_reducible refine askT_of ?_ (fun hb => ?_)); (focus (first | exact sideQ | exact sd0)); (try simp only [hb])) | ((with_reducible refine Vc.fin ?_); dsimp only [thenK, blockK, retK, resS, resOne, resAll]) | ((with_reducible refine Vc.hold ?_); first | refine Vc.regiont T0_ok GD1_ok ?_)); (try simp only [v8X, v8A, v8B, v8C, Nat.beq, Nat.ble, Int.reduceToNat, Int.reduceLE, Int.reduceLT, Nat.reduceLT, Nat.reduceLeDiff, Nat.reduceAdd, Nat.reduceMul, Nat.reduceSub, Int.reduceAdd, Int.reduceSub, Int.reduceMul, eq_self, decide_true, beq_self_eq_true, List.length_cons, List.length_nil, Nat.min_eq_left, IntKind.bits, tabs, GD1_set, d1]); (try simp (disch := omega) only [v8W])) | ((with_reducible refine hN _ _ ?_); clear hN N; (try simp (disch := omega) only [v8W])))); (try ((with_reducible refine Fin.of ?_); (try with_reducible exact True.intro))))
      (refine Vc.cond T0_ok (t := true) (by rfl) (fun _ => ?_) (fun h => Bool.noConfusion h))
      ((repeat (first | (with_reducible refine Vc.seq fun N hN => ?_) | (with_reducible refine Vc.block ?_) | ((first | with_reducible refine Vc.skip ?_ | with_reducible refine Vc.exit ?_); dsimp only [thenK, blockK, Nat.beq]; (first | (refine hN _ _ ?_; clear hN N) | skip)) | (with_reducible intro _) | ((with_reducible refine And.intro ?_ ?_); (focus (first | ((repeat' with_reducible apply And.intro) <;> first | exact sideQ | (simp only [List.length_append]; omega) | (simp [noAlias]; done)) | exact sd0))) | ((first | ((with_reducible refine askT_of ?_ (fun hb => ?_)); (focus (first | ((repeat' with_reducible apply And.intro) <;> first | exact sideQ | (simp only [List.length_append]; omega) | (simp [noAlias]; done)) | exact sd0)); (try simp only [hb])) | ((with_reducible refine Vc.fin ?_); dsimp only [thenK, blockK, retK, resS, resOne, resAll]) | ((with_reducible refine Vc.hold ?_); first | refine Vc.regiont T0_ok GD1_ok ?_)); (try simp only [v8X, v8A, v8B, v8C, Nat.beq, Nat.ble, Int.reduceToNat, Int.reduceLE, Int.reduceLT, Nat.reduceLT, Nat.reduceLeDiff, Nat.reduceAdd, Nat.reduceMul, Nat.reduceSub, Int.reduceAdd, Int.reduceSub, Int.reduceMul, eq_self, decide_true, beq_self_eq_true, List.length_cons, List.length_nil, Nat.min_eq_left, IntKind.bits, tabs, GD1_set, List.take_succ_cons, List.take_zero, List.drop_zero]); (try simp (disch := omega) only [v8W])) | ((with_reducible refine hN _ _ ?_); clear hN N; (try simp (disch := omega) only [v8W])))); (try ((with_reducible refine Fin.of ?_); (try with_reducible exact True.intro))))
      rename_i _ v3
      refine ⟨(k + 1, v3), by simp only; omega, ?_, ?_, by simp only; omega⟩
      · ((try simp only [v8X, v8A, v8B, v8C, Nat.beq, Nat.ble, Int.reduceToNat, Int.reduceLE, Int.reduceLT, Nat.reduceLT, Nat.reduceLeDiff, Nat.reduceAdd, Nat.reduceMul, Nat.reduceSub, Int.reduceAdd, Int.reduceSub, Int.reduceMul, eq_self, decide_true, beq_self_eq_true, List.length_cons, List.length_nil, Nat.min_eq_left, IntKind.bits, tabs]); (repeat' with_reducible apply And.intro) <;> first | with_reducible exact True.intro | rfl | (congr 1 <;> omega))
      · ((try simp only [v8X, v8A, v8B, v8C, Nat.beq, Nat.ble, Int.reduceToNat, Int.reduceLE, Int.reduceLT, Nat.reduceLT, Nat.reduceLeDiff, Nat.reduceAdd, Nat.reduceMul, Nat.reduceSub, Int.reduceAdd, Int.reduceSub, Int.reduceMul, eq_self, decide_true, beq_self_eq_true, List.length_cons, List.length_nil, Nat.min_eq_left, IntKind.bits, tabs]); (repeat' with_reducible apply And.intro) <;> first | with_reducible exact True.intro | (rw [hr]; rfl) | (congr 1 <;> omega))
    · have d1 : decide ((0 : Int) < ((xs.length + 32 + n + k : Nat) : Int) % 32) = false := decide_eq_false (by unfold padN at hc1 hx2; omega)
      obtain rfl : k = padN n := by omega
      ((repeat (first | (with_reducible refine Vc.seq fun N hN => ?_) | (with_reducible refine Vc.block ?_) | ((first | with_reducible refine Vc.skip ?_ | with_reducible refine Vc.exit ?_); dsimp only [thenK, blockK, Nat.beq]; (first | (refine hN _ _ ?_; clear hN N) | skip)) | (with_reducible intro _) | ((with_reducible refine And.intro ?_ ?_); (focus (first | exact sideQ | exact sd0))) | ((first | ((with_reducible refine askT_of ?_ (fun hb => ?_)); (focus (first | exact sideQ | exact sd0)); (try simp only [hb])) | ((with_reducible refine Vc.fin ?_); dsimp only [thenK, blockK, retK, resS, resOne, resAll]) | ((with_reducible refine Vc.hold ?_); first | refine Vc.regiont T0_ok GD1_ok ?_)); (try simp only [v8X, v8A, v8B, v8C, Nat.beq, Nat.ble, Int.reduceToNat, Int.reduceLE, Int.reduceLT, Nat.reduceLT, Nat.reduceLeDiff, Nat.reduceAdd, Nat.reduceMul, Nat.reduceSub, Int.reduceAdd, Int.reduceSub, Int.reduceMul, eq_self, decide_true, beq_self_eq_true, List.length_cons, List.length_nil, Nat.min_eq_left, IntKind.bits, tabs, GD1_set, d1]); (try simp (disch := omega) only [v8W])) | ((with_reducible refine hN _ _ ?_); clear hN N; (try simp (disch := omega) only [v8W])))); (try ((with_reducible refine Fin.of ?_); (try with_reducible exact True.intro))))
      (refine Vc.cond T0_ok (t := false) (by rfl) (fun h => Bool.noConfusion h) (fun _ => ?_))
      ((repeat (first | (with_reducible refine Vc.seq fun N hN => ?_) | (with_reducible refine Vc.block ?_) | ((first | with_reducible refine Vc.skip ?_ | with_reducible refine Vc.exit ?_); dsimp only [thenK, blockK, Nat.beq]; (first | (refine hN _ _ ?_; clear hN N) | skip)) | (with_reducible intro _) | ((with_reducible refine And.intro ?_ ?_); (focus (first | exact sideQ | exact sd0))) | ((first | ((with_reducible refine askT_of ?_ (fun hb => ?_)); (focus (first | exact sideQ | exact sd0)); (try simp only [hb])) | ((with_reducible refine Vc.fin ?_); dsimp only [thenK, blockK, retK, resS, resOne, resAll]) | ((with_reducible refine Vc.hold ?_); first | refine Vc.regiont T0_ok GD1_ok ?_)); (try simp only [v8X, v8A, v8B, v8C, Nat.beq, Nat.ble, Int.reduceToNat, Int.reduceLE, Int.reduceLT, Nat.reduceLT, Nat.reduceLeDiff, Nat.reduceAdd, Nat.reduceMul, Nat.reduceSub, Int.reduceAdd, Int.reduceSub, Int.reduceMul, eq_self, decide_true, beq_self_eq_true, List.length_cons, List.length_nil, Nat.min_eq_left, IntKind.bits, tabs, GD1_set]); (try simp (disch := omega) only [v8W])) | ((with_reducible refine hN _ _ ?_); clear hN N; (try simp (disch := omega) only [v8W])))); (try ((with_reducible refine Fin.of ?_); (try with_reducible exact True.intro))))
      (refine hN1 _ _ ?_; (try clear hN N); clear hN1 N1)
      ((repeat (first | (with_reducible refine Vc.seq fun N hN => ?_) | (with_reducible refine Vc.block ?_) | ((first | with_reducible refine Vc.skip ?_ | with_reducible refine Vc.exit ?_); dsimp only [thenK, blockK, Nat.beq]; (first | (refine hN _ _ ?_; clear hN N) | skip)) | (with_reducible intro _) | ((with_reducible refine And.intro ?_ ?_); (focus (first | exact sideQ | exact sd0))) | ((first | ((with_reducible refine askT_of ?_ (fun hb => ?_)); (focus (first | exact sideQ | exact sd0)); (try simp only [hb])) | ((with_reducible refine Vc.fin ?_); dsimp only [thenK, blockK, retK, resS, resOne, resAll]) | ((with_reducible refine Vc.hold ?_); first | refine Vc.regiont T0_ok GD1_ok ?_)); (try simp only [v8X, v8A, v8B, v8C, Nat.beq, Nat.ble, Int.reduceToNat, Int.reduceLE, Int.reduceLT, Nat.reduceLT, Nat.reduceLeDiff, Nat.reduceAdd, Nat.reduceMul, Nat.reduceSub, Int.reduceAdd, Int.reduceSub, Int.reduceMul, eq_self, decide_true, beq_self_eq_true, List.length_cons, List.length_nil, Nat.min_eq_left, IntKind.bits, tabs, GD1_set]); (try simp (disch := omega) only [v8W])) | ((with_reducible refine hN _ _ ?_); clear hN N; (try simp (disch := omega) only [v8W])))); (try ((with_reducible refine Fin.of ?_); (try with_reducible exact True.intro))))
      have he : xs ++ abTail ys = zs ++ List.replicate (padN n) 0 := by unfold abTail; rw [← hb, hl]; simp only [List.append_assoc]
      rw [he, hlk]
      exact ⟨trivial, v, rfl, rfl⟩
def g_apTail (args : List SV) (m : List Blk) : CR :=
  match args with
  | [x, y] => apS 5 .u8 m x y (fun xs ys => xs.length ≤ 70000000 ∧ xs.length % 32 = 0 ∧ ys.length ≤ 70000000) (fun xs ys => xs ++ abTail ys)
  | _ => .none
theorem g_apTail_ok (w0 : World) (B : List Nat) (args : List SV) (m : List Blk) : CROk Tryd.prog w0 B 24 args m (g_apTail args m) := by
  unfold g_apTail
  split
  · rename_i x y
    exact aps_ok Tryd.func24 rfl rfl (fun w B v xs ys a n cp ⟨h1, h2, h3⟩ hl hc ha hm => apTail_vc xs ys v a n cp hl hc ha h1 h2 (by omega) B w hm) w0 B m
  · exact trivial
noncomputable def GD2 : Ctr := fun f args m => match f with
  | 35 => g_From args m
  | 25 => g_rFrom args m
  | 57 => g_Small args m
  | 32 => g_lowByte args m
  | 40 => g_Read args m
  | 21 => g_Bytes args m
  | 23 => g_Count args m
  | 24 => g_apTail args m
  | _ => .none
theorem GD2_ok : GOk Tryd.prog GD2 := by
  intro w0 B f args m; unfold GD2; split
  · exact g_From_ok _ _ _ _
  · exact g_rFrom_ok _ _ _ _
  · exact g_Small_ok _ _ _ _
  · exact g_lowByte_ok _ _ _ _
  · exact g_Read_ok _ _ _ _
  · exact g_Bytes_ok _ _ _ _
  · exact g_Count_ok _ _ _ _
  · exact g_apTail_ok _ _ _ _
  · exact trivial
theorem GD2_From : GD2 35 = g_From := by funext args m; rfl
theorem GD2_rFrom : GD2 25 = g_rFrom := by funext args m; rfl
theorem GD2_Small : GD2 57 = g_Small := by funext args m; rfl
theorem GD2_lowByte : GD2 32 = g_lowByte := by funext args m; rfl
theorem GD2_Read : GD2 40 = g_Read := by funext args m; rfl
theorem GD2_Bytes : GD2 21 = g_Bytes := by funext args m; rfl
theorem GD2_Count : GD2 23 = g_Count := by funext args m; rfl
theorem GD2_apTail : GD2 24 = g_apTail := by funext args m; rfl
def GD2_set := And.intro (And.intro (And.intro (And.intro (@GD2_From) (@g_From.eq_def)) (And.intro (@GD2_rFrom) (@g_rFrom.eq_def))) (And.intro (And.intro (@GD2_Small) (@g_Small.eq_def)) (And.intro (@GD2_lowByte) (@g_lowByte.eq_def)))) (And.intro (And.intro (And.intro (@GD2_Read) (@g_Read.eq_def)) (And.intro (@GD2_Bytes) (@g_Bytes.eq_def))) (And.intro (And.intro (@GD2_Count) (@g_Count.eq_def)) (And.intro (@GD2_apTail) (@g_apTail.eq_def))))

end Go.Proofs.YtdkhlcoklihpfaaDoor
