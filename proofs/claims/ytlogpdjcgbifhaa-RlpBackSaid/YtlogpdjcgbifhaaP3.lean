/-
  RLP: heads, strings, walked (package rlp: bare, appendHead, appendText). No condition.
-/
import Derived.Test.YtlogpdjcgbifhaaP2
namespace Go.Proofs.Ytlogpdjcgbifhaa
set_option linter.unusedSimpArgs false
set_option linter.unusedVariables false
set_option maxHeartbeats 4000000
set_option linter.defProp false
open Go.RowKit
/-- A head, its last byte first. -/
def hdR (e : Int) (n : Nat) : List Int := if n ≤ 55 then [e + n] else leB n ++ [e + 55 + ((leB n).length : Nat)]
theorem hdR_lo {e : Int} {n : Nat} (h : n ≤ 55) : hdR e n = [e + n] := if_pos h
theorem hdR_hi {e : Int} {n : Nat} (h : ¬ n ≤ 55) : hdR e n = leB n ++ [e + 55 + ((leB n).length : Nat)] := if_neg h
theorem hdR_len (e : Int) (n : Nat) : (hdR e n).length ≤ 9 := by
  unfold hdR; split
  · exact Nat.le_of_ble_eq_true rfl
  · rw [List.length_append]; have := leB_len n; simp; omega
theorem hdR_pos (e : Int) (n : Nat) : 1 ≤ (hdR e n).length := by
  unfold hdR; split
  · exact Nat.le_refl _
  · rw [List.length_append]; simp
theorem hdR_all {e : Int} (he : 0 ≤ e ∧ e ≤ 192) (n : Nat) : allB (hdR e n) := by
  have hl := leB_len n
  unfold hdR; split
  · intro x hx; rw [List.mem_singleton] at hx; omega
  · intro x hx
    rcases List.mem_append.1 hx with hx | hx
    · exact leB_all n x hx
    · rw [List.mem_singleton] at hx; omega
theorem w8 {x : Int} (h : 0 ≤ x ∧ x ≤ 255) : IntKind.u8.wrap x = x := by rw [IntKind.wrap_u8]; omega
theorem w64 {x : Int} (h : 0 ≤ x ∧ x ≤ 18446744073709551615) : IntKind.u64.wrap x = x := by rw [IntKind.wrap_u64]; omega
theorem apHead_vc (e : Int) (n : Nat) (he : 0 ≤ e ∧ e ≤ 192) (hn : n ≤ 9223372036854775807) (xs : List Int) (v : Value) (hx : xs.length ≤ 140737488354000) (B : List Nat) (w : World) (hm : MemOk w B [.own v xs.length 5 1 (.ints .u8 xs)] w) :
    Calls Try.prog 31 (cvs [.own 0 v xs.length, .int .u8 e, .int .i64 (n : Int)]).toArray w (ApR 5 .u8 w B (xs ++ hdR e n)) := by
  unfold ApR
  have hle := leB_len n
  by_cases h0 : n ≤ 55
  · have d1 : decide ((n : Int) ≤ 55) = true := decide_eq_true (by omega)
    have e1 := w8 (x := (n : Int)) (by omega)
    have e2 := w8 (x := e + (n : Int)) (by omega)
    have e3 := hdR_lo (e := e) h0
    refine Vc.calls T0_ok Try.func31 rfl rfl (args := [.own 0 v xs.length, .int .u8 e, .int .i64 (n : Int)]) (k := 31) rfl hm ?_; change Vc _ _ (c8 (.own 0 v xs.length) (.int .u8 e) (.int .i64 (n : Int)) .undef .undef .undef .undef .undef (c8 .undef .undef .undef .undef .undef .undef .undef .undef (c8 .undef .undef .undef .undef .undef .undef .undef .undef (c8 .undef .undef .undef .undef .undef .undef .undef .undef ([.undef, .undef]))))) _ _
    ((repeat (first | (with_reducible refine Vc.seq fun N hN => ?_) | (with_reducible refine Vc.block ?_) | ((first | with_reducible refine Vc.skip ?_ | with_reducible refine Vc.exit ?_); dsimp only [thenK, blockK, Nat.beq]; (first | (refine hN _ _ ?_; clear hN N) | skip)) | (with_reducible intro _) | ((with_reducible refine And.intro ?_ ?_); (focus (first | exact sideQ | exact sd0))) | ((first | ((with_reducible refine askT_of ?_ (fun hb => ?_)); (focus (first | exact sideQ | exact sd0)); (try simp only [hb])) | ((with_reducible refine Vc.fin ?_); dsimp only [thenK, blockK, retK, resS, resOne, resAll]) | ((with_reducible refine Vc.hold ?_); first | refine Vc.regiont T0_ok GP1_ok ?_)); (try simp only [v8X, v8A, v8B, v8C, Nat.beq, Nat.ble, Int.reduceToNat, Int.reduceLE, Int.reduceLT, Nat.reduceLT, Nat.reduceLeDiff, Nat.reduceAdd, Nat.reduceMul, Nat.reduceSub, Int.reduceAdd, Int.reduceSub, Int.reduceMul, eq_self, decide_true, beq_self_eq_true, List.length_cons, List.length_nil, Nat.min_eq_left, IntKind.bits, tabs, GP1_set, d1]); (try simp (disch := omega) only [v8W])) | ((with_reducible refine hN _ _ ?_); clear hN N; (try simp (disch := omega) only [v8W])))); (try ((with_reducible refine Fin.of ?_); (try with_reducible exact True.intro))))
    (refine Vc.cond T0_ok (t := true) (by rfl) (fun _ => ?_) (fun h => Bool.noConfusion h))
    ((repeat (first | (with_reducible refine Vc.seq fun N hN => ?_) | (with_reducible refine Vc.block ?_) | ((first | with_reducible refine Vc.skip ?_ | with_reducible refine Vc.exit ?_); dsimp only [thenK, blockK, Nat.beq]; (first | (refine hN _ _ ?_; clear hN N) | skip)) | (with_reducible intro _) | ((with_reducible refine And.intro ?_ ?_); (focus (first | ((repeat' with_reducible apply And.intro) <;> first | exact sideQ | (simp only [List.length_append, List.length_cons, List.length_nil]; omega)) | exact sd0))) | ((first | ((with_reducible refine askT_of ?_ (fun hb => ?_)); (focus (first | ((repeat' with_reducible apply And.intro) <;> first | exact sideQ | (simp only [List.length_append, List.length_cons, List.length_nil]; omega)) | exact sd0)); (try simp only [hb])) | ((with_reducible refine Vc.fin ?_); dsimp only [thenK, blockK, retK, resS, resOne, resAll]) | ((with_reducible refine Vc.hold ?_); first | refine Vc.regiont T0_ok GP1_ok ?_)); (try simp only [v8X, v8A, v8B, v8C, Nat.beq, Nat.ble, Int.reduceToNat, Int.reduceLE, Int.reduceLT, Nat.reduceLT, Nat.reduceLeDiff, Nat.reduceAdd, Nat.reduceMul, Nat.reduceSub, Int.reduceAdd, Int.reduceSub, Int.reduceMul, eq_self, decide_true, beq_self_eq_true, List.length_cons, List.length_nil, Nat.min_eq_left, IntKind.bits, tabs, GP1_set, e1, e2, List.drop_zero, List.take_succ_cons, List.take_zero]); (try simp (disch := omega) only [v8W])) | ((with_reducible refine hN _ _ ?_); clear hN N; (try simp (disch := omega) only [v8W])))); (try ((with_reducible refine Fin.of ?_); (try with_reducible exact True.intro))))
    rename_i b0 v1
    have hl : (xs ++ hdR e n).length = xs.length + 1 := by rw [e3, List.length_append]; rfl
    exact ⟨trivial, v1, by rw [hl], by rw [hl, e3]⟩
  · have d1 : decide ((n : Int) ≤ 55) = false := decide_eq_false (by omega)
    have e1 := w64 (x := (n : Int)) (by omega)
    have e2 := w8 (x := e + 55) (by omega)
    have e0 : (xs ++ leB n).length = xs.length + (leB n).length := List.length_append
    have e4 : (((xs ++ leB n).length : Nat) : Int) - (xs.length : Int) = ((leB n).length : Nat) := by omega
    have e5 := w8 (x := (((leB n).length : Nat) : Int)) (by omega)
    have e6 := w8 (x := e + 55 + (((leB n).length : Nat) : Int)) (by omega)
    have e3 := hdR_hi (e := e) h0
    refine Vc.calls T0_ok Try.func31 rfl rfl (args := [.own 0 v xs.length, .int .u8 e, .int .i64 (n : Int)]) (k := 31) rfl hm ?_; change Vc _ _ (c8 (.own 0 v xs.length) (.int .u8 e) (.int .i64 (n : Int)) .undef .undef .undef .undef .undef (c8 .undef .undef .undef .undef .undef .undef .undef .undef (c8 .undef .undef .undef .undef .undef .undef .undef .undef (c8 .undef .undef .undef .undef .undef .undef .undef .undef ([.undef, .undef]))))) _ _
    ((repeat (first | (with_reducible refine Vc.seq fun N hN => ?_) | (with_reducible refine Vc.block ?_) | ((first | with_reducible refine Vc.skip ?_ | with_reducible refine Vc.exit ?_); dsimp only [thenK, blockK, Nat.beq]; (first | (refine hN _ _ ?_; clear hN N) | skip)) | (with_reducible intro _) | ((with_reducible refine And.intro ?_ ?_); (focus (first | exact sideQ | exact sd0))) | ((first | ((with_reducible refine askT_of ?_ (fun hb => ?_)); (focus (first | exact sideQ | exact sd0)); (try simp only [hb])) | ((with_reducible refine Vc.fin ?_); dsimp only [thenK, blockK, retK, resS, resOne, resAll]) | ((with_reducible refine Vc.hold ?_); first | refine Vc.regiont T0_ok GP1_ok ?_)); (try simp only [v8X, v8A, v8B, v8C, Nat.beq, Nat.ble, Int.reduceToNat, Int.reduceLE, Int.reduceLT, Nat.reduceLT, Nat.reduceLeDiff, Nat.reduceAdd, Nat.reduceMul, Nat.reduceSub, Int.reduceAdd, Int.reduceSub, Int.reduceMul, eq_self, decide_true, beq_self_eq_true, List.length_cons, List.length_nil, Nat.min_eq_left, IntKind.bits, tabs, GP1_set, d1]); (try simp (disch := omega) only [v8W])) | ((with_reducible refine hN _ _ ?_); clear hN N; (try simp (disch := omega) only [v8W])))); (try ((with_reducible refine Fin.of ?_); (try with_reducible exact True.intro))))
    (refine Vc.cond T0_ok (t := false) (by rfl) (fun h => Bool.noConfusion h) (fun _ => ?_))
    ((repeat (first | (with_reducible refine Vc.seq fun N hN => ?_) | (with_reducible refine Vc.block ?_) | ((first | with_reducible refine Vc.skip ?_ | with_reducible refine Vc.exit ?_); dsimp only [thenK, blockK, Nat.beq]; (first | (refine hN _ _ ?_; clear hN N) | skip)) | (with_reducible intro _) | ((with_reducible refine And.intro ?_ ?_); (focus (first | ((repeat' with_reducible apply And.intro) <;> first | exact sideQ | (simp only [List.length_append, List.length_cons, List.length_nil]; omega)) | exact sd0))) | ((first | ((with_reducible refine askT_of ?_ (fun hb => ?_)); (focus (first | ((repeat' with_reducible apply And.intro) <;> first | exact sideQ | (simp only [List.length_append, List.length_cons, List.length_nil]; omega)) | exact sd0)); (try simp only [hb])) | ((with_reducible refine Vc.fin ?_); dsimp only [thenK, blockK, retK, resS, resOne, resAll]) | ((with_reducible refine Vc.hold ?_); first | refine Vc.regiont T0_ok GP1_ok ?_)); (try simp only [v8X, v8A, v8B, v8C, Nat.beq, Nat.ble, Int.reduceToNat, Int.reduceLE, Int.reduceLT, Nat.reduceLT, Nat.reduceLeDiff, Nat.reduceAdd, Nat.reduceMul, Nat.reduceSub, Int.reduceAdd, Int.reduceSub, Int.reduceMul, eq_self, decide_true, beq_self_eq_true, List.length_cons, List.length_nil, Nat.min_eq_left, IntKind.bits, tabs, GP1_set, e1, e2, e4, e5, e6, tnc, List.drop_zero, List.take_succ_cons, List.take_zero]); (try simp (disch := omega) only [v8W])) | ((with_reducible refine hN _ _ ?_); clear hN N; (try simp (disch := omega) only [v8W])))); (try ((with_reducible refine Fin.of ?_); (try with_reducible exact True.intro))))
    rename_i v0 _ b0 v1
    have hl : (xs ++ hdR e n).length = (xs ++ leB n).length + 1 := by rw [e3, ← List.append_assoc, List.length_append]; rfl
    exact ⟨trivial, v1, by rw [hl], by rw [hl, e3, ← List.append_assoc]⟩
def g_apHead (args : List SV) (m : List Blk) : CR :=
  match args with
  | [x, .int .u8 e, .int .i64 n] => apC 5 .u8 m x (fun xs => 0 ≤ e ∧ e ≤ 192 ∧ 0 ≤ n ∧ n ≤ 9223372036854775807 ∧ xs.length ≤ 140737488354000) (fun xs => xs ++ hdR e n.toNat)
  | _ => .none
theorem g_apHead_ok (w0 : World) (B : List Nat) (args : List SV) (m : List Blk) : CROk Try.prog w0 B 31 args m (g_apHead args m) := by
  unfold g_apHead
  split
  · rename_i x e k
    exact ap_ok Try.func31 rfl rfl (fun w B v xs ⟨h1, h2, h3, h4, h5⟩ hm => by
      obtain ⟨n, rfl⟩ := Int.eq_ofNat_of_zero_le h3
      exact apHead_vc e n ⟨h1, h2⟩ (by omega) xs v h5 B w hm) w0 B m
  · exact trivial
/-! ### A string without a head -/
def bareB (ys : List Int) : Bool := decide (ys.length = 1) && decide (ys.getD 0 0 < 128)
theorem bare_vc (xs : List Int) (a : Option Addr) (n cp : Nat) (hl : xs.length = n) (hc : n ≤ cp) (ha : adr a n cp) (hb : n ≤ 9223372036854775807) (w : World) (hm : MemOk w [] [.ro a (.ints .u8 xs)] w) :
    Calls Try.prog 36 (cvs [.sl 0 a 0 0 1 n cp]).toArray w (fun en w' => ∃ u, en = .returned u ∧ ∃ v m', u = cv v ∧ MemOk w [] m' w' ∧ v = .bool (bareB xs)) := by
  unfold bareB
  by_cases h : n = 1
  · have d1 : decide ((n : Int) = 1) = true := decide_eq_true (by omega)
    have d2 : decide (xs.length = 1) = true := decide_eq_true (by omega)
    refine Vc.calls T0_ok Try.func36 rfl rfl (args := [.sl 0 a 0 0 1 n cp]) (k := 11) rfl hm ?_; change Vc _ _ (c8 (.sl 0 a 0 0 1 n cp) .undef .undef .undef .undef .undef .undef .undef ([.undef, .undef, .undef, .undef])) _ _
    ((repeat (first | (with_reducible refine Vc.seq fun N hN => ?_) | (with_reducible refine Vc.block ?_) | ((first | with_reducible refine Vc.skip ?_ | with_reducible refine Vc.exit ?_); dsimp only [thenK, blockK, Nat.beq]; (first | (refine hN _ _ ?_; clear hN N) | skip)) | (with_reducible intro _) | ((with_reducible refine And.intro ?_ ?_); (focus (first | exact sideQ | exact sd0))) | ((first | ((with_reducible refine askT_of ?_ (fun hb => ?_)); (focus (first | exact sideQ | exact sd0)); (try simp only [hb])) | ((with_reducible refine Vc.fin ?_); dsimp only [thenK, blockK, retK, resS, resOne, resAll]) | ((with_reducible refine Vc.hold ?_); first | refine Vc.regiont T0_ok GZ0_ok ?_)); (try simp only [v8X, v8A, v8B, v8C, Nat.beq, Nat.ble, Int.reduceToNat, Int.reduceLE, Int.reduceLT, Nat.reduceLT, Nat.reduceLeDiff, Nat.reduceAdd, Nat.reduceMul, Nat.reduceSub, Int.reduceAdd, Int.reduceSub, Int.reduceMul, eq_self, decide_true, beq_self_eq_true, List.length_cons, List.length_nil, Nat.min_eq_left, IntKind.bits, tabs, d1]); (try simp (disch := omega) only [v8W])) | ((with_reducible refine hN _ _ ?_); clear hN N; (try simp (disch := omega) only [v8W])))); (try ((with_reducible refine Fin.of ?_); (try with_reducible exact True.intro))))
    exact ⟨trivial, by rw [d2, Bool.true_and]⟩
  · have d1 : decide ((n : Int) = 1) = false := decide_eq_false (by omega)
    have d2 : decide (xs.length = 1) = false := decide_eq_false (by omega)
    refine Vc.calls T0_ok Try.func36 rfl rfl (args := [.sl 0 a 0 0 1 n cp]) (k := 11) rfl hm ?_; change Vc _ _ (c8 (.sl 0 a 0 0 1 n cp) .undef .undef .undef .undef .undef .undef .undef ([.undef, .undef, .undef, .undef])) _ _
    ((repeat (first | (with_reducible refine Vc.seq fun N hN => ?_) | (with_reducible refine Vc.block ?_) | ((first | with_reducible refine Vc.skip ?_ | with_reducible refine Vc.exit ?_); dsimp only [thenK, blockK, Nat.beq]; (first | (refine hN _ _ ?_; clear hN N) | skip)) | (with_reducible intro _) | ((with_reducible refine And.intro ?_ ?_); (focus (first | exact sideQ | exact sd0))) | ((first | ((with_reducible refine askT_of ?_ (fun hb => ?_)); (focus (first | exact sideQ | exact sd0)); (try simp only [hb])) | ((with_reducible refine Vc.fin ?_); dsimp only [thenK, blockK, retK, resS, resOne, resAll]) | ((with_reducible refine Vc.hold ?_); first | refine Vc.regiont T0_ok GZ0_ok ?_)); (try simp only [v8X, v8A, v8B, v8C, Nat.beq, Nat.ble, Int.reduceToNat, Int.reduceLE, Int.reduceLT, Nat.reduceLT, Nat.reduceLeDiff, Nat.reduceAdd, Nat.reduceMul, Nat.reduceSub, Int.reduceAdd, Int.reduceSub, Int.reduceMul, eq_self, decide_true, beq_self_eq_true, List.length_cons, List.length_nil, Nat.min_eq_left, IntKind.bits, tabs, d1]); (try simp (disch := omega) only [v8W])) | ((with_reducible refine hN _ _ ?_); clear hN N; (try simp (disch := omega) only [v8W])))); (try ((with_reducible refine Fin.of ?_); (try with_reducible exact True.intro))))
    exact ⟨trivial, by rw [d2, Bool.false_and]⟩
def g_bare (args : List SV) (m : List Blk) : CR :=
  match args with
  | [x] => match srcC x m with
    | some (q, k, .ints .u8 xs) => .pure (q ∧ k ≤ 9223372036854775807) (.bool (bareB xs))
    | _ => .none
  | _ => .none
theorem g_bare_ok (w0 : World) (B : List Nat) (args : List SV) (m : List Blk) : CROk Try.prog w0 B 36 args m (g_bare args m) := by
  unfold g_bare
  split
  · rename_i x
    split
    · rename_i q k xs hs
      intro ⟨hq, hk⟩ w hm
      obtain ⟨h1, a, cp, h2, h3, h4, h5⟩ := src_ro hs hq hm
      have hl : xs.length = k := by simpa [cc, conEs] using h1
      have e : cvs [x] = cvs [.sl 0 a 0 0 1 k cp] := by simp only [cvs]; rw [h2]; rfl
      rw [e]
      exact calls_pure Try.func36 rfl rfl (bare_vc xs a k cp hl h3 h5 hk w h4)
    · exact trivial
  · exact trivial
noncomputable def GP3 : Ctr := fun f args m => match f with
  | 24 => g_apNum args m
  | 31 => g_apHead args m
  | 36 => g_bare args m
  | 22 => g_Rev args m
  | _ => .none
theorem GP3_ok : GOk Try.prog GP3 := by
  intro w0 B f args m; unfold GP3; split
  · exact g_apNum_ok _ _ _ _
  · exact g_apHead_ok _ _ _ _
  · exact g_bare_ok _ _ _ _
  · exact g_Rev_ok _ _ _ _
  · exact trivial
theorem GP3_apNum : GP3 24 = g_apNum := by funext args m; rfl
theorem GP3_apHead : GP3 31 = g_apHead := by funext args m; rfl
theorem GP3_bare : GP3 36 = g_bare := by funext args m; rfl
theorem GP3_Rev : GP3 22 = g_Rev := by funext args m; rfl
def GP3_set := And.intro (And.intro (And.intro (@GP3_apNum) (@g_apNum.eq_def)) (And.intro (@GP3_apHead) (@g_apHead.eq_def))) (And.intro (And.intro (@GP3_bare) (@g_bare.eq_def)) (And.intro (@GP3_Rev) (@g_Rev.eq_def)))

/-- A string's bytes, the last one first. -/
def txR (ys : List Int) : List Int := ys.reverse ++ (if bareB ys then [] else hdR 128 ys.length)
theorem txR_bare {ys : List Int} (h : bareB ys = true) : txR ys = ys.reverse := by unfold txR; rw [if_pos h, List.append_nil]
theorem txR_head {ys : List Int} (h : bareB ys = false) : txR ys = ys.reverse ++ hdR 128 ys.length := by unfold txR; rw [if_neg (by rw [h]; simp)]
theorem apText_vc (xs ys : List Int) (v : Value) (a : Option Addr) (n cp : Nat) (hl : ys.length = n) (hc : n ≤ cp) (ha : adr a n cp) (hx : xs.length ≤ 140737400000000) (hy : n ≤ 70000000) (B : List Nat) (w : World) (hm : MemOk w B [.own v xs.length 5 1 (.ints .u8 xs), .ro a (.ints .u8 ys)] w) :
    Calls Try.prog 29 (cvs [.own 0 v xs.length, .sl 1 a 0 0 1 n cp]).toArray w (ApR 5 .u8 w B (xs ++ txR ys)) := by
  unfold ApR
  have u1 : (ys.drop 0).take n = ys := by rw [List.drop_zero, List.take_of_length_le (by omega)]
  have u2 : ys.take n = ys := List.take_of_length_le (by omega)
  have e0 : (xs ++ ys).length = xs.length + n := by rw [List.length_append, hl]
  have e1 : (xs.length : Int).toNat = xs.length := Int.toNat_natCast _
  have e2 : ((xs.length + n : Nat) : Int).toNat - xs.length = n := by omega
  have t1 : (xs ++ ys).take xs.length = xs := List.take_left' rfl
  have t2 : (xs ++ ys).drop xs.length = ys := List.drop_left' rfl
  by_cases h0 : xs.length + n = 0
  · obtain rfl : xs = [] := List.eq_nil_of_length_eq_zero (by omega)
    obtain rfl : n = 0 := by omega
    obtain rfl : ys = [] := List.eq_nil_of_length_eq_zero hl
    refine Vc.calls T0_ok Try.func29 rfl rfl (args := [.own 0 v ([] : List Int).length, .sl 1 a 0 0 1 0 cp]) (k := 20) rfl hm ?_; change Vc _ _ (c8 (.own 0 v ([] : List Int).length) (.sl 1 a 0 0 1 0 cp) .undef .undef .undef .undef .undef .undef (c8 .undef .undef .undef .undef .undef .undef .undef .undef ([.undef, .undef, .undef, .undef, .undef, .undef]))) _ _
    refine Vc.seq fun N1 hN1 => ?_
    ((repeat (first | (with_reducible refine Vc.seq fun N hN => ?_) | (with_reducible refine Vc.block ?_) | ((first | with_reducible refine Vc.skip ?_ | with_reducible refine Vc.exit ?_); dsimp only [thenK, blockK, Nat.beq]; (first | (refine hN _ _ ?_; clear hN N) | skip)) | (with_reducible intro _) | ((with_reducible refine And.intro ?_ ?_); (focus (first | exact sideQ | exact sd0))) | ((first | ((with_reducible refine askT_of ?_ (fun hb => ?_)); (focus (first | exact sideQ | exact sd0)); (try simp only [hb])) | ((with_reducible refine Vc.fin ?_); dsimp only [thenK, blockK, retK, resS, resOne, resAll]) | ((with_reducible refine Vc.hold ?_); first | refine Vc.regiont T0_ok GP3_ok ?_)); (try simp only [v8X, v8A, v8B, v8C, Nat.beq, Nat.ble, Int.reduceToNat, Int.reduceLE, Int.reduceLT, Nat.reduceLT, Nat.reduceLeDiff, Nat.reduceAdd, Nat.reduceMul, Nat.reduceSub, Int.reduceAdd, Int.reduceSub, Int.reduceMul, eq_self, decide_true, beq_self_eq_true, List.length_cons, List.length_nil, Nat.min_eq_left, IntKind.bits, tabs, GP3_set]); (try simp (disch := omega) only [v8W])) | ((with_reducible refine hN _ _ ?_); clear hN N; (try simp (disch := omega) only [v8W])))); (try ((with_reducible refine Fin.of ?_); (try with_reducible exact True.intro))))
    refine hN1 _ _ ?_
    clear hN1 N1
    refine Vc.seq fun N1 hN1 => ?_
    ((repeat (first | (with_reducible refine Vc.seq fun N hN => ?_) | (with_reducible refine Vc.block ?_) | ((first | with_reducible refine Vc.skip ?_ | with_reducible refine Vc.exit ?_); dsimp only [thenK, blockK, Nat.beq]; (first | (refine hN _ _ ?_; clear hN N) | skip)) | (with_reducible intro _) | ((with_reducible refine And.intro ?_ ?_); (focus (first | exact sideQ | exact sd0))) | ((first | ((with_reducible refine askT_of ?_ (fun hb => ?_)); (focus (first | exact sideQ | exact sd0)); (try simp only [hb])) | ((with_reducible refine Vc.fin ?_); dsimp only [thenK, blockK, retK, resS, resOne, resAll]) | ((with_reducible refine Vc.hold ?_); first | refine Vc.regiont T0_ok GP3_ok ?_)); (try simp only [v8X, v8A, v8B, v8C, Nat.beq, Nat.ble, Int.reduceToNat, Int.reduceLE, Int.reduceLT, Nat.reduceLT, Nat.reduceLeDiff, Nat.reduceAdd, Nat.reduceMul, Nat.reduceSub, Int.reduceAdd, Int.reduceSub, Int.reduceMul, eq_self, decide_true, beq_self_eq_true, List.length_cons, List.length_nil, Nat.min_eq_left, IntKind.bits, tabs, GP3_set]); (try simp (disch := omega) only [v8W])) | ((with_reducible refine hN _ _ ?_); clear hN N; (try simp (disch := omega) only [v8W])))); (try ((with_reducible refine Fin.of ?_); (try with_reducible exact True.intro))))
    refine hN1 _ _ ?_
    clear hN1 N1
    refine Vc.seq fun N1 hN1 => ?_
    ((repeat (first | (with_reducible refine Vc.seq fun N hN => ?_) | (with_reducible refine Vc.block ?_) | ((first | with_reducible refine Vc.skip ?_ | with_reducible refine Vc.exit ?_); dsimp only [thenK, blockK, Nat.beq]; (first | (refine hN _ _ ?_; clear hN N) | skip)) | (with_reducible intro _) | ((with_reducible refine And.intro ?_ ?_); (focus (first | ((repeat' with_reducible apply And.intro) <;> first | exact sideQ | (simp only [List.length_append, List.length_reverse]; omega) | (exact .inr rfl) | (exact .inl rfl) | (simp [noAlias]; done)) | exact sd0))) | ((first | ((with_reducible refine askT_of ?_ (fun hb => ?_)); (focus (first | ((repeat' with_reducible apply And.intro) <;> first | exact sideQ | (simp only [List.length_append, List.length_reverse]; omega) | (exact .inr rfl) | (exact .inl rfl) | (simp [noAlias]; done)) | exact sd0)); (try simp only [hb])) | ((with_reducible refine Vc.fin ?_); dsimp only [thenK, blockK, retK, resS, resOne, resAll]) | ((with_reducible refine Vc.hold ?_); first | refine Vc.regiont T0_ok GP3_ok ?_)); (try simp only [v8X, v8A, v8B, v8C, Nat.beq, Nat.ble, Int.reduceToNat, Int.reduceLE, Int.reduceLT, Nat.reduceLT, Nat.reduceLeDiff, Nat.reduceAdd, Nat.reduceMul, Nat.reduceSub, Int.reduceAdd, Int.reduceSub, Int.reduceMul, eq_self, decide_true, beq_self_eq_true, List.length_cons, List.length_nil, Nat.min_eq_left, IntKind.bits, tabs, GP3_set, u1, u2, List.append_nil, List.length_nil]); (try simp (disch := omega) only [v8W])) | ((with_reducible refine hN _ _ ?_); clear hN N; (try simp (disch := omega) only [v8W])))); (try ((with_reducible refine Fin.of ?_); (try with_reducible exact True.intro))))
    rename_i v1
    refine hN1 _ _ ?_
    clear hN1 N1
    refine Vc.ownForm 0 rfl (fun a1 c1 hv hc1 ha1 => ?_)
    subst hv
    refine Vc.nameS 0 (.sl 0 a1 0 0 1 0 c1) (by rw [cv_sl0]; rfl) ?_
    (simp only [v8X, v8A, v8B, v8C, Nat.beq, Nat.ble, Int.reduceToNat, Int.reduceLE, Int.reduceLT, Nat.reduceLT, Nat.reduceLeDiff, Nat.reduceAdd, Nat.reduceMul, Nat.reduceSub, Int.reduceAdd, Int.reduceSub, Int.reduceMul, eq_self, decide_true, beq_self_eq_true, List.length_cons, List.length_nil, Nat.min_eq_left, IntKind.bits, tabs])
    refine Vc.seq fun N1 hN1 => ?_
    ((repeat (first | (with_reducible refine Vc.seq fun N hN => ?_) | (with_reducible refine Vc.block ?_) | ((first | with_reducible refine Vc.skip ?_ | with_reducible refine Vc.exit ?_); dsimp only [thenK, blockK, Nat.beq]; (first | (refine hN _ _ ?_; clear hN N) | skip)) | (with_reducible intro _) | ((with_reducible refine And.intro ?_ ?_); (focus (first | ((repeat' with_reducible apply And.intro) <;> first | exact sideQ | (exact .inl rfl)) | exact sd0))) | ((first | ((with_reducible refine askT_of ?_ (fun hb => ?_)); (focus (first | ((repeat' with_reducible apply And.intro) <;> first | exact sideQ | (exact .inl rfl)) | exact sd0)); (try simp only [hb])) | ((with_reducible refine Vc.fin ?_); dsimp only [thenK, blockK, retK, resS, resOne, resAll]) | ((with_reducible refine Vc.hold ?_); first | refine Vc.regiont T0_ok GP3_ok ?_)); (try simp only [v8X, v8A, v8B, v8C, Nat.beq, Nat.ble, Int.reduceToNat, Int.reduceLE, Int.reduceLT, Nat.reduceLT, Nat.reduceLeDiff, Nat.reduceAdd, Nat.reduceMul, Nat.reduceSub, Int.reduceAdd, Int.reduceSub, Int.reduceMul, eq_self, decide_true, beq_self_eq_true, List.length_cons, List.length_nil, Nat.min_eq_left, IntKind.bits, tabs, GP3_set, List.append_nil, List.length_nil, List.take_nil, List.drop_nil, List.reverse_nil]); (try simp (disch := omega) only [v8W])) | ((with_reducible refine hN _ _ ?_); clear hN N; (try simp (disch := omega) only [v8W])))); (try ((with_reducible refine Fin.of ?_); (try with_reducible exact True.intro))))
    refine hN1 _ _ ?_
    clear hN1 N1
    refine Vc.nameS 0 (.own 0 (.slice a1 0 c1) 0) (by rw [show sget _ 0 = SV.sl 0 a1 0 0 1 0 c1 from rfl, cv_sl0]; rfl) ?_
    (simp only [v8X, v8A, v8B, v8C, Nat.beq, Nat.ble, Int.reduceToNat, Int.reduceLE, Int.reduceLT, Nat.reduceLT, Nat.reduceLeDiff, Nat.reduceAdd, Nat.reduceMul, Nat.reduceSub, Int.reduceAdd, Int.reduceSub, Int.reduceMul, eq_self, decide_true, beq_self_eq_true, List.length_cons, List.length_nil, Nat.min_eq_left, IntKind.bits, tabs])
    have hbe : bareB [] = false := rfl
    ((repeat (first | (with_reducible refine Vc.seq fun N hN => ?_) | (with_reducible refine Vc.block ?_) | ((first | with_reducible refine Vc.skip ?_ | with_reducible refine Vc.exit ?_); dsimp only [thenK, blockK, Nat.beq]; (first | (refine hN _ _ ?_; clear hN N) | skip)) | (with_reducible intro _) | ((with_reducible refine And.intro ?_ ?_); (focus (first | exact sideQ | exact sd0))) | ((first | ((with_reducible refine askT_of ?_ (fun hb => ?_)); (focus (first | exact sideQ | exact sd0)); (try simp only [hb])) | ((with_reducible refine Vc.fin ?_); dsimp only [thenK, blockK, retK, resS, resOne, resAll]) | ((with_reducible refine Vc.hold ?_); first | refine Vc.regiont T0_ok GP3_ok ?_)); (try simp only [v8X, v8A, v8B, v8C, Nat.beq, Nat.ble, Int.reduceToNat, Int.reduceLE, Int.reduceLT, Nat.reduceLT, Nat.reduceLeDiff, Nat.reduceAdd, Nat.reduceMul, Nat.reduceSub, Int.reduceAdd, Int.reduceSub, Int.reduceMul, eq_self, decide_true, beq_self_eq_true, List.length_cons, List.length_nil, Nat.min_eq_left, IntKind.bits, tabs, GP3_set, hbe]); (try simp (disch := omega) only [v8W])) | ((with_reducible refine hN _ _ ?_); clear hN N; (try simp (disch := omega) only [v8W])))); (try ((with_reducible refine Fin.of ?_); (try with_reducible exact True.intro))))
    (refine Vc.cond T0_ok (t := false) (by rfl) (fun h => Bool.noConfusion h) (fun _ => ?_))
    ((repeat (first | (with_reducible refine Vc.seq fun N hN => ?_) | (with_reducible refine Vc.block ?_) | ((first | with_reducible refine Vc.skip ?_ | with_reducible refine Vc.exit ?_); dsimp only [thenK, blockK, Nat.beq]; (first | (refine hN _ _ ?_; clear hN N) | skip)) | (with_reducible intro _) | ((with_reducible refine And.intro ?_ ?_); (focus (first | exact sideQ | exact sd0))) | ((first | ((with_reducible refine askT_of ?_ (fun hb => ?_)); (focus (first | exact sideQ | exact sd0)); (try simp only [hb])) | ((with_reducible refine Vc.fin ?_); dsimp only [thenK, blockK, retK, resS, resOne, resAll]) | ((with_reducible refine Vc.hold ?_); first | refine Vc.regiont T0_ok GP3_ok ?_)); (try simp only [v8X, v8A, v8B, v8C, Nat.beq, Nat.ble, Int.reduceToNat, Int.reduceLE, Int.reduceLT, Nat.reduceLT, Nat.reduceLeDiff, Nat.reduceAdd, Nat.reduceMul, Nat.reduceSub, Int.reduceAdd, Int.reduceSub, Int.reduceMul, eq_self, decide_true, beq_self_eq_true, List.length_cons, List.length_nil, Nat.min_eq_left, IntKind.bits, tabs, GP3_set, List.append_nil, List.nil_append, List.length_nil]); (try simp (disch := omega) only [v8W])) | ((with_reducible refine hN _ _ ?_); clear hN N; (try simp (disch := omega) only [v8W])))); (try ((with_reducible refine Fin.of ?_); (try with_reducible exact True.intro))))
    exact ⟨trivial, _, by rw [txR_head hbe]; rfl, by rw [txR_head hbe]; rfl⟩
  · refine Vc.calls T0_ok Try.func29 rfl rfl (args := [.own 0 v xs.length, .sl 1 a 0 0 1 n cp]) (k := 20) rfl hm ?_; change Vc _ _ (c8 (.own 0 v xs.length) (.sl 1 a 0 0 1 n cp) .undef .undef .undef .undef .undef .undef (c8 .undef .undef .undef .undef .undef .undef .undef .undef ([.undef, .undef, .undef, .undef, .undef, .undef]))) _ _
    ((repeat (first | (with_reducible refine Vc.seq fun N hN => ?_) | (with_reducible refine Vc.block ?_) | ((first | with_reducible refine Vc.skip ?_ | with_reducible refine Vc.exit ?_); dsimp only [thenK, blockK, Nat.beq]; (first | (refine hN _ _ ?_; clear hN N) | skip)) | (with_reducible intro _) | ((with_reducible refine And.intro ?_ ?_); (focus (first | ((repeat' with_reducible apply And.intro) <;> first | exact sideQ | (simp only [List.length_append, List.length_reverse]; omega) | (exact .inr rfl) | (exact .inl rfl) | (simp [noAlias]; done)) | exact sd0))) | ((first | ((with_reducible refine askT_of ?_ (fun hb => ?_)); (focus (first | ((repeat' with_reducible apply And.intro) <;> first | exact sideQ | (simp only [List.length_append, List.length_reverse]; omega) | (exact .inr rfl) | (exact .inl rfl) | (simp [noAlias]; done)) | exact sd0)); (try simp only [hb])) | ((with_reducible refine Vc.fin ?_); dsimp only [thenK, blockK, retK, resS, resOne, resAll]) | ((with_reducible refine Vc.hold ?_); first | refine Vc.regiont T0_ok GP3_ok ?_)); (try simp only [v8X, v8A, v8B, v8C, Nat.beq, Nat.ble, Int.reduceToNat, Int.reduceLE, Int.reduceLT, Nat.reduceLT, Nat.reduceLeDiff, Nat.reduceAdd, Nat.reduceMul, Nat.reduceSub, Int.reduceAdd, Int.reduceSub, Int.reduceMul, eq_self, decide_true, beq_self_eq_true, List.length_cons, List.length_nil, Nat.min_eq_left, IntKind.bits, tabs, GP3_set, u1, u2, e0, e1, e2, t1, t2]); (try simp (disch := omega) only [v8W])) | ((with_reducible refine hN _ _ ?_); clear hN N; (try simp (disch := omega) only [v8W])))); (try ((with_reducible refine Fin.of ?_); (try with_reducible exact True.intro))))
    (refine Vc.cond T0_ok (by rfl) (fun hb => ?_) (fun hb => ?_))
    · have hl2 : (xs ++ txR ys).length = xs.length + n := by rw [txR_bare hb, List.length_append, List.length_reverse, hl]
      ((repeat (first | (with_reducible refine Vc.seq fun N hN => ?_) | (with_reducible refine Vc.block ?_) | ((first | with_reducible refine Vc.skip ?_ | with_reducible refine Vc.exit ?_); dsimp only [thenK, blockK, Nat.beq]; (first | (refine hN _ _ ?_; clear hN N) | skip)) | (with_reducible intro _) | ((with_reducible refine And.intro ?_ ?_); (focus (first | exact sideQ | exact sd0))) | ((first | ((with_reducible refine askT_of ?_ (fun hb => ?_)); (focus (first | exact sideQ | exact sd0)); (try simp only [hb])) | ((with_reducible refine Vc.fin ?_); dsimp only [thenK, blockK, retK, resS, resOne, resAll]) | ((with_reducible refine Vc.hold ?_); first | refine Vc.regiont T0_ok GP3_ok ?_)); (try simp only [v8X, v8A, v8B, v8C, Nat.beq, Nat.ble, Int.reduceToNat, Int.reduceLE, Int.reduceLT, Nat.reduceLT, Nat.reduceLeDiff, Nat.reduceAdd, Nat.reduceMul, Nat.reduceSub, Int.reduceAdd, Int.reduceSub, Int.reduceMul, eq_self, decide_true, beq_self_eq_true, List.length_cons, List.length_nil, Nat.min_eq_left, IntKind.bits, tabs, GP3_set, e0]); (try simp (disch := omega) only [v8W])) | ((with_reducible refine hN _ _ ?_); clear hN N; (try simp (disch := omega) only [v8W])))); (try ((with_reducible refine Fin.of ?_); (try with_reducible exact True.intro))))
      exact ⟨trivial, _, by rw [hl2], by rw [hl2, txR_bare hb]⟩
    · have e3 : (xs ++ ys.reverse).length = xs.length + n := by rw [List.length_append, List.length_reverse, hl]
      ((repeat (first | (with_reducible refine Vc.seq fun N hN => ?_) | (with_reducible refine Vc.block ?_) | ((first | with_reducible refine Vc.skip ?_ | with_reducible refine Vc.exit ?_); dsimp only [thenK, blockK, Nat.beq]; (first | (refine hN _ _ ?_; clear hN N) | skip)) | (with_reducible intro _) | ((with_reducible refine And.intro ?_ ?_); (focus (first | ((repeat' with_reducible apply And.intro) <;> first | exact sideQ | (simp only [List.length_append, List.length_reverse]; omega) | (exact .inr rfl) | (exact .inl rfl) | (simp [noAlias]; done)) | exact sd0))) | ((first | ((with_reducible refine askT_of ?_ (fun hb => ?_)); (focus (first | ((repeat' with_reducible apply And.intro) <;> first | exact sideQ | (simp only [List.length_append, List.length_reverse]; omega) | (exact .inr rfl) | (exact .inl rfl) | (simp [noAlias]; done)) | exact sd0)); (try simp only [hb])) | ((with_reducible refine Vc.fin ?_); dsimp only [thenK, blockK, retK, resS, resOne, resAll]) | ((with_reducible refine Vc.hold ?_); first | refine Vc.regiont T0_ok GP3_ok ?_)); (try simp only [v8X, v8A, v8B, v8C, Nat.beq, Nat.ble, Int.reduceToNat, Int.reduceLE, Int.reduceLT, Nat.reduceLT, Nat.reduceLeDiff, Nat.reduceAdd, Nat.reduceMul, Nat.reduceSub, Int.reduceAdd, Int.reduceSub, Int.reduceMul, eq_self, decide_true, beq_self_eq_true, List.length_cons, List.length_nil, Nat.min_eq_left, IntKind.bits, tabs, GP3_set, e0, e3, tnc]); (try simp (disch := omega) only [v8W])) | ((with_reducible refine hN _ _ ?_); clear hN N; (try simp (disch := omega) only [v8W])))); (try ((with_reducible refine Fin.of ?_); (try with_reducible exact True.intro))))
      exact ⟨trivial, _, by rw [txR_head hb, ← List.append_assoc, hl], by rw [txR_head hb, ← List.append_assoc, hl]⟩
def g_apText (args : List SV) (m : List Blk) : CR :=
  match args with
  | [x, y] => apS 5 .u8 m x y (fun xs ys => xs.length ≤ 140737400000000 ∧ ys.length ≤ 70000000) (fun xs ys => xs ++ txR ys)
  | _ => .none
theorem g_apText_ok (w0 : World) (B : List Nat) (args : List SV) (m : List Blk) : CROk Try.prog w0 B 29 args m (g_apText args m) := by
  unfold g_apText
  split
  · rename_i x y
    exact aps_ok Try.func29 rfl rfl (fun w B v xs ys a n cp ⟨h1, h2⟩ hl hc ha hm => apText_vc xs ys v a n cp hl hc ha h1 (by omega) B w hm) w0 B m
  · exact trivial
end Go.Proofs.Ytlogpdjcgbifhaa
