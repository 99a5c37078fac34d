/-
  RLP: a reader's bytes taken off (package rlp: take), walked. No condition.
-/
import Derived.Test.YtlogpdjcgbifhaaP9
namespace Go.Proofs.Ytlogpdjcgbifhaa
set_option linter.unusedSimpArgs false
set_option linter.unusedVariables false
set_option maxHeartbeats 4000000
set_option linter.defProp false
open Go.RowKit
theorem shA_0 (a : Option Addr) (c es : Nat) : shA a c 0 es = a := by
  unfold shA
  split
  · rfl
  · rw [Nat.zero_mul]
    cases a with
    | none => rfl
    | some a => simp [Addr.add]
theorem adr_shA {a : Option Addr} {n c k es : Nat} (h : adr a n c) (hk : k ≤ n) (hn : n ≤ c) : adr (shA a c k es) (n - k) (c - k) := by
  unfold shA
  rcases h with h | ⟨h1, h2, h3⟩
  · split
    · exact .inl h
    · refine .inl ?_
      generalize blkO a = b at *
      generalize offO a = o at *
      subst h
      simp only [Option.map_some, addr_add, blkO, offO]
  · exact .inr ⟨rfl, by omega, by omega⟩
theorem lies_shA {H : Nat → Obj → Prop} {a : Option Addr} {xs : List Int} {n c k : Nat} {kd : IntKind} (h : LiesH H a (cc (.ints kd xs))) (hl : xs.length = n) (hn : n ≤ c) : LiesH H (shA a c k 1) (cc (.ints kd (xs.drop k))) := by
  by_cases hk : n ≤ k
  · exact .inl (by rw [List.drop_of_length_le (by omega)]; rfl)
  · rcases h with h | ⟨b, off, arr, t, fr, rfl, h2, h3⟩
    · have : (cc (.ints kd xs)).length = 0 := by rw [h]; rfl
      simp [cc] at this; subst this; simp at hl; omega
    · refine .inr ⟨b, off + k, arr, t, fr, ?_, h2, fun j u hj => ?_⟩
      · unfold shA; rw [if_neg (by omega), Option.map_some, addr_add, Nat.mul_one]
      · have := h3 (k + j) u (by
          simp only [cc, List.getElem?_map, List.getElem?_drop] at hj ⊢
          exact hj)
        rw [Nat.add_assoc]; exact this
/-- A reader's cells. -/
def rdC (a : Option Addr) (n c : Nat) (xs : List Int) (at_ dp : Int) : Con := .cells [.gh a n c (.ints .u8 xs), .int .i64 at_, .int .i64 dp]
/-- A reader's bytes, and where it stands, are in bounds. -/
def rdOk (n c : Nat) (xs : List Int) (at_ : Int) : Prop := xs.length = n ∧ n ≤ c ∧ (n : Int) ≤ 9223372036854775807 ∧ 0 ≤ at_ ∧ at_ + n ≤ 9223372036854775807
theorem takeY_vc (a : Option Addr) (n c : Nat) (xs : List Int) (at_ dp : Int) (b k : Nat) (hr : rdOk n c xs at_) (hk : k ≤ n) (w : World) (hm : MemOk w [b] [.blk b 64 (rdC a n c xs at_ dp)] w) :
    Calls Try.prog 40 (cvs [.ptr 0 b 0 0 0 0, .int .u64 (k : Int)]).toArray w (fun en w' => ∃ u, en = .returned u ∧ ∃ v' m', u = cv v' ∧ MemOk w [b] m' w' ∧ v' = .tup [.gh a k c (.ints .u8 (xs.take k)), .bool true] ∧ bget m' 0 = .blk b 64 (rdC (shA a c k 1) (n - k) (c - k) (xs.drop k) (at_ + k) dp)) := by
  obtain ⟨hl, hn, hx, h0, h1⟩ := hr
  have e1 := w64 (x := (n : Int)) (by omega)
  have d1 : decide ((n : Int) < (k : Int)) = false := decide_eq_false (by omega)
  have s0 := shA_0 a c 1
  have t1 : (xs.drop k).take (n - k) = xs.drop k := List.take_of_length_le (by rw [List.length_drop]; omega)
  unfold rdC at hm
  refine Vc.calls T0_ok Try.func40 rfl rfl (args := [.ptr 0 b 0 0 0 0, .int .u64 (k : Int)]) (k := 39) rfl hm ?_; change Vc _ _ (c8 (.ptr 0 b 0 0 0 0) (.int .u64 (k : Int)) .undef .undef .undef .undef .undef .undef (c8 .undef .undef .undef .undef .undef .undef .undef .undef (c8 .undef .undef .undef .undef .undef .undef .undef .undef (c8 .undef .undef .undef .undef .undef .undef .undef .undef (c8 .undef .undef .undef .undef .undef .undef .undef .undef ([.undef])))))) _ _
  ((repeat (first | (with_reducible refine Vc.seq fun N hN => ?_) | (with_reducible refine Vc.block ?_) | ((first | with_reducible refine Vc.skip ?_ | with_reducible refine Vc.exit ?_); dsimp only [thenK, blockK, Nat.beq]; (first | (refine hN _ _ ?_; clear hN N) | skip)) | (with_reducible intro _) | ((with_reducible refine And.intro ?_ ?_); (focus (first | exact sideQ | exact sd0))) | ((first | ((with_reducible refine askT_of ?_ (fun hb => ?_)); (focus (first | exact sideQ | exact sd0)); (try simp only [hb])) | ((with_reducible refine Vc.fin ?_); dsimp only [thenK, blockK, retK, resS, resOne, resAll]) | ((with_reducible refine Vc.hold ?_); first | refine Vc.regiont T0_ok GZ0_ok ?_ | refine Vc.drawt (id := 4) T0_ok GZ0_ok (by kernel_rfl) [0, 1, 2, 3, 4, 5, 6, 7, 8, 9, 10, 11, 12, 13, 14] 15 [] trivial (by kernel_rfl) ?_)); (try simp only [v8X, v8A, v8B, v8C, Nat.beq, Nat.ble, Int.reduceToNat, Int.reduceLE, Int.reduceLT, Nat.reduceLT, Nat.reduceLeDiff, Nat.reduceAdd, Nat.reduceMul, Nat.reduceSub, Int.reduceAdd, Int.reduceSub, Int.reduceMul, eq_self, decide_true, beq_self_eq_true, List.length_cons, List.length_nil, Nat.min_eq_left, IntKind.bits, tabs, e1, d1]); (try simp (disch := omega) only [v8W])) | ((with_reducible refine hN _ _ ?_); clear hN N; (try simp (disch := omega) only [v8W])))); (try ((with_reducible refine Fin.of ?_); (try with_reducible exact True.intro))))
  (refine Vc.cond T0_ok (t := false) (by rfl) (fun h => Bool.noConfusion h) (fun _ => ?_))
  ((repeat (first | (with_reducible refine Vc.seq fun N hN => ?_) | (with_reducible refine Vc.block ?_) | ((first | with_reducible refine Vc.skip ?_ | with_reducible refine Vc.exit ?_); dsimp only [thenK, blockK, Nat.beq]; (first | (refine hN _ _ ?_; clear hN N) | skip)) | (with_reducible intro _) | ((with_reducible refine And.intro ?_ ?_); (focus (first | exact sideQ | exact sd0))) | ((first | ((with_reducible refine askT_of ?_ (fun hb => ?_)); (focus (first | exact sideQ | exact sd0)); (try simp only [hb])) | ((with_reducible refine Vc.fin ?_); dsimp only [thenK, blockK, retK, resS, resOne, resAll]) | ((with_reducible refine Vc.hold ?_); first | refine Vc.regiont T0_ok GZ0_ok ?_ | refine Vc.drawt (id := 4) T0_ok GZ0_ok (by kernel_rfl) [0, 1, 2, 3, 4, 5, 6, 7, 8, 9, 10, 11, 12, 13, 14] 15 [] trivial (by kernel_rfl) ?_)); (try simp only [v8X, v8A, v8B, v8C, Nat.beq, Nat.ble, Int.reduceToNat, Int.reduceLE, Int.reduceLT, Nat.reduceLT, Nat.reduceLeDiff, Nat.reduceAdd, Nat.reduceMul, Nat.reduceSub, Int.reduceAdd, Int.reduceSub, Int.reduceMul, eq_self, decide_true, beq_self_eq_true, List.length_cons, List.length_nil, Nat.min_eq_left, IntKind.bits, tabs, s0, t1, tnc, Nat.sub_zero, List.drop_zero, conEs.eq_def, conSub.eq_def]); (try simp (disch := omega) only [v8W])) | ((with_reducible refine hN _ _ ?_); clear hN N; (try simp (disch := omega) only [v8W])))); (try ((with_reducible refine Fin.of ?_); (try with_reducible exact True.intro))))
  exact ⟨by simp, trivial, rfl⟩
theorem takeN_vc (a : Option Addr) (n c : Nat) (xs : List Int) (at_ dp : Int) (b k : Nat) (hr : rdOk n c xs at_) (hk : ¬ k ≤ n) (w : World) (hm : MemOk w [b] [.blk b 64 (rdC a n c xs at_ dp)] w) :
    Calls Try.prog 40 (cvs [.ptr 0 b 0 0 0 0, .int .u64 (k : Int)]).toArray w (fun en w' => ∃ u, en = .returned u ∧ ∃ v' m', u = cv v' ∧ MemOk w [b] m' w' ∧ v' = .tup [.nilsl, .bool false] ∧ bget m' 0 = .blk b 64 (rdC a n c xs at_ dp)) := by
  obtain ⟨hl, hn, hx, h0, h1⟩ := hr
  have e1 := w64 (x := (n : Int)) (by omega)
  have d1 : decide ((n : Int) < (k : Int)) = true := decide_eq_true (by omega)
  unfold rdC at hm
  refine Vc.calls T0_ok Try.func40 rfl rfl (args := [.ptr 0 b 0 0 0 0, .int .u64 (k : Int)]) (k := 39) rfl hm ?_; change Vc _ _ (c8 (.ptr 0 b 0 0 0 0) (.int .u64 (k : Int)) .undef .undef .undef .undef .undef .undef (c8 .undef .undef .undef .undef .undef .undef .undef .undef (c8 .undef .undef .undef .undef .undef .undef .undef .undef (c8 .undef .undef .undef .undef .undef .undef .undef .undef (c8 .undef .undef .undef .undef .undef .undef .undef .undef ([.undef])))))) _ _
  ((repeat (first | (with_reducible refine Vc.seq fun N hN => ?_) | (with_reducible refine Vc.block ?_) | ((first | with_reducible refine Vc.skip ?_ | with_reducible refine Vc.exit ?_); dsimp only [thenK, blockK, Nat.beq]; (first | (refine hN _ _ ?_; clear hN N) | skip)) | (with_reducible intro _) | ((with_reducible refine And.intro ?_ ?_); (focus (first | exact sideQ | exact sd0))) | ((first | ((with_reducible refine askT_of ?_ (fun hb => ?_)); (focus (first | exact sideQ | exact sd0)); (try simp only [hb])) | ((with_reducible refine Vc.fin ?_); dsimp only [thenK, blockK, retK, resS, resOne, resAll]) | ((with_reducible refine Vc.hold ?_); first | refine Vc.regiont T0_ok GZ0_ok ?_ | refine Vc.drawt (id := 4) T0_ok GZ0_ok (by kernel_rfl) [0, 1, 2, 3, 4, 5, 6, 7, 8, 9, 10, 11, 12, 13, 14] 15 [] trivial (by kernel_rfl) ?_)); (try simp only [v8X, v8A, v8B, v8C, Nat.beq, Nat.ble, Int.reduceToNat, Int.reduceLE, Int.reduceLT, Nat.reduceLT, Nat.reduceLeDiff, Nat.reduceAdd, Nat.reduceMul, Nat.reduceSub, Int.reduceAdd, Int.reduceSub, Int.reduceMul, eq_self, decide_true, beq_self_eq_true, List.length_cons, List.length_nil, Nat.min_eq_left, IntKind.bits, tabs, e1, d1]); (try simp (disch := omega) only [v8W])) | ((with_reducible refine hN _ _ ?_); clear hN N; (try simp (disch := omega) only [v8W])))); (try ((with_reducible refine Fin.of ?_); (try with_reducible exact True.intro))))
  (refine Vc.cond T0_ok (t := true) (by rfl) (fun _ => ?_) (fun h => Bool.noConfusion h))
  ((repeat (first | (with_reducible refine Vc.seq fun N hN => ?_) | (with_reducible refine Vc.block ?_) | ((first | with_reducible refine Vc.skip ?_ | with_reducible refine Vc.exit ?_); dsimp only [thenK, blockK, Nat.beq]; (first | (refine hN _ _ ?_; clear hN N) | skip)) | (with_reducible intro _) | ((with_reducible refine And.intro ?_ ?_); (focus (first | exact sideQ | exact sd0))) | ((first | ((with_reducible refine askT_of ?_ (fun hb => ?_)); (focus (first | exact sideQ | exact sd0)); (try simp only [hb])) | ((with_reducible refine Vc.fin ?_); dsimp only [thenK, blockK, retK, resS, resOne, resAll]) | ((with_reducible refine Vc.hold ?_); first | refine Vc.regiont T0_ok GZ0_ok ?_ | refine Vc.drawt (id := 4) T0_ok GZ0_ok (by kernel_rfl) [0, 1, 2, 3, 4, 5, 6, 7, 8, 9, 10, 11, 12, 13, 14] 15 [] trivial (by kernel_rfl) ?_)); (try simp only [v8X, v8A, v8B, v8C, Nat.beq, Nat.ble, Int.reduceToNat, Int.reduceLE, Int.reduceLT, Nat.reduceLT, Nat.reduceLeDiff, Nat.reduceAdd, Nat.reduceMul, Nat.reduceSub, Int.reduceAdd, Int.reduceSub, Int.reduceMul, eq_self, decide_true, beq_self_eq_true, List.length_cons, List.length_nil, Nat.min_eq_left, IntKind.bits, tabs]); (try simp (disch := omega) only [v8W])) | ((with_reducible refine hN _ _ ?_); clear hN N; (try simp (disch := omega) only [v8W])))); (try ((with_reducible refine Fin.of ?_); (try with_reducible exact True.intro))))
  exact ⟨by simp, trivial, rfl⟩
/-- What is taken, and what is left. -/
def tkV (a : Option Addr) (n c : Nat) (xs : List Int) (k : Nat) : SV := if k ≤ n then .tup [.gh a k c (.ints .u8 (xs.take k)), .bool true] else .tup [.nilsl, .bool false]
def tkC (a : Option Addr) (n c : Nat) (xs : List Int) (at_ dp : Int) (k : Nat) : Con := if k ≤ n then .cells [.gh (shA a c k 1) (n - k) (c - k) (.ints .u8 (xs.drop k)), .int .i64 (at_ + k), .int .i64 dp] else .cells [.gh a n c (.ints .u8 xs), .int .i64 at_, .int .i64 dp]
def g_take (args : List SV) (m : List Blk) : CR :=
  match args with
  | [.ptr nm b base i sz j, .int .u64 k] => match bget m nm with
    | .blk b' t (.cells [.gh a n c (.ints .u8 xs), .int .i64 at_, .int .i64 dp]) => .turn (b = b' ∧ t = 64 ∧ base = 0 ∧ i = 0 ∧ sz = 0 ∧ j = 0 ∧ rdOk n c xs at_ ∧ 0 ≤ k) nm (tkC a n c xs at_ dp k.toNat) (tkV a n c xs k.toNat)
    | _ => .none
  | _ => .none
theorem g_take_ok (w0 : World) (B : List Nat) (args : List SV) (m : List Blk) : CROk Try.prog w0 B 40 args m (g_take args m) := by
  unfold g_take
  split
  · split
    · rename_i nm b base i sz j k _ b' t a n c xs at_ dp hb
      intro ⟨h1, h2, h3, h4, h5, h6, h7, h8⟩ w hm
      subst h1; subst h2; subst h3; subst h4; subst h5; subst h6
      obtain ⟨k, rfl⟩ := Int.eq_ofNat_of_zero_le h8
      by_cases hk : k ≤ n
      · simp only [tkC, tkV, Int.toNat_natCast, if_pos hk]
        exact calls_turn Try.func40 rfl rfl hm hb (k := 0) (args' := [.ptr 0 b 0 0 0 0, .int .u64 (k : Int)]) rfl (takeY_vc a n c xs at_ dp b k h7 hk w (turn_start hm hb))
      · simp only [tkC, tkV, Int.toNat_natCast, if_neg hk]
        exact calls_turn Try.func40 rfl rfl hm hb (k := 0) (args' := [.ptr 0 b 0 0 0 0, .int .u64 (k : Int)]) rfl (takeN_vc a n c xs at_ dp b k h7 hk w (turn_start hm hb))
    · exact trivial
  · exact trivial
noncomputable def GPA : Ctr := fun f args m => match f with
  | 40 => g_take args m
  | 24 => g_apNum args m
  | 31 => g_apHead args m
  | 36 => g_bare args m
  | 22 => g_Rev args m
  | _ => .none
theorem GPA_ok : GOk Try.prog GPA := by
  intro w0 B f args m; unfold GPA; split
  · exact g_take_ok _ _ _ _
  · exact g_apNum_ok _ _ _ _
  · exact g_apHead_ok _ _ _ _
  · exact g_bare_ok _ _ _ _
  · exact g_Rev_ok _ _ _ _
  · exact trivial
theorem GPA_take : GPA 40 = g_take := by funext args m; rfl
theorem GPA_apNum : GPA 24 = g_apNum := by funext args m; rfl
theorem GPA_apHead : GPA 31 = g_apHead := by funext args m; rfl
theorem GPA_bare : GPA 36 = g_bare := by funext args m; rfl
theorem GPA_Rev : GPA 22 = g_Rev := by funext args m; rfl
def GPA_set := And.intro (And.intro (And.intro (@GPA_take) (@g_take.eq_def)) (And.intro (@GPA_apNum) (And.intro (@g_apNum.eq_def) (@GPA_apHead)))) (And.intro (And.intro (@g_apHead.eq_def) (@GPA_bare)) (And.intro (@g_bare.eq_def) (And.intro (@GPA_Rev) (@g_Rev.eq_def))))

end Go.Proofs.Ytlogpdjcgbifhaa
