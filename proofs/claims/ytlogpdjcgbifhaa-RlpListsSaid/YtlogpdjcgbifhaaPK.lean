/-
  RLP: the document's length of a body (quaestorref04.length), walked. No condition.
-/
import Derived.Test.YtlogpdjcgbifhaaPJ
namespace Go.Proofs.Ytlogpdjcgbifhaa
set_option linter.unusedSimpArgs false
set_option linter.unusedVariables false
set_option maxHeartbeats 4000000
set_option linter.defProp false
open Go.RowKit
/-- What the document's length tells. -/
def rlV (n : Nat) (f : Int) (ys : List Int) : SV :=
  match lnO ys f with
  | none => .tup [.int .i64 0, .int .i64 0, .bool false]
  | some (nb, zs) => if f % 64 ≤ 55 then .tup [.int .i64 (nb : Nat), .int .i64 1, .bool true] else if nb ≤ n then .tup [.int .i64 (nb : Nat), .int .i64 (1 + (ys.length - zs.length : Nat)), .bool true] else .tup [.int .i64 0, .int .i64 0, .bool false]
set_option maxRecDepth 20000 in
theorem rlS_vc (a : Option Addr) (n c : Nat) (f sh : Int) (ys : List Int) (hl : ys.length + 1 = n) (hn : n ≤ c) (hmx : n ≤ 1000000) (ha : adr a n c) (hf : 128 ≤ f ∧ f ≤ 255) (hsh : f - sh = f % 64 ∧ 0 ≤ sh ∧ sh ≤ 255) (w : World) (hL : LiesH (H0 w) a (cc (.ints .u8 (f :: ys)))) (hk : f % 64 ≤ 55) :
    Calls Try.prog 35 (cvs [.gh a n c (.ints .u8 (f :: ys)), .int .u8 sh]).toArray w (fun en w' => ∃ u, en = .returned u ∧ ∃ v' m', u = cv v' ∧ MemOk w [] m' w' ∧ v' = .tup [.int .i64 (f % 64), .int .i64 1, .bool true]) := by
  have hLx : ∀ m, allOld w ∈ m → LiesH (HM m) a (cc (.ints .u8 (f :: ys))) := fun m hin => hL.mono (H0.hm hin)
  have e1 : IntKind.u8.wrap (f - sh) = f % 64 := by rw [hsh.1, IntKind.wrap_u8]; omega
  have d1 : decide (f % 64 ≤ 55) = true := decide_eq_true hk
  have g0 : (f :: ys).getD 0 0 = f := rfl
  have w0 : IntKind.i64.wrap (f % 64) = f % 64 := wrap_inK (by simp only [inK]; omega)
  refine Vc.calls T0_ok Try.func35 rfl rfl (args := [.gh a n c (.ints .u8 (f :: ys)), .int .u8 sh]) (k := 58) rfl (old_start w) ?_; change Vc _ _ (c8 (.gh a n c (.ints .u8 (f :: ys))) (.int .u8 sh) .undef .undef .undef .undef .undef .undef (c8 .undef .undef .undef .undef .undef .undef .undef .undef (c8 .undef .undef .undef .undef .undef .undef .undef .undef (c8 .undef .undef .undef .undef .undef .undef .undef .undef (c8 .undef .undef .undef .undef .undef .undef .undef .undef (c8 .undef .undef .undef .undef .undef .undef .undef .undef (c8 .undef .undef .undef .undef .undef .undef .undef .undef ([.undef, .undef, .undef, .undef])))))))) _ _
  ((repeat (first | (with_reducible refine Vc.seq fun N hN => ?_) | (with_reducible refine Vc.block ?_) | ((first | with_reducible refine Vc.skip ?_ | with_reducible refine Vc.exit ?_); dsimp only [thenK, blockK, Nat.beq]; (first | (refine hN _ _ ?_; clear hN N) | skip)) | (with_reducible intro _) | ((with_reducible refine And.intro ?_ ?_); (focus (first | ((repeat' with_reducible apply And.intro) <;> first | exact sideQ | (exact hLx _ List.mem_cons_self) | (simp only [List.length_cons]; omega)) | exact sd0))) | ((first | ((with_reducible refine askT_of ?_ (fun hb => ?_)); (focus (first | ((repeat' with_reducible apply And.intro) <;> first | exact sideQ | (exact hLx _ List.mem_cons_self) | (simp only [List.length_cons]; omega)) | exact sd0)); (try simp only [hb])) | ((with_reducible refine Vc.fin ?_); dsimp only [thenK, blockK, retK, resS, resOne, resAll]) | ((with_reducible refine Vc.hold ?_); first | refine Vc.regiont T0_ok GZ0_ok ?_)); (try simp only [v8X, v8A, v8B, v8C, Nat.beq, Nat.ble, Int.reduceToNat, Int.reduceLE, Int.reduceLT, Nat.reduceLT, Nat.reduceLeDiff, Nat.reduceAdd, Nat.reduceMul, Nat.reduceSub, Int.reduceAdd, Int.reduceSub, Int.reduceMul, eq_self, decide_true, beq_self_eq_true, List.length_cons, List.length_nil, Nat.min_eq_left, IntKind.bits, tabs, e1, d1, g0, w0, conEs.eq_def, conN.eq_def]); (try simp (disch := omega) only [v8W])) | ((with_reducible refine hN _ _ ?_); clear hN N; (try simp (disch := omega) only [v8W])))); (try ((with_reducible refine Fin.of ?_); (try with_reducible exact True.intro))))
  (refine Vc.cond T0_ok (t := true) (by rfl) (fun _ => ?_) (fun h => Bool.noConfusion h))
  ((repeat (first | (with_reducible refine Vc.seq fun N hN => ?_) | (with_reducible refine Vc.block ?_) | ((first | with_reducible refine Vc.skip ?_ | with_reducible refine Vc.exit ?_); dsimp only [thenK, blockK, Nat.beq]; (first | (refine hN _ _ ?_; clear hN N) | skip)) | (with_reducible intro _) | ((with_reducible refine And.intro ?_ ?_); (focus (first | exact sideQ | exact sd0))) | ((first | ((with_reducible refine askT_of ?_ (fun hb => ?_)); (focus (first | exact sideQ | exact sd0)); (try simp only [hb])) | ((with_reducible refine Vc.fin ?_); dsimp only [thenK, blockK, retK, resS, resOne, resAll]) | ((with_reducible refine Vc.hold ?_); first | refine Vc.regiont T0_ok GZ0_ok ?_)); (try simp only [v8X, v8A, v8B, v8C, Nat.beq, Nat.ble, Int.reduceToNat, Int.reduceLE, Int.reduceLT, Nat.reduceLT, Nat.reduceLeDiff, Nat.reduceAdd, Nat.reduceMul, Nat.reduceSub, Int.reduceAdd, Int.reduceSub, Int.reduceMul, eq_self, decide_true, beq_self_eq_true, List.length_cons, List.length_nil, Nat.min_eq_left, IntKind.bits, tabs]); (try simp (disch := omega) only [v8W])) | ((with_reducible refine hN _ _ ?_); clear hN N; (try simp (disch := omega) only [v8W])))); (try ((with_reducible refine Fin.of ?_); (try with_reducible exact True.intro))))
  exact ⟨by simp, True.intro⟩
set_option maxRecDepth 20000 in
theorem rlB_vc (a : Option Addr) (n c : Nat) (f sh : Int) (ys : List Int) (hl : ys.length + 1 = n) (hn : n ≤ c) (hmx : n ≤ 1000000) (ha : adr a n c) (hf : 128 ≤ f ∧ f ≤ 255) (hsh : f - sh = f % 64 ∧ 0 ≤ sh ∧ sh ≤ 255) (w : World) (hL : LiesH (H0 w) a (cc (.ints .u8 (f :: ys)))) (hk : ¬ f % 64 ≤ 55) (k : Nat) (hK : f % 64 - 55 = (k : Nat)) (hkn : n < 1 + k) :
    Calls Try.prog 35 (cvs [.gh a n c (.ints .u8 (f :: ys)), .int .u8 sh]).toArray w (fun en w' => ∃ u, en = .returned u ∧ ∃ v' m', u = cv v' ∧ MemOk w [] m' w' ∧ v' = .tup [.int .i64 0, .int .i64 0, .bool false]) := by
  have hLx : ∀ m, allOld w ∈ m → LiesH (HM m) a (cc (.ints .u8 (f :: ys))) := fun m hin => hL.mono (H0.hm hin)
  have e1 : IntKind.u8.wrap (f - sh) = f % 64 := by rw [hsh.1, IntKind.wrap_u8]; omega
  have d1 : decide (f % 64 ≤ 55) = false := decide_eq_false hk
  have g0 : (f :: ys).getD 0 0 = f := rfl
  have g1 : (f :: ys).getD 1 0 = ys.getD 0 0 := rfl
  have w0 : IntKind.i64.wrap (f % 64) = f % 64 := wrap_inK (by simp only [inK]; omega)
  have w1 : inK .i64 (f % 64 - 55) := by simp only [inK]; omega
  have w2 : inK .i64 (1 + (k : Int)) := by simp only [inK]; omega
  have hk8 : 1 ≤ k ∧ k ≤ 8 := by omega
  have d2 : decide ((n : Int) < 1 + (k : Int)) = true := decide_eq_true (by omega)
  refine Vc.calls T0_ok Try.func35 rfl rfl (args := [.gh a n c (.ints .u8 (f :: ys)), .int .u8 sh]) (k := 58) rfl (old_start w) ?_; change Vc _ _ (c8 (.gh a n c (.ints .u8 (f :: ys))) (.int .u8 sh) .undef .undef .undef .undef .undef .undef (c8 .undef .undef .undef .undef .undef .undef .undef .undef (c8 .undef .undef .undef .undef .undef .undef .undef .undef (c8 .undef .undef .undef .undef .undef .undef .undef .undef (c8 .undef .undef .undef .undef .undef .undef .undef .undef (c8 .undef .undef .undef .undef .undef .undef .undef .undef (c8 .undef .undef .undef .undef .undef .undef .undef .undef ([.undef, .undef, .undef, .undef])))))))) _ _
  ((repeat (first | (with_reducible refine Vc.seq fun N hN => ?_) | (with_reducible refine Vc.block ?_) | ((first | with_reducible refine Vc.skip ?_ | with_reducible refine Vc.exit ?_); dsimp only [thenK, blockK, Nat.beq]; (first | (refine hN _ _ ?_; clear hN N) | skip)) | (with_reducible intro _) | ((with_reducible refine And.intro ?_ ?_); (focus (first | ((repeat' with_reducible apply And.intro) <;> first | exact sideQ | (exact hLx _ List.mem_cons_self) | (simp only [List.length_cons]; omega)) | exact sd0))) | ((first | ((with_reducible refine askT_of ?_ (fun hb => ?_)); (focus (first | ((repeat' with_reducible apply And.intro) <;> first | exact sideQ | (exact hLx _ List.mem_cons_self) | (simp only [List.length_cons]; omega)) | exact sd0)); (try simp only [hb])) | ((with_reducible refine Vc.fin ?_); dsimp only [thenK, blockK, retK, resS, resOne, resAll]) | ((with_reducible refine Vc.hold ?_); first | refine Vc.regiont T0_ok GZ0_ok ?_)); (try simp only [v8X, v8A, v8B, v8C, Nat.beq, Nat.ble, Int.reduceToNat, Int.reduceLE, Int.reduceLT, Nat.reduceLT, Nat.reduceLeDiff, Nat.reduceAdd, Nat.reduceMul, Nat.reduceSub, Int.reduceAdd, Int.reduceSub, Int.reduceMul, eq_self, decide_true, beq_self_eq_true, List.length_cons, List.length_nil, Nat.min_eq_left, IntKind.bits, tabs, e1, d1, g0, w0, conEs.eq_def, conN.eq_def]); (try simp (disch := omega) only [v8W])) | ((with_reducible refine hN _ _ ?_); clear hN N; (try simp (disch := omega) only [v8W])))); (try ((with_reducible refine Fin.of ?_); (try with_reducible exact True.intro))))
  (refine Vc.cond T0_ok (t := false) (by rfl) (fun h => Bool.noConfusion h) (fun _ => ?_))
  ((repeat (first | (with_reducible refine Vc.seq fun N hN => ?_) | (with_reducible refine Vc.block ?_) | ((first | with_reducible refine Vc.skip ?_ | with_reducible refine Vc.exit ?_); dsimp only [thenK, blockK, Nat.beq]; (first | (refine hN _ _ ?_; clear hN N) | skip)) | (with_reducible intro _) | ((with_reducible refine And.intro ?_ ?_); (focus (first | ((repeat' with_reducible apply And.intro) <;> first | exact sideQ | (exact hLx _ List.mem_cons_self) | (simp only [List.length_cons]; omega)) | exact sd0))) | ((first | ((with_reducible refine askT_of ?_ (fun hb => ?_)); (focus (first | ((repeat' with_reducible apply And.intro) <;> first | exact sideQ | (exact hLx _ List.mem_cons_self) | (simp only [List.length_cons]; omega)) | exact sd0)); (try simp only [hb])) | ((with_reducible refine Vc.fin ?_); dsimp only [thenK, blockK, retK, resS, resOne, resAll]) | ((with_reducible refine Vc.hold ?_); first | refine Vc.regiont T0_ok GZ0_ok ?_)); (try simp only [v8X, v8A, v8B, v8C, Nat.beq, Nat.ble, Int.reduceToNat, Int.reduceLE, Int.reduceLT, Nat.reduceLT, Nat.reduceLeDiff, Nat.reduceAdd, Nat.reduceMul, Nat.reduceSub, Int.reduceAdd, Int.reduceSub, Int.reduceMul, eq_self, decide_true, beq_self_eq_true, List.length_cons, List.length_nil, Nat.min_eq_left, IntKind.bits, tabs, hK, d2]); (try simp (disch := omega) only [v8W])) | ((with_reducible refine hN _ _ ?_); clear hN N; (try simp (disch := omega) only [v8W])))); (try ((with_reducible refine Fin.of ?_); (try with_reducible exact True.intro))))
  (refine Vc.cond T0_ok (t := true) (by rfl) (fun _ => ?_) (fun h => Bool.noConfusion h))
  ((repeat (first | (with_reducible refine Vc.seq fun N hN => ?_) | (with_reducible refine Vc.block ?_) | ((first | with_reducible refine Vc.skip ?_ | with_reducible refine Vc.exit ?_); dsimp only [thenK, blockK, Nat.beq]; (first | (refine hN _ _ ?_; clear hN N) | skip)) | (with_reducible intro _) | ((with_reducible refine And.intro ?_ ?_); (focus (first | exact sideQ | exact sd0))) | ((first | ((with_reducible refine askT_of ?_ (fun hb => ?_)); (focus (first | exact sideQ | exact sd0)); (try simp only [hb])) | ((with_reducible refine Vc.fin ?_); dsimp only [thenK, blockK, retK, resS, resOne, resAll]) | ((with_reducible refine Vc.hold ?_); first | refine Vc.regiont T0_ok GZ0_ok ?_)); (try simp only [v8X, v8A, v8B, v8C, Nat.beq, Nat.ble, Int.reduceToNat, Int.reduceLE, Int.reduceLT, Nat.reduceLT, Nat.reduceLeDiff, Nat.reduceAdd, Nat.reduceMul, Nat.reduceSub, Int.reduceAdd, Int.reduceSub, Int.reduceMul, eq_self, decide_true, beq_self_eq_true, List.length_cons, List.length_nil, Nat.min_eq_left, IntKind.bits, tabs]); (try simp (disch := omega) only [v8W])) | ((with_reducible refine hN _ _ ?_); clear hN N; (try simp (disch := omega) only [v8W])))); (try ((with_reducible refine Fin.of ?_); (try with_reducible exact True.intro))))
  exact ⟨by simp, True.intro⟩
set_option maxRecDepth 20000 in
theorem rlC_vc (a : Option Addr) (n c : Nat) (f sh : Int) (ys : List Int) (hl : ys.length + 1 = n) (hn : n ≤ c) (hmx : n ≤ 1000000) (ha : adr a n c) (hf : 128 ≤ f ∧ f ≤ 255) (hsh : f - sh = f % 64 ∧ 0 ≤ sh ∧ sh ≤ 255) (w : World) (hL : LiesH (H0 w) a (cc (.ints .u8 (f :: ys)))) (hk : ¬ f % 64 ≤ 55) (k : Nat) (hK : f % 64 - 55 = (k : Nat)) (hkn : ¬ n < 1 + k) (hz : ys.getD 0 0 = 0) :
    Calls Try.prog 35 (cvs [.gh a n c (.ints .u8 (f :: ys)), .int .u8 sh]).toArray w (fun en w' => ∃ u, en = .returned u ∧ ∃ v' m', u = cv v' ∧ MemOk w [] m' w' ∧ v' = .tup [.int .i64 0, .int .i64 0, .bool false]) := by
  have hLx : ∀ m, allOld w ∈ m → LiesH (HM m) a (cc (.ints .u8 (f :: ys))) := fun m hin => hL.mono (H0.hm hin)
  have e1 : IntKind.u8.wrap (f - sh) = f % 64 := by rw [hsh.1, IntKind.wrap_u8]; omega
  have d1 : decide (f % 64 ≤ 55) = false := decide_eq_false hk
  have g0 : (f :: ys).getD 0 0 = f := rfl
  have g1 : (f :: ys).getD 1 0 = ys.getD 0 0 := rfl
  have w0 : IntKind.i64.wrap (f % 64) = f % 64 := wrap_inK (by simp only [inK]; omega)
  have w1 : inK .i64 (f % 64 - 55) := by simp only [inK]; omega
  have w2 : inK .i64 (1 + (k : Int)) := by simp only [inK]; omega
  have hk8 : 1 ≤ k ∧ k ≤ 8 := by omega
  have d2 : decide ((n : Int) < 1 + (k : Int)) = false := decide_eq_false (by omega)
  have d3 : decide (ys.getD 0 0 = 0) = true := decide_eq_true hz
  refine Vc.calls T0_ok Try.func35 rfl rfl (args := [.gh a n c (.ints .u8 (f :: ys)), .int .u8 sh]) (k := 58) rfl (old_start w) ?_; change Vc _ _ (c8 (.gh a n c (.ints .u8 (f :: ys))) (.int .u8 sh) .undef .undef .undef .undef .undef .undef (c8 .undef .undef .undef .undef .undef .undef .undef .undef (c8 .undef .undef .undef .undef .undef .undef .undef .undef (c8 .undef .undef .undef .undef .undef .undef .undef .undef (c8 .undef .undef .undef .undef .undef .undef .undef .undef (c8 .undef .undef .undef .undef .undef .undef .undef .undef (c8 .undef .undef .undef .undef .undef .undef .undef .undef ([.undef, .undef, .undef, .undef])))))))) _ _
  ((repeat (first | (with_reducible refine Vc.seq fun N hN => ?_) | (with_reducible refine Vc.block ?_) | ((first | with_reducible refine Vc.skip ?_ | with_reducible refine Vc.exit ?_); dsimp only [thenK, blockK, Nat.beq]; (first | (refine hN _ _ ?_; clear hN N) | skip)) | (with_reducible intro _) | ((with_reducible refine And.intro ?_ ?_); (focus (first | ((repeat' with_reducible apply And.intro) <;> first | exact sideQ | (exact hLx _ List.mem_cons_self) | (simp only [List.length_cons]; omega)) | exact sd0))) | ((first | ((with_reducible refine askT_of ?_ (fun hb => ?_)); (focus (first | ((repeat' with_reducible apply And.intro) <;> first | exact sideQ | (exact hLx _ List.mem_cons_self) | (simp only [List.length_cons]; omega)) | exact sd0)); (try simp only [hb])) | ((with_reducible refine Vc.fin ?_); dsimp only [thenK, blockK, retK, resS, resOne, resAll]) | ((with_reducible refine Vc.hold ?_); first | refine Vc.regiont T0_ok GZ0_ok ?_)); (try simp only [v8X, v8A, v8B, v8C, Nat.beq, Nat.ble, Int.reduceToNat, Int.reduceLE, Int.reduceLT, Nat.reduceLT, Nat.reduceLeDiff, Nat.reduceAdd, Nat.reduceMul, Nat.reduceSub, Int.reduceAdd, Int.reduceSub, Int.reduceMul, eq_self, decide_true, beq_self_eq_true, List.length_cons, List.length_nil, Nat.min_eq_left, IntKind.bits, tabs, e1, d1, g0, w0, conEs.eq_def, conN.eq_def]); (try simp (disch := omega) only [v8W])) | ((with_reducible refine hN _ _ ?_); clear hN N; (try simp (disch := omega) only [v8W])))); (try ((with_reducible refine Fin.of ?_); (try with_reducible exact True.intro))))
  (refine Vc.cond T0_ok (t := false) (by rfl) (fun h => Bool.noConfusion h) (fun _ => ?_))
  ((repeat (first | (with_reducible refine Vc.seq fun N hN => ?_) | (with_reducible refine Vc.block ?_) | ((first | with_reducible refine Vc.skip ?_ | with_reducible refine Vc.exit ?_); dsimp only [thenK, blockK, Nat.beq]; (first | (refine hN _ _ ?_; clear hN N) | skip)) | (with_reducible intro _) | ((with_reducible refine And.intro ?_ ?_); (focus (first | ((repeat' with_reducible apply And.intro) <;> first | exact sideQ | (exact hLx _ List.mem_cons_self) | (simp only [List.length_cons]; omega)) | exact sd0))) | ((first | ((with_reducible refine askT_of ?_ (fun hb => ?_)); (focus (first | ((repeat' with_reducible apply And.intro) <;> first | exact sideQ | (exact hLx _ List.mem_cons_self) | (simp only [List.length_cons]; omega)) | exact sd0)); (try simp only [hb])) | ((with_reducible refine Vc.fin ?_); dsimp only [thenK, blockK, retK, resS, resOne, resAll]) | ((with_reducible refine Vc.hold ?_); first | refine Vc.regiont T0_ok GZ0_ok ?_)); (try simp only [v8X, v8A, v8B, v8C, Nat.beq, Nat.ble, Int.reduceToNat, Int.reduceLE, Int.reduceLT, Nat.reduceLT, Nat.reduceLeDiff, Nat.reduceAdd, Nat.reduceMul, Nat.reduceSub, Int.reduceAdd, Int.reduceSub, Int.reduceMul, eq_self, decide_true, beq_self_eq_true, List.length_cons, List.length_nil, Nat.min_eq_left, IntKind.bits, tabs, hK, d2, g1, d3, conEs.eq_def, conN.eq_def]); (try simp (disch := omega) only [v8W])) | ((with_reducible refine hN _ _ ?_); clear hN N; (try simp (disch := omega) only [v8W])))); (try ((with_reducible refine Fin.of ?_); (try with_reducible exact True.intro))))
  (refine Vc.cond T0_ok (t := true) (by rfl) (fun _ => ?_) (fun h => Bool.noConfusion h))
  ((repeat (first | (with_reducible refine Vc.seq fun N hN => ?_) | (with_reducible refine Vc.block ?_) | ((first | with_reducible refine Vc.skip ?_ | with_reducible refine Vc.exit ?_); dsimp only [thenK, blockK, Nat.beq]; (first | (refine hN _ _ ?_; clear hN N) | skip)) | (with_reducible intro _) | ((with_reducible refine And.intro ?_ ?_); (focus (first | exact sideQ | exact sd0))) | ((first | ((with_reducible refine askT_of ?_ (fun hb => ?_)); (focus (first | exact sideQ | exact sd0)); (try simp only [hb])) | ((with_reducible refine Vc.fin ?_); dsimp only [thenK, blockK, retK, resS, resOne, resAll]) | ((with_reducible refine Vc.hold ?_); first | refine Vc.regiont T0_ok GZ0_ok ?_)); (try simp only [v8X, v8A, v8B, v8C, Nat.beq, Nat.ble, Int.reduceToNat, Int.reduceLE, Int.reduceLT, Nat.reduceLT, Nat.reduceLeDiff, Nat.reduceAdd, Nat.reduceMul, Nat.reduceSub, Int.reduceAdd, Int.reduceSub, Int.reduceMul, eq_self, decide_true, beq_self_eq_true, List.length_cons, List.length_nil, Nat.min_eq_left, IntKind.bits, tabs]); (try simp (disch := omega) only [v8W])) | ((with_reducible refine hN _ _ ?_); clear hN N; (try simp (disch := omega) only [v8W])))); (try ((with_reducible refine Fin.of ?_); (try with_reducible exact True.intro))))
  exact ⟨by simp, True.intro⟩
set_option maxRecDepth 20000 in
theorem rlD_vc (a : Option Addr) (n c : Nat) (f sh : Int) (ys : List Int) (hl : ys.length + 1 = n) (hn : n ≤ c) (hmx : n ≤ 1000000) (ha : adr a n c) (hf : 128 ≤ f ∧ f ≤ 255) (hsh : f - sh = f % 64 ∧ 0 ≤ sh ∧ sh ≤ 255) (w : World) (hL : LiesH (H0 w) a (cc (.ints .u8 (f :: ys)))) (hk : ¬ f % 64 ≤ 55) (k : Nat) (hK : f % 64 - 55 = (k : Nat)) (hx : allB ys) (hkn : ¬ n < 1 + k) (hz : ¬ ys.getD 0 0 = 0) :
    Calls Try.prog 35 (cvs [.gh a n c (.ints .u8 (f :: ys)), .int .u8 sh]).toArray w (fun en w' => ∃ u, en = .returned u ∧ ∃ v' m', u = cv v' ∧ MemOk w [] m' w' ∧ v' = if rdI (ys.take k) ≤ 55 ∨ n < rdI (ys.take k) then .tup [.int .i64 0, .int .i64 0, .bool false] else .tup [.int .i64 (rdI (ys.take k) : Nat), .int .i64 (1 + (k : Nat)), .bool true]) := by
  have hLx : ∀ m, allOld w ∈ m → LiesH (HM m) a (cc (.ints .u8 (f :: ys))) := fun m hin => hL.mono (H0.hm hin)
  have e1 : IntKind.u8.wrap (f - sh) = f % 64 := by rw [hsh.1, IntKind.wrap_u8]; omega
  have d1 : decide (f % 64 ≤ 55) = false := decide_eq_false hk
  have g0 : (f :: ys).getD 0 0 = f := rfl
  have g1 : (f :: ys).getD 1 0 = ys.getD 0 0 := rfl
  have w0 : IntKind.i64.wrap (f % 64) = f % 64 := wrap_inK (by simp only [inK]; omega)
  have w1 : inK .i64 (f % 64 - 55) := by simp only [inK]; omega
  have w2 : inK .i64 (1 + (k : Int)) := by simp only [inK]; omega
  have hk8 : 1 ≤ k ∧ k ≤ 8 := by omega
  have d2 : decide ((n : Int) < 1 + (k : Int)) = false := decide_eq_false (by omega)
  have d3 : decide (ys.getD 0 0 = 0) = false := decide_eq_false hz
  refine Vc.calls T0_ok Try.func35 rfl rfl (args := [.gh a n c (.ints .u8 (f :: ys)), .int .u8 sh]) (k := 58) rfl (old_start w) ?_; change Vc _ _ (c8 (.gh a n c (.ints .u8 (f :: ys))) (.int .u8 sh) .undef .undef .undef .undef .undef .undef (c8 .undef .undef .undef .undef .undef .undef .undef .undef (c8 .undef .undef .undef .undef .undef .undef .undef .undef (c8 .undef .undef .undef .undef .undef .undef .undef .undef (c8 .undef .undef .undef .undef .undef .undef .undef .undef (c8 .undef .undef .undef .undef .undef .undef .undef .undef (c8 .undef .undef .undef .undef .undef .undef .undef .undef ([.undef, .undef, .undef, .undef])))))))) _ _
  ((repeat (first | (with_reducible refine Vc.seq fun N hN => ?_) | (with_reducible refine Vc.block ?_) | ((first | with_reducible refine Vc.skip ?_ | with_reducible refine Vc.exit ?_); dsimp only [thenK, blockK, Nat.beq]; (first | (refine hN _ _ ?_; clear hN N) | skip)) | (with_reducible intro _) | ((with_reducible refine And.intro ?_ ?_); (focus (first | ((repeat' with_reducible apply And.intro) <;> first | exact sideQ | (exact hLx _ List.mem_cons_self) | (simp only [List.length_cons]; omega)) | exact sd0))) | ((first | ((with_reducible refine askT_of ?_ (fun hb => ?_)); (focus (first | ((repeat' with_reducible apply And.intro) <;> first | exact sideQ | (exact hLx _ List.mem_cons_self) | (simp only [List.length_cons]; omega)) | exact sd0)); (try simp only [hb])) | ((with_reducible refine Vc.fin ?_); dsimp only [thenK, blockK, retK, resS, resOne, resAll]) | ((with_reducible refine Vc.hold ?_); first | refine Vc.regiont T0_ok GZ0_ok ?_)); (try simp only [v8X, v8A, v8B, v8C, Nat.beq, Nat.ble, Int.reduceToNat, Int.reduceLE, Int.reduceLT, Nat.reduceLT, Nat.reduceLeDiff, Nat.reduceAdd, Nat.reduceMul, Nat.reduceSub, Int.reduceAdd, Int.reduceSub, Int.reduceMul, eq_self, decide_true, beq_self_eq_true, List.length_cons, List.length_nil, Nat.min_eq_left, IntKind.bits, tabs, e1, d1, g0, w0, conEs.eq_def, conN.eq_def]); (try simp (disch := omega) only [v8W])) | ((with_reducible refine hN _ _ ?_); clear hN N; (try simp (disch := omega) only [v8W])))); (try ((with_reducible refine Fin.of ?_); (try with_reducible exact True.intro))))
  (refine Vc.cond T0_ok (t := false) (by rfl) (fun h => Bool.noConfusion h) (fun _ => ?_))
  ((repeat (first | (with_reducible refine Vc.seq fun N hN => ?_) | (with_reducible refine Vc.block ?_) | ((first | with_reducible refine Vc.skip ?_ | with_reducible refine Vc.exit ?_); dsimp only [thenK, blockK, Nat.beq]; (first | (refine hN _ _ ?_; clear hN N) | skip)) | (with_reducible intro _) | ((with_reducible refine And.intro ?_ ?_); (focus (first | ((repeat' with_reducible apply And.intro) <;> first | exact sideQ | (exact hLx _ List.mem_cons_self) | (simp only [List.length_cons]; omega)) | exact sd0))) | ((first | ((with_reducible refine askT_of ?_ (fun hb => ?_)); (focus (first | ((repeat' with_reducible apply And.intro) <;> first | exact sideQ | (exact hLx _ List.mem_cons_self) | (simp only [List.length_cons]; omega)) | exact sd0)); (try simp only [hb])) | ((with_reducible refine Vc.fin ?_); dsimp only [thenK, blockK, retK, resS, resOne, resAll]) | ((with_reducible refine Vc.hold ?_); first | refine Vc.regiont T0_ok GZ0_ok ?_)); (try simp only [v8X, v8A, v8B, v8C, Nat.beq, Nat.ble, Int.reduceToNat, Int.reduceLE, Int.reduceLT, Nat.reduceLT, Nat.reduceLeDiff, Nat.reduceAdd, Nat.reduceMul, Nat.reduceSub, Int.reduceAdd, Int.reduceSub, Int.reduceMul, eq_self, decide_true, beq_self_eq_true, List.length_cons, List.length_nil, Nat.min_eq_left, IntKind.bits, tabs, hK, d2, g1, d3, conEs.eq_def, conN.eq_def]); (try simp (disch := omega) only [v8W])) | ((with_reducible refine hN _ _ ?_); clear hN N; (try simp (disch := omega) only [v8W])))); (try ((with_reducible refine Fin.of ?_); (try with_reducible exact True.intro))))
  (refine Vc.cond T0_ok (t := false) (by rfl) (fun h => Bool.noConfusion h) (fun _ => ?_))
  ((repeat (first | (with_reducible refine Vc.seq fun N hN => ?_) | (with_reducible refine Vc.block ?_) | ((first | with_reducible refine Vc.skip ?_ | with_reducible refine Vc.exit ?_); dsimp only [thenK, blockK, Nat.beq]; (first | (refine hN _ _ ?_; clear hN N) | skip)) | (with_reducible intro _) | ((with_reducible refine And.intro ?_ ?_); (focus (first | exact sideQ | exact sd0))) | ((first | ((with_reducible refine askT_of ?_ (fun hb => ?_)); (focus (first | exact sideQ | exact sd0)); (try simp only [hb])) | ((with_reducible refine Vc.fin ?_); dsimp only [thenK, blockK, retK, resS, resOne, resAll]) | ((with_reducible refine Vc.hold ?_); first | refine Vc.regiont T0_ok GZ0_ok ?_)); (try simp only [v8X, v8A, v8B, v8C, Nat.beq, Nat.ble, Int.reduceToNat, Int.reduceLE, Int.reduceLT, Nat.reduceLT, Nat.reduceLeDiff, Nat.reduceAdd, Nat.reduceMul, Nat.reduceSub, Int.reduceAdd, Int.reduceSub, Int.reduceMul, eq_self, decide_true, beq_self_eq_true, List.length_cons, List.length_nil, Nat.min_eq_left, IntKind.bits, tabs]); (try simp (disch := omega) only [v8W])) | ((with_reducible refine hN _ _ ?_); clear hN N; (try simp (disch := omega) only [v8W])))); (try ((with_reducible refine Fin.of ?_); (try with_reducible exact True.intro))))
  (revert N; intro N1 hN1)
  refine Vc.loop 9 60 (fun (j : Nat) => [(9, .int .u64 (rdI (ys.take j) : Nat)), (10, .int .i64 (j : Nat))]) (fun _ => [allOld w]) (fun j => j ≤ k) (fun j => k - j) 0 ⟨Nat.zero_le _, ?_, ?_⟩ (fun j junk hj => ?_)
  · ((try simp only [v8X, v8A, v8B, v8C, Nat.beq, Nat.ble, Int.reduceToNat, Int.reduceLE, Int.reduceLT, Nat.reduceLT, Nat.reduceLeDiff, Nat.reduceAdd, Nat.reduceMul, Nat.reduceSub, Int.reduceAdd, Int.reduceSub, Int.reduceMul, eq_self, decide_true, beq_self_eq_true, List.length_cons, List.length_nil, Nat.min_eq_left, IntKind.bits, tabs]); (repeat' with_reducible apply And.intro) <;> first | with_reducible exact True.intro | rfl | with_reducible rfl | (congr 1 <;> omega) | trivial)
  · ((try simp only [v8X, v8A, v8B, v8C, Nat.beq, Nat.ble, Int.reduceToNat, Int.reduceLE, Int.reduceLT, Nat.reduceLT, Nat.reduceLeDiff, Nat.reduceAdd, Nat.reduceMul, Nat.reduceSub, Int.reduceAdd, Int.reduceSub, Int.reduceMul, eq_self, decide_true, beq_self_eq_true, List.length_cons, List.length_nil, Nat.min_eq_left, IntKind.bits, tabs]); (repeat' with_reducible apply And.intro) <;> first | with_reducible exact True.intro | rfl | with_reducible rfl | (congr 1 <;> omega) | trivial)
  · (simp only [v8X, v8A, v8B, v8C, Nat.beq, Nat.ble, Int.reduceToNat, Int.reduceLE, Int.reduceLT, Nat.reduceLT, Nat.reduceLeDiff, Nat.reduceAdd, Nat.reduceMul, Nat.reduceSub, Int.reduceAdd, Int.reduceSub, Int.reduceMul, eq_self, decide_true, beq_self_eq_true, List.length_cons, List.length_nil, Nat.min_eq_left, IntKind.bits, tabs])
    by_cases hc : j < k
    · have e0 : decide ((j : Int) < (k : Int)) = true := decide_eq_true (by omega)
      have hy := hx _ (List.getElem_mem (show j < ys.length by omega))
      have hgd : ys.getD j 0 = ys[j]'(by omega) := by rw [List.getD_eq_getElem?_getD, List.getElem?_eq_getElem (by omega)]; rfl
      rw [← hgd] at hy
      have ht := take_s (xs := ys) (j := j) (by omega)
      have hlt := rdI_lt (l := ys.take j) (fun y hy => hx y (List.mem_of_mem_take hy))
      have hl2 : (ys.take j).length = j := by rw [List.length_take]; omega
      have hlt2 : rdI (ys.take j) < 2 ^ 56 := by
        have h1 : (256 : Nat) ^ j ≤ 256 ^ 7 := Nat.pow_le_pow_right (by decide) (by omega)
        rw [hl2] at hlt
        exact Nat.lt_of_lt_of_le hlt (by simpa using h1)
      have ho := or_byte hlt2 hy.1 hy.2
      have hw := w64 (x := ys.getD j 0) (by omega)
      rw [← rdI_put, ← ht] at ho
      have hij : inK .i64 (1 + (j : Int)) := by simp only [inK]; omega
      have hij2 : inK .i64 ((j : Int) + 1) := by simp only [inK]; omega
      have gj : (f :: ys).getD (1 + (j : Int)).toNat 0 = ys.getD j 0 := by rw [show (1 + (j : Int)).toNat = j + 1 by omega]; rfl
      ((repeat (first | (with_reducible refine Vc.seq fun N hN => ?_) | (with_reducible refine Vc.block ?_) | ((first | with_reducible refine Vc.skip ?_ | with_reducible refine Vc.exit ?_); dsimp only [thenK, blockK, Nat.beq]; (first | (refine hN _ _ ?_; clear hN N) | skip)) | (with_reducible intro _) | ((with_reducible refine And.intro ?_ ?_); (focus (first | exact sideQ | exact sd0))) | ((first | ((with_reducible refine askT_of ?_ (fun hb => ?_)); (focus (first | exact sideQ | exact sd0)); (try simp only [hb])) | ((with_reducible refine Vc.fin ?_); dsimp only [thenK, blockK, retK, resS, resOne, resAll]) | ((with_reducible refine Vc.hold ?_); first | refine Vc.regiont T0_ok GZ0_ok ?_)); (try simp only [v8X, v8A, v8B, v8C, Nat.beq, Nat.ble, Int.reduceToNat, Int.reduceLE, Int.reduceLT, Nat.reduceLT, Nat.reduceLeDiff, Nat.reduceAdd, Nat.reduceMul, Nat.reduceSub, Int.reduceAdd, Int.reduceSub, Int.reduceMul, eq_self, decide_true, beq_self_eq_true, List.length_cons, List.length_nil, Nat.min_eq_left, IntKind.bits, tabs, e0]); (try simp (disch := omega) only [v8W])) | ((with_reducible refine hN _ _ ?_); clear hN N; (try simp (disch := omega) only [v8W])))); (try ((with_reducible refine Fin.of ?_); (try with_reducible exact True.intro))))
      (refine Vc.cond T0_ok (t := true) (by rfl) (fun _ => ?_) (fun h => Bool.noConfusion h))
      ((repeat (first | (with_reducible refine Vc.seq fun N hN => ?_) | (with_reducible refine Vc.block ?_) | ((first | with_reducible refine Vc.skip ?_ | with_reducible refine Vc.exit ?_); dsimp only [thenK, blockK, Nat.beq]; (first | (refine hN _ _ ?_; clear hN N) | skip)) | (with_reducible intro _) | ((with_reducible refine And.intro ?_ ?_); (focus (first | ((repeat' with_reducible apply And.intro) <;> first | exact sideQ | (exact hLx _ List.mem_cons_self) | (simp only [List.length_cons]; omega)) | exact sd0))) | ((first | ((with_reducible refine askT_of ?_ (fun hb => ?_)); (focus (first | ((repeat' with_reducible apply And.intro) <;> first | exact sideQ | (exact hLx _ List.mem_cons_self) | (simp only [List.length_cons]; omega)) | exact sd0)); (try simp only [hb])) | ((with_reducible refine Vc.fin ?_); dsimp only [thenK, blockK, retK, resS, resOne, resAll]) | ((with_reducible refine Vc.hold ?_); first | refine Vc.regiont T0_ok GZ0_ok ?_)); (try simp only [v8X, v8A, v8B, v8C, Nat.beq, Nat.ble, Int.reduceToNat, Int.reduceLE, Int.reduceLT, Nat.reduceLT, Nat.reduceLeDiff, Nat.reduceAdd, Nat.reduceMul, Nat.reduceSub, Int.reduceAdd, Int.reduceSub, Int.reduceMul, eq_self, decide_true, beq_self_eq_true, List.length_cons, List.length_nil, Nat.min_eq_left, IntKind.bits, tabs, gj, hw, ho, tnc, conEs.eq_def, conN.eq_def]); (try simp (disch := omega) only [v8W])) | ((with_reducible refine hN _ _ ?_); clear hN N; (try simp (disch := omega) only [v8W])))); (try ((with_reducible refine Fin.of ?_); (try with_reducible exact True.intro))))
      refine ⟨j + 1, by omega, ?_, ?_, by omega⟩
      · ((try simp only [v8X, v8A, v8B, v8C, Nat.beq, Nat.ble, Int.reduceToNat, Int.reduceLE, Int.reduceLT, Nat.reduceLT, Nat.reduceLeDiff, Nat.reduceAdd, Nat.reduceMul, Nat.reduceSub, Int.reduceAdd, Int.reduceSub, Int.reduceMul, eq_self, decide_true, beq_self_eq_true, List.length_cons, List.length_nil, Nat.min_eq_left, IntKind.bits, tabs]); (repeat' with_reducible apply And.intro) <;> first | with_reducible exact True.intro | rfl | with_reducible rfl | (congr 1 <;> omega) | trivial)
      · ((try simp only [v8X, v8A, v8B, v8C, Nat.beq, Nat.ble, Int.reduceToNat, Int.reduceLE, Int.reduceLT, Nat.reduceLT, Nat.reduceLeDiff, Nat.reduceAdd, Nat.reduceMul, Nat.reduceSub, Int.reduceAdd, Int.reduceSub, Int.reduceMul, eq_self, decide_true, beq_self_eq_true, List.length_cons, List.length_nil, Nat.min_eq_left, IntKind.bits, tabs]); (repeat' with_reducible apply And.intro) <;> first | with_reducible exact True.intro | rfl | with_reducible rfl | (congr 1 <;> omega) | trivial)
    · obtain rfl : j = k := by omega
      have e0 : decide ((j : Int) < (j : Int)) = false := decide_eq_false (by omega)
      ((repeat (first | (with_reducible refine Vc.seq fun N hN => ?_) | (with_reducible refine Vc.block ?_) | ((first | with_reducible refine Vc.skip ?_ | with_reducible refine Vc.exit ?_); dsimp only [thenK, blockK, Nat.beq]; (first | (refine hN _ _ ?_; clear hN N) | skip)) | (with_reducible intro _) | ((with_reducible refine And.intro ?_ ?_); (focus (first | exact sideQ | exact sd0))) | ((first | ((with_reducible refine askT_of ?_ (fun hb => ?_)); (focus (first | exact sideQ | exact sd0)); (try simp only [hb])) | ((with_reducible refine Vc.fin ?_); dsimp only [thenK, blockK, retK, resS, resOne, resAll]) | ((with_reducible refine Vc.hold ?_); first | refine Vc.regiont T0_ok GZ0_ok ?_)); (try simp only [v8X, v8A, v8B, v8C, Nat.beq, Nat.ble, Int.reduceToNat, Int.reduceLE, Int.reduceLT, Nat.reduceLT, Nat.reduceLeDiff, Nat.reduceAdd, Nat.reduceMul, Nat.reduceSub, Int.reduceAdd, Int.reduceSub, Int.reduceMul, eq_self, decide_true, beq_self_eq_true, List.length_cons, List.length_nil, Nat.min_eq_left, IntKind.bits, tabs, e0]); (try simp (disch := omega) only [v8W])) | ((with_reducible refine hN _ _ ?_); clear hN N; (try simp (disch := omega) only [v8W])))); (try ((with_reducible refine Fin.of ?_); (try with_reducible exact True.intro))))
      (refine Vc.cond T0_ok (t := false) (by rfl) (fun h => Bool.noConfusion h) (fun _ => ?_))
      ((repeat (first | (with_reducible refine Vc.seq fun N hN => ?_) | (with_reducible refine Vc.block ?_) | ((first | with_reducible refine Vc.skip ?_ | with_reducible refine Vc.exit ?_); dsimp only [thenK, blockK, Nat.beq]; (first | (refine hN _ _ ?_; clear hN N) | skip)) | (with_reducible intro _) | ((with_reducible refine And.intro ?_ ?_); (focus (first | exact sideQ | exact sd0))) | ((first | ((with_reducible refine askT_of ?_ (fun hb => ?_)); (focus (first | exact sideQ | exact sd0)); (try simp only [hb])) | ((with_reducible refine Vc.fin ?_); dsimp only [thenK, blockK, retK, resS, resOne, resAll]) | ((with_reducible refine Vc.hold ?_); first | refine Vc.regiont T0_ok GZ0_ok ?_)); (try simp only [v8X, v8A, v8B, v8C, Nat.beq, Nat.ble, Int.reduceToNat, Int.reduceLE, Int.reduceLT, Nat.reduceLT, Nat.reduceLeDiff, Nat.reduceAdd, Nat.reduceMul, Nat.reduceSub, Int.reduceAdd, Int.reduceSub, Int.reduceMul, eq_self, decide_true, beq_self_eq_true, List.length_cons, List.length_nil, Nat.min_eq_left, IntKind.bits, tabs]); (try simp (disch := omega) only [v8W])) | ((with_reducible refine hN _ _ ?_); clear hN N; (try simp (disch := omega) only [v8W])))); (try ((with_reducible refine Fin.of ?_); (try with_reducible exact True.intro))))
      (refine hN1 _ _ ?_; (try clear hN N); clear hN1 N1)
      have wn := w64 (x := (n : Int)) (by omega)
      by_cases h1 : rdI (ys.take j) ≤ 55
      · have d4 : decide ((rdI (ys.take j) : Int) ≤ 55) = true := decide_eq_true (by omega)
        ((repeat (first | (with_reducible refine Vc.seq fun N hN => ?_) | (with_reducible refine Vc.block ?_) | ((first | with_reducible refine Vc.skip ?_ | with_reducible refine Vc.exit ?_); dsimp only [thenK, blockK, Nat.beq]; (first | (refine hN _ _ ?_; clear hN N) | skip)) | (with_reducible intro _) | ((with_reducible refine And.intro ?_ ?_); (focus (first | ((repeat' with_reducible apply And.intro) <;> first | exact sideQ | (exact hLx _ List.mem_cons_self) | (simp only [List.length_cons]; omega)) | exact sd0))) | ((first | ((with_reducible refine askT_of ?_ (fun hb => ?_)); (focus (first | ((repeat' with_reducible apply And.intro) <;> first | exact sideQ | (exact hLx _ List.mem_cons_self) | (simp only [List.length_cons]; omega)) | exact sd0)); (try simp only [hb])) | ((with_reducible refine Vc.fin ?_); dsimp only [thenK, blockK, retK, resS, resOne, resAll]) | ((with_reducible refine Vc.hold ?_); first | refine Vc.regiont T0_ok GZ0_ok ?_)); (try simp only [v8X, v8A, v8B, v8C, Nat.beq, Nat.ble, Int.reduceToNat, Int.reduceLE, Int.reduceLT, Nat.reduceLT, Nat.reduceLeDiff, Nat.reduceAdd, Nat.reduceMul, Nat.reduceSub, Int.reduceAdd, Int.reduceSub, Int.reduceMul, eq_self, decide_true, beq_self_eq_true, List.length_cons, List.length_nil, Nat.min_eq_left, IntKind.bits, tabs, d4]); (try simp (disch := omega) only [v8W])) | ((with_reducible refine hN _ _ ?_); clear hN N; (try simp (disch := omega) only [v8W])))); (try ((with_reducible refine Fin.of ?_); (try with_reducible exact True.intro))))
        (refine Vc.cond T0_ok (t := true) (by rfl) (fun _ => ?_) (fun h => Bool.noConfusion h))
        ((repeat (first | (with_reducible refine Vc.seq fun N hN => ?_) | (with_reducible refine Vc.block ?_) | ((first | with_reducible refine Vc.skip ?_ | with_reducible refine Vc.exit ?_); dsimp only [thenK, blockK, Nat.beq]; (first | (refine hN _ _ ?_; clear hN N) | skip)) | (with_reducible intro _) | ((with_reducible refine And.intro ?_ ?_); (focus (first | exact sideQ | exact sd0))) | ((first | ((with_reducible refine askT_of ?_ (fun hb => ?_)); (focus (first | exact sideQ | exact sd0)); (try simp only [hb])) | ((with_reducible refine Vc.fin ?_); dsimp only [thenK, blockK, retK, resS, resOne, resAll]) | ((with_reducible refine Vc.hold ?_); first | refine Vc.regiont T0_ok GZ0_ok ?_)); (try simp only [v8X, v8A, v8B, v8C, Nat.beq, Nat.ble, Int.reduceToNat, Int.reduceLE, Int.reduceLT, Nat.reduceLT, Nat.reduceLeDiff, Nat.reduceAdd, Nat.reduceMul, Nat.reduceSub, Int.reduceAdd, Int.reduceSub, Int.reduceMul, eq_self, decide_true, beq_self_eq_true, List.length_cons, List.length_nil, Nat.min_eq_left, IntKind.bits, tabs]); (try simp (disch := omega) only [v8W])) | ((with_reducible refine hN _ _ ?_); clear hN N; (try simp (disch := omega) only [v8W])))); (try ((with_reducible refine Fin.of ?_); (try with_reducible exact True.intro))))
        exact ⟨by simp, (if_pos (.inl h1)).symm⟩
      · have d4 : decide ((rdI (ys.take j) : Int) ≤ 55) = false := decide_eq_false (by omega)
        by_cases h2 : n < rdI (ys.take j)
        · have d5 : decide ((n : Int) < (rdI (ys.take j) : Int)) = true := decide_eq_true (by omega)
          ((repeat (first | (with_reducible refine Vc.seq fun N hN => ?_) | (with_reducible refine Vc.block ?_) | ((first | with_reducible refine Vc.skip ?_ | with_reducible refine Vc.exit ?_); dsimp only [thenK, blockK, Nat.beq]; (first | (refine hN _ _ ?_; clear hN N) | skip)) | (with_reducible intro _) | ((with_reducible refine And.intro ?_ ?_); (focus (first | ((repeat' with_reducible apply And.intro) <;> first | exact sideQ | (exact hLx _ List.mem_cons_self) | (simp only [List.length_cons]; omega)) | exact sd0))) | ((first | ((with_reducible refine askT_of ?_ (fun hb => ?_)); (focus (first | ((repeat' with_reducible apply And.intro) <;> first | exact sideQ | (exact hLx _ List.mem_cons_self) | (simp only [List.length_cons]; omega)) | exact sd0)); (try simp only [hb])) | ((with_reducible refine Vc.fin ?_); dsimp only [thenK, blockK, retK, resS, resOne, resAll]) | ((with_reducible refine Vc.hold ?_); first | refine Vc.regiont T0_ok GZ0_ok ?_)); (try simp only [v8X, v8A, v8B, v8C, Nat.beq, Nat.ble, Int.reduceToNat, Int.reduceLE, Int.reduceLT, Nat.reduceLT, Nat.reduceLeDiff, Nat.reduceAdd, Nat.reduceMul, Nat.reduceSub, Int.reduceAdd, Int.reduceSub, Int.reduceMul, eq_self, decide_true, beq_self_eq_true, List.length_cons, List.length_nil, Nat.min_eq_left, IntKind.bits, tabs, d4, wn, d5]); (try simp (disch := omega) only [v8W])) | ((with_reducible refine hN _ _ ?_); clear hN N; (try simp (disch := omega) only [v8W])))); (try ((with_reducible refine Fin.of ?_); (try with_reducible exact True.intro))))
          (refine Vc.cond T0_ok (t := true) (by rfl) (fun _ => ?_) (fun h => Bool.noConfusion h))
          ((repeat (first | (with_reducible refine Vc.seq fun N hN => ?_) | (with_reducible refine Vc.block ?_) | ((first | with_reducible refine Vc.skip ?_ | with_reducible refine Vc.exit ?_); dsimp only [thenK, blockK, Nat.beq]; (first | (refine hN _ _ ?_; clear hN N) | skip)) | (with_reducible intro _) | ((with_reducible refine And.intro ?_ ?_); (focus (first | exact sideQ | exact sd0))) | ((first | ((with_reducible refine askT_of ?_ (fun hb => ?_)); (focus (first | exact sideQ | exact sd0)); (try simp only [hb])) | ((with_reducible refine Vc.fin ?_); dsimp only [thenK, blockK, retK, resS, resOne, resAll]) | ((with_reducible refine Vc.hold ?_); first | refine Vc.regiont T0_ok GZ0_ok ?_)); (try simp only [v8X, v8A, v8B, v8C, Nat.beq, Nat.ble, Int.reduceToNat, Int.reduceLE, Int.reduceLT, Nat.reduceLT, Nat.reduceLeDiff, Nat.reduceAdd, Nat.reduceMul, Nat.reduceSub, Int.reduceAdd, Int.reduceSub, Int.reduceMul, eq_self, decide_true, beq_self_eq_true, List.length_cons, List.length_nil, Nat.min_eq_left, IntKind.bits, tabs]); (try simp (disch := omega) only [v8W])) | ((with_reducible refine hN _ _ ?_); clear hN N; (try simp (disch := omega) only [v8W])))); (try ((with_reducible refine Fin.of ?_); (try with_reducible exact True.intro))))
          exact ⟨by simp, (if_pos (.inr h2)).symm⟩
        · have d5 : decide ((n : Int) < (rdI (ys.take j) : Int)) = false := decide_eq_false (by omega)
          have wi : IntKind.i64.wrap (rdI (ys.take j) : Int) = (rdI (ys.take j) : Int) := wrap_inK (by simp only [inK]; omega)
          ((repeat (first | (with_reducible refine Vc.seq fun N hN => ?_) | (with_reducible refine Vc.block ?_) | ((first | with_reducible refine Vc.skip ?_ | with_reducible refine Vc.exit ?_); dsimp only [thenK, blockK, Nat.beq]; (first | (refine hN _ _ ?_; clear hN N) | skip)) | (with_reducible intro _) | ((with_reducible refine And.intro ?_ ?_); (focus (first | ((repeat' with_reducible apply And.intro) <;> first | exact sideQ | (exact hLx _ List.mem_cons_self) | (simp only [List.length_cons]; omega)) | exact sd0))) | ((first | ((with_reducible refine askT_of ?_ (fun hb => ?_)); (focus (first | ((repeat' with_reducible apply And.intro) <;> first | exact sideQ | (exact hLx _ List.mem_cons_self) | (simp only [List.length_cons]; omega)) | exact sd0)); (try simp only [hb])) | ((with_reducible refine Vc.fin ?_); dsimp only [thenK, blockK, retK, resS, resOne, resAll]) | ((with_reducible refine Vc.hold ?_); first | refine Vc.regiont T0_ok GZ0_ok ?_)); (try simp only [v8X, v8A, v8B, v8C, Nat.beq, Nat.ble, Int.reduceToNat, Int.reduceLE, Int.reduceLT, Nat.reduceLT, Nat.reduceLeDiff, Nat.reduceAdd, Nat.reduceMul, Nat.reduceSub, Int.reduceAdd, Int.reduceSub, Int.reduceMul, eq_self, decide_true, beq_self_eq_true, List.length_cons, List.length_nil, Nat.min_eq_left, IntKind.bits, tabs, d4, wn, d5]); (try simp (disch := omega) only [v8W])) | ((with_reducible refine hN _ _ ?_); clear hN N; (try simp (disch := omega) only [v8W])))); (try ((with_reducible refine Fin.of ?_); (try with_reducible exact True.intro))))
          (refine Vc.cond T0_ok (t := false) (by rfl) (fun h => Bool.noConfusion h) (fun _ => ?_))
          ((repeat (first | (with_reducible refine Vc.seq fun N hN => ?_) | (with_reducible refine Vc.block ?_) | ((first | with_reducible refine Vc.skip ?_ | with_reducible refine Vc.exit ?_); dsimp only [thenK, blockK, Nat.beq]; (first | (refine hN _ _ ?_; clear hN N) | skip)) | (with_reducible intro _) | ((with_reducible refine And.intro ?_ ?_); (focus (first | ((repeat' with_reducible apply And.intro) <;> first | exact sideQ | (exact hLx _ List.mem_cons_self) | (simp only [List.length_cons]; omega)) | exact sd0))) | ((first | ((with_reducible refine askT_of ?_ (fun hb => ?_)); (focus (first | ((repeat' with_reducible apply And.intro) <;> first | exact sideQ | (exact hLx _ List.mem_cons_self) | (simp only [List.length_cons]; omega)) | exact sd0)); (try simp only [hb])) | ((with_reducible refine Vc.fin ?_); dsimp only [thenK, blockK, retK, resS, resOne, resAll]) | ((with_reducible refine Vc.hold ?_); first | refine Vc.regiont T0_ok GZ0_ok ?_)); (try simp only [v8X, v8A, v8B, v8C, Nat.beq, Nat.ble, Int.reduceToNat, Int.reduceLE, Int.reduceLT, Nat.reduceLT, Nat.reduceLeDiff, Nat.reduceAdd, Nat.reduceMul, Nat.reduceSub, Int.reduceAdd, Int.reduceSub, Int.reduceMul, eq_self, decide_true, beq_self_eq_true, List.length_cons, List.length_nil, Nat.min_eq_left, IntKind.bits, tabs, wi]); (try simp (disch := omega) only [v8W])) | ((with_reducible refine hN _ _ ?_); clear hN N; (try simp (disch := omega) only [v8W])))); (try ((with_reducible refine Fin.of ?_); (try with_reducible exact True.intro))))
          exact ⟨by simp, (if_neg (by omega)).symm⟩
/-- The document's length, of what bytes hold behind a head's first byte. -/
def g_rrl (args : List SV) (m : List Blk) : CR :=
  match args with
  | [.gh a n c (.ints .u8 (f :: ys)), .int .u8 sh] => .pure (ys.length + 1 = n ∧ n ≤ c ∧ n ≤ 1000000 ∧ adr a n c ∧ (128 ≤ f ∧ f ≤ 255) ∧ (f - sh = f % 64 ∧ 0 ≤ sh ∧ sh ≤ 255) ∧ allB ys ∧ LiesH (HM m) a (cc (.ints .u8 (f :: ys)))) (rlV n f ys)
  | _ => .none
theorem g_rrl_ok (w0 : World) (B : List Nat) (args : List SV) (m : List Blk) : CROk Try.prog w0 B 35 args m (g_rrl args m) := by
  unfold g_rrl
  split
  · rename_i a n c f ys sh
    intro ⟨h1, h2, h3, h4, h5, h6, h7, h8⟩ w hm
    refine calls_pure Try.func35 rfl rfl ?_
    have hL : LiesH (H0 w) a (cc (.ints .u8 (f :: ys))) := h8.mono fun b o h => hm.hm h
    by_cases hk : f % 64 ≤ 55
    · have e : rlV n f ys = .tup [.int .i64 (f % 64), .int .i64 1, .bool true] := by
        unfold rlV lnO; simp only [if_pos hk]
        rw [show (((f % 64).toNat : Nat) : Int) = f % 64 by omega]
      rw [e]
      exact rlS_vc a n c f sh ys h1 h2 h3 h4 h5 h6 w hL hk
    · obtain ⟨k, hK⟩ := Int.eq_ofNat_of_zero_le (show 0 ≤ f % 64 - 55 by omega)
      have hKt : (f % 64 - 55).toNat = k := by omega
      by_cases hkn : n < 1 + k
      · have e : rlV n f ys = .tup [.int .i64 0, .int .i64 0, .bool false] := by
          unfold rlV lnO; simp only [if_neg hk, hKt]
          rw [if_neg fun h => by omega]
        rw [e]
        exact rlB_vc a n c f sh ys h1 h2 h3 h4 h5 h6 w hL hk k hK hkn
      · by_cases hz : ys.getD 0 0 = 0
        · have e : rlV n f ys = .tup [.int .i64 0, .int .i64 0, .bool false] := by
            unfold rlV lnO; simp only [if_neg hk, hKt]
            rw [if_neg fun h => by omega]
          rw [e]
          exact rlC_vc a n c f sh ys h1 h2 h3 h4 h5 h6 w hL hk k hK hkn hz
        · have hy0 : 0 < ys.getD 0 0 := by
            have hl : 0 < ys.length := by omega
            have : ys.getD 0 0 = ys[0] := by rw [List.getD_eq_getElem?_getD, List.getElem?_eq_getElem hl]; rfl
            have h9 := h7 _ (List.getElem_mem hl)
            omega
          have e : rlV n f ys = if rdI (ys.take k) ≤ 55 ∨ n < rdI (ys.take k) then .tup [.int .i64 0, .int .i64 0, .bool false] else .tup [.int .i64 (rdI (ys.take k) : Nat), .int .i64 (1 + (k : Nat)), .bool true] := by
            unfold rlV lnO; simp only [if_neg hk, hKt]
            by_cases h10 : rdI (ys.take k) ≤ 55
            · rw [if_neg fun h => by omega, if_pos (.inl h10)]
            · rw [if_pos ⟨by omega, hy0, by omega⟩]
              by_cases h11 : n < rdI (ys.take k)
              · rw [if_pos (.inr h11)]
                simp only [if_neg hk]
                rw [if_neg (by omega)]
              · rw [if_neg (by omega)]
                simp only [if_neg hk]
                rw [if_pos (by omega), List.length_drop, show ys.length - (ys.length - k) = k by omega]
          rw [e]
          exact rlD_vc a n c f sh ys h1 h2 h3 h4 h5 h6 w hL hk k hK h7 hkn hz
  · exact trivial
/-- A part that holds nothing. -/
theorem Vc.pushnil {P : Program} {c : Code} {env : List SV} {m : List Blk} {K : Kont} (t : TypeId) (es : Nat) (h : Vc P c env (bpush m (.own (.slice none 0 0) 0 t es (.rows es []))) K) : Vc P c env m K := by
  intro w0 B a w hf hd hm
  refine h w0 B a w hf hd ?_
  rw [bpush_eq]
  refine hm.push (grown_refl w) ⟨⟨by simp [cc], .inl ⟨rfl, rfl⟩⟩, fun b hb => by simp [Value.ownBlock] at hb⟩ (fun b hb => ?_)
  simp [Blk.nums, Value.ownBlock] at hb
/-- A callee that only reads, and made blocks that are kept. -/
theorem grow1 {w0 : World} {B : List Nat} {m m' : List Blk} {w w' : World} (hm : MemOk w0 B m w) {k j : Nat} {L l : List (Nat × Obj)} (hk : bget m k = .heap L) (h : MemOk w [] m' w') (hj : bget m' j = .heap l) : MemOk w0 B (bset m k (.heap (L ++ l))) w' := by
  have h1 := hm.grow h.grown
  have hlo := h.each _ (bget_mem hj (by simp))
  have hLo := hm.each _ (bget_mem hk (by simp))
  have hfresh : ∀ p ∈ l, w.heap.size ≤ p.1 := fun p hp => (hlo p hp).2.resolve_right List.not_mem_nil
  refine h1.set hk (by simp) (fun p hp => ?_) ?_ (fun x hx => ?_)
  · rcases List.mem_append.1 hp with hp | hp
    · exact h1.each _ (bget_mem hk (by simp)) p hp
    · exact ⟨(hlo p hp).1, .inl (Nat.le_trans hm.size (hfresh p hp))⟩
  · simp only [Blk.nums, List.map_append]
    rw [List.nodup_append]
    refine ⟨by have := nums_nodup (i := k) hm.nodup; rwa [hk] at this, by have := nums_nodup (i := j) h.nodup; rwa [hj] at this, fun x hx y hy => ?_⟩
    rintro rfl
    obtain ⟨p, hp, rfl⟩ := List.mem_map.1 hy
    have h3 := hfresh p hp
    have h4 := bnum_lt (e := .heap L) hLo hx
    omega
  · simp only [Blk.nums, List.map_append] at hx
    rcases List.mem_append.1 hx with hx | hx
    · exact .inl hx
    · refine .inr fun hc => ?_
      obtain ⟨p, hp, rfl⟩ := List.mem_map.1 hx
      have h3 := hfresh p hp
      obtain ⟨y, hy, hyx⟩ := List.mem_flatMap.1 hc
      have := bnum_lt (hm.each y hy) hyx; omega
theorem calls_grow1 {P : Program} {f : FuncId} {fn : Func} {args args' : List SV} {w0 w : World} {B : List Nat} {m : List Blk} {k j : Nat} {L : List (Nat × Obj)} {A : Type} {Q : A → Prop} {F : A → SV} {l : A → List (Nat × Obj)}
    (hf : P.funcs[f]? = some fn) (hn : (fn.name == "runtime.NumGoroutine") = false) (hb : fn.body.isNone = false)
    (hm : MemOk w0 B m w) (hk : bget m k = .heap L) (he : cvs args = cvs args') (h : Calls P f (cvs args').toArray w (fun en w' => ∃ u, en = .returned u ∧ ∃ m' x, MemOk w [] m' w' ∧ Q x ∧ u = cv (F x) ∧ bget m' j = .heap (l x))) :
    Enters P f (cvs args).toArray w fun u w' => ∃ x, Q x ∧ u = cv (F x) ∧ MemOk w0 B (bset m k (.heap (L ++ l x))) w' := by
  rw [he]
  exact .inr ⟨enter_run hf hn hb _ w, h.mono fun e w' ⟨u, hu, m', x, hm', hx, hv, hk2⟩ => ⟨u, hu, x, hx, hv, grow1 hm hk hm' hk2⟩⟩
theorem lnO_drop {ys : List Int} {f : Int} {nb : Nat} {zs : List Int} (h : lnO ys f = some (nb, zs)) : ys.drop (ys.length - zs.length) = zs := by
  unfold lnO at h
  split at h
  · simp only [Option.some.injEq, Prod.mk.injEq] at h; obtain ⟨_, rfl⟩ := h; rw [Nat.sub_self]; rfl
  · split at h
    · rename_i hh
      simp only [Option.some.injEq, Prod.mk.injEq] at h; obtain ⟨_, rfl⟩ := h
      rw [List.length_drop]; congr 1; omega
    · cases h
/-- What the document's length tells, put otherwise. -/
theorem rl_cases (n : Nat) (f : Int) (ys : List Int) (hl : ys.length + 1 = n) (hf : 128 ≤ f ∧ f ≤ 255) (hn : n ≤ 1000000) :
    (hdd (f :: ys) = none ∧ ∃ (nb fr : Int) (ok : Bool), rlV n f ys = .tup [.int .i64 nb, .int .i64 fr, .bool ok] ∧ 0 ≤ fr ∧ fr ≤ n ∧ (ok = true → n - fr < nb)) ∨
    ∃ (nb : Nat) (zs : List Int), rlV n f ys = .tup [.int .i64 (nb : Nat), .int .i64 (1 + (ys.length - zs.length : Nat)), .bool true] ∧ lnO ys f = some (nb, zs) ∧ nb ≤ zs.length ∧ zs.length ≤ ys.length ∧ ys.drop (ys.length - zs.length) = zs := by
  have hf1 : ¬ f < 128 := by omega
  cases ho : lnO ys f with
  | none =>
    refine .inl ⟨hdd_no hf1 ho, 0, 0, false, by unfold rlV; rw [ho], by omega, by omega, fun h => Bool.noConfusion h⟩
  | some o =>
    obtain ⟨nb, zs⟩ := o
    have hle := lnO_le ho
    by_cases hN : nb ≤ zs.length
    · refine .inr ⟨nb, zs, ?_, rfl, hN, hle, lnO_drop ho⟩
      unfold rlV; rw [ho]
      by_cases hk : f % 64 ≤ 55
      · simp only [if_pos hk]
        have hz : zs = ys := by unfold lnO at ho; rw [if_pos hk] at ho; simp only [Option.some.injEq, Prod.mk.injEq] at ho; exact ho.2.symm
        subst hz; rw [Nat.sub_self]; rfl
      · simp only [if_neg hk]
        rw [if_pos (by omega)]
    · refine .inl ⟨(hdd_hi hf1 ho).trans (if_neg hN), ?_⟩
      unfold rlV; rw [ho]
      by_cases hk : f % 64 ≤ 55
      · simp only [if_pos hk]
        have hz : zs = ys := by unfold lnO at ho; rw [if_pos hk] at ho; simp only [Option.some.injEq, Prod.mk.injEq] at ho; exact ho.2.symm
        subst hz
        exact ⟨_, _, _, rfl, by omega, by omega, fun _ => by omega⟩
      · simp only [if_neg hk]
        by_cases h2 : nb ≤ n
        · rw [if_pos h2]
          exact ⟨_, _, _, rfl, by omega, by omega, fun _ => by omega⟩
        · rw [if_neg h2]
          exact ⟨_, _, _, rfl, by omega, by omega, fun h => Bool.noConfusion h⟩
/-- What is left to chance of the document's item. -/
noncomputable def g_roneD (d : Nat) (args : List SV) (m : List Blk) : CR :=
  match args with
  | [.gh a n c (.ints .u8 xs), .int .i64 dp] => match bget m 2 with
    | .heap L => match dec (65 - dp).toNat xs with
      | none => .rel (xs.length = n ∧ n ≤ c ∧ n ≤ 1000000 ∧ adr a n c ∧ allB xs ∧ (1 ≤ dp ∧ dp ≤ 65) ∧ xs.length < d ∧ LiesH (HM m) a (cc (.ints .u8 xs))) (List (Nat × Obj)) (fun _ => True)
          (fun _ => .tup [.agg [.bool false, .nilsl, .nilsl], .int .i64 0]) (fun l => bset m 2 (.heap (L ++ l)))
      | some (tt, zs) => .rel (xs.length = n ∧ n ≤ c ∧ n ≤ 1000000 ∧ adr a n c ∧ allB xs ∧ (1 ≤ dp ∧ dp ≤ 65) ∧ xs.length < d ∧ LiesH (HM m) a (cc (.ints .u8 xs))) ItY
          (fun x => ItR (Hl x.l) [.bool x.lb, .gh x.ba x.bn x.bc (.ints .u8 x.bs), .gh x.ka x.kn x.kc (.rows 3 x.rs)] tt)
          (fun x => .tup [.agg [.bool x.lb, .gh x.ba x.bn x.bc (.ints .u8 x.bs), .gh x.ka x.kn x.kc (.rows 3 x.rs)], .int .i64 (xs.length - zs.length : Nat)])
          (fun x => bset m 2 (.heap (L ++ x.l)))
    | _ => .none
  | _ => .none
noncomputable def GRO (d : Nat) : Ctr := fun f args m => match f with
  | 28 => g_roneD d args m
  | 35 => g_rrl args m
  | _ => .none
theorem GRO_mk {d : Nat} (h_roneD : ∀ w0 B args m, CROk Try.prog w0 B 28 args m (g_roneD d args m)) : GOk Try.prog (GRO d) := by
  intro w0 B f args m; unfold GRO; split
  · exact h_roneD _ _ _ _
  · exact g_rrl_ok _ _ _ _
  · exact trivial
theorem GRO_roneD {d : Nat} : GRO d 28 = g_roneD d := by funext args m; rfl
theorem GRO_rrl {d : Nat} : GRO d 35 = g_rrl := by funext args m; rfl
def GRO_set := And.intro (And.intro (@GRO_roneD) (@g_roneD.eq_def)) (And.intro (@GRO_rrl) (@g_rrl.eq_def))

end Go.Proofs.Ytlogpdjcgbifhaa
