/-
  RLP: the document's heads (quaestorref04.head), walked. No condition.
-/
import Derived.Test.YtlogpdjcgbifhaaP5
namespace Go.Proofs.Ytlogpdjcgbifhaa
set_option linter.unusedSimpArgs false
set_option linter.unusedVariables false
set_option maxHeartbeats 4000000
set_option linter.defProp false
open Go.RowKit
/-- A head. -/
def hdB (e : Int) (n : Nat) : List Int := (hdR e n).reverse
theorem hdB_lo {e : Int} {n : Nat} (h : n ≤ 55) : hdB e n = [e + n] := by unfold hdB; rw [hdR_lo h]; rfl
theorem hdB_hi {e : Int} {n : Nat} (h : ¬ n ≤ 55) : hdB e n = [e + 55 + ((beB n).length : Nat)] ++ beB n := by unfold hdB beB; rw [hdR_hi h, List.reverse_append, List.length_reverse]; rfl
theorem hdB_len (e : Int) (n : Nat) : (hdB e n).length ≤ 9 := by unfold hdB; rw [List.length_reverse]; exact hdR_len e n
theorem hdB_pos (e : Int) (n : Nat) : 1 ≤ (hdB e n).length := by unfold hdB; rw [List.length_reverse]; exact hdR_pos e n
theorem hdB_all {e : Int} (he : 0 ≤ e ∧ e ≤ 192) (n : Nat) : allB (hdB e n) := fun x hx => hdR_all he n x (List.mem_reverse.1 hx)
theorem head_vc (n : Nat) (e : Int) (he : 0 ≤ e ∧ e ≤ 192) (hn : n ≤ 9223372036854775807) (w : World) :
    Calls Try.prog 23 (cvs [.int .i64 (n : Int), .int .u8 e]).toArray w (fun en w' => ∃ u, en = .returned u ∧ ∃ v m', u = cv v ∧ MemOk w [] m' w' ∧ ∃ k s, v = .own k s (hdB e n).length ∧ bget m' k = .own s (hdB e n).length 5 1 (.ints .u8 (hdB e n))) := by
  have hle := beB_len n
  by_cases h0 : n ≤ 55
  · have d1 : decide ((n : Int) ≤ 55) = true := decide_eq_true (by omega)
    have e1 := w8 (x := (n : Int)) (by omega)
    have e2 := w8 (x := e + (n : Int)) (by omega)
    have e3 := hdB_lo (e := e) h0
    refine Vc.calls T0_ok Try.func23 rfl rfl (args := [.int .i64 (n : Int), .int .u8 e]) (k := 25) rfl (MemOk.start _) ?_; change Vc _ _ (c8 (.int .i64 (n : Int)) (.int .u8 e) .undef .undef .undef .undef .undef .undef (c8 .undef .undef .undef .undef .undef .undef .undef .undef (c8 .undef .undef .undef .undef .undef .undef .undef .undef ([.undef, .undef, .undef])))) _ _
    ((repeat (first | (with_reducible refine Vc.seq fun N hN => ?_) | (with_reducible refine Vc.block ?_) | ((first | with_reducible refine Vc.skip ?_ | with_reducible refine Vc.exit ?_); dsimp only [thenK, blockK, Nat.beq]; (first | (refine hN _ _ ?_; clear hN N) | skip)) | (with_reducible intro _) | ((with_reducible refine And.intro ?_ ?_); (focus (first | exact sideQ | exact sd0))) | ((first | ((with_reducible refine askT_of ?_ (fun hb => ?_)); (focus (first | exact sideQ | exact sd0)); (try simp only [hb])) | ((with_reducible refine Vc.fin ?_); dsimp only [thenK, blockK, retK, resS, resOne, resAll]) | ((with_reducible refine Vc.hold ?_); first | refine Vc.regiont T0_ok GP5_ok ?_)); (try simp only [v8X, v8A, v8B, v8C, Nat.beq, Nat.ble, Int.reduceToNat, Int.reduceLE, Int.reduceLT, Nat.reduceLT, Nat.reduceLeDiff, Nat.reduceAdd, Nat.reduceMul, Nat.reduceSub, Int.reduceAdd, Int.reduceSub, Int.reduceMul, eq_self, decide_true, beq_self_eq_true, List.length_cons, List.length_nil, Nat.min_eq_left, IntKind.bits, tabs, GP5_set, d1]); (try simp (disch := omega) only [v8W])) | ((with_reducible refine hN _ _ ?_); clear hN N; (try simp (disch := omega) only [v8W])))); (try ((with_reducible refine Fin.of ?_); (try with_reducible exact True.intro))))
    (refine Vc.cond T0_ok (t := true) (by rfl) (fun _ => ?_) (fun h => Bool.noConfusion h))
    refine Vc.seq fun N hN => ?_
    refine Vc.regionOwn2 T0_ok GP5_ok (pre := [_, _, _, _]) rfl ?_
    (simp only [e1, e2, v8X, v8A, v8B, v8C, Nat.beq, Nat.ble, Int.reduceToNat, Int.reduceLE, Int.reduceLT, Nat.reduceLT, Nat.reduceLeDiff, Nat.reduceAdd, Nat.reduceMul, Nat.reduceSub, Int.reduceAdd, Int.reduceSub, Int.reduceMul, eq_self, decide_true, beq_self_eq_true, List.length_cons, List.length_nil, Nat.min_eq_left, IntKind.bits, tabs])
    refine ⟨trivial, trivial, trivial, trivial, _, _, _, rfl, rfl, by decide, fun vc => ⟨trivial, hN _ _ ?_⟩⟩
    clear hN N
    ((repeat (first | (with_reducible refine Vc.seq fun N hN => ?_) | (with_reducible refine Vc.block ?_) | ((first | with_reducible refine Vc.skip ?_ | with_reducible refine Vc.exit ?_); dsimp only [thenK, blockK, Nat.beq]; (first | (refine hN _ _ ?_; clear hN N) | skip)) | (with_reducible intro _) | ((with_reducible refine And.intro ?_ ?_); (focus (first | exact sideQ | exact sd0))) | ((first | ((with_reducible refine askT_of ?_ (fun hb => ?_)); (focus (first | exact sideQ | exact sd0)); (try simp only [hb])) | ((with_reducible refine Vc.fin ?_); dsimp only [thenK, blockK, retK, resS, resOne, resAll]) | ((with_reducible refine Vc.hold ?_); first | refine Vc.regiont T0_ok GP5_ok ?_)); (try simp only [v8X, v8A, v8B, v8C, Nat.beq, Nat.ble, Int.reduceToNat, Int.reduceLE, Int.reduceLT, Nat.reduceLT, Nat.reduceLeDiff, Nat.reduceAdd, Nat.reduceMul, Nat.reduceSub, Int.reduceAdd, Int.reduceSub, Int.reduceMul, eq_self, decide_true, beq_self_eq_true, List.length_cons, List.length_nil, Nat.min_eq_left, IntKind.bits, tabs, GP5_set]); (try simp (disch := omega) only [v8W])) | ((with_reducible refine hN _ _ ?_); clear hN N; (try simp (disch := omega) only [v8W])))); (try ((with_reducible refine Fin.of ?_); (try with_reducible exact True.intro))))
    exact ⟨trivial, _, _, by rw [e3]; rfl, by rw [e3]; rfl⟩
  · have d1 : decide ((n : Int) ≤ 55) = false := decide_eq_false (by omega)
    have e1 := w64 (x := (n : Int)) (by omega)
    have e2 := w8 (x := e + 55) (by omega)
    have e5 := w8 (x := (((beB n).length : Nat) : Int)) (by omega)
    have e6 := w8 (x := e + 55 + (((beB n).length : Nat) : Int)) (by omega)
    have e3 := hdB_hi (e := e) h0
    have hl : (hdB e n).length = 1 + (beB n).length := by rw [e3, List.length_append]; rfl
    have u2 : (beB n).take (beB n).length = beB n := List.take_length
    refine Vc.calls T0_ok Try.func23 rfl rfl (args := [.int .i64 (n : Int), .int .u8 e]) (k := 25) rfl (MemOk.start _) ?_; change Vc _ _ (c8 (.int .i64 (n : Int)) (.int .u8 e) .undef .undef .undef .undef .undef .undef (c8 .undef .undef .undef .undef .undef .undef .undef .undef (c8 .undef .undef .undef .undef .undef .undef .undef .undef ([.undef, .undef, .undef])))) _ _
    ((repeat (first | (with_reducible refine Vc.seq fun N hN => ?_) | (with_reducible refine Vc.block ?_) | ((first | with_reducible refine Vc.skip ?_ | with_reducible refine Vc.exit ?_); dsimp only [thenK, blockK, Nat.beq]; (first | (refine hN _ _ ?_; clear hN N) | skip)) | (with_reducible intro _) | ((with_reducible refine And.intro ?_ ?_); (focus (first | exact sideQ | exact sd0))) | ((first | ((with_reducible refine askT_of ?_ (fun hb => ?_)); (focus (first | exact sideQ | exact sd0)); (try simp only [hb])) | ((with_reducible refine Vc.fin ?_); dsimp only [thenK, blockK, retK, resS, resOne, resAll]) | ((with_reducible refine Vc.hold ?_); first | refine Vc.regiont T0_ok GP5_ok ?_)); (try simp only [v8X, v8A, v8B, v8C, Nat.beq, Nat.ble, Int.reduceToNat, Int.reduceLE, Int.reduceLT, Nat.reduceLT, Nat.reduceLeDiff, Nat.reduceAdd, Nat.reduceMul, Nat.reduceSub, Int.reduceAdd, Int.reduceSub, Int.reduceMul, eq_self, decide_true, beq_self_eq_true, List.length_cons, List.length_nil, Nat.min_eq_left, IntKind.bits, tabs, GP5_set, d1]); (try simp (disch := omega) only [v8W])) | ((with_reducible refine hN _ _ ?_); clear hN N; (try simp (disch := omega) only [v8W])))); (try ((with_reducible refine Fin.of ?_); (try with_reducible exact True.intro))))
    (refine Vc.cond T0_ok (t := false) (by rfl) (fun h => Bool.noConfusion h) (fun _ => ?_))
    refine Vc.skip ?_
    dsimp only [thenK, blockK, Nat.beq]
    refine hN _ _ ?_
    clear hN N
    refine Vc.seq fun N1 hN1 => ?_
    ((repeat (first | (with_reducible refine Vc.seq fun N hN => ?_) | (with_reducible refine Vc.block ?_) | ((first | with_reducible refine Vc.skip ?_ | with_reducible refine Vc.exit ?_); dsimp only [thenK, blockK, Nat.beq]; (first | (refine hN _ _ ?_; clear hN N) | skip)) | (with_reducible intro _) | ((with_reducible refine And.intro ?_ ?_); (focus (first | exact sideQ | exact sd0))) | ((first | ((with_reducible refine askT_of ?_ (fun hb => ?_)); (focus (first | exact sideQ | exact sd0)); (try simp only [hb])) | ((with_reducible refine Vc.fin ?_); dsimp only [thenK, blockK, retK, resS, resOne, resAll]) | ((with_reducible refine Vc.hold ?_); first | refine Vc.regiont T0_ok GP5_ok ?_)); (try simp only [v8X, v8A, v8B, v8C, Nat.beq, Nat.ble, Int.reduceToNat, Int.reduceLE, Int.reduceLT, Nat.reduceLT, Nat.reduceLeDiff, Nat.reduceAdd, Nat.reduceMul, Nat.reduceSub, Int.reduceAdd, Int.reduceSub, Int.reduceMul, eq_self, decide_true, beq_self_eq_true, List.length_cons, List.length_nil, Nat.min_eq_left, IntKind.bits, tabs, GP5_set, e1, tnc]); (try simp (disch := omega) only [v8W])) | ((with_reducible refine hN _ _ ?_); clear hN N; (try simp (disch := omega) only [v8W])))); (try ((with_reducible refine Fin.of ?_); (try with_reducible exact True.intro))))
    refine hN1 _ _ ?_
    clear hN1 N1
    refine Vc.seq fun N hN => ?_
    refine Vc.regionOwn2 T0_ok GP5_ok (pre := [_, _, _, _, _, _]) rfl ?_
    (simp only [e2, e5, e6, v8X, v8A, v8B, v8C, Nat.beq, Nat.ble, Int.reduceToNat, Int.reduceLE, Int.reduceLT, Nat.reduceLT, Nat.reduceLeDiff, Nat.reduceAdd, Nat.reduceMul, Nat.reduceSub, Int.reduceAdd, Int.reduceSub, Int.reduceMul, eq_self, decide_true, beq_self_eq_true, List.length_cons, List.length_nil, Nat.min_eq_left, IntKind.bits, tabs])
    refine ⟨trivial, trivial, trivial, trivial, trivial, trivial, _, _, _, rfl, rfl, by decide, fun vc => ⟨trivial, hN _ _ ?_⟩⟩
    clear hN N
    ((repeat (first | (with_reducible refine Vc.seq fun N hN => ?_) | (with_reducible refine Vc.block ?_) | ((first | with_reducible refine Vc.skip ?_ | with_reducible refine Vc.exit ?_); dsimp only [thenK, blockK, Nat.beq]; (first | (refine hN _ _ ?_; clear hN N) | skip)) | (with_reducible intro _) | ((with_reducible refine And.intro ?_ ?_); (focus (first | ((repeat' with_reducible apply And.intro) <;> first | exact sideQ) | exact sd0))) | ((first | ((with_reducible refine askT_of ?_ (fun hb => ?_)); (focus (first | ((repeat' with_reducible apply And.intro) <;> first | exact sideQ) | exact sd0)); (try simp only [hb])) | ((with_reducible refine Vc.fin ?_); dsimp only [thenK, blockK, retK, resS, resOne, resAll]) | ((with_reducible refine Vc.hold ?_); first | refine Vc.regiont T0_ok GP5_ok ?_)); (try simp only [v8X, v8A, v8B, v8C, Nat.beq, Nat.ble, Int.reduceToNat, Int.reduceLE, Int.reduceLT, Nat.reduceLT, Nat.reduceLeDiff, Nat.reduceAdd, Nat.reduceMul, Nat.reduceSub, Int.reduceAdd, Int.reduceSub, Int.reduceMul, eq_self, decide_true, beq_self_eq_true, List.length_cons, List.length_nil, Nat.min_eq_left, IntKind.bits, tabs, GP5_set, u2, List.drop_zero]); (try simp (disch := omega) only [v8W])) | ((with_reducible refine hN _ _ ?_); clear hN N; (try simp (disch := omega) only [v8W])))); (try ((with_reducible refine Fin.of ?_); (try with_reducible exact True.intro))))
    exact ⟨trivial, _, _, by rw [hl], by rw [hl, e3]; rfl⟩
def g_head (args : List SV) (_m : List Blk) : CR :=
  match args with
  | [.int .i64 n, .int .u8 e] => .own (0 ≤ e ∧ e ≤ 192 ∧ 0 ≤ n ∧ n ≤ 9223372036854775807) 5 1 (hdB e n.toNat).length (.ints .u8 (hdB e n.toNat)) (fun v => v)
  | _ => .none
theorem g_head_ok (w0 : World) (B : List Nat) (args : List SV) (m : List Blk) : CROk Try.prog w0 B 23 args m (g_head args m) := by
  unfold g_head
  split
  · rename_i k e
    intro ⟨h1, h2, h3, h4⟩ w hm
    obtain ⟨n, rfl⟩ := Int.eq_ofNat_of_zero_le h3
    exact own_new Try.func23 rfl rfl hm (head_vc n e ⟨h1, h2⟩ (by omega) w)
  · exact trivial
noncomputable def GP6 : Ctr := fun f args m => match f with
  | 25 => g_big args m
  | 23 => g_head args m
  | _ => .none
theorem GP6_ok : GOk Try.prog GP6 := by
  intro w0 B f args m; unfold GP6; split
  · exact g_big_ok _ _ _ _
  · exact g_head_ok _ _ _ _
  · exact trivial
theorem GP6_big : GP6 25 = g_big := by funext args m; rfl
theorem GP6_head : GP6 23 = g_head := by funext args m; rfl
def GP6_set := And.intro (And.intro (@GP6_big) (@g_big.eq_def)) (And.intro (@GP6_head) (@g_head.eq_def))

end Go.Proofs.Ytlogpdjcgbifhaa
