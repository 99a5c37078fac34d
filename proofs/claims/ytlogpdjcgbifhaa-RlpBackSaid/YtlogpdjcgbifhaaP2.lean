/-
  RLP: a slice of bytes turned about (slices.Reverse), walked. No condition.
-/
import Derived.Test.YtlogpdjcgbifhaaP1
namespace Go.Proofs.Ytlogpdjcgbifhaa
set_option linter.unusedSimpArgs false
set_option linter.unusedVariables false
set_option maxHeartbeats 4000000
open Go.RowKit
/-! ### Turned about, from both ends on -/
def rvG (s : List Int) (k p : Nat) : Int := if p < k ∨ s.length - k ≤ p then s.getD (s.length - 1 - p) 0 else s.getD p 0
def rv (s : List Int) (k : Nat) : List Int := (List.range s.length).map (rvG s k)
theorem rv_len (s : List Int) (k : Nat) : (rv s k).length = s.length := by simp [rv]
theorem rv_get (s : List Int) (k p : Nat) (h : p < s.length) : (rv s k)[p]? = some (rvG s k p) := by simp [rv, h]
theorem getD_some {xs : List Int} {p : Nat} {y : Int} (h : xs[p]? = some y) : xs.getD p 0 = y := by rw [List.getD_eq_getElem?_getD, h]; rfl
theorem rv_zero (s : List Int) : rv s 0 = s := by
  apply List.ext_getElem?
  intro p
  by_cases h : p < s.length
  · rw [rv_get s 0 p h, List.getElem?_eq_getElem h, rvG, if_neg (by omega)]
    rw [List.getD_eq_getElem?_getD, List.getElem?_eq_getElem h]; rfl
  · rw [List.getElem?_eq_none (by rw [rv_len]; omega), List.getElem?_eq_none (by omega)]
theorem rv_end (s : List Int) (k : Nat) (h : s.length ≤ 2 * k + 1) : rv s k = s.reverse := by
  apply List.ext_getElem?
  intro p
  by_cases hp : p < s.length
  · rw [rv_get s k p hp, List.getElem?_reverse hp]
    have h1 : s.length - 1 - p < s.length := by omega
    rw [List.getElem?_eq_getElem h1, rvG]
    congr 1
    split
    · rw [List.getD_eq_getElem?_getD, List.getElem?_eq_getElem h1]; rfl
    · have e : s.getD p 0 = s.getD (s.length - 1 - p) 0 := congrArg (s.getD · 0) (by omega)
      rw [e, List.getD_eq_getElem?_getD, List.getElem?_eq_getElem h1]; rfl
  · rw [List.getElem?_eq_none (by rw [rv_len]; omega), List.getElem?_eq_none (by rw [List.length_reverse]; omega)]
theorem rv_step (pre s : List Int) (k : Nat) (h : 2 * k + 1 < s.length) :
    ((pre ++ rv s k).set (pre.length + k) (rvG s k (s.length - 1 - k))).set (pre.length + (s.length - 1 - k)) (rvG s k k) = pre ++ rv s (k + 1) := by
  rw [List.set_append_right _ _ (by omega), List.set_append_right _ _ (by omega)]
  congr 1
  rw [show pre.length + k - pre.length = k by omega, show pre.length + (s.length - 1 - k) - pre.length = s.length - 1 - k by omega]
  apply List.ext_getElem?
  intro p
  by_cases hp : p < s.length
  · rw [rv_get s (k + 1) p hp, List.getElem?_set, List.getElem?_set, rv_get s k p hp]
    simp only [List.length_set, rv_len]
    unfold rvG
    by_cases h1 : s.length - 1 - k = p
    · subst h1
      rw [if_pos rfl, if_pos (by omega), if_neg (by omega), if_pos (by omega)]
      congr 2; omega
    · rw [if_neg h1]
      by_cases h2 : k = p
      · subst h2
        rw [if_pos rfl, if_pos (by omega), if_neg (by omega), if_pos (by omega)]
      · rw [if_neg h2]
        congr 1
        by_cases h3 : p < k ∨ s.length - k ≤ p
        · rw [if_pos h3, if_pos (by omega)]
        · rw [if_neg h3, if_neg (by omega)]
  · rw [List.getElem?_eq_none (by simp [rv_len]; omega), List.getElem?_eq_none (by rw [rv_len]; omega)]
theorem rv_at (pre s : List Int) (k p : Nat) (h : p < s.length) : (pre ++ rv s k).getD (pre.length + p) 0 = rvG s k p := by
  apply getD_some
  rw [List.getElem?_append_right (by omega), show pre.length + p - pre.length = p by omega, rv_get s k p h]
theorem rv_all (pre s : List Int) (k : Nat) : (pre ++ rv s k).length = pre.length + s.length := by rw [List.length_append, rv_len]
set_option maxRecDepth 20000 in
theorem rev_vc (pre s : List Int) (v : Value) (cp : Nat) (hL : 0 < s.length) (hc : s.length ≤ cp) (hb : pre.length + s.length ≤ 140737488355328) (B : List Nat) (w : World) (hm : MemOk w B [.own v (pre.length + s.length) 5 1 (.ints .u8 (pre ++ s))] w) :
    Calls Try.prog 22 (cvs [.sl 0 (some ⟨blkOf v, 0, none⟩) pre.length 0 1 s.length cp]).toArray w (fun en w' => ∃ u, en = .returned u ∧ ∃ v' m', u = cv v' ∧ MemOk w B m' w' ∧ v' = .tup [] ∧ bget m' 0 = .own v (pre.length + s.length) 5 1 (.ints .u8 (pre ++ s.reverse))) := by
  have hr0 := rv_zero s
  refine Vc.calls T0_ok Try.func22 rfl rfl (args := [.sl 0 (some ⟨blkOf v, 0, none⟩) pre.length 0 1 s.length cp]) (k := 27) rfl hm ?_; change Vc _ _ (c8 (.sl 0 (some ⟨blkOf v, 0, none⟩) pre.length 0 1 s.length cp) .undef .undef .undef .undef .undef .undef .undef (c8 .undef .undef .undef .undef .undef .undef .undef .undef (c8 .undef .undef .undef .undef .undef .undef .undef .undef ([.undef, .undef, .undef, .undef])))) _ _
  ((repeat (first | (with_reducible refine Vc.seq fun N hN => ?_) | (with_reducible refine Vc.block ?_) | ((first | with_reducible refine Vc.skip ?_ | with_reducible refine Vc.exit ?_); dsimp only [thenK, blockK, Nat.beq]; (first | (refine hN _ _ ?_; clear hN N) | skip)) | (with_reducible intro _) | ((with_reducible refine And.intro ?_ ?_); (focus (first | exact sideQ | exact sd0))) | ((first | ((with_reducible refine askT_of ?_ (fun hb => ?_)); (focus (first | exact sideQ | exact sd0)); (try simp only [hb])) | ((with_reducible refine Vc.fin ?_); dsimp only [thenK, blockK, retK, resS, resOne, resAll]) | ((with_reducible refine Vc.hold ?_); first | refine Vc.regiont T0_ok GZ0_ok ?_ | refine Vc.drawt (id := 3) T0_ok GZ0_ok (by kernel_rfl) [0, 1, 2, 3, 4, 5, 6, 7, 8, 9, 10, 11] 12 [] trivial (by kernel_rfl) ?_)); (try simp only [v8X, v8A, v8B, v8C, Nat.beq, Nat.ble, Int.reduceToNat, Int.reduceLE, Int.reduceLT, Nat.reduceLT, Nat.reduceLeDiff, Nat.reduceAdd, Nat.reduceMul, Nat.reduceSub, Int.reduceAdd, Int.reduceSub, Int.reduceMul, eq_self, decide_true, beq_self_eq_true, List.length_cons, List.length_nil, Nat.min_eq_left, IntKind.bits, tabs]); (try simp (disch := omega) only [v8W])) | ((with_reducible refine hN _ _ ?_); clear hN N; (try simp (disch := omega) only [v8W])))); (try ((with_reducible refine Fin.of ?_); (try with_reducible exact True.intro))))
  refine Vc.loop 2 28 (fun (k : Nat) => [(2, .int .i64 (k : Nat)), (3, .int .i64 ((s.length : Int) - 1 - (k : Nat)))]) (fun k => [.own v (pre.length + s.length) 5 1 (.ints .u8 (pre ++ rv s k))]) (fun k => 2 * k ≤ s.length) (fun k => s.length - k) 0 ⟨Nat.zero_le _, ?_, ?_⟩ (fun k junk hk => ?_)
  · ((try simp only [v8X, v8A, v8B, v8C, Nat.beq, Nat.ble, Int.reduceToNat, Int.reduceLE, Int.reduceLT, Nat.reduceLT, Nat.reduceLeDiff, Nat.reduceAdd, Nat.reduceMul, Nat.reduceSub, Int.reduceAdd, Int.reduceSub, Int.reduceMul, eq_self, decide_true, beq_self_eq_true, List.length_cons, List.length_nil, Nat.min_eq_left, IntKind.bits, tabs]); (repeat' with_reducible apply And.intro) <;> first | with_reducible exact True.intro | rfl | with_reducible rfl | (congr 1 <;> omega) | trivial)
  · ((try simp only [v8X, v8A, v8B, v8C, Nat.beq, Nat.ble, Int.reduceToNat, Int.reduceLE, Int.reduceLT, Nat.reduceLT, Nat.reduceLeDiff, Nat.reduceAdd, Nat.reduceMul, Nat.reduceSub, Int.reduceAdd, Int.reduceSub, Int.reduceMul, eq_self, decide_true, beq_self_eq_true, List.length_cons, List.length_nil, Nat.min_eq_left, IntKind.bits, tabs]); (repeat' with_reducible apply And.intro) <;> first | with_reducible exact True.intro | rw [hr0] | with_reducible rfl | (congr 1 <;> omega) | trivial)
  · (simp only [v8X, v8A, v8B, v8C, Nat.beq, Nat.ble, Int.reduceToNat, Int.reduceLE, Int.reduceLT, Nat.reduceLT, Nat.reduceLeDiff, Nat.reduceAdd, Nat.reduceMul, Nat.reduceSub, Int.reduceAdd, Int.reduceSub, Int.reduceMul, eq_self, decide_true, beq_self_eq_true, List.length_cons, List.length_nil, Nat.min_eq_left, IntKind.bits, tabs])
    by_cases h0 : 2 * k + 1 < s.length
    · have d1 : decide ((k : Int) < (s.length : Int) - 1 - (k : Int)) = true := decide_eq_true (by omega)
      have e1 : ((s.length : Int) - 1 - (k : Int)).toNat = s.length - 1 - k := by omega
      have g1 := rv_at pre s k (s.length - 1 - k) (by omega)
      have g2 := rv_at pre s k k (by omega)
      have hst := rv_step pre s k h0
      have hal := rv_all pre s k
      have hal2 := rv_all pre s (k + 1)
      ((repeat (first | (with_reducible refine Vc.seq fun N hN => ?_) | (with_reducible refine Vc.block ?_) | ((first | with_reducible refine Vc.skip ?_ | with_reducible refine Vc.exit ?_); dsimp only [thenK, blockK, Nat.beq]; (first | (refine hN _ _ ?_; clear hN N) | skip)) | (with_reducible intro _) | ((with_reducible refine And.intro ?_ ?_); (focus (first | exact sideQ | exact sd0))) | ((first | ((with_reducible refine askT_of ?_ (fun hb => ?_)); (focus (first | exact sideQ | exact sd0)); (try simp only [hb])) | ((with_reducible refine Vc.fin ?_); dsimp only [thenK, blockK, retK, resS, resOne, resAll]) | ((with_reducible refine Vc.hold ?_); first | refine Vc.regiont T0_ok GZ0_ok ?_ | refine Vc.drawt (id := 3) T0_ok GZ0_ok (by kernel_rfl) [0, 1, 2, 3, 4, 5, 6, 7, 8, 9, 10, 11] 12 [] trivial (by kernel_rfl) ?_)); (try simp only [v8X, v8A, v8B, v8C, Nat.beq, Nat.ble, Int.reduceToNat, Int.reduceLE, Int.reduceLT, Nat.reduceLT, Nat.reduceLeDiff, Nat.reduceAdd, Nat.reduceMul, Nat.reduceSub, Int.reduceAdd, Int.reduceSub, Int.reduceMul, eq_self, decide_true, beq_self_eq_true, List.length_cons, List.length_nil, Nat.min_eq_left, IntKind.bits, tabs, d1]); (try simp (disch := omega) only [v8W])) | ((with_reducible refine hN _ _ ?_); clear hN N; (try simp (disch := omega) only [v8W])))); (try ((with_reducible refine Fin.of ?_); (try with_reducible exact True.intro))))
      (refine Vc.cond T0_ok (t := true) (by rfl) (fun _ => ?_) (fun h => Bool.noConfusion h))
      ((repeat (first | (with_reducible refine Vc.seq fun N hN => ?_) | (with_reducible refine Vc.block ?_) | ((first | with_reducible refine Vc.skip ?_ | with_reducible refine Vc.exit ?_); dsimp only [thenK, blockK, Nat.beq]; (first | (refine hN _ _ ?_; clear hN N) | skip)) | (with_reducible intro _) | ((with_reducible refine And.intro ?_ ?_); (focus (first | ((repeat' with_reducible apply And.intro) <;> first | exact sideQ | (simp only [List.length_set]; omega)) | exact sd0))) | ((first | ((with_reducible refine askT_of ?_ (fun hb => ?_)); (focus (first | ((repeat' with_reducible apply And.intro) <;> first | exact sideQ | (simp only [List.length_set]; omega)) | exact sd0)); (try simp only [hb])) | ((with_reducible refine Vc.fin ?_); dsimp only [thenK, blockK, retK, resS, resOne, resAll]) | ((with_reducible refine Vc.hold ?_); first | refine Vc.regiont T0_ok GZ0_ok ?_ | refine Vc.drawt (id := 3) T0_ok GZ0_ok (by kernel_rfl) [0, 1, 2, 3, 4, 5, 6, 7, 8, 9, 10, 11] 12 [] trivial (by kernel_rfl) ?_)); (try simp only [v8X, v8A, v8B, v8C, Nat.beq, Nat.ble, Int.reduceToNat, Int.reduceLE, Int.reduceLT, Nat.reduceLT, Nat.reduceLeDiff, Nat.reduceAdd, Nat.reduceMul, Nat.reduceSub, Int.reduceAdd, Int.reduceSub, Int.reduceMul, eq_self, decide_true, beq_self_eq_true, List.length_cons, List.length_nil, Nat.min_eq_left, IntKind.bits, tabs, e1, tnc, g1, g2, addIx_eq, hal]); (try simp (disch := omega) only [v8W])) | ((with_reducible refine hN _ _ ?_); clear hN N; (try simp (disch := omega) only [v8W])))); (try ((with_reducible refine Fin.of ?_); (try with_reducible exact True.intro))))
      refine ⟨k + 1, by omega, ?_, ?_, by omega⟩
      · ((try simp only [v8X, v8A, v8B, v8C, Nat.beq, Nat.ble, Int.reduceToNat, Int.reduceLE, Int.reduceLT, Nat.reduceLT, Nat.reduceLeDiff, Nat.reduceAdd, Nat.reduceMul, Nat.reduceSub, Int.reduceAdd, Int.reduceSub, Int.reduceMul, eq_self, decide_true, beq_self_eq_true, List.length_cons, List.length_nil, Nat.min_eq_left, IntKind.bits, tabs]); (repeat' with_reducible apply And.intro) <;> first | with_reducible exact True.intro | fail | (congr 1 <;> omega))
      · ((try simp only [v8X, v8A, v8B, v8C, Nat.beq, Nat.ble, Int.reduceToNat, Int.reduceLE, Int.reduceLT, Nat.reduceLT, Nat.reduceLeDiff, Nat.reduceAdd, Nat.reduceMul, Nat.reduceSub, Int.reduceAdd, Int.reduceSub, Int.reduceMul, eq_self, decide_true, beq_self_eq_true, List.length_cons, List.length_nil, Nat.min_eq_left, IntKind.bits, tabs]); (repeat' with_reducible apply And.intro) <;> first | with_reducible exact True.intro | rw [hst] | (congr 1 <;> omega))
    · have d1 : decide ((k : Int) < (s.length : Int) - 1 - (k : Int)) = false := decide_eq_false (by omega)
      have he := rv_end s k (by omega)
      ((repeat (first | (with_reducible refine Vc.seq fun N hN => ?_) | (with_reducible refine Vc.block ?_) | ((first | with_reducible refine Vc.skip ?_ | with_reducible refine Vc.exit ?_); dsimp only [thenK, blockK, Nat.beq]; (first | (refine hN _ _ ?_; clear hN N) | skip)) | (with_reducible intro _) | ((with_reducible refine And.intro ?_ ?_); (focus (first | exact sideQ | exact sd0))) | ((first | ((with_reducible refine askT_of ?_ (fun hb => ?_)); (focus (first | exact sideQ | exact sd0)); (try simp only [hb])) | ((with_reducible refine Vc.fin ?_); dsimp only [thenK, blockK, retK, resS, resOne, resAll]) | ((with_reducible refine Vc.hold ?_); first | refine Vc.regiont T0_ok GZ0_ok ?_ | refine Vc.drawt (id := 3) T0_ok GZ0_ok (by kernel_rfl) [0, 1, 2, 3, 4, 5, 6, 7, 8, 9, 10, 11] 12 [] trivial (by kernel_rfl) ?_)); (try simp only [v8X, v8A, v8B, v8C, Nat.beq, Nat.ble, Int.reduceToNat, Int.reduceLE, Int.reduceLT, Nat.reduceLT, Nat.reduceLeDiff, Nat.reduceAdd, Nat.reduceMul, Nat.reduceSub, Int.reduceAdd, Int.reduceSub, Int.reduceMul, eq_self, decide_true, beq_self_eq_true, List.length_cons, List.length_nil, Nat.min_eq_left, IntKind.bits, tabs, d1]); (try simp (disch := omega) only [v8W])) | ((with_reducible refine hN _ _ ?_); clear hN N; (try simp (disch := omega) only [v8W])))); (try ((with_reducible refine Fin.of ?_); (try with_reducible exact True.intro))))
      (refine Vc.cond T0_ok (t := false) (by rfl) (fun h => Bool.noConfusion h) (fun _ => ?_))
      ((repeat (first | (with_reducible refine Vc.seq fun N hN => ?_) | (with_reducible refine Vc.block ?_) | ((first | with_reducible refine Vc.skip ?_ | with_reducible refine Vc.exit ?_); dsimp only [thenK, blockK, Nat.beq]; (first | (refine hN _ _ ?_; clear hN N) | skip)) | (with_reducible intro _) | ((with_reducible refine And.intro ?_ ?_); (focus (first | exact sideQ | exact sd0))) | ((first | ((with_reducible refine askT_of ?_ (fun hb => ?_)); (focus (first | exact sideQ | exact sd0)); (try simp only [hb])) | ((with_reducible refine Vc.fin ?_); dsimp only [thenK, blockK, retK, resS, resOne, resAll]) | ((with_reducible refine Vc.hold ?_); first | refine Vc.regiont T0_ok GZ0_ok ?_ | refine Vc.drawt (id := 3) T0_ok GZ0_ok (by kernel_rfl) [0, 1, 2, 3, 4, 5, 6, 7, 8, 9, 10, 11] 12 [] trivial (by kernel_rfl) ?_)); (try simp only [v8X, v8A, v8B, v8C, Nat.beq, Nat.ble, Int.reduceToNat, Int.reduceLE, Int.reduceLT, Nat.reduceLT, Nat.reduceLeDiff, Nat.reduceAdd, Nat.reduceMul, Nat.reduceSub, Int.reduceAdd, Int.reduceSub, Int.reduceMul, eq_self, decide_true, beq_self_eq_true, List.length_cons, List.length_nil, Nat.min_eq_left, IntKind.bits, tabs]); (try simp (disch := omega) only [v8W])) | ((with_reducible refine hN _ _ ?_); clear hN N; (try simp (disch := omega) only [v8W])))); (try ((with_reducible refine Fin.of ?_); (try with_reducible exact True.intro))))
      exact ⟨trivial, rfl, by rw [he]; rfl⟩
theorem rev0_vc (a : Option Addr) (st0 cp : Nat) (B : List Nat) (m : List Blk) (w : World) (hm : MemOk w B m w) :
    Calls Try.prog 22 (cvs [.sl 0 a 0 st0 1 0 cp]).toArray w (fun en w' => ∃ u, en = .returned u ∧ ∃ v' m', u = cv v' ∧ MemOk w B m' w' ∧ v' = .tup [] ∧ m' = m) := by
  refine Vc.calls T0_ok Try.func22 rfl rfl (args := [.sl 0 a 0 st0 1 0 cp]) (k := 27) rfl hm ?_; change Vc _ _ (c8 (.sl 0 a 0 st0 1 0 cp) .undef .undef .undef .undef .undef .undef .undef (c8 .undef .undef .undef .undef .undef .undef .undef .undef (c8 .undef .undef .undef .undef .undef .undef .undef .undef ([.undef, .undef, .undef, .undef])))) _ _
  ((repeat (first | (with_reducible refine Vc.seq fun N hN => ?_) | (with_reducible refine Vc.block ?_) | ((first | with_reducible refine Vc.skip ?_ | with_reducible refine Vc.exit ?_); dsimp only [thenK, blockK, Nat.beq]; (first | (refine hN _ _ ?_; clear hN N) | skip)) | (with_reducible intro _) | ((with_reducible refine And.intro ?_ ?_); (focus (first | exact sideQ | exact sd0))) | ((first | ((with_reducible refine askT_of ?_ (fun hb => ?_)); (focus (first | exact sideQ | exact sd0)); (try simp only [hb])) | ((with_reducible refine Vc.fin ?_); dsimp only [thenK, blockK, retK, resS, resOne, resAll]) | ((with_reducible refine Vc.hold ?_); first | refine Vc.regiont T0_ok GZ0_ok ?_ | refine Vc.drawt (id := 3) T0_ok GZ0_ok (by kernel_rfl) [0, 1, 2, 3, 4, 5, 6, 7, 8, 9, 10, 11] 12 [] trivial (by kernel_rfl) ?_)); (try simp only [v8X, v8A, v8B, v8C, Nat.beq, Nat.ble, Int.reduceToNat, Int.reduceLE, Int.reduceLT, Nat.reduceLT, Nat.reduceLeDiff, Nat.reduceAdd, Nat.reduceMul, Nat.reduceSub, Int.reduceAdd, Int.reduceSub, Int.reduceMul, eq_self, decide_true, beq_self_eq_true, List.length_cons, List.length_nil, Nat.min_eq_left, IntKind.bits, tabs]); (try simp (disch := omega) only [v8W])) | ((with_reducible refine hN _ _ ?_); clear hN N; (try simp (disch := omega) only [v8W])))); (try ((with_reducible refine Fin.of ?_); (try with_reducible exact True.intro))))
  refine Vc.loop 2 28 (fun (k : Nat) => [(2, .int .i64 0), (3, .int .i64 (-1))]) (fun k => m) (fun k => True) (fun k => k) 0 ⟨trivial, ?_, ?_⟩ (fun k junk hk => ?_)
  · ((try simp only [v8X, v8A, v8B, v8C, Nat.beq, Nat.ble, Int.reduceToNat, Int.reduceLE, Int.reduceLT, Nat.reduceLT, Nat.reduceLeDiff, Nat.reduceAdd, Nat.reduceMul, Nat.reduceSub, Int.reduceAdd, Int.reduceSub, Int.reduceMul, eq_self, decide_true, beq_self_eq_true, List.length_cons, List.length_nil, Nat.min_eq_left, IntKind.bits, tabs]); (repeat' with_reducible apply And.intro) <;> first | with_reducible exact True.intro | rfl | with_reducible rfl | (congr 1 <;> omega) | trivial)
  · exact bpre_refl m
  · (simp only [v8X, v8A, v8B, v8C, Nat.beq, Nat.ble, Int.reduceToNat, Int.reduceLE, Int.reduceLT, Nat.reduceLT, Nat.reduceLeDiff, Nat.reduceAdd, Nat.reduceMul, Nat.reduceSub, Int.reduceAdd, Int.reduceSub, Int.reduceMul, eq_self, decide_true, beq_self_eq_true, List.length_cons, List.length_nil, Nat.min_eq_left, IntKind.bits, tabs])
    ((repeat (first | (with_reducible refine Vc.seq fun N hN => ?_) | (with_reducible refine Vc.block ?_) | ((first | with_reducible refine Vc.skip ?_ | with_reducible refine Vc.exit ?_); dsimp only [thenK, blockK, Nat.beq]; (first | (refine hN _ _ ?_; clear hN N) | skip)) | (with_reducible intro _) | ((with_reducible refine And.intro ?_ ?_); (focus (first | exact sideQ | exact sd0))) | ((first | ((with_reducible refine askT_of ?_ (fun hb => ?_)); (focus (first | exact sideQ | exact sd0)); (try simp only [hb])) | ((with_reducible refine Vc.fin ?_); dsimp only [thenK, blockK, retK, resS, resOne, resAll]) | ((with_reducible refine Vc.hold ?_); first | refine Vc.regiont T0_ok GZ0_ok ?_ | refine Vc.drawt (id := 3) T0_ok GZ0_ok (by kernel_rfl) [0, 1, 2, 3, 4, 5, 6, 7, 8, 9, 10, 11] 12 [] trivial (by kernel_rfl) ?_)); (try simp only [v8X, v8A, v8B, v8C, Nat.beq, Nat.ble, Int.reduceToNat, Int.reduceLE, Int.reduceLT, Nat.reduceLT, Nat.reduceLeDiff, Nat.reduceAdd, Nat.reduceMul, Nat.reduceSub, Int.reduceAdd, Int.reduceSub, Int.reduceMul, eq_self, decide_true, beq_self_eq_true, List.length_cons, List.length_nil, Nat.min_eq_left, IntKind.bits, tabs]); (try simp (disch := omega) only [v8W])) | ((with_reducible refine hN _ _ ?_); clear hN N; (try simp (disch := omega) only [v8W])))); (try ((with_reducible refine Fin.of ?_); (try with_reducible exact True.intro))))
    (refine Vc.cond T0_ok (t := false) (by rfl) (fun h => Bool.noConfusion h) (fun _ => ?_))
    ((repeat (first | (with_reducible refine Vc.seq fun N hN => ?_) | (with_reducible refine Vc.block ?_) | ((first | with_reducible refine Vc.skip ?_ | with_reducible refine Vc.exit ?_); dsimp only [thenK, blockK, Nat.beq]; (first | (refine hN _ _ ?_; clear hN N) | skip)) | (with_reducible intro _) | ((with_reducible refine And.intro ?_ ?_); (focus (first | exact sideQ | exact sd0))) | ((first | ((with_reducible refine askT_of ?_ (fun hb => ?_)); (focus (first | exact sideQ | exact sd0)); (try simp only [hb])) | ((with_reducible refine Vc.fin ?_); dsimp only [thenK, blockK, retK, resS, resOne, resAll]) | ((with_reducible refine Vc.hold ?_); first | refine Vc.regiont T0_ok GZ0_ok ?_ | refine Vc.drawt (id := 3) T0_ok GZ0_ok (by kernel_rfl) [0, 1, 2, 3, 4, 5, 6, 7, 8, 9, 10, 11] 12 [] trivial (by kernel_rfl) ?_)); (try simp only [v8X, v8A, v8B, v8C, Nat.beq, Nat.ble, Int.reduceToNat, Int.reduceLE, Int.reduceLT, Nat.reduceLT, Nat.reduceLeDiff, Nat.reduceAdd, Nat.reduceMul, Nat.reduceSub, Int.reduceAdd, Int.reduceSub, Int.reduceMul, eq_self, decide_true, beq_self_eq_true, List.length_cons, List.length_nil, Nat.min_eq_left, IntKind.bits, tabs]); (try simp (disch := omega) only [v8W])) | ((with_reducible refine hN _ _ ?_); clear hN N; (try simp (disch := omega) only [v8W])))); (try ((with_reducible refine Fin.of ?_); (try with_reducible exact True.intro))))
    exact ⟨trivial, rfl, rfl⟩
theorem turn_own {P : Program} {f : FuncId} {fn : Func} (hf : P.funcs[f]? = some fn) (hn : (fn.name == "runtime.NumGoroutine") = false) (hb : fn.body.isNone = false) {args args' : List SV} {w0 w : World} {B : List Nat} {m : List Blk} {nm n : Nat} {t : TypeId} {v : Value} {es : Nat} {con con' : Con} {v0 : SV}
    (hm : MemOk w0 B m w) (hbg : bget m nm = .own v n t es con) (he : cvs args = cvs args') (h : Calls P f (cvs args').toArray w (fun en w' => ∃ u, en = .returned u ∧ ∃ v' m', u = cv v' ∧ MemOk w v.ownBlock.toList m' w' ∧ v' = v0 ∧ bget m' 0 = .own v n t es con')) :
    Enters P f (cvs args).toArray w fun u w' => u = cv v0 ∧ MemOk w0 B (bset m nm (withCon (bget m nm) con')) w' := by
  rw [he]
  refine .inr ⟨enter_run hf hn hb _ w, h.mono fun e w' ⟨u, hu, v', m', hv, hm', hvv, hk⟩ => ⟨u, hu, by rw [hv, hvv], ?_⟩⟩
  rw [hbg]
  exact own_end hm hbg hm' (hm'.each _ (bget_mem hk (by simp)))
def g_Rev (args : List SV) (m : List Blk) : CR :=
  match args with
  | [.sl nm a st st0 es len cap] => match bget m nm with
    | .own v n t es' (.ints k xs) => .turn ((len = 0 ∨ a = some ⟨blkOf v, 0, none⟩) ∧ es = 1 ∧ es' = 1 ∧ k = .u8 ∧ t = 5 ∧ st + len = n ∧ len ≤ cap ∧ n ≤ 140737488355328) nm (.ints .u8 (xs.take st ++ (xs.drop st).reverse)) (.tup [])
    | _ => .none
  | [.own nm v n] => match bget m nm with
    | .own v' n' t es' (.ints k xs) => .turn (v = v' ∧ n = n' ∧ es' = 1 ∧ k = .u8 ∧ t = 5 ∧ n ≤ 140737488355328) nm (.ints .u8 xs.reverse) (.tup [])
    | _ => .none
  | _ => .none
theorem g_Rev_ok (w0 : World) (B : List Nat) (args : List SV) (m : List Blk) : CROk Try.prog w0 B 22 args m (g_Rev args m) := by
  unfold g_Rev
  split
  · rename_i nm a st st0 es len cap
    split
    · rename_i v n t es' k xs hbg
      intro ⟨h1, h2, h3, h4, h5, h6, h7, h8⟩ w hm
      subst h2; subst h3; subst h4; subst h5
      have hl := own_ints_len (hm.each _ (bget_mem hbg (by simp)))
      have hbg' : bget m nm = .own v n 5 1 (.ints .u8 xs) := hbg
      by_cases h0 : len = 0
      · subst h0
        have e1 : (xs.drop st).reverse = [] := by rw [List.drop_of_length_le (by omega)]; rfl
        have e2 : xs.take st ++ (xs.drop st).reverse = xs := by rw [e1, List.take_of_length_le (by omega), List.append_nil]
        rw [e2]
        have e3 : cvs [SV.sl nm a st st0 1 0 cap] = cvs [.sl 0 (a.map (·.add (if cap = 0 then st0 else st))) 0 0 1 0 cap] := by
          simp only [cvs, cv, Nat.mul_one, ite_self, map_add_add, Nat.add_zero]
        exact turn_own Try.func22 rfl rfl hm hbg' e3 ((rev0_vc _ 0 cap _ _ w (own_start hm hbg')).mono fun e w' ⟨u, hu, v', m', hv, hm', hvv, hk⟩ => ⟨u, hu, v', m', hv, hm', hvv, by rw [hk]; rfl⟩)
      · obtain rfl := h1.resolve_left h0
        have hs : (xs.drop st).length = len := by rw [List.length_drop]; omega
        have hp : (xs.take st).length = st := by rw [List.length_take]; omega
        have hx : xs.take st ++ xs.drop st = xs := List.take_append_drop st xs
        have e3 : cvs [SV.sl nm (some ⟨blkOf v, 0, none⟩) st st0 1 len cap] = cvs [.sl 0 (some ⟨blkOf v, 0, none⟩) (xs.take st).length 0 1 (xs.drop st).length cap] := by
          rw [hs, hp]
          simp only [cvs, cv]
          rw [if_neg (by omega), if_neg (by omega)]
        have hn : (xs.take st).length + (xs.drop st).length = n := by omega
        have hmm := own_start hm hbg'
        rw [← hn, ← hx] at hmm
        simp only [List.take_left' hp, List.drop_left' hp] at hmm
        have key := rev_vc (xs.take st) (xs.drop st) v cap (by omega) (by omega) (by omega) _ w hmm
        rw [hn] at key
        exact turn_own Try.func22 rfl rfl hm hbg' e3 key
    · exact trivial
  · rename_i nm v n
    split
    · rename_i v' n' t es' k xs hbg
      intro ⟨h1, h2, h3, h4, h5, h8⟩ w hm
      subst h1; subst h2; subst h3; subst h4; subst h5
      have hok := hm.each _ (bget_mem hbg (by simp))
      have hl := own_ints_len hok
      have hbg' : bget m nm = .own v n 5 1 (.ints .u8 xs) := hbg
      by_cases h0 : n = 0
      · subst h0
        have e0 : xs = [] := List.eq_nil_of_length_eq_zero hl
        obtain ⟨a, c, hv⟩ := own_len hok.1
        have e3 : cvs [SV.own nm v 0] = cvs [.sl 0 a 0 0 1 0 c] := by
          rw [hv]
          simp only [cvs, cv, slV, ite_self, Nat.zero_mul]
          cases a with
          | none => rfl
          | some a => simp [Addr.add]
        have e4 : xs.reverse = xs := by rw [e0]; rfl
        rw [e4]
        exact turn_own Try.func22 rfl rfl hm hbg' e3 ((rev0_vc _ 0 c _ _ w (own_start hm hbg')).mono fun e w' ⟨u, hu, v', m', hv, hm', hvv, hk⟩ => ⟨u, hu, v', m', hv, hm', hvv, by rw [hk]; rfl⟩)
      · obtain ⟨g, c, hv⟩ := own_pos hok.1 (by omega)
        have hcp : n ≤ c := by
          obtain ⟨_, h | ⟨g', c', cur, h, _, _, h2, _⟩⟩ := hok.1
          · omega
          · rw [hv] at h; cases h; exact h2
        have e3 : cvs [SV.own nm v n] = cvs [.sl 0 (some ⟨blkOf v, 0, none⟩) ([] : List Int).length 0 1 xs.length c] := by
          rw [hl, hv]
          simp only [cvs, cv, slV, blkOf, blkO, List.length_nil, ite_self, Nat.zero_mul, Option.map_some, addr_add, Nat.zero_add]
        have hn : ([] : List Int).length + xs.length = n := by simp [hl]
        have hmm := own_start hm hbg'
        rw [← hn] at hmm
        have key := rev_vc [] xs v c (by omega) (by omega) (by simp; omega) _ w hmm
        rw [hn] at key
        exact turn_own Try.func22 rfl rfl hm hbg' e3 key
    · exact trivial
  · exact trivial
end Go.Proofs.Ytlogpdjcgbifhaa
