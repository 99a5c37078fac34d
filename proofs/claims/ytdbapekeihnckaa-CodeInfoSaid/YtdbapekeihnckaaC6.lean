/-
  Bytecode (package code): At, Push, walked; the contract of Jumps; the chapter's examples. No condition.
-/
import Derived.Test.YtdbapekeihnckaaC5
import Derived.Laws.Bits64
namespace Go.Proofs.Ytdbapekeihnckaa
set_option linter.unusedSimpArgs false
set_option linter.unusedVariables false
set_option maxHeartbeats 4000000
open Go.RowKit
theorem allB_take {xs : List Int} (h : allB xs) (n : Nat) : allB (xs.take n) := fun x hx => h x (List.mem_of_mem_take hx)
theorem by_rng {xs : List Int} (hx : allB xs) (k : Nat) : 0 ≤ xs.getD k 0 ∧ xs.getD k 0 ≤ 255 := by
  rw [List.getD_eq_getElem?_getD]
  cases h : xs[k]? with
  | none => decide
  | some y => exact hx y (List.mem_of_getElem? h)
theorem getD_far {xs : List Int} {k : Nat} (h : xs.length ≤ k) : xs.getD k 0 = 0 := by rw [List.getD_eq_getElem?_getD, List.getElem?_eq_none h]; rfl
theorem at_vc (xs : List Int) (a : Option Addr) (n cp : Nat) (pc : Int) (hl : xs.length = n) (hc : n ≤ cp) (hb : n ≤ 1000000) (ha : adr a n cp) (hp : 0 ≤ pc ∧ pc ≤ 18446744073709551615) (w : World) (hm : MemOk w [] [.ro a (.ints .u8 xs)] w) :
    Calls Try.prog 12 (cvs [.sl 0 a 0 0 1 n cp, .int .u64 pc]).toArray w (fun en w' => ∃ u, en = .returned u ∧ ∃ v m', u = cv v ∧ MemOk w [] m' w' ∧ v = .int .u8 (xs.getD pc.toNat 0)) := by
  have hw : IntKind.u64.wrap (n : Int) = n := by rw [IntKind.wrap_u64]; omega
  by_cases h : (n : Int) ≤ pc
  · have d1 : decide ((n : Int) ≤ pc) = true := decide_eq_true h
    have e1 := getD_far (xs := xs) (k := pc.toNat) (by omega)
    refine Vc.calls T0_ok Try.func12 rfl rfl (args := [.sl 0 a 0 0 1 n cp, .int .u64 pc]) (k := 12) rfl hm ?_; change Vc _ _ (c8 (.sl 0 a 0 0 1 n cp) (.int .u64 pc) .undef .undef .undef .undef .undef .undef ([.undef, .undef, .undef, .undef, .undef, .undef])) _ _
    ((repeat (first | (with_reducible refine Vc.seq fun N hN => ?_) | (with_reducible refine Vc.block ?_) | ((with_reducible refine Vc.skip ?_); dsimp only [thenK, blockK, Nat.beq]; (first | (refine hN _ _ ?_; clear hN N) | skip)) | ((with_reducible refine Vc.exit ?_); dsimp only [thenK, blockK, Nat.beq]; (first | (refine hN _ _ ?_; clear hN N) | skip)) | (with_reducible intro _) | ((with_reducible refine And.intro ?_ ?_); (focus (first | ((repeat' with_reducible apply And.intro) <;> first | with_reducible exact True.intro | with_reducible assumption | with_reducible rfl | with_reducible exact allU_0 | omega) | exact sd0))) | ((first | ((with_reducible refine askT_of ?_ (fun hb => ?_)); (focus (first | ((repeat' with_reducible apply And.intro) <;> first | with_reducible exact True.intro | with_reducible assumption | with_reducible rfl | with_reducible exact allU_0 | omega) | exact sd0)); (try simp only [hb])) | ((with_reducible refine Vc.fin ?_); dsimp only [thenK, blockK, retK, resS, resOne, resAll]) | ((with_reducible refine Vc.hold ?_); first | refine Vc.regiont T0_ok GZ0_ok ?_)); (try simp only [pickO, nthO, dropO, dOp.eq_def, v8A, strIx.eq_def, appT.eq_def, copyStep.eq_def, copyC.eq_def, v8B, adr_some, adr_nil, true_or, dstOf, Bool.not_true, Bool.not_false, evs, evp, v8C, sget, sset, blen, bpush, bget, bset, Nat.beq, Nat.ble, Nat.blt.eq_def, nth?, nthF, tys, takeN, Nat.zero_add, fillS, splice, allOne, ordL, intL, wordL, rowL, sapp, resAll, und, lk, hav, agr, bpre, Int.reduceToNat, Int.reduceLE, Int.reduceLT, Nat.reduceLT, Nat.reduceLeDiff, Nat.reduceAdd, Nat.reduceMul, Nat.reduceSub, Int.reduceAdd, Int.reduceSub, Int.reduceMul, eq_self, decide_true, beq_self_eq_true, List.length_cons, List.length_nil, Nat.min_eq_left, IntKind.bits, tabs, hw, d1]); (try simp (disch := omega) only [v8W])) | ((with_reducible refine hN _ _ ?_); clear hN N; (try simp (disch := omega) only [v8W])))); (try ((with_reducible refine Fin.of ?_); (try with_reducible exact True.intro))))
    (refine Vc.cond T0_ok (t := true) (by rfl) (fun _ => ?_) (fun h => Bool.noConfusion h))
    ((repeat (first | (with_reducible refine Vc.seq fun N hN => ?_) | (with_reducible refine Vc.block ?_) | ((with_reducible refine Vc.skip ?_); dsimp only [thenK, blockK, Nat.beq]; (first | (refine hN _ _ ?_; clear hN N) | skip)) | ((with_reducible refine Vc.exit ?_); dsimp only [thenK, blockK, Nat.beq]; (first | (refine hN _ _ ?_; clear hN N) | skip)) | (with_reducible intro _) | ((with_reducible refine And.intro ?_ ?_); (focus (first | ((repeat' with_reducible apply And.intro) <;> first | with_reducible exact True.intro | with_reducible assumption | with_reducible rfl | with_reducible exact allU_0 | omega) | exact sd0))) | ((first | ((with_reducible refine askT_of ?_ (fun hb => ?_)); (focus (first | ((repeat' with_reducible apply And.intro) <;> first | with_reducible exact True.intro | with_reducible assumption | with_reducible rfl | with_reducible exact allU_0 | omega) | exact sd0)); (try simp only [hb])) | ((with_reducible refine Vc.fin ?_); dsimp only [thenK, blockK, retK, resS, resOne, resAll]) | ((with_reducible refine Vc.hold ?_); first | refine Vc.regiont T0_ok GZ0_ok ?_)); (try simp only [pickO, nthO, dropO, dOp.eq_def, v8A, strIx.eq_def, appT.eq_def, copyStep.eq_def, copyC.eq_def, v8B, adr_some, adr_nil, true_or, dstOf, Bool.not_true, Bool.not_false, evs, evp, v8C, sget, sset, blen, bpush, bget, bset, Nat.beq, Nat.ble, Nat.blt.eq_def, nth?, nthF, tys, takeN, Nat.zero_add, fillS, splice, allOne, ordL, intL, wordL, rowL, sapp, resAll, und, lk, hav, agr, bpre, Int.reduceToNat, Int.reduceLE, Int.reduceLT, Nat.reduceLT, Nat.reduceLeDiff, Nat.reduceAdd, Nat.reduceMul, Nat.reduceSub, Int.reduceAdd, Int.reduceSub, Int.reduceMul, eq_self, decide_true, beq_self_eq_true, List.length_cons, List.length_nil, Nat.min_eq_left, IntKind.bits, tabs]); (try simp (disch := omega) only [v8W])) | ((with_reducible refine hN _ _ ?_); clear hN N; (try simp (disch := omega) only [v8W])))); (try ((with_reducible refine Fin.of ?_); (try with_reducible exact True.intro))))
    ((try simp only [v8A, strIx.eq_def, appT.eq_def, copyStep.eq_def, copyC.eq_def, v8B, adr_some, adr_nil, true_or, dstOf, Bool.not_true, Bool.not_false, evs, evp, v8C, sget, sset, blen, bpush, bget, bset, Nat.beq, Nat.ble, Nat.blt.eq_def, nth?, nthF, tys, takeN, Nat.zero_add, fillS, splice, allOne, ordL, intL, wordL, rowL, sapp, resAll, und, lk, hav, agr, bpre, Int.reduceToNat, Int.reduceLE, Int.reduceLT, Nat.reduceLT, Nat.reduceLeDiff, Nat.reduceAdd, Nat.reduceMul, Nat.reduceSub, Int.reduceAdd, Int.reduceSub, Int.reduceMul, eq_self, decide_true, beq_self_eq_true, List.length_cons, List.length_nil, Nat.min_eq_left, IntKind.bits, tabs]); (repeat' with_reducible apply And.intro) <;> first | with_reducible exact True.intro | rw [e1] | (congr 1 <;> omega))
  · have d1 : decide ((n : Int) ≤ pc) = false := decide_eq_false h
    refine Vc.calls T0_ok Try.func12 rfl rfl (args := [.sl 0 a 0 0 1 n cp, .int .u64 pc]) (k := 12) rfl hm ?_; change Vc _ _ (c8 (.sl 0 a 0 0 1 n cp) (.int .u64 pc) .undef .undef .undef .undef .undef .undef ([.undef, .undef, .undef, .undef, .undef, .undef])) _ _
    ((repeat (first | (with_reducible refine Vc.seq fun N hN => ?_) | (with_reducible refine Vc.block ?_) | ((with_reducible refine Vc.skip ?_); dsimp only [thenK, blockK, Nat.beq]; (first | (refine hN _ _ ?_; clear hN N) | skip)) | ((with_reducible refine Vc.exit ?_); dsimp only [thenK, blockK, Nat.beq]; (first | (refine hN _ _ ?_; clear hN N) | skip)) | (with_reducible intro _) | ((with_reducible refine And.intro ?_ ?_); (focus (first | ((repeat' with_reducible apply And.intro) <;> first | with_reducible exact True.intro | with_reducible assumption | with_reducible rfl | with_reducible exact allU_0 | omega) | exact sd0))) | ((first | ((with_reducible refine askT_of ?_ (fun hb => ?_)); (focus (first | ((repeat' with_reducible apply And.intro) <;> first | with_reducible exact True.intro | with_reducible assumption | with_reducible rfl | with_reducible exact allU_0 | omega) | exact sd0)); (try simp only [hb])) | ((with_reducible refine Vc.fin ?_); dsimp only [thenK, blockK, retK, resS, resOne, resAll]) | ((with_reducible refine Vc.hold ?_); first | refine Vc.regiont T0_ok GZ0_ok ?_)); (try simp only [pickO, nthO, dropO, dOp.eq_def, v8A, strIx.eq_def, appT.eq_def, copyStep.eq_def, copyC.eq_def, v8B, adr_some, adr_nil, true_or, dstOf, Bool.not_true, Bool.not_false, evs, evp, v8C, sget, sset, blen, bpush, bget, bset, Nat.beq, Nat.ble, Nat.blt.eq_def, nth?, nthF, tys, takeN, Nat.zero_add, fillS, splice, allOne, ordL, intL, wordL, rowL, sapp, resAll, und, lk, hav, agr, bpre, Int.reduceToNat, Int.reduceLE, Int.reduceLT, Nat.reduceLT, Nat.reduceLeDiff, Nat.reduceAdd, Nat.reduceMul, Nat.reduceSub, Int.reduceAdd, Int.reduceSub, Int.reduceMul, eq_self, decide_true, beq_self_eq_true, List.length_cons, List.length_nil, Nat.min_eq_left, IntKind.bits, tabs, hw, d1]); (try simp (disch := omega) only [v8W])) | ((with_reducible refine hN _ _ ?_); clear hN N; (try simp (disch := omega) only [v8W])))); (try ((with_reducible refine Fin.of ?_); (try with_reducible exact True.intro))))
    (refine Vc.cond T0_ok (t := false) (by rfl) (fun h => Bool.noConfusion h) (fun _ => ?_))
    ((repeat (first | (with_reducible refine Vc.seq fun N hN => ?_) | (with_reducible refine Vc.block ?_) | ((with_reducible refine Vc.skip ?_); dsimp only [thenK, blockK, Nat.beq]; (first | (refine hN _ _ ?_; clear hN N) | skip)) | ((with_reducible refine Vc.exit ?_); dsimp only [thenK, blockK, Nat.beq]; (first | (refine hN _ _ ?_; clear hN N) | skip)) | (with_reducible intro _) | ((with_reducible refine And.intro ?_ ?_); (focus (first | ((repeat' with_reducible apply And.intro) <;> first | with_reducible exact True.intro | with_reducible assumption | with_reducible rfl | with_reducible exact allU_0 | omega) | exact sd0))) | ((first | ((with_reducible refine askT_of ?_ (fun hb => ?_)); (focus (first | ((repeat' with_reducible apply And.intro) <;> first | with_reducible exact True.intro | with_reducible assumption | with_reducible rfl | with_reducible exact allU_0 | omega) | exact sd0)); (try simp only [hb])) | ((with_reducible refine Vc.fin ?_); dsimp only [thenK, blockK, retK, resS, resOne, resAll]) | ((with_reducible refine Vc.hold ?_); first | refine Vc.regiont T0_ok GZ0_ok ?_)); (try simp only [pickO, nthO, dropO, dOp.eq_def, v8A, strIx.eq_def, appT.eq_def, copyStep.eq_def, copyC.eq_def, v8B, adr_some, adr_nil, true_or, dstOf, Bool.not_true, Bool.not_false, evs, evp, v8C, sget, sset, blen, bpush, bget, bset, Nat.beq, Nat.ble, Nat.blt.eq_def, nth?, nthF, tys, takeN, Nat.zero_add, fillS, splice, allOne, ordL, intL, wordL, rowL, sapp, resAll, und, lk, hav, agr, bpre, Int.reduceToNat, Int.reduceLE, Int.reduceLT, Nat.reduceLT, Nat.reduceLeDiff, Nat.reduceAdd, Nat.reduceMul, Nat.reduceSub, Int.reduceAdd, Int.reduceSub, Int.reduceMul, eq_self, decide_true, beq_self_eq_true, List.length_cons, List.length_nil, Nat.min_eq_left, IntKind.bits, tabs]); (try simp (disch := omega) only [v8W])) | ((with_reducible refine hN _ _ ?_); clear hN N; (try simp (disch := omega) only [v8W])))); (try ((with_reducible refine Fin.of ?_); (try with_reducible exact True.intro))))
    ((try simp only [v8A, strIx.eq_def, appT.eq_def, copyStep.eq_def, copyC.eq_def, v8B, adr_some, adr_nil, true_or, dstOf, Bool.not_true, Bool.not_false, evs, evp, v8C, sget, sset, blen, bpush, bget, bset, Nat.beq, Nat.ble, Nat.blt.eq_def, nth?, nthF, tys, takeN, Nat.zero_add, fillS, splice, allOne, ordL, intL, wordL, rowL, sapp, resAll, und, lk, hav, agr, bpre, Int.reduceToNat, Int.reduceLE, Int.reduceLT, Nat.reduceLT, Nat.reduceLeDiff, Nat.reduceAdd, Nat.reduceMul, Nat.reduceSub, Int.reduceAdd, Int.reduceSub, Int.reduceMul, eq_self, decide_true, beq_self_eq_true, List.length_cons, List.length_nil, Nat.min_eq_left, IntKind.bits, tabs]); (repeat' with_reducible apply And.intro) <;> first | with_reducible exact True.intro | rfl | with_reducible rfl | (congr 1 <;> omega) | trivial)
def g_At (args : List SV) (m : List Blk) : CR :=
  match args with
  | [.nilsl, .int .u64 pc] => .pure (0 ≤ pc ∧ pc ≤ 18446744073709551615) (.int .u8 0)
  | [x, .int .u64 pc] => match srcC x m with
    | some (q, k, .ints .u8 xs) => .pure (q ∧ k ≤ 1000000 ∧ (0 ≤ pc ∧ pc ≤ 18446744073709551615)) (.int .u8 (xs.getD pc.toNat 0))
    | _ => .none
  | _ => .none
theorem g_At_ok (w0 : World) (B : List Nat) (args : List SV) (m : List Blk) : CROk Try.prog w0 B 12 args m (g_At args m) := by
  unfold g_At
  split
  · rename_i pc
    intro hp w hm
    have hnil : MemOk w [] [.ro none (.ints .u8 [])] w := ro_cons (ro_nil w) (by intro j u hj; simp [cc] at hj)
    exact calls_pure Try.func12 rfl rfl (at_vc [] none 0 0 pc rfl (Nat.le_refl _) (Nat.zero_le _) (.inr ⟨rfl, rfl, rfl⟩) hp w hnil)
  · rename_i x pc _
    split
    · rename_i q k xs hs
      intro ⟨hq, hk, hp⟩ w hm
      obtain ⟨l1, a, cp, e1, b1, m1, d1⟩ := src_ro hs hq hm
      have hl : xs.length = k := by simpa [cc, conEs] using l1
      have e : cvs [x, .int .u64 pc] = cvs [.sl 0 a 0 0 1 k cp, .int .u64 pc] := by simp only [cvs]; rw [e1]; rfl
      rw [e]
      exact calls_pure Try.func12 rfl rfl (at_vc xs a k cp pc hl b1 hk d1 hp w m1)
    · exact trivial
  · exact trivial
def GC3 : Ctr := fun f args m => match f with
  | 12 => g_At args m
  | 14 => g_behind args m
  | 15 => g_Read args m
  | _ => .none
theorem GC3_ok : GOk Try.prog GC3 := by
  intro w0 B f args m; unfold GC3; split
  · exact g_At_ok _ _ _ _
  · exact g_behind_ok _ _ _ _
  · exact g_Read_ok _ _ _ _
  · exact trivial
theorem GC3_At : GC3 12 = g_At := by funext args m; rfl
theorem GC3_behind : GC3 14 = g_behind := by funext args m; rfl
theorem GC3_Read : GC3 15 = g_Read := by funext args m; rfl

/-- The bytes of an operation's word. -/
def pw (xs : List Int) (pc n : Nat) : List Int := (List.range n).map fun i => xs.getD (pc + 1 + i) 0
theorem pw_len (xs : List Int) (pc n : Nat) : (pw xs pc n).length = n := by unfold pw; rw [List.length_map, List.length_range]
theorem pw_all {xs : List Int} (h : allB xs) (pc n : Nat) : allB (pw xs pc n) := by
  intro y hy
  obtain ⟨i, _, rfl⟩ := List.mem_map.1 hy
  exact by_rng h _
theorem pw_get (xs : List Int) (pc n i : Nat) (h : i < n) : (pw xs pc n)[i]? = some (xs.getD (pc + 1 + i) 0) := by
  unfold pw
  rw [List.getElem?_map, List.getElem?_range h]; rfl
theorem pw_copy (xs : List Int) (pc n : Nat) (hn : n ≤ 32) : ((List.replicate 32 (0 : Int)).take 0 ++ (xs.drop (pc + 1)).take (min n (xs.length - (pc + 1))) ++ (List.replicate 32 (0 : Int)).drop (min n (xs.length - (pc + 1)))).take n = pw xs pc n := by
  rw [List.take_zero, List.nil_append]
  apply List.ext_getElem?
  intro i
  by_cases h2 : i < n
  · rw [pw_get xs pc n i h2, List.getElem?_take, if_pos h2, List.getD_eq_getElem?_getD]
    by_cases hi : i < xs.length - (pc + 1)
    · rw [List.getElem?_append_left (by rw [List.length_take, List.length_drop]; omega), List.getElem?_take, if_pos (by omega), List.getElem?_drop, List.getElem?_eq_getElem (by omega)]; rfl
    · rw [List.getElem?_append_right (by rw [List.length_take, List.length_drop]; omega), List.getElem?_drop, List.getElem?_replicate, if_pos (by rw [List.length_take, List.length_drop]; omega), List.getElem?_eq_none (by omega)]; rfl
  · rw [List.getElem?_eq_none (by rw [List.length_take]; omega), List.getElem?_eq_none (by rw [pw_len]; omega)]
theorem push_vc (xs : List Int) (a : Option Addr) (n cp : Nat) (pc : Int) (hl : xs.length = n) (hc : n ≤ cp) (hb : n ≤ 1000000) (hx : allB xs) (ha : adr a n cp) (hp : 0 ≤ pc ∧ pc ≤ 18446744073709551615) (w : World) (hm : MemOk w [] [.ro a (.ints .u8 xs)] w) :
    Calls Try.prog 11 (cvs [.sl 0 a 0 0 1 n cp, .int .u64 pc]).toArray w (fun en w' => ∃ u, en = .returned u ∧ ∃ v m', u = cv v ∧ MemOk w [] m' w' ∧ v = .tup [.word (readN (pw xs pc.toNat (beh (xs.getD pc.toNat 0)))), .int .u64 (beh (xs.getD pc.toNat 0) : Nat)]) := by
  have u1 : (xs.drop 0).take n = xs := by rw [List.drop_zero, List.take_of_length_le (by omega)]
  have u2 : xs.take n = xs := List.take_of_length_le (by omega)
  have y := by_rng hx pc.toNat
  have hbl := beh_le (xs.getD pc.toNat 0)
  have hu0 : allU [0, 0, 0, 0] := ⟨by omega, by omega, by omega, by omega, trivial⟩
  by_cases h0 : beh (xs.getD pc.toNat 0) = 0
  · rw [h0]
    have d1 : decide (((0 : Nat) : Int) = 0) = true := rfl
    refine Vc.calls T0_ok Try.func11 rfl rfl (args := [.sl 0 a 0 0 1 n cp, .int .u64 pc]) (k := 24) rfl hm ?_; change Vc _ _ (c8 (.sl 0 a 0 0 1 n cp) (.int .u64 pc) .undef .undef .undef .undef .undef .undef (c8 .undef .undef .undef .undef .undef .undef .undef .undef (c8 .undef .undef .undef .undef .undef .undef .undef .undef ([.undef, .undef])))) _ _
    ((repeat (first | (with_reducible refine Vc.seq fun N hN => ?_) | (with_reducible refine Vc.block ?_) | ((with_reducible refine Vc.skip ?_); dsimp only [thenK, blockK, Nat.beq]; (first | (refine hN _ _ ?_; clear hN N) | skip)) | ((with_reducible refine Vc.exit ?_); dsimp only [thenK, blockK, Nat.beq]; (first | (refine hN _ _ ?_; clear hN N) | skip)) | (with_reducible intro _) | ((with_reducible refine And.intro ?_ ?_); (focus (first | ((repeat' with_reducible apply And.intro) <;> first | with_reducible exact True.intro | with_reducible assumption | with_reducible rfl | with_reducible exact allU_0 | omega) | exact sd0))) | ((first | ((with_reducible refine askT_of ?_ (fun hb => ?_)); (focus (first | ((repeat' with_reducible apply And.intro) <;> first | with_reducible exact True.intro | with_reducible assumption | with_reducible rfl | with_reducible exact allU_0 | omega) | exact sd0)); (try simp only [hb])) | ((with_reducible refine Vc.fin ?_); dsimp only [thenK, blockK, retK, resS, resOne, resAll]) | ((with_reducible refine Vc.hold ?_); first | refine Vc.regiont T0_ok GC3_ok ?_ | refine Vc.drawt (id := 5) T0_ok GC3_ok (by kernel_rfl) [0, 1, 2, 3, 4, 5] 6 [] trivial (by kernel_rfl) ?_)); (try simp only [pickO, nthO, dropO, dOp.eq_def, v8A, strIx.eq_def, appT.eq_def, copyStep.eq_def, copyC.eq_def, v8B, adr_some, adr_nil, true_or, dstOf, Bool.not_true, Bool.not_false, evs, evp, v8C, sget, sset, blen, bpush, bget, bset, Nat.beq, Nat.ble, Nat.blt.eq_def, nth?, nthF, tys, takeN, Nat.zero_add, fillS, splice, allOne, ordL, intL, wordL, rowL, sapp, resAll, und, lk, hav, agr, bpre, Int.reduceToNat, Int.reduceLE, Int.reduceLT, Nat.reduceLT, Nat.reduceLeDiff, Nat.reduceAdd, Nat.reduceMul, Nat.reduceSub, Int.reduceAdd, Int.reduceSub, Int.reduceMul, eq_self, decide_true, beq_self_eq_true, List.length_cons, List.length_nil, Nat.min_eq_left, IntKind.bits, tabs, GC3_At, g_At.eq_def, GC3_behind, g_behind.eq_def, GC3_Read, g_Read.eq_def, u1, u2, h0, d1]); (try simp (disch := omega) only [v8W])) | ((with_reducible refine hN _ _ ?_); clear hN N; (try simp (disch := omega) only [v8W])))); (try ((with_reducible refine Fin.of ?_); (try with_reducible exact True.intro))))
    (refine Vc.cond T0_ok (t := true) (by rfl) (fun _ => ?_) (fun h => Bool.noConfusion h))
    ((repeat (first | (with_reducible refine Vc.seq fun N hN => ?_) | (with_reducible refine Vc.block ?_) | ((with_reducible refine Vc.skip ?_); dsimp only [thenK, blockK, Nat.beq]; (first | (refine hN _ _ ?_; clear hN N) | skip)) | ((with_reducible refine Vc.exit ?_); dsimp only [thenK, blockK, Nat.beq]; (first | (refine hN _ _ ?_; clear hN N) | skip)) | (with_reducible intro _) | ((with_reducible refine And.intro ?_ ?_); (focus (first | ((repeat' with_reducible apply And.intro) <;> first | with_reducible exact True.intro | with_reducible assumption | with_reducible rfl | with_reducible exact allU_0 | omega) | exact sd0))) | ((first | ((with_reducible refine askT_of ?_ (fun hb => ?_)); (focus (first | ((repeat' with_reducible apply And.intro) <;> first | with_reducible exact True.intro | with_reducible assumption | with_reducible rfl | with_reducible exact allU_0 | omega) | exact sd0)); (try simp only [hb])) | ((with_reducible refine Vc.fin ?_); dsimp only [thenK, blockK, retK, resS, resOne, resAll]) | ((with_reducible refine Vc.hold ?_); first | refine Vc.regiont T0_ok GC3_ok ?_ | refine Vc.drawt (id := 5) T0_ok GC3_ok (by kernel_rfl) [0, 1, 2, 3, 4, 5] 6 [] trivial (by kernel_rfl) ?_)); (try simp only [pickO, nthO, dropO, dOp.eq_def, v8A, strIx.eq_def, appT.eq_def, copyStep.eq_def, copyC.eq_def, v8B, adr_some, adr_nil, true_or, dstOf, Bool.not_true, Bool.not_false, evs, evp, v8C, sget, sset, blen, bpush, bget, bset, Nat.beq, Nat.ble, Nat.blt.eq_def, nth?, nthF, tys, takeN, Nat.zero_add, fillS, splice, allOne, ordL, intL, wordL, rowL, sapp, resAll, und, lk, hav, agr, bpre, Int.reduceToNat, Int.reduceLE, Int.reduceLT, Nat.reduceLT, Nat.reduceLeDiff, Nat.reduceAdd, Nat.reduceMul, Nat.reduceSub, Int.reduceAdd, Int.reduceSub, Int.reduceMul, eq_self, decide_true, beq_self_eq_true, List.length_cons, List.length_nil, Nat.min_eq_left, IntKind.bits, tabs, GC3_At, g_At.eq_def, GC3_behind, g_behind.eq_def, GC3_Read, g_Read.eq_def]); (try simp (disch := omega) only [v8W])) | ((with_reducible refine hN _ _ ?_); clear hN N; (try simp (disch := omega) only [v8W])))); (try ((with_reducible refine Fin.of ?_); (try with_reducible exact True.intro))))
    exact ⟨⟨⟨⟨trivial, trivial⟩, trivial, trivial⟩, trivial, trivial⟩, rfl⟩
  · have hpc : pc.toNat < n := by
      by_cases h : pc.toNat < n
      · exact h
      · exact absurd (by rw [getD_far (by omega)]; rfl) h0
    have hpl := pw_len xs pc.toNat (beh (xs.getD pc.toNat 0))
    have hpa := pw_all hx pc.toNat (beh (xs.getD pc.toNat 0))
    have hcp := pw_copy xs pc.toNat (beh (xs.getD pc.toNat 0)) hbl
    rw [hl] at hcp
    generalize hbb : beh (xs.getD pc.toNat 0) = b at *
    generalize hpw : pw xs pc.toNat b = p at *
    have e2 : (pc + 1).toNat = pc.toNat + 1 := by omega
    have hc1 : (pc + 1).toNat ≤ n := by omega
    rw [← e2] at hcp
    generalize hcc : (pc + 1).toNat = c at *
    have ad : adr a (n - c) (cp - c) := adr_cut (l := c) ha (by omega) rfl
    have lr : (List.replicate 32 (0 : Int)).length = 32 := List.length_replicate
    have f1 : (xs.drop c).take (n - c) = xs.drop c := List.take_of_length_le (by rw [List.length_drop]; omega)
    obtain ⟨q, hq⟩ : ∃ q, q = (List.replicate 32 (0 : Int)).take 0 ++ (xs.drop c).take (min (n - c) b) ++ (List.replicate 32 (0 : Int)).drop (min (n - c) b) := ⟨_, rfl⟩
    rw [Nat.min_comm, ← hq] at hcp
    have hql : b ≤ q.length := by have := congrArg List.length hcp; rw [List.length_take] at this; omega
    have hql2 : q.length = 32 := by rw [hq, List.length_append, List.length_append, List.length_take, List.length_take, List.length_drop, List.length_drop, lr]; omega
    have d1 : decide ((b : Int) = 0) = false := decide_eq_false (by omega)
    have hw : IntKind.u64.wrap (pc + 1) = pc + 1 := by rw [IntKind.wrap_u64]; omega
    refine Vc.calls T0_ok Try.func11 rfl rfl (args := [.sl 0 a 0 0 1 n cp, .int .u64 pc]) (k := 24) rfl hm ?_; change Vc _ _ (c8 (.sl 0 a 0 0 1 n cp) (.int .u64 pc) .undef .undef .undef .undef .undef .undef (c8 .undef .undef .undef .undef .undef .undef .undef .undef (c8 .undef .undef .undef .undef .undef .undef .undef .undef ([.undef, .undef])))) _ _
    ((repeat (first | (with_reducible refine Vc.seq fun N hN => ?_) | (with_reducible refine Vc.block ?_) | ((with_reducible refine Vc.skip ?_); dsimp only [thenK, blockK, Nat.beq]; (first | (refine hN _ _ ?_; clear hN N) | skip)) | ((with_reducible refine Vc.exit ?_); dsimp only [thenK, blockK, Nat.beq]; (first | (refine hN _ _ ?_; clear hN N) | skip)) | (with_reducible intro _) | ((with_reducible refine And.intro ?_ ?_); (focus (first | ((repeat' with_reducible apply And.intro) <;> first | with_reducible exact True.intro | with_reducible assumption | with_reducible rfl | with_reducible exact allU_0 | omega) | exact sd0))) | ((first | ((with_reducible refine askT_of ?_ (fun hb => ?_)); (focus (first | ((repeat' with_reducible apply And.intro) <;> first | with_reducible exact True.intro | with_reducible assumption | with_reducible rfl | with_reducible exact allU_0 | omega) | exact sd0)); (try simp only [hb])) | ((with_reducible refine Vc.fin ?_); dsimp only [thenK, blockK, retK, resS, resOne, resAll]) | ((with_reducible refine Vc.hold ?_); first | refine Vc.regiont T0_ok GC3_ok ?_ | refine Vc.drawt (id := 5) T0_ok GC3_ok (by kernel_rfl) [0, 1, 2, 3, 4, 5] 6 [] trivial (by kernel_rfl) ?_)); (try simp only [pickO, nthO, dropO, dOp.eq_def, v8A, strIx.eq_def, appT.eq_def, copyStep.eq_def, copyC.eq_def, v8B, adr_some, adr_nil, true_or, dstOf, Bool.not_true, Bool.not_false, evs, evp, v8C, sget, sset, blen, bpush, bget, bset, Nat.beq, Nat.ble, Nat.blt.eq_def, nth?, nthF, tys, takeN, Nat.zero_add, fillS, splice, allOne, ordL, intL, wordL, rowL, sapp, resAll, und, lk, hav, agr, bpre, Int.reduceToNat, Int.reduceLE, Int.reduceLT, Nat.reduceLT, Nat.reduceLeDiff, Nat.reduceAdd, Nat.reduceMul, Nat.reduceSub, Int.reduceAdd, Int.reduceSub, Int.reduceMul, eq_self, decide_true, beq_self_eq_true, List.length_cons, List.length_nil, Nat.min_eq_left, IntKind.bits, tabs, GC3_At, g_At.eq_def, GC3_behind, g_behind.eq_def, GC3_Read, g_Read.eq_def, u1, u2, hbb, d1]); (try simp (disch := omega) only [v8W])) | ((with_reducible refine hN _ _ ?_); clear hN N; (try simp (disch := omega) only [v8W])))); (try ((with_reducible refine Fin.of ?_); (try with_reducible exact True.intro))))
    (refine Vc.cond T0_ok (t := false) (by rfl) (fun h => Bool.noConfusion h) (fun _ => ?_))
    ((repeat (first | (with_reducible refine Vc.seq fun N hN => ?_) | (with_reducible refine Vc.block ?_) | ((with_reducible refine Vc.skip ?_); dsimp only [thenK, blockK, Nat.beq]; (first | (refine hN _ _ ?_; clear hN N) | skip)) | ((with_reducible refine Vc.exit ?_); dsimp only [thenK, blockK, Nat.beq]; (first | (refine hN _ _ ?_; clear hN N) | skip)) | (with_reducible intro _) | ((with_reducible refine And.intro ?_ ?_); (focus (first | ((repeat' with_reducible apply And.intro) <;> first | with_reducible exact True.intro | with_reducible assumption | with_reducible rfl | with_reducible exact allU_0 | omega) | exact sd0))) | ((first | ((with_reducible refine askT_of ?_ (fun hb => ?_)); (focus (first | ((repeat' with_reducible apply And.intro) <;> first | with_reducible exact True.intro | with_reducible assumption | with_reducible rfl | with_reducible exact allU_0 | omega) | exact sd0)); (try simp only [hb])) | ((with_reducible refine Vc.fin ?_); dsimp only [thenK, blockK, retK, resS, resOne, resAll]) | ((with_reducible refine Vc.hold ?_); first | refine Vc.regiont T0_ok GC3_ok ?_ | refine Vc.drawt (id := 5) T0_ok GC3_ok (by kernel_rfl) [0, 1, 2, 3, 4, 5] 6 [] trivial (by kernel_rfl) ?_)); (try simp only [pickO, nthO, dropO, dOp.eq_def, v8A, strIx.eq_def, appT.eq_def, copyStep.eq_def, copyC.eq_def, v8B, adr_some, adr_nil, true_or, dstOf, Bool.not_true, Bool.not_false, evs, evp, v8C, sget, sset, blen, bpush, bget, bset, Nat.beq, Nat.ble, Nat.blt.eq_def, nth?, nthF, tys, takeN, Nat.zero_add, fillS, splice, allOne, ordL, intL, wordL, rowL, sapp, resAll, und, lk, hav, agr, bpre, Int.reduceToNat, Int.reduceLE, Int.reduceLT, Nat.reduceLT, Nat.reduceLeDiff, Nat.reduceAdd, Nat.reduceMul, Nat.reduceSub, Int.reduceAdd, Int.reduceSub, Int.reduceMul, eq_self, decide_true, beq_self_eq_true, List.length_cons, List.length_nil, Nat.min_eq_left, IntKind.bits, tabs, GC3_At, g_At.eq_def, GC3_behind, g_behind.eq_def, GC3_Read, g_Read.eq_def, u1, u2, hbb, d1, hw, hcc, Nat.sub_zero, f1, ← hq, hcp, List.drop_zero]); (try simp (disch := omega) only [v8W])) | ((with_reducible refine hN _ _ ?_); clear hN N; (try simp (disch := omega) only [v8W])))); (try ((with_reducible refine Fin.of ?_); (try with_reducible exact True.intro))))
    exact ⟨⟨⟨⟨trivial, trivial⟩, trivial, trivial⟩, trivial, trivial⟩, trivial⟩
def pushV (xs : List Int) (pc : Nat) : Nat := readN (pw xs pc (beh (xs.getD pc 0)))
def g_Push (args : List SV) (m : List Blk) : CR :=
  match args with
  | [x, .int .u64 pc] => match srcC x m with
    | some (q, k, .ints .u8 xs) => .pure (q ∧ k ≤ 1000000 ∧ allB xs ∧ (0 ≤ pc ∧ pc ≤ 18446744073709551615)) (.tup [.word (pushV xs pc.toNat), .int .u64 (beh (xs.getD pc.toNat 0) : Nat)])
    | _ => .none
  | _ => .none
theorem g_Push_ok (w0 : World) (B : List Nat) (args : List SV) (m : List Blk) : CROk Try.prog w0 B 11 args m (g_Push args m) := by
  unfold g_Push
  split
  · rename_i x pc
    split
    · rename_i q k xs hs
      intro ⟨hq, hk, hx, hp⟩ w hm
      obtain ⟨l1, a, cp, e1, b1, m1, d1⟩ := src_ro hs hq hm
      have hl : xs.length = k := by simpa [cc, conEs] using l1
      have e : cvs [x, .int .u64 pc] = cvs [.sl 0 a 0 0 1 k cp, .int .u64 pc] := by simp only [cvs]; rw [e1]; rfl
      rw [e]
      exact calls_pure Try.func11 rfl rfl (push_vc xs a k cp pc hl b1 hk hx d1 hp w m1)
    · exact trivial
  · exact trivial
theorem byt_of {w : World} {a : Option Addr} {k cp : Nat} {xs : List Int} (hl : xs.length = k) (h : MemOk w [] [.ro a (.ints .u8 xs)] w) (ha : adr a k cp) : Byt w.heap.size w (.slice a k cp) xs := by
  by_cases h0 : k = 0
  · subst h0
    exact .inl ⟨⟨a, cp, rfl⟩, List.eq_nil_of_length_eq_zero hl⟩
  · have hc : ∀ j u, (cc (.ints .u8 xs))[j]? = some u → ∃ b off, a = some ⟨b, off, none⟩ ∧ b < w.heap.size ∧ w.cell? ⟨b, off + j, none⟩ = some u := fun j u hj => by
      obtain ⟨b, off, e1, e2, _, e3⟩ := h.each _ List.mem_cons_self j u hj
      exact ⟨b, off, e1, e2, e3⟩
    have cell : ∀ j, j < xs.length → (cc (.ints .u8 xs))[j]? = some (.int .u8 (xs[j]?.getD 0)) := fun j hj => by
      simp only [cc, List.getElem?_map, List.getElem?_eq_getElem hj, Option.map_some, Option.getD_some]
    obtain ⟨b, off, e1, e2, _⟩ := hc 0 _ (cell 0 (by omega))
    refine .inr ⟨b, off, cp, by rw [e1, hl], e2, fun j hj => ?_⟩
    obtain ⟨b', off', e1', _, e3⟩ := hc j _ (cell j hj)
    rw [e1] at e1'; cases e1'
    exact e3
def g_Jumps (args : List SV) (m : List Blk) : CR :=
  match args with
  | [x] => match srcC x m with
    | some (q, k, .ints .u8 xs) => .own (q ∧ k ≤ 1000000 ∧ allB xs) 33 1 (jmI xs).length (.ints .u64 (jmI xs)) (fun v => v)
    | _ => .none
  | _ => .none
theorem g_Jumps_ok (w0 : World) (B : List Nat) (args : List SV) (m : List Blk) : CROk Try.prog w0 B 10 args m (g_Jumps args m) := by
  unfold g_Jumps
  split
  · rename_i x
    split
    · rename_i q k xs hs
      intro ⟨hq, hk, hx⟩ w hm
      obtain ⟨l1, a, cp, e1, b1, m1, d1⟩ := src_ro hs hq hm
      have hl : xs.length = k := by simpa [cc, conEs] using l1
      have e : (cvs [x]).toArray = #[.slice a k cp] := by
        simp only [cvs]; rw [e1]
        simp only [cv, ite_self, Nat.zero_mul]
        cases a with
        | none => rfl
        | some a => simp [Addr.add, conEs]
      refine .inr ⟨enter_run Try.func10 rfl rfl _ w, ?_⟩
      rw [e]
      refine (callsIn_wide.1 (jumps_in Fence.wide 6 rfl trivial trivial trivial trivial (fun _ v w h => callsIn_wide.2 (behind_at v h w)) (Nat.le_refl _) (.slice a k cp) ⟨_, _, _, rfl⟩ xs hx (by omega) w (byt_of hl m1 d1))).mono fun e w' ⟨v, he, hr, hB⟩ => ⟨v, he, v, rfl, ⟨hB.os, hB.tape, hB.output, hB.size, fun k hk _ => hB.block k hk⟩, hr⟩
    · exact trivial
  · exact trivial
def GC4 : Ctr := fun f args m => match f with
  | 12 => g_At args m
  | 11 => g_Push args m
  | 4 => g_Info args m
  | 10 => g_Jumps args m
  | _ => .none
theorem GC4_ok : GOk Try.prog GC4 := by
  intro w0 B f args m; unfold GC4; split
  · exact g_At_ok _ _ _ _
  · exact g_Push_ok _ _ _ _
  · exact g_Info_ok _ _ _ _
  · exact g_Jumps_ok _ _ _ _
  · exact trivial
theorem GC4_At : GC4 12 = g_At := by funext args m; rfl
theorem GC4_Push : GC4 11 = g_Push := by funext args m; rfl
theorem GC4_Info : GC4 4 = g_Info := by funext args m; rfl
theorem GC4_Jumps : GC4 10 = g_Jumps := by funext args m; rfl

theorem jmI_ex : jmI [91, 96, 91, 91] = [0, 3] := by decide
theorem push_ex : pushV [97, 1] 0 = 256 ∧ beh 97 = 2 := by decide
theorem num_256 : numI [256, 0, 0, 0] = 256 := Eq.trans (by decide) rfl
theorem ex_all : allB [91, 96, 91, 91] ∧ allB [97, 1] := by unfold allB; decide
theorem cknown_vc (w : World) : Calls Try.prog 6 (cvs []).toArray w (fun en w' => ∃ u, en = .returned u ∧ ∃ v m', u = cv v ∧ MemOk w [] m' w' ∧ v = .bool true) := by
  obtain ⟨ha1, ha2⟩ := ex_all
  have n1 : nfo 129 = (2, 3, true) := by decide
  have n2 : nfo 254 = (0, 0, false) := by decide
  have he : ∀ z, eqW z z = true := fun z => eqW_of rfl
  have l1 := jmI_ex
  obtain ⟨p1, p2⟩ := push_ex
  have nm := num_256
  refine Vc.calls T0_ok Try.func6 rfl rfl (args := []) (k := 70) rfl (MemOk.start _) ?_; change Vc _ _ (c8 .undef .undef .undef .undef .undef .undef .undef .undef (c8 .undef .undef .undef .undef .undef .undef .undef .undef (c8 .undef .undef .undef .undef .undef .undef .undef .undef (c8 .undef .undef .undef .undef .undef .undef .undef .undef (c8 .undef .undef .undef .undef .undef .undef .undef .undef (c8 .undef .undef .undef .undef .undef .undef .undef .undef (c8 .undef .undef .undef .undef .undef .undef .undef .undef (c8 .undef .undef .undef .undef .undef .undef .undef .undef ([.undef, .undef, .undef, .undef, .undef, .undef]))))))))) _ _
  ((repeat (first | (with_reducible refine Vc.seq fun N hN => ?_) | (with_reducible refine Vc.block ?_) | ((with_reducible refine Vc.skip ?_); dsimp only [thenK, blockK, Nat.beq]; (first | (refine hN _ _ ?_; clear hN N) | skip)) | ((with_reducible refine Vc.exit ?_); dsimp only [thenK, blockK, Nat.beq]; (first | (refine hN _ _ ?_; clear hN N) | skip)) | (with_reducible intro _) | ((with_reducible refine And.intro ?_ ?_); (focus (first | ((repeat' with_reducible apply And.intro) <;> first | with_reducible exact True.intro | with_reducible assumption | with_reducible rfl | omega | (simp [allU]; done)) | exact sd0))) | ((first | ((with_reducible refine askT_of ?_ (fun hb => ?_)); (focus (first | ((repeat' with_reducible apply And.intro) <;> first | with_reducible exact True.intro | with_reducible assumption | with_reducible rfl | omega | (simp [allU]; done)) | exact sd0)); (try simp only [hb])) | ((with_reducible refine Vc.fin ?_); dsimp only [thenK, blockK, retK, resS, resOne, resAll]) | ((with_reducible refine Vc.hold ?_); first | refine Vc.regiont T0_ok GC4_ok ?_)); (try simp only [pickO, nthO, dropO, dOp.eq_def, v8A, strIx.eq_def, appT.eq_def, copyStep.eq_def, copyC.eq_def, v8B, adr_some, adr_nil, true_or, dstOf, Bool.not_true, Bool.not_false, evs, evp, v8C, sget, sset, blen, bpush, bget, bset, Nat.beq, Nat.ble, Nat.blt.eq_def, nth?, nthF, tys, takeN, Nat.zero_add, fillS, splice, allOne, ordL, intL, wordL, rowL, sapp, resAll, und, lk, hav, agr, bpre, Int.reduceToNat, Int.reduceLE, Int.reduceLT, Nat.reduceLT, Nat.reduceLeDiff, Nat.reduceAdd, Nat.reduceMul, Nat.reduceSub, Int.reduceAdd, Int.reduceSub, Int.reduceMul, eq_self, decide_true, beq_self_eq_true, List.length_cons, List.length_nil, Nat.min_eq_left, IntKind.bits, tabs, GC4_At, g_At.eq_def, GC4_Push, g_Push.eq_def, GC4_Info, g_Info.eq_def, GC4_Jumps, g_Jumps.eq_def, l1, p1, p2, n1, n2, nm, he, List.drop_zero, List.take_succ_cons, List.take_zero, List.getD_cons_zero, List.getD_cons_succ]); (try simp (disch := omega) only [v8W])) | ((with_reducible refine hN _ _ ?_); clear hN N; (try simp (disch := omega) only [v8W])))); (try ((with_reducible refine Fin.of ?_); (try with_reducible exact True.intro))))
  exact ⟨trivial, trivial⟩
end Go.Proofs.Ytdbapekeihnckaa
