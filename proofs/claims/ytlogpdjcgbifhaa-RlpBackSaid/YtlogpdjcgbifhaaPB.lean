/-
  RLP: a head's length read off (package rlp: length), walked. No condition.
-/
import Derived.Test.YtlogpdjcgbifhaaPA
import Derived.Test.YtlogpdjcgbifhaaRD
namespace Go.Proofs.Ytlogpdjcgbifhaa
set_option linter.unusedSimpArgs false
set_option linter.unusedVariables false
set_option maxHeartbeats 4000000
set_option linter.defProp false
open Go.RowKit
/-! ### A callee that turns a block, and reads what else there is -/
def oldBut (w : World) (b : Nat) : Blk := .old fun b' => if b' = b then none else w.heap[b']?
def HBut (w : World) (b b' : Nat) (o : Obj) : Prop := b' ≠ b ∧ w.heap[b']? = some o
theorem HBut.hm {w : World} {b : Nat} {m : List Blk} (hin : oldBut w b ∈ m) : ∀ b' o, HBut w b b' o → HM m b' o := fun b' o h => ⟨_, hin, by
  show (if b' = b then none else w.heap[b']?) = some o
  rw [if_neg h.1]; exact h.2⟩
theorem turn_old {w0 : World} {B : List Nat} {m : List Blk} {w : World} (hm : MemOk w0 B m w) {nm b : Nat} {t : TypeId} {con : Con} (hb : bget m nm = .blk b t con) : MemOk w [b] [.blk b t con, oldBut w b] w :=
  ⟨rfl, rfl, rfl, Nat.le_refl _, fun _ _ _ => rfl, fun e he => by
    rcases List.mem_cons.1 he with rfl | he
    · exact ⟨(hm.each _ (bget_mem hb (by simp))).1, .inr List.mem_cons_self⟩
    · rw [List.mem_singleton] at he; subst he
      intro b' o h
      have h1 : (if b' = b then none else w.heap[b']?) = some o := h
      split at h1
      · cases h1
      · rename_i hne
        exact ⟨h1, (Array.getElem?_eq_some_iff.1 h1).1, by rw [List.mem_singleton]; exact hne⟩, by simp [Blk.nums, oldBut]⟩
theorem bget_set_eq : ∀ {m : List Blk} {i : Nat} {e0 : Blk} (e : Blk), bget m i = e0 → e0 ≠ .gone → bget (bset m i e) i = e
  | [], _, _, _, h, hn => absurd h.symm hn
  | _ :: _, 0, _, _, _, _ => rfl
  | _ :: m, i + 1, _, e, h, hn => bget_set_eq (m := m) (i := i) e h hn
theorem bget_set_ne : ∀ (m : List Blk) {i j : Nat} (e : Blk), i ≠ j → bget (bset m j e) i = bget m i
  | [], _, _, _, _ => rfl
  | _ :: _, 0, 0, _, h => absurd rfl h
  | _ :: _, i + 1, 0, _, _ => rfl
  | _ :: _, 0, j + 1, _, _ => rfl
  | _ :: m, i + 1, j + 1, e, h => bget_set_ne m e (by omega)
/-- What a part tells, besides the block that is turned. -/
theorem HM.but {w0 : World} {B : List Nat} {m : List Blk} {w : World} (hm : MemOk w0 B m w) {nm b : Nat} {t : TypeId} {con : Con} (hb : bget m nm = .blk b t con) : ∀ b' o, HM (bset m nm .gone) b' o → HBut w b b' o := by
  intro b' o ⟨e, he, hf⟩
  obtain ⟨i, hi⟩ := bget_at he
  have hne : i ≠ nm := by
    rintro rfl
    rw [bget_set_eq .gone hb (by simp)] at hi; subst hi; exact hf
  have hi' : bget m i = e := by rw [← hi, bget_set_ne _ _ hne]
  have hem : e ∈ m := bget_mem hi' (by rintro rfl; exact hf)
  refine ⟨?_, MemOk.hm hm ⟨e, hem, hf⟩⟩
  rintro rfl
  have h1 : b' ∈ (bget m nm).nums := by rw [hb]; simp [Blk.nums]
  have h2 := nums_sep hm.nodup (Ne.symm hne) h1
  rw [hi'] at h2
  have hbb := (hm.each _ (bget_mem hb (by simp))).2
  cases e with
  | blk b2 t' c' => obtain ⟨rfl, _⟩ := hf; exact h2 (by simp [Blk.nums])
  | heap l => exact h2 (List.mem_map_of_mem hf)
  | old g =>
    obtain ⟨_, h4, h5⟩ := hm.each _ hem b' o hf
    rcases hbb with h6 | h6
    · omega
    · exact h5 h6
  | _ => exact hf
theorem lies_take {H : Nat → Obj → Prop} {a : Option Addr} {xs : List Int} {kd : IntKind} (k : Nat) (h : LiesH H a (cc (.ints kd xs))) : LiesH H a (cc (.ints kd (xs.take k))) := by
  rcases h with h | ⟨b, off, arr, t, fr, rfl, h2, h3⟩
  · refine .inl ?_
    have : (cc (.ints kd xs)).length = 0 := by rw [h]; rfl
    simp [cc] at this; subst this; simp [cc]
  · refine .inr ⟨b, off, arr, t, fr, rfl, h2, fun j u hj => h3 j u ?_⟩
    simp only [cc, List.getElem?_map, List.getElem?_take] at hj ⊢
    split at hj
    · exact hj
    · cases hj
/-! ### Bytes read as a number -/
theorem rdI_put : ∀ (l : List Int) (y : Int), rdI (l ++ [y]) = rdI l * 256 + y.toNat
  | [], y => by simp [rdI]
  | x :: l, y => by
    rw [List.cons_append]
    simp only [rdI, List.length_append, List.length_singleton]
    rw [rdI_put l y, Nat.pow_succ, Nat.add_mul, Nat.mul_assoc, Nat.add_assoc]
theorem take_s {xs : List Int} {j : Nat} (h : j < xs.length) : xs.take (j + 1) = xs.take j ++ [xs.getD j 0] := by
  rw [List.getD_eq_getElem?_getD, List.getElem?_eq_getElem h]; exact (List.take_append_getElem h).symm
/-- A number, and a byte behind it. -/
theorem or_byte {v : Nat} {y : Int} (hv : v < 2 ^ 56) (h0 : 0 ≤ y) (h1 : y ≤ 255) : bits .or .u64 (IntKind.u64.wrap ((v : Int) * 2 ^ 8)) y = ((v * 256 + y.toNat : Nat) : Int) := by
  have e1 : IntKind.u64.wrap ((v : Int) * 2 ^ 8) = ((v * 256 : Nat) : Int) := by rw [wrap_u64 (by omega) (by omega)]; omega
  have e2 : y = ((y.toNat : Nat) : Int) := by omega
  rw [e1, e2, bits_or_u64_nat _ _ (by omega) (by omega)]
  congr 1
  have := Nat.two_pow_add_eq_or_of_lt (i := 8) (b := y.toNat) (by omega) v
  simp only [Int.toNat_natCast]
  rw [Nat.mul_comm v 256]
  exact this.symm
theorem lenS_vc (a : Option Addr) (n c : Nat) (xs : List Int) (at_ dp f : Int) (b : Nat) (hr : rdOk n c xs at_) (hf : 0 ≤ f ∧ f ≤ 255) (hk : f % 64 ≤ 55) (w : World) (hm : MemOk w [b] [.blk b 64 (rdC a n c xs at_ dp), oldBut w b] w) :
    Calls Try.prog 41 (cvs [.ptr 0 b 0 0 0 0, .int .u8 f]).toArray w (fun en w' => ∃ u, en = .returned u ∧ ∃ v' m', u = cv v' ∧ MemOk w [b] m' w' ∧ v' = .tup [.int .u64 (f % 64), .bool true] ∧ bget m' 0 = .blk b 64 (rdC a n c xs at_ dp)) := by
  have d1 : decide (f % 64 ≤ 55) = true := decide_eq_true hk
  unfold rdC at hm
  refine Vc.calls T0_ok Try.func41 rfl rfl (args := [.ptr 0 b 0 0 0 0, .int .u8 f]) (k := 45) rfl hm ?_; change Vc _ _ (c8 (.ptr 0 b 0 0 0 0) (.int .u8 f) .undef .undef .undef .undef .undef .undef (c8 .undef .undef .undef .undef .undef .undef .undef .undef (c8 .undef .undef .undef .undef .undef .undef .undef .undef (c8 .undef .undef .undef .undef .undef .undef .undef .undef (c8 .undef .undef .undef .undef .undef .undef .undef .undef ([.undef, .undef, .undef, .undef, .undef, .undef, .undef])))))) _ _
  ((repeat (first | (with_reducible refine Vc.seq fun N hN => ?_) | (with_reducible refine Vc.block ?_) | ((first | with_reducible refine Vc.skip ?_ | with_reducible refine Vc.exit ?_); dsimp only [thenK, blockK, Nat.beq]; (first | (refine hN _ _ ?_; clear hN N) | skip)) | (with_reducible intro _) | ((with_reducible refine And.intro ?_ ?_); (focus (first | exact sideQ | exact sd0))) | ((first | ((with_reducible refine askT_of ?_ (fun hb => ?_)); (focus (first | exact sideQ | exact sd0)); (try simp only [hb])) | ((with_reducible refine Vc.fin ?_); dsimp only [thenK, blockK, retK, resS, resOne, resAll]) | ((with_reducible refine Vc.hold ?_); first | refine Vc.regiont T0_ok GPA_ok ?_)); (try simp only [v8X, v8A, v8B, v8C, Nat.beq, Nat.ble, Int.reduceToNat, Int.reduceLE, Int.reduceLT, Nat.reduceLT, Nat.reduceLeDiff, Nat.reduceAdd, Nat.reduceMul, Nat.reduceSub, Int.reduceAdd, Int.reduceSub, Int.reduceMul, eq_self, decide_true, beq_self_eq_true, List.length_cons, List.length_nil, Nat.min_eq_left, IntKind.bits, tabs, GPA_set, d1]); (try simp (disch := omega) only [v8W])) | ((with_reducible refine hN _ _ ?_); clear hN N; (try simp (disch := omega) only [v8W])))); (try ((with_reducible refine Fin.of ?_); (try with_reducible exact True.intro))))
  (refine Vc.cond T0_ok (t := true) (by rfl) (fun _ => ?_) (fun h => Bool.noConfusion h))
  ((repeat (first | (with_reducible refine Vc.seq fun N hN => ?_) | (with_reducible refine Vc.block ?_) | ((first | with_reducible refine Vc.skip ?_ | with_reducible refine Vc.exit ?_); dsimp only [thenK, blockK, Nat.beq]; (first | (refine hN _ _ ?_; clear hN N) | skip)) | (with_reducible intro _) | ((with_reducible refine And.intro ?_ ?_); (focus (first | exact sideQ | exact sd0))) | ((first | ((with_reducible refine askT_of ?_ (fun hb => ?_)); (focus (first | exact sideQ | exact sd0)); (try simp only [hb])) | ((with_reducible refine Vc.fin ?_); dsimp only [thenK, blockK, retK, resS, resOne, resAll]) | ((with_reducible refine Vc.hold ?_); first | refine Vc.regiont T0_ok GPA_ok ?_)); (try simp only [v8X, v8A, v8B, v8C, Nat.beq, Nat.ble, Int.reduceToNat, Int.reduceLE, Int.reduceLT, Nat.reduceLT, Nat.reduceLeDiff, Nat.reduceAdd, Nat.reduceMul, Nat.reduceSub, Int.reduceAdd, Int.reduceSub, Int.reduceMul, eq_self, decide_true, beq_self_eq_true, List.length_cons, List.length_nil, Nat.min_eq_left, IntKind.bits, tabs, GPA_set]); (try simp (disch := omega) only [v8W])) | ((with_reducible refine hN _ _ ?_); clear hN N; (try simp (disch := omega) only [v8W])))); (try ((with_reducible refine Fin.of ?_); (try with_reducible exact True.intro))))
  exact ⟨by simp, trivial, rfl⟩
theorem lenN_vc (a : Option Addr) (n c : Nat) (xs : List Int) (at_ dp f : Int) (b : Nat) (hr : rdOk n c xs at_) (hf : 0 ≤ f ∧ f ≤ 255) (hk : ¬ f % 64 ≤ 55) (hkn : ¬ (f % 64 - 55).toNat ≤ n) (w : World) (hm : MemOk w [b] [.blk b 64 (rdC a n c xs at_ dp), oldBut w b] w) :
    Calls Try.prog 41 (cvs [.ptr 0 b 0 0 0 0, .int .u8 f]).toArray w (fun en w' => ∃ u, en = .returned u ∧ ∃ v' m', u = cv v' ∧ MemOk w [b] m' w' ∧ v' = .tup [.int .u64 0, .bool false] ∧ bget m' 0 = .blk b 64 (rdC a n c xs at_ dp)) := by
  have d1 : decide (f % 64 ≤ 55) = false := decide_eq_false hk
  have w1 := w64 (x := f % 64 - 55) (by omega)
  have f1 : tkV a n c xs (f % 64 - 55).toNat = _ := if_neg hkn
  have f2 : tkC a n c xs at_ dp (f % 64 - 55).toNat = _ := if_neg hkn
  unfold rdC at hm
  refine Vc.calls T0_ok Try.func41 rfl rfl (args := [.ptr 0 b 0 0 0 0, .int .u8 f]) (k := 45) rfl hm ?_; change Vc _ _ (c8 (.ptr 0 b 0 0 0 0) (.int .u8 f) .undef .undef .undef .undef .undef .undef (c8 .undef .undef .undef .undef .undef .undef .undef .undef (c8 .undef .undef .undef .undef .undef .undef .undef .undef (c8 .undef .undef .undef .undef .undef .undef .undef .undef (c8 .undef .undef .undef .undef .undef .undef .undef .undef ([.undef, .undef, .undef, .undef, .undef, .undef, .undef])))))) _ _
  ((repeat (first | (with_reducible refine Vc.seq fun N hN => ?_) | (with_reducible refine Vc.block ?_) | ((first | with_reducible refine Vc.skip ?_ | with_reducible refine Vc.exit ?_); dsimp only [thenK, blockK, Nat.beq]; (first | (refine hN _ _ ?_; clear hN N) | skip)) | (with_reducible intro _) | ((with_reducible refine And.intro ?_ ?_); (focus (first | exact sideQ | exact sd0))) | ((first | ((with_reducible refine askT_of ?_ (fun hb => ?_)); (focus (first | exact sideQ | exact sd0)); (try simp only [hb])) | ((with_reducible refine Vc.fin ?_); dsimp only [thenK, blockK, retK, resS, resOne, resAll]) | ((with_reducible refine Vc.hold ?_); first | refine Vc.regiont T0_ok GPA_ok ?_)); (try simp only [v8X, v8A, v8B, v8C, Nat.beq, Nat.ble, Int.reduceToNat, Int.reduceLE, Int.reduceLT, Nat.reduceLT, Nat.reduceLeDiff, Nat.reduceAdd, Nat.reduceMul, Nat.reduceSub, Int.reduceAdd, Int.reduceSub, Int.reduceMul, eq_self, decide_true, beq_self_eq_true, List.length_cons, List.length_nil, Nat.min_eq_left, IntKind.bits, tabs, GPA_set, d1]); (try simp (disch := omega) only [v8W])) | ((with_reducible refine hN _ _ ?_); clear hN N; (try simp (disch := omega) only [v8W])))); (try ((with_reducible refine Fin.of ?_); (try with_reducible exact True.intro))))
  (refine Vc.cond T0_ok (t := false) (by rfl) (fun h => Bool.noConfusion h) (fun _ => ?_))
  ((repeat (first | (with_reducible refine Vc.seq fun N hN => ?_) | (with_reducible refine Vc.block ?_) | ((first | with_reducible refine Vc.skip ?_ | with_reducible refine Vc.exit ?_); dsimp only [thenK, blockK, Nat.beq]; (first | (refine hN _ _ ?_; clear hN N) | skip)) | (with_reducible intro _) | ((with_reducible refine And.intro ?_ ?_); (focus (first | exact sideQ | exact sd0))) | ((first | ((with_reducible refine askT_of ?_ (fun hb => ?_)); (focus (first | exact sideQ | exact sd0)); (try simp only [hb])) | ((with_reducible refine Vc.fin ?_); dsimp only [thenK, blockK, retK, resS, resOne, resAll]) | ((with_reducible refine Vc.hold ?_); first | refine Vc.regiont T0_ok GPA_ok ?_)); (try simp only [v8X, v8A, v8B, v8C, Nat.beq, Nat.ble, Int.reduceToNat, Int.reduceLE, Int.reduceLT, Nat.reduceLT, Nat.reduceLeDiff, Nat.reduceAdd, Nat.reduceMul, Nat.reduceSub, Int.reduceAdd, Int.reduceSub, Int.reduceMul, eq_self, decide_true, beq_self_eq_true, List.length_cons, List.length_nil, Nat.min_eq_left, IntKind.bits, tabs, GPA_set, w1, f1, f2]); (try simp (disch := omega) only [v8W])) | ((with_reducible refine hN _ _ ?_); clear hN N; (try simp (disch := omega) only [v8W])))); (try ((with_reducible refine Fin.of ?_); (try with_reducible exact True.intro))))
  (refine Vc.cond T0_ok (t := true) (by rfl) (fun _ => ?_) (fun h => Bool.noConfusion h))
  ((repeat (first | (with_reducible refine Vc.seq fun N hN => ?_) | (with_reducible refine Vc.block ?_) | ((first | with_reducible refine Vc.skip ?_ | with_reducible refine Vc.exit ?_); dsimp only [thenK, blockK, Nat.beq]; (first | (refine hN _ _ ?_; clear hN N) | skip)) | (with_reducible intro _) | ((with_reducible refine And.intro ?_ ?_); (focus (first | exact sideQ | exact sd0))) | ((first | ((with_reducible refine askT_of ?_ (fun hb => ?_)); (focus (first | exact sideQ | exact sd0)); (try simp only [hb])) | ((with_reducible refine Vc.fin ?_); dsimp only [thenK, blockK, retK, resS, resOne, resAll]) | ((with_reducible refine Vc.hold ?_); first | refine Vc.regiont T0_ok GPA_ok ?_)); (try simp only [v8X, v8A, v8B, v8C, Nat.beq, Nat.ble, Int.reduceToNat, Int.reduceLE, Int.reduceLT, Nat.reduceLT, Nat.reduceLeDiff, Nat.reduceAdd, Nat.reduceMul, Nat.reduceSub, Int.reduceAdd, Int.reduceSub, Int.reduceMul, eq_self, decide_true, beq_self_eq_true, List.length_cons, List.length_nil, Nat.min_eq_left, IntKind.bits, tabs, GPA_set]); (try simp (disch := omega) only [v8W])) | ((with_reducible refine hN _ _ ?_); clear hN N; (try simp (disch := omega) only [v8W])))); (try ((with_reducible refine Fin.of ?_); (try with_reducible exact True.intro))))
  exact ⟨by simp, trivial, rfl⟩
set_option maxRecDepth 20000 in
theorem lenY_vc (a : Option Addr) (n c : Nat) (xs : List Int) (at_ dp f : Int) (b K : Nat) (hr : rdOk n c xs at_) (hf : 0 ≤ f ∧ f ≤ 255) (hk : ¬ f % 64 ≤ 55) (hK : (f % 64 - 55).toNat = K) (hkn : K ≤ n) (hx : allB xs) (ha : adr a n c) (w : World) (hL : LiesH (HBut w b) a (cc (.ints .u8 xs))) (hm : MemOk w [b] [.blk b 64 (rdC a n c xs at_ dp), oldBut w b] w) :
    Calls Try.prog 41 (cvs [.ptr 0 b 0 0 0 0, .int .u8 f]).toArray w (fun en w' => ∃ u, en = .returned u ∧ ∃ v' m', u = cv v' ∧ MemOk w [b] m' w' ∧ v' = .tup [.int .u64 (rdI (xs.take K)), .bool (decide (0 < xs.getD 0 0) && decide (55 < (rdI (xs.take K) : Int)))] ∧ bget m' 0 = .blk b 64 (rdC (shA a c K 1) (n - K) (c - K) (xs.drop K) (at_ + K) dp)) := by
  have d1 : decide (f % 64 ≤ 55) = false := decide_eq_false hk
  have w1 := w64 (x := f % 64 - 55) (by omega)
  have f1 : tkV a n c xs K = _ := if_pos hkn
  have f2 : tkC a n c xs at_ dp K = _ := if_pos hkn
  have hK8 : 1 ≤ K ∧ K ≤ 8 := by omega
  unfold rdC at hm
  refine Vc.calls T0_ok Try.func41 rfl rfl (args := [.ptr 0 b 0 0 0 0, .int .u8 f]) (k := 45) rfl hm ?_; change Vc _ _ (c8 (.ptr 0 b 0 0 0 0) (.int .u8 f) .undef .undef .undef .undef .undef .undef (c8 .undef .undef .undef .undef .undef .undef .undef .undef (c8 .undef .undef .undef .undef .undef .undef .undef .undef (c8 .undef .undef .undef .undef .undef .undef .undef .undef (c8 .undef .undef .undef .undef .undef .undef .undef .undef ([.undef, .undef, .undef, .undef, .undef, .undef, .undef])))))) _ _
  ((repeat (first | (with_reducible refine Vc.seq fun N hN => ?_) | (with_reducible refine Vc.block ?_) | ((first | with_reducible refine Vc.skip ?_ | with_reducible refine Vc.exit ?_); dsimp only [thenK, blockK, Nat.beq]; (first | (refine hN _ _ ?_; clear hN N) | skip)) | (with_reducible intro _) | ((with_reducible refine And.intro ?_ ?_); (focus (first | exact sideQ | exact sd0))) | ((first | ((with_reducible refine askT_of ?_ (fun hb => ?_)); (focus (first | exact sideQ | exact sd0)); (try simp only [hb])) | ((with_reducible refine Vc.fin ?_); dsimp only [thenK, blockK, retK, resS, resOne, resAll]) | ((with_reducible refine Vc.hold ?_); first | refine Vc.regiont T0_ok GPA_ok ?_)); (try simp only [v8X, v8A, v8B, v8C, Nat.beq, Nat.ble, Int.reduceToNat, Int.reduceLE, Int.reduceLT, Nat.reduceLT, Nat.reduceLeDiff, Nat.reduceAdd, Nat.reduceMul, Nat.reduceSub, Int.reduceAdd, Int.reduceSub, Int.reduceMul, eq_self, decide_true, beq_self_eq_true, List.length_cons, List.length_nil, Nat.min_eq_left, IntKind.bits, tabs, GPA_set, d1]); (try simp (disch := omega) only [v8W])) | ((with_reducible refine hN _ _ ?_); clear hN N; (try simp (disch := omega) only [v8W])))); (try ((with_reducible refine Fin.of ?_); (try with_reducible exact True.intro))))
  (refine Vc.cond T0_ok (t := false) (by rfl) (fun h => Bool.noConfusion h) (fun _ => ?_))
  ((repeat (first | (with_reducible refine Vc.seq fun N hN => ?_) | (with_reducible refine Vc.block ?_) | ((first | with_reducible refine Vc.skip ?_ | with_reducible refine Vc.exit ?_); dsimp only [thenK, blockK, Nat.beq]; (first | (refine hN _ _ ?_; clear hN N) | skip)) | (with_reducible intro _) | ((with_reducible refine And.intro ?_ ?_); (focus (first | exact sideQ | exact sd0))) | ((first | ((with_reducible refine askT_of ?_ (fun hb => ?_)); (focus (first | exact sideQ | exact sd0)); (try simp only [hb])) | ((with_reducible refine Vc.fin ?_); dsimp only [thenK, blockK, retK, resS, resOne, resAll]) | ((with_reducible refine Vc.hold ?_); first | refine Vc.regiont T0_ok GPA_ok ?_)); (try simp only [v8X, v8A, v8B, v8C, Nat.beq, Nat.ble, Int.reduceToNat, Int.reduceLE, Int.reduceLT, Nat.reduceLT, Nat.reduceLeDiff, Nat.reduceAdd, Nat.reduceMul, Nat.reduceSub, Int.reduceAdd, Int.reduceSub, Int.reduceMul, eq_self, decide_true, beq_self_eq_true, List.length_cons, List.length_nil, Nat.min_eq_left, IntKind.bits, tabs, GPA_set, w1, hK, f1, f2]); (try simp (disch := omega) only [v8W])) | ((with_reducible refine hN _ _ ?_); clear hN N; (try simp (disch := omega) only [v8W])))); (try ((with_reducible refine Fin.of ?_); (try with_reducible exact True.intro))))
  (refine Vc.cond T0_ok (t := false) (by rfl) (fun h => Bool.noConfusion h) (fun _ => ?_))
  ((repeat (first | (with_reducible refine Vc.seq fun N hN => ?_) | (with_reducible refine Vc.block ?_) | ((first | with_reducible refine Vc.skip ?_ | with_reducible refine Vc.exit ?_); dsimp only [thenK, blockK, Nat.beq]; (first | (refine hN _ _ ?_; clear hN N) | skip)) | (with_reducible intro _) | ((with_reducible refine And.intro ?_ ?_); (focus (first | exact sideQ | exact sd0))) | ((first | ((with_reducible refine askT_of ?_ (fun hb => ?_)); (focus (first | exact sideQ | exact sd0)); (try simp only [hb])) | ((with_reducible refine Vc.fin ?_); dsimp only [thenK, blockK, retK, resS, resOne, resAll]) | ((with_reducible refine Vc.hold ?_); first | refine Vc.regiont T0_ok GPA_ok ?_)); (try simp only [v8X, v8A, v8B, v8C, Nat.beq, Nat.ble, Int.reduceToNat, Int.reduceLE, Int.reduceLT, Nat.reduceLT, Nat.reduceLeDiff, Nat.reduceAdd, Nat.reduceMul, Nat.reduceSub, Int.reduceAdd, Int.reduceSub, Int.reduceMul, eq_self, decide_true, beq_self_eq_true, List.length_cons, List.length_nil, Nat.min_eq_left, IntKind.bits, tabs, GPA_set]); (try simp (disch := omega) only [v8W])) | ((with_reducible refine hN _ _ ?_); clear hN N; (try simp (disch := omega) only [v8W])))); (try ((with_reducible refine Fin.of ?_); (try with_reducible exact True.intro))))
  (revert N; intro N1 hN1)
  have hxl : xs.length = n := hr.1
  have hKc : K ≤ c := Nat.le_trans hkn hr.2.1
  have haK : adr a K c := ha.imp id fun h => ⟨h.1, by omega, h.2.2⟩
  have hLy : ∀ m, oldBut w b ∈ m → LiesH (HM m) a (cc (.ints .u8 (xs.take K))) := fun m hin => lies_take K (hL.mono (HBut.hm hin))
  have hyl : (xs.take K).length = K := by rw [List.length_take]; omega
  have hya : allB (xs.take K) := fun y hy => hx y (List.mem_of_mem_take hy)
  have hy0 : (xs.take K).getD 0 0 = xs.getD 0 0 := by rw [List.getD_eq_getElem?_getD, List.getD_eq_getElem?_getD, List.getElem?_take, if_pos (by omega)]
  generalize xs.take K = ys at *
  refine Vc.loop 6 47 (fun (j : Nat) => [(6, .int .u64 (rdI (ys.take j) : Nat)), (7, .gh a K c (.ints .u8 ys)), (26, .gh a K c (.ints .u8 ys)), (27, .int .i64 K), (28, .int .i64 (j : Nat))]) (fun _ => [.blk b 64 (rdC (shA a c K 1) (n - K) (c - K) (xs.drop K) (at_ + K) dp), oldBut w b]) (fun j => j ≤ K) (fun j => K - j) 0 ⟨Nat.zero_le _, ?_, ?_⟩ (fun j junk hj => ?_)
  · ((try simp only [v8X, v8A, v8B, v8C, Nat.beq, Nat.ble, Int.reduceToNat, Int.reduceLE, Int.reduceLT, Nat.reduceLT, Nat.reduceLeDiff, Nat.reduceAdd, Nat.reduceMul, Nat.reduceSub, Int.reduceAdd, Int.reduceSub, Int.reduceMul, eq_self, decide_true, beq_self_eq_true, List.length_cons, List.length_nil, Nat.min_eq_left, IntKind.bits, tabs]); (repeat' with_reducible apply And.intro) <;> first | with_reducible exact True.intro | rfl | with_reducible rfl | (congr 1 <;> omega) | trivial)
  · ((try simp only [v8X, v8A, v8B, v8C, Nat.beq, Nat.ble, Int.reduceToNat, Int.reduceLE, Int.reduceLT, Nat.reduceLT, Nat.reduceLeDiff, Nat.reduceAdd, Nat.reduceMul, Nat.reduceSub, Int.reduceAdd, Int.reduceSub, Int.reduceMul, eq_self, decide_true, beq_self_eq_true, List.length_cons, List.length_nil, Nat.min_eq_left, IntKind.bits, tabs]); (repeat' with_reducible apply And.intro) <;> first | with_reducible exact True.intro | rfl | with_reducible rfl | (congr 1 <;> omega) | trivial)
  · (simp only [v8X, v8A, v8B, v8C, Nat.beq, Nat.ble, Int.reduceToNat, Int.reduceLE, Int.reduceLT, Nat.reduceLT, Nat.reduceLeDiff, Nat.reduceAdd, Nat.reduceMul, Nat.reduceSub, Int.reduceAdd, Int.reduceSub, Int.reduceMul, eq_self, decide_true, beq_self_eq_true, List.length_cons, List.length_nil, Nat.min_eq_left, IntKind.bits, tabs])
    by_cases hc : j < K
    · have e0 : decide ((j : Int) < (K : Int)) = true := decide_eq_true (by omega)
      have hy := hya _ (List.getElem_mem (show j < ys.length by omega))
      have hgd : ys.getD j 0 = ys[j]'(by omega) := by rw [List.getD_eq_getElem?_getD, List.getElem?_eq_getElem (by omega)]; rfl
      rw [← hgd] at hy
      have ht := take_s (xs := ys) (j := j) (by omega)
      have hlt := rdI_lt (l := ys.take j) (fun y hy => hya y (List.mem_of_mem_take hy))
      have hl2 : (ys.take j).length = j := by rw [List.length_take]; omega
      have hlt2 : rdI (ys.take j) < 2 ^ 56 := by
        have h1 : (256 : Nat) ^ j ≤ 256 ^ 7 := Nat.pow_le_pow_right (by decide) (by omega)
        rw [hl2] at hlt
        exact Nat.lt_of_lt_of_le hlt (by simpa using h1)
      have ho := or_byte hlt2 hy.1 hy.2
      have hw := w64 (x := ys.getD j 0) (by omega)
      rw [← rdI_put, ← ht] at ho
      ((repeat (first | (with_reducible refine Vc.seq fun N hN => ?_) | (with_reducible refine Vc.block ?_) | ((first | with_reducible refine Vc.skip ?_ | with_reducible refine Vc.exit ?_); dsimp only [thenK, blockK, Nat.beq]; (first | (refine hN _ _ ?_; clear hN N) | skip)) | (with_reducible intro _) | ((with_reducible refine And.intro ?_ ?_); (focus (first | exact sideQ | exact sd0))) | ((first | ((with_reducible refine askT_of ?_ (fun hb => ?_)); (focus (first | exact sideQ | exact sd0)); (try simp only [hb])) | ((with_reducible refine Vc.fin ?_); dsimp only [thenK, blockK, retK, resS, resOne, resAll]) | ((with_reducible refine Vc.hold ?_); first | refine Vc.regiont T0_ok GPA_ok ?_)); (try simp only [v8X, v8A, v8B, v8C, Nat.beq, Nat.ble, Int.reduceToNat, Int.reduceLE, Int.reduceLT, Nat.reduceLT, Nat.reduceLeDiff, Nat.reduceAdd, Nat.reduceMul, Nat.reduceSub, Int.reduceAdd, Int.reduceSub, Int.reduceMul, eq_self, decide_true, beq_self_eq_true, List.length_cons, List.length_nil, Nat.min_eq_left, IntKind.bits, tabs, GPA_set, e0]); (try simp (disch := omega) only [v8W])) | ((with_reducible refine hN _ _ ?_); clear hN N; (try simp (disch := omega) only [v8W])))); (try ((with_reducible refine Fin.of ?_); (try with_reducible exact True.intro))))
      (refine Vc.cond T0_ok (t := true) (by rfl) (fun _ => ?_) (fun h => Bool.noConfusion h))
      ((repeat (first | (with_reducible refine Vc.seq fun N hN => ?_) | (with_reducible refine Vc.block ?_) | ((first | with_reducible refine Vc.skip ?_ | with_reducible refine Vc.exit ?_); dsimp only [thenK, blockK, Nat.beq]; (first | (refine hN _ _ ?_; clear hN N) | skip)) | (with_reducible intro _) | ((with_reducible refine And.intro ?_ ?_); (focus (first | ((repeat' with_reducible apply And.intro) <;> first | exact sideQ | (exact hLy _ List.mem_cons_self) | (exact hLy _ (List.mem_cons_of_mem _ List.mem_cons_self))) | exact sd0))) | ((first | ((with_reducible refine askT_of ?_ (fun hb => ?_)); (focus (first | ((repeat' with_reducible apply And.intro) <;> first | exact sideQ | (exact hLy _ List.mem_cons_self) | (exact hLy _ (List.mem_cons_of_mem _ List.mem_cons_self))) | exact sd0)); (try simp only [hb])) | ((with_reducible refine Vc.fin ?_); dsimp only [thenK, blockK, retK, resS, resOne, resAll]) | ((with_reducible refine Vc.hold ?_); first | refine Vc.regiont T0_ok GPA_ok ?_)); (try simp only [v8X, v8A, v8B, v8C, Nat.beq, Nat.ble, Int.reduceToNat, Int.reduceLE, Int.reduceLT, Nat.reduceLT, Nat.reduceLeDiff, Nat.reduceAdd, Nat.reduceMul, Nat.reduceSub, Int.reduceAdd, Int.reduceSub, Int.reduceMul, eq_self, decide_true, beq_self_eq_true, List.length_cons, List.length_nil, Nat.min_eq_left, IntKind.bits, tabs, GPA_set, hw, ho, tnc, conEs.eq_def, conN.eq_def]); (try simp (disch := omega) only [v8W])) | ((with_reducible refine hN _ _ ?_); clear hN N; (try simp (disch := omega) only [v8W])))); (try ((with_reducible refine Fin.of ?_); (try with_reducible exact True.intro))))
      refine ⟨j + 1, by omega, ?_, ?_, by omega⟩
      · ((try simp only [v8X, v8A, v8B, v8C, Nat.beq, Nat.ble, Int.reduceToNat, Int.reduceLE, Int.reduceLT, Nat.reduceLT, Nat.reduceLeDiff, Nat.reduceAdd, Nat.reduceMul, Nat.reduceSub, Int.reduceAdd, Int.reduceSub, Int.reduceMul, eq_self, decide_true, beq_self_eq_true, List.length_cons, List.length_nil, Nat.min_eq_left, IntKind.bits, tabs]); (repeat' with_reducible apply And.intro) <;> first | with_reducible exact True.intro | exact ho | with_reducible rfl | (congr 1 <;> omega) | trivial)
      · ((try simp only [v8X, v8A, v8B, v8C, Nat.beq, Nat.ble, Int.reduceToNat, Int.reduceLE, Int.reduceLT, Nat.reduceLT, Nat.reduceLeDiff, Nat.reduceAdd, Nat.reduceMul, Nat.reduceSub, Int.reduceAdd, Int.reduceSub, Int.reduceMul, eq_self, decide_true, beq_self_eq_true, List.length_cons, List.length_nil, Nat.min_eq_left, IntKind.bits, tabs]); (repeat' with_reducible apply And.intro) <;> first | with_reducible exact True.intro | rfl | with_reducible rfl | (congr 1 <;> omega) | trivial)
    · obtain rfl : j = K := by omega
      have e0 : decide ((j : Int) < (j : Int)) = false := decide_eq_false (by omega)
      ((repeat (first | (with_reducible refine Vc.seq fun N hN => ?_) | (with_reducible refine Vc.block ?_) | ((first | with_reducible refine Vc.skip ?_ | with_reducible refine Vc.exit ?_); dsimp only [thenK, blockK, Nat.beq]; (first | (refine hN _ _ ?_; clear hN N) | skip)) | (with_reducible intro _) | ((with_reducible refine And.intro ?_ ?_); (focus (first | exact sideQ | exact sd0))) | ((first | ((with_reducible refine askT_of ?_ (fun hb => ?_)); (focus (first | exact sideQ | exact sd0)); (try simp only [hb])) | ((with_reducible refine Vc.fin ?_); dsimp only [thenK, blockK, retK, resS, resOne, resAll]) | ((with_reducible refine Vc.hold ?_); first | refine Vc.regiont T0_ok GPA_ok ?_)); (try simp only [v8X, v8A, v8B, v8C, Nat.beq, Nat.ble, Int.reduceToNat, Int.reduceLE, Int.reduceLT, Nat.reduceLT, Nat.reduceLeDiff, Nat.reduceAdd, Nat.reduceMul, Nat.reduceSub, Int.reduceAdd, Int.reduceSub, Int.reduceMul, eq_self, decide_true, beq_self_eq_true, List.length_cons, List.length_nil, Nat.min_eq_left, IntKind.bits, tabs, GPA_set, e0, tnc]); (try simp (disch := omega) only [v8W])) | ((with_reducible refine hN _ _ ?_); clear hN N; (try simp (disch := omega) only [v8W])))); (try ((with_reducible refine Fin.of ?_); (try with_reducible exact True.intro))))
      (refine Vc.cond T0_ok (t := false) (by rfl) (fun h => Bool.noConfusion h) (fun _ => ?_))
      ((repeat (first | (with_reducible refine Vc.seq fun N hN => ?_) | (with_reducible refine Vc.block ?_) | ((first | with_reducible refine Vc.skip ?_ | with_reducible refine Vc.exit ?_); dsimp only [thenK, blockK, Nat.beq]; (first | (refine hN _ _ ?_; clear hN N) | skip)) | (with_reducible intro _) | ((with_reducible refine And.intro ?_ ?_); (focus (first | exact sideQ | exact sd0))) | ((first | ((with_reducible refine askT_of ?_ (fun hb => ?_)); (focus (first | exact sideQ | exact sd0)); (try simp only [hb])) | ((with_reducible refine Vc.fin ?_); dsimp only [thenK, blockK, retK, resS, resOne, resAll]) | ((with_reducible refine Vc.hold ?_); first | refine Vc.regiont T0_ok GPA_ok ?_)); (try simp only [v8X, v8A, v8B, v8C, Nat.beq, Nat.ble, Int.reduceToNat, Int.reduceLE, Int.reduceLT, Nat.reduceLT, Nat.reduceLeDiff, Nat.reduceAdd, Nat.reduceMul, Nat.reduceSub, Int.reduceAdd, Int.reduceSub, Int.reduceMul, eq_self, decide_true, beq_self_eq_true, List.length_cons, List.length_nil, Nat.min_eq_left, IntKind.bits, tabs, GPA_set]); (try simp (disch := omega) only [v8W])) | ((with_reducible refine hN _ _ ?_); clear hN N; (try simp (disch := omega) only [v8W])))); (try ((with_reducible refine Fin.of ?_); (try with_reducible exact True.intro))))
      (refine hN1 _ _ ?_; (try clear hN N); clear hN1 N1)
      have ut : ys.take j = ys := List.take_of_length_le (by omega)
      by_cases hz : 0 < xs.getD 0 0
      · have d2 : decide (0 < ys.getD 0 0) = true := decide_eq_true (by rw [hy0]; exact hz)
        have d3 : decide (0 < xs.getD 0 0) = true := decide_eq_true hz
        ((repeat (first | (with_reducible refine Vc.seq fun N hN => ?_) | (with_reducible refine Vc.block ?_) | ((first | with_reducible refine Vc.skip ?_ | with_reducible refine Vc.exit ?_); dsimp only [thenK, blockK, Nat.beq]; (first | (refine hN _ _ ?_; clear hN N) | skip)) | (with_reducible intro _) | ((with_reducible refine And.intro ?_ ?_); (focus (first | ((repeat' with_reducible apply And.intro) <;> first | exact sideQ | (exact hLy _ List.mem_cons_self) | (exact hLy _ (List.mem_cons_of_mem _ List.mem_cons_self))) | exact sd0))) | ((first | ((with_reducible refine askT_of ?_ (fun hb => ?_)); (focus (first | ((repeat' with_reducible apply And.intro) <;> first | exact sideQ | (exact hLy _ List.mem_cons_self) | (exact hLy _ (List.mem_cons_of_mem _ List.mem_cons_self))) | exact sd0)); (try simp only [hb])) | ((with_reducible refine Vc.fin ?_); dsimp only [thenK, blockK, retK, resS, resOne, resAll]) | ((with_reducible refine Vc.hold ?_); first | refine Vc.regiont T0_ok GPA_ok ?_)); (try simp only [v8X, v8A, v8B, v8C, Nat.beq, Nat.ble, Int.reduceToNat, Int.reduceLE, Int.reduceLT, Nat.reduceLT, Nat.reduceLeDiff, Nat.reduceAdd, Nat.reduceMul, Nat.reduceSub, Int.reduceAdd, Int.reduceSub, Int.reduceMul, eq_self, decide_true, beq_self_eq_true, List.length_cons, List.length_nil, Nat.min_eq_left, IntKind.bits, tabs, GPA_set, ut, d2, d3, tnc, conEs.eq_def, conN.eq_def]); (try simp (disch := omega) only [v8W])) | ((with_reducible refine hN _ _ ?_); clear hN N; (try simp (disch := omega) only [v8W])))); (try ((with_reducible refine Fin.of ?_); (try with_reducible exact True.intro))))
        exact ⟨by simp, by simp, by first | exact True.intro | rfl⟩
      · have d2 : decide (0 < ys.getD 0 0) = false := decide_eq_false (by rw [hy0]; exact hz)
        have d3 : decide (0 < xs.getD 0 0) = false := decide_eq_false hz
        ((repeat (first | (with_reducible refine Vc.seq fun N hN => ?_) | (with_reducible refine Vc.block ?_) | ((first | with_reducible refine Vc.skip ?_ | with_reducible refine Vc.exit ?_); dsimp only [thenK, blockK, Nat.beq]; (first | (refine hN _ _ ?_; clear hN N) | skip)) | (with_reducible intro _) | ((with_reducible refine And.intro ?_ ?_); (focus (first | ((repeat' with_reducible apply And.intro) <;> first | exact sideQ | (exact hLy _ List.mem_cons_self) | (exact hLy _ (List.mem_cons_of_mem _ List.mem_cons_self))) | exact sd0))) | ((first | ((with_reducible refine askT_of ?_ (fun hb => ?_)); (focus (first | ((repeat' with_reducible apply And.intro) <;> first | exact sideQ | (exact hLy _ List.mem_cons_self) | (exact hLy _ (List.mem_cons_of_mem _ List.mem_cons_self))) | exact sd0)); (try simp only [hb])) | ((with_reducible refine Vc.fin ?_); dsimp only [thenK, blockK, retK, resS, resOne, resAll]) | ((with_reducible refine Vc.hold ?_); first | refine Vc.regiont T0_ok GPA_ok ?_)); (try simp only [v8X, v8A, v8B, v8C, Nat.beq, Nat.ble, Int.reduceToNat, Int.reduceLE, Int.reduceLT, Nat.reduceLT, Nat.reduceLeDiff, Nat.reduceAdd, Nat.reduceMul, Nat.reduceSub, Int.reduceAdd, Int.reduceSub, Int.reduceMul, eq_self, decide_true, beq_self_eq_true, List.length_cons, List.length_nil, Nat.min_eq_left, IntKind.bits, tabs, GPA_set, ut, d2, d3, tnc, conEs.eq_def, conN.eq_def]); (try simp (disch := omega) only [v8W])) | ((with_reducible refine hN _ _ ?_); clear hN N; (try simp (disch := omega) only [v8W])))); (try ((with_reducible refine Fin.of ?_); (try with_reducible exact True.intro))))
        exact ⟨by simp, by simp, by first | exact True.intro | rfl⟩
/-- What a head's rest tells, and what is left behind it. -/
def lnV (n : Nat) (xs : List Int) (f : Int) : SV := if f % 64 ≤ 55 then .tup [.int .u64 (f % 64), .bool true] else if (f % 64 - 55).toNat ≤ n then .tup [.int .u64 (rdI (xs.take (f % 64 - 55).toNat)), .bool (decide (0 < xs.getD 0 0) && decide (55 < (rdI (xs.take (f % 64 - 55).toNat) : Int)))] else .tup [.int .u64 0, .bool false]
def lnC (a : Option Addr) (n c : Nat) (xs : List Int) (at_ dp f : Int) : Con := if f % 64 ≤ 55 then .cells [.gh a n c (.ints .u8 xs), .int .i64 at_, .int .i64 dp] else tkC a n c xs at_ dp (f % 64 - 55).toNat
def g_rlen (args : List SV) (m : List Blk) : CR :=
  match args with
  | [.ptr nm b base i sz j, .int .u8 f] => match bget m nm with
    | .blk b' t (.cells [.gh a n c (.ints .u8 xs), .int .i64 at_, .int .i64 dp]) => .turn (b = b' ∧ t = 64 ∧ base = 0 ∧ i = 0 ∧ sz = 0 ∧ j = 0 ∧ rdOk n c xs at_ ∧ (0 ≤ f ∧ f ≤ 255) ∧ allB xs ∧ adr a n c ∧ LiesH (HM (bset m nm .gone)) a (cc (.ints .u8 xs))) nm (lnC a n c xs at_ dp f) (lnV n xs f)
    | _ => .none
  | _ => .none
theorem g_rlen_ok (w0 : World) (B : List Nat) (args : List SV) (m : List Blk) : CROk Try.prog w0 B 41 args m (g_rlen args m) := by
  unfold g_rlen
  split
  · split
    · rename_i nm b base i sz j f _ b' t a n c xs at_ dp hb
      intro ⟨h1, h2, h3, h4, h5, h6, h7, h8, h9, h10, h11⟩ w hm
      subst h1; subst h2; subst h3; subst h4; subst h5; subst h6
      by_cases hk : f % 64 ≤ 55
      · simp only [lnC, lnV, if_pos hk]
        exact calls_turn Try.func41 rfl rfl hm hb (k := 0) (args' := [.ptr 0 b 0 0 0 0, .int .u8 f]) rfl (lenS_vc a n c xs at_ dp f b h7 h8 hk w (turn_old hm hb))
      · by_cases hkn : (f % 64 - 55).toNat ≤ n
        · simp only [lnC, lnV, tkC, if_neg hk, if_pos hkn]
          exact calls_turn Try.func41 rfl rfl hm hb (k := 0) (args' := [.ptr 0 b 0 0 0 0, .int .u8 f]) rfl (lenY_vc a n c xs at_ dp f b _ h7 h8 hk rfl hkn h9 h10 w (h11.mono (HM.but hm hb)) (turn_old hm hb))
        · simp only [lnC, lnV, tkC, if_neg hk, if_neg hkn]
          exact calls_turn Try.func41 rfl rfl hm hb (k := 0) (args' := [.ptr 0 b 0 0 0 0, .int .u8 f]) rfl (lenN_vc a n c xs at_ dp f b h7 h8 hk hkn w (turn_old hm hb))
    · exact trivial
  · exact trivial
noncomputable def GPB : Ctr := fun f args m => match f with
  | 40 => g_take args m
  | 24 => g_apNum args m
  | 31 => g_apHead args m
  | 36 => g_bare args m
  | 22 => g_Rev args m
  | 41 => g_rlen args m
  | _ => .none
theorem GPB_ok : GOk Try.prog GPB := by
  intro w0 B f args m; unfold GPB; split
  · exact g_take_ok _ _ _ _
  · exact g_apNum_ok _ _ _ _
  · exact g_apHead_ok _ _ _ _
  · exact g_bare_ok _ _ _ _
  · exact g_Rev_ok _ _ _ _
  · exact g_rlen_ok _ _ _ _
  · exact trivial
theorem GPB_take : GPB 40 = g_take := by funext args m; rfl
theorem GPB_apNum : GPB 24 = g_apNum := by funext args m; rfl
theorem GPB_apHead : GPB 31 = g_apHead := by funext args m; rfl
theorem GPB_bare : GPB 36 = g_bare := by funext args m; rfl
theorem GPB_Rev : GPB 22 = g_Rev := by funext args m; rfl
theorem GPB_rlen : GPB 41 = g_rlen := by funext args m; rfl
def GPB_set := And.intro (And.intro (And.intro (@GPB_take) (And.intro (@g_take.eq_def) (@GPB_apNum))) (And.intro (@g_apNum.eq_def) (And.intro (@GPB_apHead) (@g_apHead.eq_def)))) (And.intro (And.intro (@GPB_bare) (And.intro (@g_bare.eq_def) (@GPB_Rev))) (And.intro (@g_Rev.eq_def) (And.intro (@GPB_rlen) (@g_rlen.eq_def))))

end Go.Proofs.Ytlogpdjcgbifhaa
