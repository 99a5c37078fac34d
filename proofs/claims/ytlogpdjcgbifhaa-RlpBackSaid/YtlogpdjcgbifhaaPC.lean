/-
  RLP: what bytes begin with: an item's head and body (package rlp: split), walked. No condition.
-/
import Derived.Test.YtlogpdjcgbifhaaPB
namespace Go.Proofs.Ytlogpdjcgbifhaa
set_option linter.unusedSimpArgs false
set_option linter.unusedVariables false
set_option maxHeartbeats 4000000
set_option linter.defProp false
open Go.RowKit
/-- What a head's rest tells: how long the body is, and what stands behind the head. -/
def lnO (ys : List Int) (f : Int) : Option (Nat × List Int) :=
  if f % 64 ≤ 55 then some ((f % 64).toNat, ys)
  else if (f % 64 - 55).toNat ≤ ys.length ∧ 0 < ys.getD 0 0 ∧ 55 < rdI (ys.take (f % 64 - 55).toNat) then some (rdI (ys.take (f % 64 - 55).toNat), ys.drop (f % 64 - 55).toNat)
  else none
/-- The item that bytes begin with: a list or not, its body, what is behind it. -/
def hdd : List Int → Option (Bool × List Int × List Int)
  | [] => none
  | f :: ys => if f < 128 then some (false, [f], ys) else match lnO ys f with
    | none => none
    | some (N, zs) => if N ≤ zs.length then (if (decide (f < 192) && bareB (zs.take N)) = true then none else some (decide (192 ≤ f), zs.take N, zs.drop N)) else none
/-- A piece of a slice: it lies where the slice lies. -/
structure Pc (a : Option Addr) (xs : List Int) (a1 : Option Addr) (n1 c1 : Nat) (ys : List Int) : Prop where
  len : ys.length = n1
  cap : n1 ≤ c1
  adr : adr a1 n1 c1
  all : allB xs → allB ys
  lies : ∀ H, LiesH H a (cc (.ints .u8 xs)) → LiesH H a1 (cc (.ints .u8 ys))
theorem Pc.refl {a : Option Addr} {xs : List Int} {n c : Nat} (hl : xs.length = n) (hc : n ≤ c) (ha : Go.Proofs.Ytlogpdjcgbifhaa.adr a n c) : Pc a xs a n c xs := ⟨hl, hc, ha, id, fun _ => id⟩
theorem Pc.take {a : Option Addr} {xs : List Int} {a1 : Option Addr} {n1 c1 : Nat} {ys : List Int} (h : Pc a xs a1 n1 c1 ys) {k : Nat} (hk : k ≤ n1) : Pc a xs a1 k c1 (ys.take k) :=
  ⟨by rw [List.length_take, h.len]; omega, Nat.le_trans hk h.cap, h.adr.imp id fun g => ⟨g.1, by omega, g.2.2⟩, fun g y hy => h.all g y (List.mem_of_mem_take hy), fun H g => lies_take k (h.lies H g)⟩
theorem Pc.drop {a : Option Addr} {xs : List Int} {a1 : Option Addr} {n1 c1 : Nat} {ys : List Int} (h : Pc a xs a1 n1 c1 ys) {k : Nat} (hk : k ≤ n1) : Pc a xs (shA a1 c1 k 1) (n1 - k) (c1 - k) (ys.drop k) :=
  ⟨by rw [List.length_drop, h.len], Nat.sub_le_sub_right h.cap k, adr_shA h.adr hk h.cap, fun g y hy => h.all g y (List.mem_of_mem_drop hy), fun H g => lies_shA (h.lies H g) h.len h.cap⟩
theorem Pc.cons {a : Option Addr} {f : Int} {xs : List Int} {n c : Nat} (h : Pc a (f :: xs) a n c (f :: xs)) : Pc a (f :: xs) (shA a c 1 1) (n - 1) (c - 1) xs := by
  have := h.drop (k := 1) (by have := h.len; simp at this; omega)
  simpa using this
/-- What split tells, and what it leaves. -/
def sptQ (a : Option Addr) (xs : List Int) (at_ dp : Int) (v : SV) (C : Con) : Prop :=
  match hdd xs with
  | none => v = .tup [.int .u8 0, .nilsl, .bool false]
  | some (l, ys, zs) => ∃ (f : Int) (a1 a2 : Option Addr) (c1 c2 : Nat), v = .tup [.int .u8 f, .gh a1 ys.length c1 (.ints .u8 ys), .bool true] ∧ l = decide (192 ≤ f) ∧ Pc a xs a1 ys.length c1 ys ∧ Pc a xs a2 zs.length c2 zs ∧
    C = .cells [.gh a2 zs.length c2 (.ints .u8 zs), .int .i64 (at_ + (xs.length - zs.length : Nat)), .int .i64 dp] ∧ zs.length + ys.length ≤ xs.length ∧ zs.length < xs.length ∧ (f < 128 → ys.length = 1)
theorem hdd_lo {f : Int} {ys : List Int} (h : f < 128) : hdd (f :: ys) = some (false, [f], ys) := if_pos h
theorem hdd_no {f : Int} {ys : List Int} (h : ¬ f < 128) (h2 : lnO ys f = none) : hdd (f :: ys) = none := (if_neg h).trans (by rw [h2])
theorem hdd_hi {f : Int} {ys : List Int} (h : ¬ f < 128) {N : Nat} {zs : List Int} (h2 : lnO ys f = some (N, zs)) : hdd (f :: ys) = if N ≤ zs.length then (if (decide (f < 192) && bareB (zs.take N)) = true then none else some (decide (192 ≤ f), zs.take N, zs.drop N)) else none := (if_neg h).trans (by rw [h2])
theorem sptQ_none {a : Option Addr} {xs : List Int} {at_ dp : Int} (h : hdd xs = none) (C : Con) : sptQ a xs at_ dp (.tup [.int .u8 0, .nilsl, .bool false]) C := by unfold sptQ; rw [h]
theorem sptQ_some {a : Option Addr} {xs : List Int} {at_ dp : Int} {l : Bool} {ys zs : List Int} (h : hdd xs = some (l, ys, zs)) {v : SV} {C : Con} (h2 : ∃ (f : Int) (a1 a2 : Option Addr) (c1 c2 : Nat), v = .tup [.int .u8 f, .gh a1 ys.length c1 (.ints .u8 ys), .bool true] ∧ l = decide (192 ≤ f) ∧ Pc a xs a1 ys.length c1 ys ∧ Pc a xs a2 zs.length c2 zs ∧
    C = .cells [.gh a2 zs.length c2 (.ints .u8 zs), .int .i64 (at_ + (xs.length - zs.length : Nat)), .int .i64 dp] ∧ zs.length + ys.length ≤ xs.length ∧ zs.length < xs.length ∧ (f < 128 → ys.length = 1)) : sptQ a xs at_ dp v C := by unfold sptQ; rw [h]; exact h2
/-- What length tells, put otherwise. -/
theorem ln_cases {a : Option Addr} {n c : Nat} {xs : List Int} {a0 : Option Addr} {x0 : List Int} (hp : Pc a0 x0 a n c xs) (f at_ dp : Int) (hf : 0 ≤ f ∧ f ≤ 255) :
    (lnO xs f = none ∧ ∃ v C, lnV n xs f = .tup [.int .u64 v, .bool false] ∧ lnC a n c xs at_ dp f = C) ∨
    ∃ (N : Nat) (zs : List Int) (a2 : Option Addr) (n2 c2 : Nat), lnO xs f = some (N, zs) ∧ lnV n xs f = .tup [.int .u64 (N : Nat), .bool true] ∧ Pc a0 x0 a2 n2 c2 zs ∧ n2 ≤ n ∧
      lnC a n c xs at_ dp f = .cells [.gh a2 n2 c2 (.ints .u8 zs), .int .i64 (at_ + (n - n2 : Nat)), .int .i64 dp] := by
  unfold lnO lnV lnC
  by_cases hk : f % 64 ≤ 55
  · rw [if_pos hk, if_pos hk, if_pos hk]
    refine .inr ⟨_, xs, a, n, c, rfl, ?_, hp, Nat.le_refl _, ?_⟩
    · rw [show (((f % 64).toNat : Nat) : Int) = f % 64 by omega]
    · rw [Nat.sub_self]; simp
  · rw [if_neg hk, if_neg hk, if_neg hk, hp.len]
    generalize hK : (f % 64 - 55).toNat = K
    by_cases hkn : K ≤ n
    · rw [if_pos hkn]
      unfold tkC; rw [if_pos hkn]
      by_cases hz : 0 < xs.getD 0 0 ∧ 55 < rdI (xs.take K)
      · rw [if_pos ⟨hkn, hz⟩, decide_eq_true hz.1, decide_eq_true (show (55 : Int) < (rdI (xs.take K) : Int) by omega)]
        refine .inr ⟨_, xs.drop K, _, _, _, rfl, rfl, hp.drop hkn, Nat.sub_le _ _, ?_⟩
        rw [show n - (n - K) = K by omega]
      · rw [if_neg fun h => hz h.2]
        have hff : (decide (0 < xs.getD 0 0) && decide ((55 : Int) < (rdI (xs.take K) : Int))) = false := by
          rw [Bool.and_eq_false_iff, decide_eq_false_iff_not, decide_eq_false_iff_not]
          by_cases h0 : 0 < xs.getD 0 0
          · exact .inr fun h => hz ⟨h0, by omega⟩
          · exact .inl h0
        rw [hff]
        exact .inl ⟨rfl, _, _, rfl, rfl⟩
    · rw [if_neg hkn, if_neg fun h => hkn h.1]
      exact .inl ⟨rfl, _, _, rfl, rfl⟩
set_option maxRecDepth 20000 in
theorem split_vc (a : Option Addr) (n c : Nat) (xs : List Int) (at_ dp : Int) (b : Nat) (hr : rdOk n c xs at_) (hx : allB xs) (ha : adr a n c) (w : World) (hL : LiesH (HBut w b) a (cc (.ints .u8 xs))) (hm : MemOk w [b] [.blk b 64 (rdC a n c xs at_ dp), oldBut w b] w) :
    Calls Try.prog 38 (cvs [.ptr 0 b 0 0 0 0]).toArray w (fun en w' => ∃ u, en = .returned u ∧ ∃ v' m', u = cv v' ∧ MemOk w [b] m' w' ∧ ∃ C, sptQ a xs at_ dp v' C ∧ bget m' 0 = .blk b 64 C) := by
  have hr2 := hr
  obtain ⟨hl, hn, hmx, h0, h1⟩ := hr2
  unfold rdC at hm
  match xs, hl, hx, hL, hr, hm with
  | [], hl, hx, hL, hr, hm =>
    have hn0 : n = 0 := by simpa using hl.symm
    have f1 : tkV a n c [] 1 = _ := if_neg (by omega)
    have f2 : tkC a n c [] at_ dp 1 = _ := if_neg (by omega)
    have hs : ∀ C, sptQ a [] at_ dp (.tup [.int .u8 0, .nilsl, .bool false]) C := fun C => rfl
    refine Vc.calls T0_ok Try.func38 rfl rfl (args := [.ptr 0 b 0 0 0 0]) (k := 49) rfl hm ?_; change Vc _ _ (c8 (.ptr 0 b 0 0 0 0) .undef .undef .undef .undef .undef .undef .undef (c8 .undef .undef .undef .undef .undef .undef .undef .undef (c8 .undef .undef .undef .undef .undef .undef .undef .undef (c8 .undef .undef .undef .undef .undef .undef .undef .undef (c8 .undef .undef .undef .undef .undef .undef .undef .undef (c8 .undef .undef .undef .undef .undef .undef .undef .undef ([.undef, .undef]))))))) _ _
    ((repeat (first | (with_reducible refine Vc.seq fun N hN => ?_) | (with_reducible refine Vc.block ?_) | ((first | with_reducible refine Vc.skip ?_ | with_reducible refine Vc.exit ?_); dsimp only [thenK, blockK, Nat.beq]; (first | (refine hN _ _ ?_; clear hN N) | skip)) | (with_reducible intro _) | ((with_reducible refine And.intro ?_ ?_); (focus (first | exact sideQ | exact sd0))) | ((first | ((with_reducible refine askT_of ?_ (fun hb => ?_)); (focus (first | exact sideQ | exact sd0)); (try simp only [hb])) | ((with_reducible refine Vc.fin ?_); dsimp only [thenK, blockK, retK, resS, resOne, resAll]) | ((with_reducible refine Vc.hold ?_); first | refine Vc.regiont T0_ok GPB_ok ?_)); (try simp only [v8X, v8A, v8B, v8C, Nat.beq, Nat.ble, Int.reduceToNat, Int.reduceLE, Int.reduceLT, Nat.reduceLT, Nat.reduceLeDiff, Nat.reduceAdd, Nat.reduceMul, Nat.reduceSub, Int.reduceAdd, Int.reduceSub, Int.reduceMul, eq_self, decide_true, beq_self_eq_true, List.length_cons, List.length_nil, Nat.min_eq_left, IntKind.bits, tabs, GPB_set, f1, f2]); (try simp (disch := omega) only [v8W])) | ((with_reducible refine hN _ _ ?_); clear hN N; (try simp (disch := omega) only [v8W])))); (try ((with_reducible refine Fin.of ?_); (try with_reducible exact True.intro))))
    (refine Vc.cond T0_ok (t := true) (by rfl) (fun _ => ?_) (fun h => Bool.noConfusion h))
    ((repeat (first | (with_reducible refine Vc.seq fun N hN => ?_) | (with_reducible refine Vc.block ?_) | ((first | with_reducible refine Vc.skip ?_ | with_reducible refine Vc.exit ?_); dsimp only [thenK, blockK, Nat.beq]; (first | (refine hN _ _ ?_; clear hN N) | skip)) | (with_reducible intro _) | ((with_reducible refine And.intro ?_ ?_); (focus (first | exact sideQ | exact sd0))) | ((first | ((with_reducible refine askT_of ?_ (fun hb => ?_)); (focus (first | exact sideQ | exact sd0)); (try simp only [hb])) | ((with_reducible refine Vc.fin ?_); dsimp only [thenK, blockK, retK, resS, resOne, resAll]) | ((with_reducible refine Vc.hold ?_); first | refine Vc.regiont T0_ok GPB_ok ?_)); (try simp only [v8X, v8A, v8B, v8C, Nat.beq, Nat.ble, Int.reduceToNat, Int.reduceLE, Int.reduceLT, Nat.reduceLT, Nat.reduceLeDiff, Nat.reduceAdd, Nat.reduceMul, Nat.reduceSub, Int.reduceAdd, Int.reduceSub, Int.reduceMul, eq_self, decide_true, beq_self_eq_true, List.length_cons, List.length_nil, Nat.min_eq_left, IntKind.bits, tabs, GPB_set]); (try simp (disch := omega) only [v8W])) | ((with_reducible refine hN _ _ ?_); clear hN N; (try simp (disch := omega) only [v8W])))); (try ((with_reducible refine Fin.of ?_); (try with_reducible exact True.intro))))
    exact ⟨by simp, _, hs _, rfl⟩
  | f :: ys, hl, hx, hL, hr, hm =>
    have hf : 0 ≤ f ∧ f ≤ 255 := hx f List.mem_cons_self
    have hn1 : 1 ≤ n := by simp at hl; omega
    have f1 : tkV a n c (f :: ys) 1 = .tup [.gh a 1 c (.ints .u8 [f]), .bool true] := (if_pos hn1).trans rfl
    have f2 : tkC a n c (f :: ys) at_ dp 1 = .cells [.gh (shA a c 1 1) (n - 1) (c - 1) (.ints .u8 ys), .int .i64 (at_ + 1), .int .i64 dp] := (if_pos hn1).trans rfl
    have hp0 := Pc.refl hl hn ha
    have hp := hp0.cons
    have hLf : ∀ m, oldBut w b ∈ m → LiesH (HM m) a (cc (.ints .u8 [f])) := fun m hin => (hp0.take hn1).lies _ (hL.mono (HBut.hm hin))
    have hLy : ∀ m, oldBut w b ∈ m → LiesH (HM m) (shA a c 1 1) (cc (.ints .u8 ys)) := fun m hin => hp.lies _ (hL.mono (HBut.hm hin))
    have hc1 : 1 ≤ c := by omega
    have ha1 : adr a 1 c := (hp0.take hn1).adr
    have hay := hp.all hx
    have hapy := hp.adr
    have hry : rdOk (n - 1) (c - 1) ys (at_ + 1) := ⟨hp.len, hp.cap, by omega, by omega, by omega⟩
    have hyl := hp.len
    generalize hn' : n - 1 = n' at *
    generalize c - 1 = c' at *
    generalize shA a c 1 1 = a' at *
    by_cases hf1 : f < 128
    · have d1 : decide (f < 128) = true := decide_eq_true hf1
      have hs : sptQ a (f :: ys) at_ dp (.tup [.int .u8 f, .gh a 1 c (.ints .u8 [f]), .bool true]) (.cells [.gh a' n' c' (.ints .u8 ys), .int .i64 (at_ + 1), .int .i64 dp]) := by
        refine sptQ_some (hdd_lo hf1) ⟨f, a, a', c, c', rfl, (decide_eq_false (by omega)).symm, hp0.take hn1, hyl ▸ hp, ?_, by simp, by simp, fun _ => rfl⟩
        rw [hyl, show ((f :: ys).length - n' : Nat) = 1 by simp at hl ⊢; omega]; rfl
      refine Vc.calls T0_ok Try.func38 rfl rfl (args := [.ptr 0 b 0 0 0 0]) (k := 49) rfl hm ?_; change Vc _ _ (c8 (.ptr 0 b 0 0 0 0) .undef .undef .undef .undef .undef .undef .undef (c8 .undef .undef .undef .undef .undef .undef .undef .undef (c8 .undef .undef .undef .undef .undef .undef .undef .undef (c8 .undef .undef .undef .undef .undef .undef .undef .undef (c8 .undef .undef .undef .undef .undef .undef .undef .undef (c8 .undef .undef .undef .undef .undef .undef .undef .undef ([.undef, .undef]))))))) _ _
      ((repeat (first | (with_reducible refine Vc.seq fun N hN => ?_) | (with_reducible refine Vc.block ?_) | ((first | with_reducible refine Vc.skip ?_ | with_reducible refine Vc.exit ?_); dsimp only [thenK, blockK, Nat.beq]; (first | (refine hN _ _ ?_; clear hN N) | skip)) | (with_reducible intro _) | ((with_reducible refine And.intro ?_ ?_); (focus (first | exact sideQ | exact sd0))) | ((first | ((with_reducible refine askT_of ?_ (fun hb => ?_)); (focus (first | exact sideQ | exact sd0)); (try simp only [hb])) | ((with_reducible refine Vc.fin ?_); dsimp only [thenK, blockK, retK, resS, resOne, resAll]) | ((with_reducible refine Vc.hold ?_); first | refine Vc.regiont T0_ok GPB_ok ?_)); (try simp only [v8X, v8A, v8B, v8C, Nat.beq, Nat.ble, Int.reduceToNat, Int.reduceLE, Int.reduceLT, Nat.reduceLT, Nat.reduceLeDiff, Nat.reduceAdd, Nat.reduceMul, Nat.reduceSub, Int.reduceAdd, Int.reduceSub, Int.reduceMul, eq_self, decide_true, beq_self_eq_true, List.length_cons, List.length_nil, Nat.min_eq_left, IntKind.bits, tabs, GPB_set, f1, f2]); (try simp (disch := omega) only [v8W])) | ((with_reducible refine hN _ _ ?_); clear hN N; (try simp (disch := omega) only [v8W])))); (try ((with_reducible refine Fin.of ?_); (try with_reducible exact True.intro))))
      (refine Vc.cond T0_ok (t := false) (by rfl) (fun h => Bool.noConfusion h) (fun _ => ?_))
      ((repeat (first | (with_reducible refine Vc.seq fun N hN => ?_) | (with_reducible refine Vc.block ?_) | ((first | with_reducible refine Vc.skip ?_ | with_reducible refine Vc.exit ?_); dsimp only [thenK, blockK, Nat.beq]; (first | (refine hN _ _ ?_; clear hN N) | skip)) | (with_reducible intro _) | ((with_reducible refine And.intro ?_ ?_); (focus (first | ((repeat' with_reducible apply And.intro) <;> first | exact sideQ | (exact hLf _ (List.mem_cons_of_mem _ List.mem_cons_self)) | (exact hLy _ (List.mem_cons_of_mem _ List.mem_cons_self)) | exact hf.1 | exact hf.2) | exact sd0))) | ((first | ((with_reducible refine askT_of ?_ (fun hb => ?_)); (focus (first | ((repeat' with_reducible apply And.intro) <;> first | exact sideQ | (exact hLf _ (List.mem_cons_of_mem _ List.mem_cons_self)) | (exact hLy _ (List.mem_cons_of_mem _ List.mem_cons_self)) | exact hf.1 | exact hf.2) | exact sd0)); (try simp only [hb])) | ((with_reducible refine Vc.fin ?_); dsimp only [thenK, blockK, retK, resS, resOne, resAll]) | ((with_reducible refine Vc.hold ?_); first | refine Vc.regiont T0_ok GPB_ok ?_)); (try simp only [v8X, v8A, v8B, v8C, Nat.beq, Nat.ble, Int.reduceToNat, Int.reduceLE, Int.reduceLT, Nat.reduceLT, Nat.reduceLeDiff, Nat.reduceAdd, Nat.reduceMul, Nat.reduceSub, Int.reduceAdd, Int.reduceSub, Int.reduceMul, eq_self, decide_true, beq_self_eq_true, List.length_cons, List.length_nil, Nat.min_eq_left, IntKind.bits, tabs, GPB_set, d1, conEs.eq_def, conN.eq_def]); (try simp (disch := omega) only [v8W])) | ((with_reducible refine hN _ _ ?_); clear hN N; (try simp (disch := omega) only [v8W])))); (try ((with_reducible refine Fin.of ?_); (try with_reducible exact True.intro))))
      (refine Vc.cond T0_ok (t := true) (by rfl) (fun _ => ?_) (fun h => Bool.noConfusion h))
      ((repeat (first | (with_reducible refine Vc.seq fun N hN => ?_) | (with_reducible refine Vc.block ?_) | ((first | with_reducible refine Vc.skip ?_ | with_reducible refine Vc.exit ?_); dsimp only [thenK, blockK, Nat.beq]; (first | (refine hN _ _ ?_; clear hN N) | skip)) | (with_reducible intro _) | ((with_reducible refine And.intro ?_ ?_); (focus (first | exact sideQ | exact sd0))) | ((first | ((with_reducible refine askT_of ?_ (fun hb => ?_)); (focus (first | exact sideQ | exact sd0)); (try simp only [hb])) | ((with_reducible refine Vc.fin ?_); dsimp only [thenK, blockK, retK, resS, resOne, resAll]) | ((with_reducible refine Vc.hold ?_); first | refine Vc.regiont T0_ok GPB_ok ?_)); (try simp only [v8X, v8A, v8B, v8C, Nat.beq, Nat.ble, Int.reduceToNat, Int.reduceLE, Int.reduceLT, Nat.reduceLT, Nat.reduceLeDiff, Nat.reduceAdd, Nat.reduceMul, Nat.reduceSub, Int.reduceAdd, Int.reduceSub, Int.reduceMul, eq_self, decide_true, beq_self_eq_true, List.length_cons, List.length_nil, Nat.min_eq_left, IntKind.bits, tabs, GPB_set]); (try simp (disch := omega) only [v8W])) | ((with_reducible refine hN _ _ ?_); clear hN N; (try simp (disch := omega) only [v8W])))); (try ((with_reducible refine Fin.of ?_); (try with_reducible exact True.intro))))
      exact ⟨by simp, _, hs, rfl⟩
    · have d1 : decide (f < 128) = false := decide_eq_false hf1
      rcases ln_cases hp f (at_ + 1) dp hf with ⟨o1, v, C, o2, o3⟩ | ⟨nb, zs, a2, n2, c2, o1, o2, hp2, hn2, o3⟩
      · have hs : ∀ C, sptQ a (f :: ys) at_ dp (.tup [.int .u8 0, .nilsl, .bool false]) C := sptQ_none (hdd_no hf1 o1)
        refine Vc.calls T0_ok Try.func38 rfl rfl (args := [.ptr 0 b 0 0 0 0]) (k := 49) rfl hm ?_; change Vc _ _ (c8 (.ptr 0 b 0 0 0 0) .undef .undef .undef .undef .undef .undef .undef (c8 .undef .undef .undef .undef .undef .undef .undef .undef (c8 .undef .undef .undef .undef .undef .undef .undef .undef (c8 .undef .undef .undef .undef .undef .undef .undef .undef (c8 .undef .undef .undef .undef .undef .undef .undef .undef (c8 .undef .undef .undef .undef .undef .undef .undef .undef ([.undef, .undef]))))))) _ _
        ((repeat (first | (with_reducible refine Vc.seq fun N hN => ?_) | (with_reducible refine Vc.block ?_) | ((first | with_reducible refine Vc.skip ?_ | with_reducible refine Vc.exit ?_); dsimp only [thenK, blockK, Nat.beq]; (first | (refine hN _ _ ?_; clear hN N) | skip)) | (with_reducible intro _) | ((with_reducible refine And.intro ?_ ?_); (focus (first | exact sideQ | exact sd0))) | ((first | ((with_reducible refine askT_of ?_ (fun hb => ?_)); (focus (first | exact sideQ | exact sd0)); (try simp only [hb])) | ((with_reducible refine Vc.fin ?_); dsimp only [thenK, blockK, retK, resS, resOne, resAll]) | ((with_reducible refine Vc.hold ?_); first | refine Vc.regiont T0_ok GPB_ok ?_)); (try simp only [v8X, v8A, v8B, v8C, Nat.beq, Nat.ble, Int.reduceToNat, Int.reduceLE, Int.reduceLT, Nat.reduceLT, Nat.reduceLeDiff, Nat.reduceAdd, Nat.reduceMul, Nat.reduceSub, Int.reduceAdd, Int.reduceSub, Int.reduceMul, eq_self, decide_true, beq_self_eq_true, List.length_cons, List.length_nil, Nat.min_eq_left, IntKind.bits, tabs, GPB_set, f1, f2]); (try simp (disch := omega) only [v8W])) | ((with_reducible refine hN _ _ ?_); clear hN N; (try simp (disch := omega) only [v8W])))); (try ((with_reducible refine Fin.of ?_); (try with_reducible exact True.intro))))
        (refine Vc.cond T0_ok (t := false) (by rfl) (fun h => Bool.noConfusion h) (fun _ => ?_))
        ((repeat (first | (with_reducible refine Vc.seq fun N hN => ?_) | (with_reducible refine Vc.block ?_) | ((first | with_reducible refine Vc.skip ?_ | with_reducible refine Vc.exit ?_); dsimp only [thenK, blockK, Nat.beq]; (first | (refine hN _ _ ?_; clear hN N) | skip)) | (with_reducible intro _) | ((with_reducible refine And.intro ?_ ?_); (focus (first | ((repeat' with_reducible apply And.intro) <;> first | exact sideQ | (exact hLf _ (List.mem_cons_of_mem _ List.mem_cons_self)) | (exact hLy _ (List.mem_cons_of_mem _ List.mem_cons_self)) | exact hf.1 | exact hf.2) | exact sd0))) | ((first | ((with_reducible refine askT_of ?_ (fun hb => ?_)); (focus (first | ((repeat' with_reducible apply And.intro) <;> first | exact sideQ | (exact hLf _ (List.mem_cons_of_mem _ List.mem_cons_self)) | (exact hLy _ (List.mem_cons_of_mem _ List.mem_cons_self)) | exact hf.1 | exact hf.2) | exact sd0)); (try simp only [hb])) | ((with_reducible refine Vc.fin ?_); dsimp only [thenK, blockK, retK, resS, resOne, resAll]) | ((with_reducible refine Vc.hold ?_); first | refine Vc.regiont T0_ok GPB_ok ?_)); (try simp only [v8X, v8A, v8B, v8C, Nat.beq, Nat.ble, Int.reduceToNat, Int.reduceLE, Int.reduceLT, Nat.reduceLT, Nat.reduceLeDiff, Nat.reduceAdd, Nat.reduceMul, Nat.reduceSub, Int.reduceAdd, Int.reduceSub, Int.reduceMul, eq_self, decide_true, beq_self_eq_true, List.length_cons, List.length_nil, Nat.min_eq_left, IntKind.bits, tabs, GPB_set, d1, conEs.eq_def, conN.eq_def]); (try simp (disch := omega) only [v8W])) | ((with_reducible refine hN _ _ ?_); clear hN N; (try simp (disch := omega) only [v8W])))); (try ((with_reducible refine Fin.of ?_); (try with_reducible exact True.intro))))
        (refine Vc.cond T0_ok (t := false) (by rfl) (fun h => Bool.noConfusion h) (fun _ => ?_))
        ((repeat (first | (with_reducible refine Vc.seq fun N hN => ?_) | (with_reducible refine Vc.block ?_) | ((first | with_reducible refine Vc.skip ?_ | with_reducible refine Vc.exit ?_); dsimp only [thenK, blockK, Nat.beq]; (first | (refine hN _ _ ?_; clear hN N) | skip)) | (with_reducible intro _) | ((with_reducible refine And.intro ?_ ?_); (focus (first | ((repeat' with_reducible apply And.intro) <;> first | exact sideQ | (exact hLf _ (List.mem_cons_of_mem _ List.mem_cons_self)) | (exact hLy _ (List.mem_cons_of_mem _ List.mem_cons_self)) | exact hf.1 | exact hf.2) | exact sd0))) | ((first | ((with_reducible refine askT_of ?_ (fun hb => ?_)); (focus (first | ((repeat' with_reducible apply And.intro) <;> first | exact sideQ | (exact hLf _ (List.mem_cons_of_mem _ List.mem_cons_self)) | (exact hLy _ (List.mem_cons_of_mem _ List.mem_cons_self)) | exact hf.1 | exact hf.2) | exact sd0)); (try simp only [hb])) | ((with_reducible refine Vc.fin ?_); dsimp only [thenK, blockK, retK, resS, resOne, resAll]) | ((with_reducible refine Vc.hold ?_); first | refine Vc.regiont T0_ok GPB_ok ?_)); (try simp only [v8X, v8A, v8B, v8C, Nat.beq, Nat.ble, Int.reduceToNat, Int.reduceLE, Int.reduceLT, Nat.reduceLT, Nat.reduceLeDiff, Nat.reduceAdd, Nat.reduceMul, Nat.reduceSub, Int.reduceAdd, Int.reduceSub, Int.reduceMul, eq_self, decide_true, beq_self_eq_true, List.length_cons, List.length_nil, Nat.min_eq_left, IntKind.bits, tabs, GPB_set, o2, o3]); (try simp (disch := omega) only [v8W])) | ((with_reducible refine hN _ _ ?_); clear hN N; (try simp (disch := omega) only [v8W])))); (try ((with_reducible refine Fin.of ?_); (try with_reducible exact True.intro))))
        (refine Vc.cond T0_ok (t := true) (by rfl) (fun _ => ?_) (fun h => Bool.noConfusion h))
        ((repeat (first | (with_reducible refine Vc.seq fun N hN => ?_) | (with_reducible refine Vc.block ?_) | ((first | with_reducible refine Vc.skip ?_ | with_reducible refine Vc.exit ?_); dsimp only [thenK, blockK, Nat.beq]; (first | (refine hN _ _ ?_; clear hN N) | skip)) | (with_reducible intro _) | ((with_reducible refine And.intro ?_ ?_); (focus (first | exact sideQ | exact sd0))) | ((first | ((with_reducible refine askT_of ?_ (fun hb => ?_)); (focus (first | exact sideQ | exact sd0)); (try simp only [hb])) | ((with_reducible refine Vc.fin ?_); dsimp only [thenK, blockK, retK, resS, resOne, resAll]) | ((with_reducible refine Vc.hold ?_); first | refine Vc.regiont T0_ok GPB_ok ?_)); (try simp only [v8X, v8A, v8B, v8C, Nat.beq, Nat.ble, Int.reduceToNat, Int.reduceLE, Int.reduceLT, Nat.reduceLT, Nat.reduceLeDiff, Nat.reduceAdd, Nat.reduceMul, Nat.reduceSub, Int.reduceAdd, Int.reduceSub, Int.reduceMul, eq_self, decide_true, beq_self_eq_true, List.length_cons, List.length_nil, Nat.min_eq_left, IntKind.bits, tabs, GPB_set]); (try simp (disch := omega) only [v8W])) | ((with_reducible refine hN _ _ ?_); clear hN N; (try simp (disch := omega) only [v8W])))); (try ((with_reducible refine Fin.of ?_); (try with_reducible exact True.intro))))
        exact ⟨by simp, _, hs _, rfl⟩
      · have hzl := hp2.len
        have hzc := hp2.cap
        have hrz : rdOk n2 c2 zs (at_ + 1 + (n' - n2 : Nat)) := ⟨hp2.len, hp2.cap, by omega, by omega, by omega⟩
        by_cases hN : nb ≤ n2
        · have f3 : tkV a2 n2 c2 zs nb = _ := if_pos hN
          have f4 : tkC a2 n2 c2 zs (at_ + 1 + (n' - n2 : Nat)) dp nb = _ := if_pos hN
          have hpb := hp2.take hN
          have hpr := hp2.drop hN
          have hLb : ∀ m, oldBut w b ∈ m → LiesH (HM m) a2 (cc (.ints .u8 (zs.take nb))) := fun m hin => hpb.lies _ (hL.mono (HBut.hm hin))
          have hbc := hpb.cap
          have hba := hpb.adr
          have hbl := hpb.len
          have utt : (zs.take nb).take nb = zs.take nb := List.take_of_length_le (by omega)
          have hrl := hpr.len
          have hok : (decide (f < 192) && bareB (zs.take nb)) = false → sptQ a (f :: ys) at_ dp (.tup [.int .u8 f, .gh a2 nb c2 (.ints .u8 (zs.take nb)), .bool true]) (.cells [.gh (shA a2 c2 nb 1) (n2 - nb) (c2 - nb) (.ints .u8 (zs.drop nb)), .int .i64 (at_ + 1 + (n' - n2 : Nat) + (nb : Nat)), .int .i64 dp]) := fun hbb => by
            refine sptQ_some ((hdd_hi hf1 o1).trans ((if_pos (by omega)).trans (if_neg (by rw [hbb]; simp)))) ⟨f, a2, shA a2 c2 nb 1, c2, c2 - nb, by rw [hbl], rfl, hbl.symm ▸ hpb, hrl.symm ▸ hpr, ?_, by rw [hrl, hbl, hl]; omega, by rw [hrl, hl]; omega, fun h => absurd h hf1⟩
            rw [hrl, hl, show at_ + 1 + ((n' - n2 : Nat) : Int) + (nb : Nat) = at_ + ((n - (n2 - nb) : Nat) : Int) by omega]
          by_cases hb1 : f < 192
          · have d3 : decide (f < 192) = true := decide_eq_true hb1
            cases hbb : bareB (zs.take nb) with
            | true =>
              have hs : ∀ C, sptQ a (f :: ys) at_ dp (.tup [.int .u8 0, .nilsl, .bool false]) C := sptQ_none ((hdd_hi hf1 o1).trans ((if_pos (by omega)).trans (if_pos (by rw [d3, hbb]; rfl))))
              refine Vc.calls T0_ok Try.func38 rfl rfl (args := [.ptr 0 b 0 0 0 0]) (k := 49) rfl hm ?_; change Vc _ _ (c8 (.ptr 0 b 0 0 0 0) .undef .undef .undef .undef .undef .undef .undef (c8 .undef .undef .undef .undef .undef .undef .undef .undef (c8 .undef .undef .undef .undef .undef .undef .undef .undef (c8 .undef .undef .undef .undef .undef .undef .undef .undef (c8 .undef .undef .undef .undef .undef .undef .undef .undef (c8 .undef .undef .undef .undef .undef .undef .undef .undef ([.undef, .undef]))))))) _ _
              ((repeat (first | (with_reducible refine Vc.seq fun N hN => ?_) | (with_reducible refine Vc.block ?_) | ((first | with_reducible refine Vc.skip ?_ | with_reducible refine Vc.exit ?_); dsimp only [thenK, blockK, Nat.beq]; (first | (refine hN _ _ ?_; clear hN N) | skip)) | (with_reducible intro _) | ((with_reducible refine And.intro ?_ ?_); (focus (first | exact sideQ | exact sd0))) | ((first | ((with_reducible refine askT_of ?_ (fun hb => ?_)); (focus (first | exact sideQ | exact sd0)); (try simp only [hb])) | ((with_reducible refine Vc.fin ?_); dsimp only [thenK, blockK, retK, resS, resOne, resAll]) | ((with_reducible refine Vc.hold ?_); first | refine Vc.regiont T0_ok GPB_ok ?_)); (try simp only [v8X, v8A, v8B, v8C, Nat.beq, Nat.ble, Int.reduceToNat, Int.reduceLE, Int.reduceLT, Nat.reduceLT, Nat.reduceLeDiff, Nat.reduceAdd, Nat.reduceMul, Nat.reduceSub, Int.reduceAdd, Int.reduceSub, Int.reduceMul, eq_self, decide_true, beq_self_eq_true, List.length_cons, List.length_nil, Nat.min_eq_left, IntKind.bits, tabs, GPB_set, f1, f2]); (try simp (disch := omega) only [v8W])) | ((with_reducible refine hN _ _ ?_); clear hN N; (try simp (disch := omega) only [v8W])))); (try ((with_reducible refine Fin.of ?_); (try with_reducible exact True.intro))))
              (refine Vc.cond T0_ok (t := false) (by rfl) (fun h => Bool.noConfusion h) (fun _ => ?_))
              ((repeat (first | (with_reducible refine Vc.seq fun N hN => ?_) | (with_reducible refine Vc.block ?_) | ((first | with_reducible refine Vc.skip ?_ | with_reducible refine Vc.exit ?_); dsimp only [thenK, blockK, Nat.beq]; (first | (refine hN _ _ ?_; clear hN N) | skip)) | (with_reducible intro _) | ((with_reducible refine And.intro ?_ ?_); (focus (first | ((repeat' with_reducible apply And.intro) <;> first | exact sideQ | (exact hLf _ (List.mem_cons_of_mem _ List.mem_cons_self)) | (exact hLy _ (List.mem_cons_of_mem _ List.mem_cons_self)) | (exact hLb _ (List.mem_cons_of_mem _ List.mem_cons_self)) | exact hf.1 | exact hf.2) | exact sd0))) | ((first | ((with_reducible refine askT_of ?_ (fun hb => ?_)); (focus (first | ((repeat' with_reducible apply And.intro) <;> first | exact sideQ | (exact hLf _ (List.mem_cons_of_mem _ List.mem_cons_self)) | (exact hLy _ (List.mem_cons_of_mem _ List.mem_cons_self)) | (exact hLb _ (List.mem_cons_of_mem _ List.mem_cons_self)) | exact hf.1 | exact hf.2) | exact sd0)); (try simp only [hb])) | ((with_reducible refine Vc.fin ?_); dsimp only [thenK, blockK, retK, resS, resOne, resAll]) | ((with_reducible refine Vc.hold ?_); first | refine Vc.regiont T0_ok GPB_ok ?_)); (try simp only [v8X, v8A, v8B, v8C, Nat.beq, Nat.ble, Int.reduceToNat, Int.reduceLE, Int.reduceLT, Nat.reduceLT, Nat.reduceLeDiff, Nat.reduceAdd, Nat.reduceMul, Nat.reduceSub, Int.reduceAdd, Int.reduceSub, Int.reduceMul, eq_self, decide_true, beq_self_eq_true, List.length_cons, List.length_nil, Nat.min_eq_left, IntKind.bits, tabs, GPB_set, d1, conEs.eq_def, conN.eq_def]); (try simp (disch := omega) only [v8W])) | ((with_reducible refine hN _ _ ?_); clear hN N; (try simp (disch := omega) only [v8W])))); (try ((with_reducible refine Fin.of ?_); (try with_reducible exact True.intro))))
              (refine Vc.cond T0_ok (t := false) (by rfl) (fun h => Bool.noConfusion h) (fun _ => ?_))
              ((repeat (first | (with_reducible refine Vc.seq fun N hN => ?_) | (with_reducible refine Vc.block ?_) | ((first | with_reducible refine Vc.skip ?_ | with_reducible refine Vc.exit ?_); dsimp only [thenK, blockK, Nat.beq]; (first | (refine hN _ _ ?_; clear hN N) | skip)) | (with_reducible intro _) | ((with_reducible refine And.intro ?_ ?_); (focus (first | ((repeat' with_reducible apply And.intro) <;> first | exact sideQ | (exact hLf _ (List.mem_cons_of_mem _ List.mem_cons_self)) | (exact hLy _ (List.mem_cons_of_mem _ List.mem_cons_self)) | (exact hLb _ (List.mem_cons_of_mem _ List.mem_cons_self)) | exact hf.1 | exact hf.2) | exact sd0))) | ((first | ((with_reducible refine askT_of ?_ (fun hb => ?_)); (focus (first | ((repeat' with_reducible apply And.intro) <;> first | exact sideQ | (exact hLf _ (List.mem_cons_of_mem _ List.mem_cons_self)) | (exact hLy _ (List.mem_cons_of_mem _ List.mem_cons_self)) | (exact hLb _ (List.mem_cons_of_mem _ List.mem_cons_self)) | exact hf.1 | exact hf.2) | exact sd0)); (try simp only [hb])) | ((with_reducible refine Vc.fin ?_); dsimp only [thenK, blockK, retK, resS, resOne, resAll]) | ((with_reducible refine Vc.hold ?_); first | refine Vc.regiont T0_ok GPB_ok ?_)); (try simp only [v8X, v8A, v8B, v8C, Nat.beq, Nat.ble, Int.reduceToNat, Int.reduceLE, Int.reduceLT, Nat.reduceLT, Nat.reduceLeDiff, Nat.reduceAdd, Nat.reduceMul, Nat.reduceSub, Int.reduceAdd, Int.reduceSub, Int.reduceMul, eq_self, decide_true, beq_self_eq_true, List.length_cons, List.length_nil, Nat.min_eq_left, IntKind.bits, tabs, GPB_set, o2, o3]); (try simp (disch := omega) only [v8W])) | ((with_reducible refine hN _ _ ?_); clear hN N; (try simp (disch := omega) only [v8W])))); (try ((with_reducible refine Fin.of ?_); (try with_reducible exact True.intro))))
              (refine Vc.cond T0_ok (t := false) (by rfl) (fun h => Bool.noConfusion h) (fun _ => ?_))
              ((repeat (first | (with_reducible refine Vc.seq fun N hN => ?_) | (with_reducible refine Vc.block ?_) | ((first | with_reducible refine Vc.skip ?_ | with_reducible refine Vc.exit ?_); dsimp only [thenK, blockK, Nat.beq]; (first | (refine hN _ _ ?_; clear hN N) | skip)) | (with_reducible intro _) | ((with_reducible refine And.intro ?_ ?_); (focus (first | ((repeat' with_reducible apply And.intro) <;> first | exact sideQ | (exact hLf _ (List.mem_cons_of_mem _ List.mem_cons_self)) | (exact hLy _ (List.mem_cons_of_mem _ List.mem_cons_self)) | (exact hLb _ (List.mem_cons_of_mem _ List.mem_cons_self)) | exact hf.1 | exact hf.2) | exact sd0))) | ((first | ((with_reducible refine askT_of ?_ (fun hb => ?_)); (focus (first | ((repeat' with_reducible apply And.intro) <;> first | exact sideQ | (exact hLf _ (List.mem_cons_of_mem _ List.mem_cons_self)) | (exact hLy _ (List.mem_cons_of_mem _ List.mem_cons_self)) | (exact hLb _ (List.mem_cons_of_mem _ List.mem_cons_self)) | exact hf.1 | exact hf.2) | exact sd0)); (try simp only [hb])) | ((with_reducible refine Vc.fin ?_); dsimp only [thenK, blockK, retK, resS, resOne, resAll]) | ((with_reducible refine Vc.hold ?_); first | refine Vc.regiont T0_ok GPB_ok ?_)); (try simp only [v8X, v8A, v8B, v8C, Nat.beq, Nat.ble, Int.reduceToNat, Int.reduceLE, Int.reduceLT, Nat.reduceLT, Nat.reduceLeDiff, Nat.reduceAdd, Nat.reduceMul, Nat.reduceSub, Int.reduceAdd, Int.reduceSub, Int.reduceMul, eq_self, decide_true, beq_self_eq_true, List.length_cons, List.length_nil, Nat.min_eq_left, IntKind.bits, tabs, GPB_set, tnc, f3, f4, d3, hbb, utt, List.drop_zero]); (try simp (disch := omega) only [v8W])) | ((with_reducible refine hN _ _ ?_); clear hN N; (try simp (disch := omega) only [v8W])))); (try ((with_reducible refine Fin.of ?_); (try with_reducible exact True.intro))))
              (refine Vc.cond T0_ok (t := true) (by rfl) (fun _ => ?_) (fun h => Bool.noConfusion h))
              ((repeat (first | (with_reducible refine Vc.seq fun N hN => ?_) | (with_reducible refine Vc.block ?_) | ((first | with_reducible refine Vc.skip ?_ | with_reducible refine Vc.exit ?_); dsimp only [thenK, blockK, Nat.beq]; (first | (refine hN _ _ ?_; clear hN N) | skip)) | (with_reducible intro _) | ((with_reducible refine And.intro ?_ ?_); (focus (first | exact sideQ | exact sd0))) | ((first | ((with_reducible refine askT_of ?_ (fun hb => ?_)); (focus (first | exact sideQ | exact sd0)); (try simp only [hb])) | ((with_reducible refine Vc.fin ?_); dsimp only [thenK, blockK, retK, resS, resOne, resAll]) | ((with_reducible refine Vc.hold ?_); first | refine Vc.regiont T0_ok GPB_ok ?_)); (try simp only [v8X, v8A, v8B, v8C, Nat.beq, Nat.ble, Int.reduceToNat, Int.reduceLE, Int.reduceLT, Nat.reduceLT, Nat.reduceLeDiff, Nat.reduceAdd, Nat.reduceMul, Nat.reduceSub, Int.reduceAdd, Int.reduceSub, Int.reduceMul, eq_self, decide_true, beq_self_eq_true, List.length_cons, List.length_nil, Nat.min_eq_left, IntKind.bits, tabs, GPB_set]); (try simp (disch := omega) only [v8W])) | ((with_reducible refine hN _ _ ?_); clear hN N; (try simp (disch := omega) only [v8W])))); (try ((with_reducible refine Fin.of ?_); (try with_reducible exact True.intro))))
              exact ⟨by simp, _, hs _, by first | exact True.intro | rfl⟩
            | false =>
              have hs := hok (by rw [hbb, Bool.and_false])
              refine Vc.calls T0_ok Try.func38 rfl rfl (args := [.ptr 0 b 0 0 0 0]) (k := 49) rfl hm ?_; change Vc _ _ (c8 (.ptr 0 b 0 0 0 0) .undef .undef .undef .undef .undef .undef .undef (c8 .undef .undef .undef .undef .undef .undef .undef .undef (c8 .undef .undef .undef .undef .undef .undef .undef .undef (c8 .undef .undef .undef .undef .undef .undef .undef .undef (c8 .undef .undef .undef .undef .undef .undef .undef .undef (c8 .undef .undef .undef .undef .undef .undef .undef .undef ([.undef, .undef]))))))) _ _
              ((repeat (first | (with_reducible refine Vc.seq fun N hN => ?_) | (with_reducible refine Vc.block ?_) | ((first | with_reducible refine Vc.skip ?_ | with_reducible refine Vc.exit ?_); dsimp only [thenK, blockK, Nat.beq]; (first | (refine hN _ _ ?_; clear hN N) | skip)) | (with_reducible intro _) | ((with_reducible refine And.intro ?_ ?_); (focus (first | exact sideQ | exact sd0))) | ((first | ((with_reducible refine askT_of ?_ (fun hb => ?_)); (focus (first | exact sideQ | exact sd0)); (try simp only [hb])) | ((with_reducible refine Vc.fin ?_); dsimp only [thenK, blockK, retK, resS, resOne, resAll]) | ((with_reducible refine Vc.hold ?_); first | refine Vc.regiont T0_ok GPB_ok ?_)); (try simp only [v8X, v8A, v8B, v8C, Nat.beq, Nat.ble, Int.reduceToNat, Int.reduceLE, Int.reduceLT, Nat.reduceLT, Nat.reduceLeDiff, Nat.reduceAdd, Nat.reduceMul, Nat.reduceSub, Int.reduceAdd, Int.reduceSub, Int.reduceMul, eq_self, decide_true, beq_self_eq_true, List.length_cons, List.length_nil, Nat.min_eq_left, IntKind.bits, tabs, GPB_set, f1, f2]); (try simp (disch := omega) only [v8W])) | ((with_reducible refine hN _ _ ?_); clear hN N; (try simp (disch := omega) only [v8W])))); (try ((with_reducible refine Fin.of ?_); (try with_reducible exact True.intro))))
              (refine Vc.cond T0_ok (t := false) (by rfl) (fun h => Bool.noConfusion h) (fun _ => ?_))
              ((repeat (first | (with_reducible refine Vc.seq fun N hN => ?_) | (with_reducible refine Vc.block ?_) | ((first | with_reducible refine Vc.skip ?_ | with_reducible refine Vc.exit ?_); dsimp only [thenK, blockK, Nat.beq]; (first | (refine hN _ _ ?_; clear hN N) | skip)) | (with_reducible intro _) | ((with_reducible refine And.intro ?_ ?_); (focus (first | ((repeat' with_reducible apply And.intro) <;> first | exact sideQ | (exact hLf _ (List.mem_cons_of_mem _ List.mem_cons_self)) | (exact hLy _ (List.mem_cons_of_mem _ List.mem_cons_self)) | (exact hLb _ (List.mem_cons_of_mem _ List.mem_cons_self)) | exact hf.1 | exact hf.2) | exact sd0))) | ((first | ((with_reducible refine askT_of ?_ (fun hb => ?_)); (focus (first | ((repeat' with_reducible apply And.intro) <;> first | exact sideQ | (exact hLf _ (List.mem_cons_of_mem _ List.mem_cons_self)) | (exact hLy _ (List.mem_cons_of_mem _ List.mem_cons_self)) | (exact hLb _ (List.mem_cons_of_mem _ List.mem_cons_self)) | exact hf.1 | exact hf.2) | exact sd0)); (try simp only [hb])) | ((with_reducible refine Vc.fin ?_); dsimp only [thenK, blockK, retK, resS, resOne, resAll]) | ((with_reducible refine Vc.hold ?_); first | refine Vc.regiont T0_ok GPB_ok ?_)); (try simp only [v8X, v8A, v8B, v8C, Nat.beq, Nat.ble, Int.reduceToNat, Int.reduceLE, Int.reduceLT, Nat.reduceLT, Nat.reduceLeDiff, Nat.reduceAdd, Nat.reduceMul, Nat.reduceSub, Int.reduceAdd, Int.reduceSub, Int.reduceMul, eq_self, decide_true, beq_self_eq_true, List.length_cons, List.length_nil, Nat.min_eq_left, IntKind.bits, tabs, GPB_set, d1, conEs.eq_def, conN.eq_def]); (try simp (disch := omega) only [v8W])) | ((with_reducible refine hN _ _ ?_); clear hN N; (try simp (disch := omega) only [v8W])))); (try ((with_reducible refine Fin.of ?_); (try with_reducible exact True.intro))))
              (refine Vc.cond T0_ok (t := false) (by rfl) (fun h => Bool.noConfusion h) (fun _ => ?_))
              ((repeat (first | (with_reducible refine Vc.seq fun N hN => ?_) | (with_reducible refine Vc.block ?_) | ((first | with_reducible refine Vc.skip ?_ | with_reducible refine Vc.exit ?_); dsimp only [thenK, blockK, Nat.beq]; (first | (refine hN _ _ ?_; clear hN N) | skip)) | (with_reducible intro _) | ((with_reducible refine And.intro ?_ ?_); (focus (first | ((repeat' with_reducible apply And.intro) <;> first | exact sideQ | (exact hLf _ (List.mem_cons_of_mem _ List.mem_cons_self)) | (exact hLy _ (List.mem_cons_of_mem _ List.mem_cons_self)) | (exact hLb _ (List.mem_cons_of_mem _ List.mem_cons_self)) | exact hf.1 | exact hf.2) | exact sd0))) | ((first | ((with_reducible refine askT_of ?_ (fun hb => ?_)); (focus (first | ((repeat' with_reducible apply And.intro) <;> first | exact sideQ | (exact hLf _ (List.mem_cons_of_mem _ List.mem_cons_self)) | (exact hLy _ (List.mem_cons_of_mem _ List.mem_cons_self)) | (exact hLb _ (List.mem_cons_of_mem _ List.mem_cons_self)) | exact hf.1 | exact hf.2) | exact sd0)); (try simp only [hb])) | ((with_reducible refine Vc.fin ?_); dsimp only [thenK, blockK, retK, resS, resOne, resAll]) | ((with_reducible refine Vc.hold ?_); first | refine Vc.regiont T0_ok GPB_ok ?_)); (try simp only [v8X, v8A, v8B, v8C, Nat.beq, Nat.ble, Int.reduceToNat, Int.reduceLE, Int.reduceLT, Nat.reduceLT, Nat.reduceLeDiff, Nat.reduceAdd, Nat.reduceMul, Nat.reduceSub, Int.reduceAdd, Int.reduceSub, Int.reduceMul, eq_self, decide_true, beq_self_eq_true, List.length_cons, List.length_nil, Nat.min_eq_left, IntKind.bits, tabs, GPB_set, o2, o3]); (try simp (disch := omega) only [v8W])) | ((with_reducible refine hN _ _ ?_); clear hN N; (try simp (disch := omega) only [v8W])))); (try ((with_reducible refine Fin.of ?_); (try with_reducible exact True.intro))))
              (refine Vc.cond T0_ok (t := false) (by rfl) (fun h => Bool.noConfusion h) (fun _ => ?_))
              ((repeat (first | (with_reducible refine Vc.seq fun N hN => ?_) | (with_reducible refine Vc.block ?_) | ((first | with_reducible refine Vc.skip ?_ | with_reducible refine Vc.exit ?_); dsimp only [thenK, blockK, Nat.beq]; (first | (refine hN _ _ ?_; clear hN N) | skip)) | (with_reducible intro _) | ((with_reducible refine And.intro ?_ ?_); (focus (first | ((repeat' with_reducible apply And.intro) <;> first | exact sideQ | (exact hLf _ (List.mem_cons_of_mem _ List.mem_cons_self)) | (exact hLy _ (List.mem_cons_of_mem _ List.mem_cons_self)) | (exact hLb _ (List.mem_cons_of_mem _ List.mem_cons_self)) | exact hf.1 | exact hf.2) | exact sd0))) | ((first | ((with_reducible refine askT_of ?_ (fun hb => ?_)); (focus (first | ((repeat' with_reducible apply And.intro) <;> first | exact sideQ | (exact hLf _ (List.mem_cons_of_mem _ List.mem_cons_self)) | (exact hLy _ (List.mem_cons_of_mem _ List.mem_cons_self)) | (exact hLb _ (List.mem_cons_of_mem _ List.mem_cons_self)) | exact hf.1 | exact hf.2) | exact sd0)); (try simp only [hb])) | ((with_reducible refine Vc.fin ?_); dsimp only [thenK, blockK, retK, resS, resOne, resAll]) | ((with_reducible refine Vc.hold ?_); first | refine Vc.regiont T0_ok GPB_ok ?_)); (try simp only [v8X, v8A, v8B, v8C, Nat.beq, Nat.ble, Int.reduceToNat, Int.reduceLE, Int.reduceLT, Nat.reduceLT, Nat.reduceLeDiff, Nat.reduceAdd, Nat.reduceMul, Nat.reduceSub, Int.reduceAdd, Int.reduceSub, Int.reduceMul, eq_self, decide_true, beq_self_eq_true, List.length_cons, List.length_nil, Nat.min_eq_left, IntKind.bits, tabs, GPB_set, tnc, f3, f4, d3, hbb, utt, List.drop_zero]); (try simp (disch := omega) only [v8W])) | ((with_reducible refine hN _ _ ?_); clear hN N; (try simp (disch := omega) only [v8W])))); (try ((with_reducible refine Fin.of ?_); (try with_reducible exact True.intro))))
              (refine Vc.cond T0_ok (t := false) (by rfl) (fun h => Bool.noConfusion h) (fun _ => ?_))
              ((repeat (first | (with_reducible refine Vc.seq fun N hN => ?_) | (with_reducible refine Vc.block ?_) | ((first | with_reducible refine Vc.skip ?_ | with_reducible refine Vc.exit ?_); dsimp only [thenK, blockK, Nat.beq]; (first | (refine hN _ _ ?_; clear hN N) | skip)) | (with_reducible intro _) | ((with_reducible refine And.intro ?_ ?_); (focus (first | exact sideQ | exact sd0))) | ((first | ((with_reducible refine askT_of ?_ (fun hb => ?_)); (focus (first | exact sideQ | exact sd0)); (try simp only [hb])) | ((with_reducible refine Vc.fin ?_); dsimp only [thenK, blockK, retK, resS, resOne, resAll]) | ((with_reducible refine Vc.hold ?_); first | refine Vc.regiont T0_ok GPB_ok ?_)); (try simp only [v8X, v8A, v8B, v8C, Nat.beq, Nat.ble, Int.reduceToNat, Int.reduceLE, Int.reduceLT, Nat.reduceLT, Nat.reduceLeDiff, Nat.reduceAdd, Nat.reduceMul, Nat.reduceSub, Int.reduceAdd, Int.reduceSub, Int.reduceMul, eq_self, decide_true, beq_self_eq_true, List.length_cons, List.length_nil, Nat.min_eq_left, IntKind.bits, tabs, GPB_set]); (try simp (disch := omega) only [v8W])) | ((with_reducible refine hN _ _ ?_); clear hN N; (try simp (disch := omega) only [v8W])))); (try ((with_reducible refine Fin.of ?_); (try with_reducible exact True.intro))))
              exact ⟨by simp, _, hs, by first | exact True.intro | rfl⟩
          · have d3 : decide (f < 192) = false := decide_eq_false hb1
            have hs := hok (by rw [d3, Bool.false_and])
            refine Vc.calls T0_ok Try.func38 rfl rfl (args := [.ptr 0 b 0 0 0 0]) (k := 49) rfl hm ?_; change Vc _ _ (c8 (.ptr 0 b 0 0 0 0) .undef .undef .undef .undef .undef .undef .undef (c8 .undef .undef .undef .undef .undef .undef .undef .undef (c8 .undef .undef .undef .undef .undef .undef .undef .undef (c8 .undef .undef .undef .undef .undef .undef .undef .undef (c8 .undef .undef .undef .undef .undef .undef .undef .undef (c8 .undef .undef .undef .undef .undef .undef .undef .undef ([.undef, .undef]))))))) _ _
            ((repeat (first | (with_reducible refine Vc.seq fun N hN => ?_) | (with_reducible refine Vc.block ?_) | ((first | with_reducible refine Vc.skip ?_ | with_reducible refine Vc.exit ?_); dsimp only [thenK, blockK, Nat.beq]; (first | (refine hN _ _ ?_; clear hN N) | skip)) | (with_reducible intro _) | ((with_reducible refine And.intro ?_ ?_); (focus (first | exact sideQ | exact sd0))) | ((first | ((with_reducible refine askT_of ?_ (fun hb => ?_)); (focus (first | exact sideQ | exact sd0)); (try simp only [hb])) | ((with_reducible refine Vc.fin ?_); dsimp only [thenK, blockK, retK, resS, resOne, resAll]) | ((with_reducible refine Vc.hold ?_); first | refine Vc.regiont T0_ok GPB_ok ?_)); (try simp only [v8X, v8A, v8B, v8C, Nat.beq, Nat.ble, Int.reduceToNat, Int.reduceLE, Int.reduceLT, Nat.reduceLT, Nat.reduceLeDiff, Nat.reduceAdd, Nat.reduceMul, Nat.reduceSub, Int.reduceAdd, Int.reduceSub, Int.reduceMul, eq_self, decide_true, beq_self_eq_true, List.length_cons, List.length_nil, Nat.min_eq_left, IntKind.bits, tabs, GPB_set, f1, f2]); (try simp (disch := omega) only [v8W])) | ((with_reducible refine hN _ _ ?_); clear hN N; (try simp (disch := omega) only [v8W])))); (try ((with_reducible refine Fin.of ?_); (try with_reducible exact True.intro))))
            (refine Vc.cond T0_ok (t := false) (by rfl) (fun h => Bool.noConfusion h) (fun _ => ?_))
            ((repeat (first | (with_reducible refine Vc.seq fun N hN => ?_) | (with_reducible refine Vc.block ?_) | ((first | with_reducible refine Vc.skip ?_ | with_reducible refine Vc.exit ?_); dsimp only [thenK, blockK, Nat.beq]; (first | (refine hN _ _ ?_; clear hN N) | skip)) | (with_reducible intro _) | ((with_reducible refine And.intro ?_ ?_); (focus (first | ((repeat' with_reducible apply And.intro) <;> first | exact sideQ | (exact hLf _ (List.mem_cons_of_mem _ List.mem_cons_self)) | (exact hLy _ (List.mem_cons_of_mem _ List.mem_cons_self)) | (exact hLb _ (List.mem_cons_of_mem _ List.mem_cons_self)) | exact hf.1 | exact hf.2) | exact sd0))) | ((first | ((with_reducible refine askT_of ?_ (fun hb => ?_)); (focus (first | ((repeat' with_reducible apply And.intro) <;> first | exact sideQ | (exact hLf _ (List.mem_cons_of_mem _ List.mem_cons_self)) | (exact hLy _ (List.mem_cons_of_mem _ List.mem_cons_self)) | (exact hLb _ (List.mem_cons_of_mem _ List.mem_cons_self)) | exact hf.1 | exact hf.2) | exact sd0)); (try simp only [hb])) | ((with_reducible refine Vc.fin ?_); dsimp only [thenK, blockK, retK, resS, resOne, resAll]) | ((with_reducible refine Vc.hold ?_); first | refine Vc.regiont T0_ok GPB_ok ?_)); (try simp only [v8X, v8A, v8B, v8C, Nat.beq, Nat.ble, Int.reduceToNat, Int.reduceLE, Int.reduceLT, Nat.reduceLT, Nat.reduceLeDiff, Nat.reduceAdd, Nat.reduceMul, Nat.reduceSub, Int.reduceAdd, Int.reduceSub, Int.reduceMul, eq_self, decide_true, beq_self_eq_true, List.length_cons, List.length_nil, Nat.min_eq_left, IntKind.bits, tabs, GPB_set, d1, conEs.eq_def, conN.eq_def]); (try simp (disch := omega) only [v8W])) | ((with_reducible refine hN _ _ ?_); clear hN N; (try simp (disch := omega) only [v8W])))); (try ((with_reducible refine Fin.of ?_); (try with_reducible exact True.intro))))
            (refine Vc.cond T0_ok (t := false) (by rfl) (fun h => Bool.noConfusion h) (fun _ => ?_))
            ((repeat (first | (with_reducible refine Vc.seq fun N hN => ?_) | (with_reducible refine Vc.block ?_) | ((first | with_reducible refine Vc.skip ?_ | with_reducible refine Vc.exit ?_); dsimp only [thenK, blockK, Nat.beq]; (first | (refine hN _ _ ?_; clear hN N) | skip)) | (with_reducible intro _) | ((with_reducible refine And.intro ?_ ?_); (focus (first | ((repeat' with_reducible apply And.intro) <;> first | exact sideQ | (exact hLf _ (List.mem_cons_of_mem _ List.mem_cons_self)) | (exact hLy _ (List.mem_cons_of_mem _ List.mem_cons_self)) | (exact hLb _ (List.mem_cons_of_mem _ List.mem_cons_self)) | exact hf.1 | exact hf.2) | exact sd0))) | ((first | ((with_reducible refine askT_of ?_ (fun hb => ?_)); (focus (first | ((repeat' with_reducible apply And.intro) <;> first | exact sideQ | (exact hLf _ (List.mem_cons_of_mem _ List.mem_cons_self)) | (exact hLy _ (List.mem_cons_of_mem _ List.mem_cons_self)) | (exact hLb _ (List.mem_cons_of_mem _ List.mem_cons_self)) | exact hf.1 | exact hf.2) | exact sd0)); (try simp only [hb])) | ((with_reducible refine Vc.fin ?_); dsimp only [thenK, blockK, retK, resS, resOne, resAll]) | ((with_reducible refine Vc.hold ?_); first | refine Vc.regiont T0_ok GPB_ok ?_)); (try simp only [v8X, v8A, v8B, v8C, Nat.beq, Nat.ble, Int.reduceToNat, Int.reduceLE, Int.reduceLT, Nat.reduceLT, Nat.reduceLeDiff, Nat.reduceAdd, Nat.reduceMul, Nat.reduceSub, Int.reduceAdd, Int.reduceSub, Int.reduceMul, eq_self, decide_true, beq_self_eq_true, List.length_cons, List.length_nil, Nat.min_eq_left, IntKind.bits, tabs, GPB_set, o2, o3]); (try simp (disch := omega) only [v8W])) | ((with_reducible refine hN _ _ ?_); clear hN N; (try simp (disch := omega) only [v8W])))); (try ((with_reducible refine Fin.of ?_); (try with_reducible exact True.intro))))
            (refine Vc.cond T0_ok (t := false) (by rfl) (fun h => Bool.noConfusion h) (fun _ => ?_))
            ((repeat (first | (with_reducible refine Vc.seq fun N hN => ?_) | (with_reducible refine Vc.block ?_) | ((first | with_reducible refine Vc.skip ?_ | with_reducible refine Vc.exit ?_); dsimp only [thenK, blockK, Nat.beq]; (first | (refine hN _ _ ?_; clear hN N) | skip)) | (with_reducible intro _) | ((with_reducible refine And.intro ?_ ?_); (focus (first | ((repeat' with_reducible apply And.intro) <;> first | exact sideQ | (exact hLf _ (List.mem_cons_of_mem _ List.mem_cons_self)) | (exact hLy _ (List.mem_cons_of_mem _ List.mem_cons_self)) | (exact hLb _ (List.mem_cons_of_mem _ List.mem_cons_self)) | exact hf.1 | exact hf.2) | exact sd0))) | ((first | ((with_reducible refine askT_of ?_ (fun hb => ?_)); (focus (first | ((repeat' with_reducible apply And.intro) <;> first | exact sideQ | (exact hLf _ (List.mem_cons_of_mem _ List.mem_cons_self)) | (exact hLy _ (List.mem_cons_of_mem _ List.mem_cons_self)) | (exact hLb _ (List.mem_cons_of_mem _ List.mem_cons_self)) | exact hf.1 | exact hf.2) | exact sd0)); (try simp only [hb])) | ((with_reducible refine Vc.fin ?_); dsimp only [thenK, blockK, retK, resS, resOne, resAll]) | ((with_reducible refine Vc.hold ?_); first | refine Vc.regiont T0_ok GPB_ok ?_)); (try simp only [v8X, v8A, v8B, v8C, Nat.beq, Nat.ble, Int.reduceToNat, Int.reduceLE, Int.reduceLT, Nat.reduceLT, Nat.reduceLeDiff, Nat.reduceAdd, Nat.reduceMul, Nat.reduceSub, Int.reduceAdd, Int.reduceSub, Int.reduceMul, eq_self, decide_true, beq_self_eq_true, List.length_cons, List.length_nil, Nat.min_eq_left, IntKind.bits, tabs, GPB_set, tnc, f3, f4, d3]); (try simp (disch := omega) only [v8W])) | ((with_reducible refine hN _ _ ?_); clear hN N; (try simp (disch := omega) only [v8W])))); (try ((with_reducible refine Fin.of ?_); (try with_reducible exact True.intro))))
            (refine Vc.cond T0_ok (t := false) (by rfl) (fun h => Bool.noConfusion h) (fun _ => ?_))
            ((repeat (first | (with_reducible refine Vc.seq fun N hN => ?_) | (with_reducible refine Vc.block ?_) | ((first | with_reducible refine Vc.skip ?_ | with_reducible refine Vc.exit ?_); dsimp only [thenK, blockK, Nat.beq]; (first | (refine hN _ _ ?_; clear hN N) | skip)) | (with_reducible intro _) | ((with_reducible refine And.intro ?_ ?_); (focus (first | exact sideQ | exact sd0))) | ((first | ((with_reducible refine askT_of ?_ (fun hb => ?_)); (focus (first | exact sideQ | exact sd0)); (try simp only [hb])) | ((with_reducible refine Vc.fin ?_); dsimp only [thenK, blockK, retK, resS, resOne, resAll]) | ((with_reducible refine Vc.hold ?_); first | refine Vc.regiont T0_ok GPB_ok ?_)); (try simp only [v8X, v8A, v8B, v8C, Nat.beq, Nat.ble, Int.reduceToNat, Int.reduceLE, Int.reduceLT, Nat.reduceLT, Nat.reduceLeDiff, Nat.reduceAdd, Nat.reduceMul, Nat.reduceSub, Int.reduceAdd, Int.reduceSub, Int.reduceMul, eq_self, decide_true, beq_self_eq_true, List.length_cons, List.length_nil, Nat.min_eq_left, IntKind.bits, tabs, GPB_set]); (try simp (disch := omega) only [v8W])) | ((with_reducible refine hN _ _ ?_); clear hN N; (try simp (disch := omega) only [v8W])))); (try ((with_reducible refine Fin.of ?_); (try with_reducible exact True.intro))))
            exact ⟨by simp, _, hs, by first | exact True.intro | rfl⟩
        · have f3 : tkV a2 n2 c2 zs nb = _ := if_neg hN
          have f4 : tkC a2 n2 c2 zs (at_ + 1 + (n' - n2 : Nat)) dp nb = _ := if_neg hN
          have hs : ∀ C, sptQ a (f :: ys) at_ dp (.tup [.int .u8 0, .nilsl, .bool false]) C := sptQ_none ((hdd_hi hf1 o1).trans (if_neg (by omega)))
          have hLb : True := trivial
          refine Vc.calls T0_ok Try.func38 rfl rfl (args := [.ptr 0 b 0 0 0 0]) (k := 49) rfl hm ?_; change Vc _ _ (c8 (.ptr 0 b 0 0 0 0) .undef .undef .undef .undef .undef .undef .undef (c8 .undef .undef .undef .undef .undef .undef .undef .undef (c8 .undef .undef .undef .undef .undef .undef .undef .undef (c8 .undef .undef .undef .undef .undef .undef .undef .undef (c8 .undef .undef .undef .undef .undef .undef .undef .undef (c8 .undef .undef .undef .undef .undef .undef .undef .undef ([.undef, .undef]))))))) _ _
          ((repeat (first | (with_reducible refine Vc.seq fun N hN => ?_) | (with_reducible refine Vc.block ?_) | ((first | with_reducible refine Vc.skip ?_ | with_reducible refine Vc.exit ?_); dsimp only [thenK, blockK, Nat.beq]; (first | (refine hN _ _ ?_; clear hN N) | skip)) | (with_reducible intro _) | ((with_reducible refine And.intro ?_ ?_); (focus (first | exact sideQ | exact sd0))) | ((first | ((with_reducible refine askT_of ?_ (fun hb => ?_)); (focus (first | exact sideQ | exact sd0)); (try simp only [hb])) | ((with_reducible refine Vc.fin ?_); dsimp only [thenK, blockK, retK, resS, resOne, resAll]) | ((with_reducible refine Vc.hold ?_); first | refine Vc.regiont T0_ok GPB_ok ?_)); (try simp only [v8X, v8A, v8B, v8C, Nat.beq, Nat.ble, Int.reduceToNat, Int.reduceLE, Int.reduceLT, Nat.reduceLT, Nat.reduceLeDiff, Nat.reduceAdd, Nat.reduceMul, Nat.reduceSub, Int.reduceAdd, Int.reduceSub, Int.reduceMul, eq_self, decide_true, beq_self_eq_true, List.length_cons, List.length_nil, Nat.min_eq_left, IntKind.bits, tabs, GPB_set, f1, f2]); (try simp (disch := omega) only [v8W])) | ((with_reducible refine hN _ _ ?_); clear hN N; (try simp (disch := omega) only [v8W])))); (try ((with_reducible refine Fin.of ?_); (try with_reducible exact True.intro))))
          (refine Vc.cond T0_ok (t := false) (by rfl) (fun h => Bool.noConfusion h) (fun _ => ?_))
          ((repeat (first | (with_reducible refine Vc.seq fun N hN => ?_) | (with_reducible refine Vc.block ?_) | ((first | with_reducible refine Vc.skip ?_ | with_reducible refine Vc.exit ?_); dsimp only [thenK, blockK, Nat.beq]; (first | (refine hN _ _ ?_; clear hN N) | skip)) | (with_reducible intro _) | ((with_reducible refine And.intro ?_ ?_); (focus (first | ((repeat' with_reducible apply And.intro) <;> first | exact sideQ | (exact hLf _ (List.mem_cons_of_mem _ List.mem_cons_self)) | (exact hLy _ (List.mem_cons_of_mem _ List.mem_cons_self)) | (exact hLb _ (List.mem_cons_of_mem _ List.mem_cons_self)) | exact hf.1 | exact hf.2) | exact sd0))) | ((first | ((with_reducible refine askT_of ?_ (fun hb => ?_)); (focus (first | ((repeat' with_reducible apply And.intro) <;> first | exact sideQ | (exact hLf _ (List.mem_cons_of_mem _ List.mem_cons_self)) | (exact hLy _ (List.mem_cons_of_mem _ List.mem_cons_self)) | (exact hLb _ (List.mem_cons_of_mem _ List.mem_cons_self)) | exact hf.1 | exact hf.2) | exact sd0)); (try simp only [hb])) | ((with_reducible refine Vc.fin ?_); dsimp only [thenK, blockK, retK, resS, resOne, resAll]) | ((with_reducible refine Vc.hold ?_); first | refine Vc.regiont T0_ok GPB_ok ?_)); (try simp only [v8X, v8A, v8B, v8C, Nat.beq, Nat.ble, Int.reduceToNat, Int.reduceLE, Int.reduceLT, Nat.reduceLT, Nat.reduceLeDiff, Nat.reduceAdd, Nat.reduceMul, Nat.reduceSub, Int.reduceAdd, Int.reduceSub, Int.reduceMul, eq_self, decide_true, beq_self_eq_true, List.length_cons, List.length_nil, Nat.min_eq_left, IntKind.bits, tabs, GPB_set, d1, conEs.eq_def, conN.eq_def]); (try simp (disch := omega) only [v8W])) | ((with_reducible refine hN _ _ ?_); clear hN N; (try simp (disch := omega) only [v8W])))); (try ((with_reducible refine Fin.of ?_); (try with_reducible exact True.intro))))
          (refine Vc.cond T0_ok (t := false) (by rfl) (fun h => Bool.noConfusion h) (fun _ => ?_))
          ((repeat (first | (with_reducible refine Vc.seq fun N hN => ?_) | (with_reducible refine Vc.block ?_) | ((first | with_reducible refine Vc.skip ?_ | with_reducible refine Vc.exit ?_); dsimp only [thenK, blockK, Nat.beq]; (first | (refine hN _ _ ?_; clear hN N) | skip)) | (with_reducible intro _) | ((with_reducible refine And.intro ?_ ?_); (focus (first | ((repeat' with_reducible apply And.intro) <;> first | exact sideQ | (exact hLf _ (List.mem_cons_of_mem _ List.mem_cons_self)) | (exact hLy _ (List.mem_cons_of_mem _ List.mem_cons_self)) | (exact hLb _ (List.mem_cons_of_mem _ List.mem_cons_self)) | exact hf.1 | exact hf.2) | exact sd0))) | ((first | ((with_reducible refine askT_of ?_ (fun hb => ?_)); (focus (first | ((repeat' with_reducible apply And.intro) <;> first | exact sideQ | (exact hLf _ (List.mem_cons_of_mem _ List.mem_cons_self)) | (exact hLy _ (List.mem_cons_of_mem _ List.mem_cons_self)) | (exact hLb _ (List.mem_cons_of_mem _ List.mem_cons_self)) | exact hf.1 | exact hf.2) | exact sd0)); (try simp only [hb])) | ((with_reducible refine Vc.fin ?_); dsimp only [thenK, blockK, retK, resS, resOne, resAll]) | ((with_reducible refine Vc.hold ?_); first | refine Vc.regiont T0_ok GPB_ok ?_)); (try simp only [v8X, v8A, v8B, v8C, Nat.beq, Nat.ble, Int.reduceToNat, Int.reduceLE, Int.reduceLT, Nat.reduceLT, Nat.reduceLeDiff, Nat.reduceAdd, Nat.reduceMul, Nat.reduceSub, Int.reduceAdd, Int.reduceSub, Int.reduceMul, eq_self, decide_true, beq_self_eq_true, List.length_cons, List.length_nil, Nat.min_eq_left, IntKind.bits, tabs, GPB_set, o2, o3]); (try simp (disch := omega) only [v8W])) | ((with_reducible refine hN _ _ ?_); clear hN N; (try simp (disch := omega) only [v8W])))); (try ((with_reducible refine Fin.of ?_); (try with_reducible exact True.intro))))
          (refine Vc.cond T0_ok (t := false) (by rfl) (fun h => Bool.noConfusion h) (fun _ => ?_))
          ((repeat (first | (with_reducible refine Vc.seq fun N hN => ?_) | (with_reducible refine Vc.block ?_) | ((first | with_reducible refine Vc.skip ?_ | with_reducible refine Vc.exit ?_); dsimp only [thenK, blockK, Nat.beq]; (first | (refine hN _ _ ?_; clear hN N) | skip)) | (with_reducible intro _) | ((with_reducible refine And.intro ?_ ?_); (focus (first | ((repeat' with_reducible apply And.intro) <;> first | exact sideQ | (exact hLf _ (List.mem_cons_of_mem _ List.mem_cons_self)) | (exact hLy _ (List.mem_cons_of_mem _ List.mem_cons_self)) | (exact hLb _ (List.mem_cons_of_mem _ List.mem_cons_self)) | exact hf.1 | exact hf.2) | exact sd0))) | ((first | ((with_reducible refine askT_of ?_ (fun hb => ?_)); (focus (first | ((repeat' with_reducible apply And.intro) <;> first | exact sideQ | (exact hLf _ (List.mem_cons_of_mem _ List.mem_cons_self)) | (exact hLy _ (List.mem_cons_of_mem _ List.mem_cons_self)) | (exact hLb _ (List.mem_cons_of_mem _ List.mem_cons_self)) | exact hf.1 | exact hf.2) | exact sd0)); (try simp only [hb])) | ((with_reducible refine Vc.fin ?_); dsimp only [thenK, blockK, retK, resS, resOne, resAll]) | ((with_reducible refine Vc.hold ?_); first | refine Vc.regiont T0_ok GPB_ok ?_)); (try simp only [v8X, v8A, v8B, v8C, Nat.beq, Nat.ble, Int.reduceToNat, Int.reduceLE, Int.reduceLT, Nat.reduceLT, Nat.reduceLeDiff, Nat.reduceAdd, Nat.reduceMul, Nat.reduceSub, Int.reduceAdd, Int.reduceSub, Int.reduceMul, eq_self, decide_true, beq_self_eq_true, List.length_cons, List.length_nil, Nat.min_eq_left, IntKind.bits, tabs, GPB_set, tnc, f3, f4]); (try simp (disch := omega) only [v8W])) | ((with_reducible refine hN _ _ ?_); clear hN N; (try simp (disch := omega) only [v8W])))); (try ((with_reducible refine Fin.of ?_); (try with_reducible exact True.intro))))
          (refine Vc.cond T0_ok (t := true) (by rfl) (fun _ => ?_) (fun h => Bool.noConfusion h))
          ((repeat (first | (with_reducible refine Vc.seq fun N hN => ?_) | (with_reducible refine Vc.block ?_) | ((first | with_reducible refine Vc.skip ?_ | with_reducible refine Vc.exit ?_); dsimp only [thenK, blockK, Nat.beq]; (first | (refine hN _ _ ?_; clear hN N) | skip)) | (with_reducible intro _) | ((with_reducible refine And.intro ?_ ?_); (focus (first | exact sideQ | exact sd0))) | ((first | ((with_reducible refine askT_of ?_ (fun hb => ?_)); (focus (first | exact sideQ | exact sd0)); (try simp only [hb])) | ((with_reducible refine Vc.fin ?_); dsimp only [thenK, blockK, retK, resS, resOne, resAll]) | ((with_reducible refine Vc.hold ?_); first | refine Vc.regiont T0_ok GPB_ok ?_)); (try simp only [v8X, v8A, v8B, v8C, Nat.beq, Nat.ble, Int.reduceToNat, Int.reduceLE, Int.reduceLT, Nat.reduceLT, Nat.reduceLeDiff, Nat.reduceAdd, Nat.reduceMul, Nat.reduceSub, Int.reduceAdd, Int.reduceSub, Int.reduceMul, eq_self, decide_true, beq_self_eq_true, List.length_cons, List.length_nil, Nat.min_eq_left, IntKind.bits, tabs, GPB_set]); (try simp (disch := omega) only [v8W])) | ((with_reducible refine hN _ _ ?_); clear hN N; (try simp (disch := omega) only [v8W])))); (try ((with_reducible refine Fin.of ?_); (try with_reducible exact True.intro))))
          exact ⟨by simp, _, hs _, by first | exact True.intro | rfl⟩
theorem calls_turnR {P : Program} {f : FuncId} {fn : Func} {args args' : List SV} {w0 w : World} {B : List Nat} {m : List Blk} {nm k b : Nat} {t : TypeId} {con : Con} {A : Type} {Q : A → Prop} {F : A → SV} {C : A → Con} (hf : P.funcs[f]? = some fn) (hn : (fn.name == "runtime.NumGoroutine") = false) (hb : fn.body.isNone = false)
    (hm : MemOk w0 B m w) (hbg : bget m nm = .blk b t con) (he : cvs args = cvs args') (h : Calls P f (cvs args').toArray w (fun en w' => ∃ u, en = .returned u ∧ ∃ v' m', u = cv v' ∧ MemOk w [b] m' w' ∧ ∃ x, Q x ∧ v' = F x ∧ bget m' k = .blk b t (C x))) :
    Enters P f (cvs args).toArray w fun u w' => ∃ x, Q x ∧ u = cv (F x) ∧ MemOk w0 B (bset m nm (.blk b t (C x))) w' := by
  rw [he]
  exact .inr ⟨enter_run hf hn hb _ w, h.mono fun e w' ⟨u, hu, v', m', hv, hm', x, hx, hvv, hk⟩ => ⟨u, hu, x, hx, by rw [hv, hvv], turn_end hm hbg hm' hk⟩⟩
/-- What split leaves to chance: the head's byte, where the pieces lie. -/
structure SpX where
  f : Int
  a1 : Option Addr
  a2 : Option Addr
  c1 : Nat
  c2 : Nat
def g_split (args : List SV) (m : List Blk) : CR :=
  match args with
  | [.ptr nm b base i sz j] => match bget m nm with
    | .blk b' t (.cells [.gh a n c (.ints .u8 xs), .int .i64 at_, .int .i64 dp]) => match hdd xs with
      | none => .rel (b = b' ∧ t = 64 ∧ base = 0 ∧ i = 0 ∧ sz = 0 ∧ j = 0 ∧ rdOk n c xs at_ ∧ allB xs ∧ adr a n c ∧ LiesH (HM (bset m nm .gone)) a (cc (.ints .u8 xs))) Con (fun _ => True) (fun _ => .tup [.int .u8 0, .nilsl, .bool false]) (fun C => bset m nm (.blk b t C))
      | some (l, ys, zs) => .rel (b = b' ∧ t = 64 ∧ base = 0 ∧ i = 0 ∧ sz = 0 ∧ j = 0 ∧ rdOk n c xs at_ ∧ allB xs ∧ adr a n c ∧ LiesH (HM (bset m nm .gone)) a (cc (.ints .u8 xs))) SpX
          (fun x => l = decide (192 ≤ x.f) ∧ Pc a xs x.a1 ys.length x.c1 ys ∧ Pc a xs x.a2 zs.length x.c2 zs ∧ zs.length + ys.length ≤ xs.length ∧ zs.length < xs.length ∧ (x.f < 128 → ys.length = 1))
          (fun x => .tup [.int .u8 x.f, .gh x.a1 ys.length x.c1 (.ints .u8 ys), .bool true])
          (fun x => bset m nm (.blk b t (.cells [.gh x.a2 zs.length x.c2 (.ints .u8 zs), .int .i64 (at_ + (xs.length - zs.length : Nat)), .int .i64 dp])))
    | _ => .none
  | _ => .none
theorem g_split_ok (w0 : World) (B : List Nat) (args : List SV) (m : List Blk) : CROk Try.prog w0 B 38 args m (g_split args m) := by
  unfold g_split
  split
  · split
    · rename_i nm b base i sz j _ b' t a n c xs at_ dp hb
      split
      · rename_i hh
        intro ⟨h1, h2, h3, h4, h5, h6, h7, h8, h9, h10⟩ w hm
        subst h1; subst h2; subst h3; subst h4; subst h5; subst h6
        exact calls_turnR (A := Con) Try.func38 rfl rfl hm hb (k := 0) (args' := [.ptr 0 b 0 0 0 0]) rfl
          ((split_vc a n c xs at_ dp b h7 h8 h9 w (h10.mono (HM.but hm hb)) (turn_old hm hb)).mono fun e w' ⟨u, hu, v', m', hv, hm', C, hs, hk⟩ => ⟨u, hu, v', m', hv, hm', C, trivial, by unfold sptQ at hs; rw [hh] at hs; exact hs, hk⟩)
      · rename_i l ys zs hh
        intro ⟨h1, h2, h3, h4, h5, h6, h7, h8, h9, h10⟩ w hm
        subst h1; subst h2; subst h3; subst h4; subst h5; subst h6
        refine calls_turnR (A := SpX) Try.func38 rfl rfl hm hb (k := 0) (args' := [.ptr 0 b 0 0 0 0]) rfl
          ((split_vc a n c xs at_ dp b h7 h8 h9 w (h10.mono (HM.but hm hb)) (turn_old hm hb)).mono fun e w' ⟨u, hu, v', m', hv, hm', C, hs, hk⟩ => ⟨u, hu, v', m', hv, hm', ?_⟩)
        unfold sptQ at hs; rw [hh] at hs
        obtain ⟨f, a1, a2, c1, c2, g1, g2, g3, g4, g5, g6, g7, g8⟩ := hs
        exact ⟨⟨f, a1, a2, c1, c2⟩, ⟨g2, g3, g4, g6, g7, g8⟩, g1, by rw [hk, g5]⟩
    · exact trivial
  · exact trivial
noncomputable def GPC : Ctr := fun f args m => match f with
  | 40 => g_take args m
  | 24 => g_apNum args m
  | 31 => g_apHead args m
  | 36 => g_bare args m
  | 22 => g_Rev args m
  | 41 => g_rlen args m
  | 38 => g_split args m
  | _ => .none
theorem GPC_ok : GOk Try.prog GPC := by
  intro w0 B f args m; unfold GPC; split
  · exact g_take_ok _ _ _ _
  · exact g_apNum_ok _ _ _ _
  · exact g_apHead_ok _ _ _ _
  · exact g_bare_ok _ _ _ _
  · exact g_Rev_ok _ _ _ _
  · exact g_rlen_ok _ _ _ _
  · exact g_split_ok _ _ _ _
  · exact trivial
theorem GPC_take : GPC 40 = g_take := by funext args m; rfl
theorem GPC_apNum : GPC 24 = g_apNum := by funext args m; rfl
theorem GPC_apHead : GPC 31 = g_apHead := by funext args m; rfl
theorem GPC_bare : GPC 36 = g_bare := by funext args m; rfl
theorem GPC_Rev : GPC 22 = g_Rev := by funext args m; rfl
theorem GPC_rlen : GPC 41 = g_rlen := by funext args m; rfl
theorem GPC_split : GPC 38 = g_split := by funext args m; rfl
def GPC_set := And.intro (And.intro (And.intro (@GPC_take) (And.intro (@g_take.eq_def) (@GPC_apNum))) (And.intro (And.intro (@g_apNum.eq_def) (@GPC_apHead)) (And.intro (@g_apHead.eq_def) (@GPC_bare)))) (And.intro (And.intro (@g_bare.eq_def) (And.intro (@GPC_Rev) (@g_Rev.eq_def))) (And.intro (And.intro (@GPC_rlen) (@g_rlen.eq_def)) (And.intro (@GPC_split) (@g_split.eq_def))))

/-! ### What is decoded -/
/-- Items one behind the other. -/
def decsF (f : List Int → Option (Itm × List Int)) : Nat → List Int → Option (List Itm)
  | _, [] => some []
  | 0, _ :: _ => none
  | n + 1, x :: xs => match f (x :: xs) with
    | none => none
    | some (k, rest) => match decsF f n rest with
      | none => none
      | some ks => some (k :: ks)
/-- The item that bytes begin with, no deeper than so, and what is behind it. -/
def dec : Nat → List Int → Option (Itm × List Int)
  | 0, _ => none
  | d + 1, xs => match hdd xs with
    | none => none
    | some (false, ys, zs) => some (.mk false ys [], zs)
    | some (true, ys, zs) => match decsF (dec d) ys.length ys with
      | none => none
      | some ks => some (.mk true [] ks, zs)
theorem lnO_le {ys : List Int} {f : Int} {nb : Nat} {zs : List Int} (h : lnO ys f = some (nb, zs)) : zs.length ≤ ys.length := by
  unfold lnO at h
  split at h
  · simp only [Option.some.injEq, Prod.mk.injEq] at h; obtain ⟨_, rfl⟩ := h; exact Nat.le_refl _
  · split at h
    · simp only [Option.some.injEq, Prod.mk.injEq] at h; obtain ⟨_, rfl⟩ := h; rw [List.length_drop]; exact Nat.sub_le _ _
    · cases h
theorem hdd_len {xs : List Int} {l : Bool} {ys zs : List Int} (h : hdd xs = some (l, ys, zs)) : zs.length + ys.length ≤ xs.length ∧ zs.length < xs.length ∧ (l = true → ys.length < xs.length) := by
  cases xs with
  | nil => cases h
  | cons f xs =>
    by_cases hf : f < 128
    · rw [hdd_lo hf] at h
      simp only [Option.some.injEq, Prod.mk.injEq] at h; obtain ⟨rfl, rfl, rfl⟩ := h
      simp
    · cases ho : lnO xs f with
      | none => rw [hdd_no hf ho] at h; cases h
      | some o =>
        obtain ⟨nb, us⟩ := o
        rw [hdd_hi hf ho] at h
        have := lnO_le ho
        split at h
        · split at h
          · cases h
          · simp only [Option.some.injEq, Prod.mk.injEq] at h; obtain ⟨_, rfl, rfl⟩ := h
            rw [List.length_take, List.length_drop, List.length_cons]; omega
        · cases h
theorem dec_len {d : Nat} {xs : List Int} {t : Itm} {zs : List Int} (h : dec d xs = some (t, zs)) : zs.length < xs.length := by
  cases d with
  | zero => cases h
  | succ d =>
    simp only [dec] at h
    split at h
    · cases h
    · rename_i hh; simp only [Option.some.injEq, Prod.mk.injEq] at h; obtain ⟨_, rfl⟩ := h; exact (hdd_len hh).2.1
    · rename_i hh
      split at h
      · cases h
      · simp only [Option.some.injEq, Prod.mk.injEq] at h; obtain ⟨_, rfl⟩ := h; exact (hdd_len hh).2.1
/-- More rounds tell no more. -/
theorem decsF_more {f : List Int → Option (Itm × List Int)} (hf : ∀ xs t zs, f xs = some (t, zs) → zs.length < xs.length) : ∀ (n m : Nat) (xs : List Int), xs.length ≤ n → xs.length ≤ m → decsF f n xs = decsF f m xs
  | n, m, [], _, _ => by cases n <;> cases m <;> rfl
  | 0, _, _ :: _, h, _ => absurd h (by simp)
  | _ + 1, 0, _ :: _, _, h => absurd h (by simp)
  | n + 1, m + 1, x :: xs, h, h' => by
    simp only [decsF]
    cases hx : f (x :: xs) with
    | none => rfl
    | some o =>
      obtain ⟨k, rest⟩ := o
      have := hf _ _ _ hx
      simp only [List.length_cons] at this h h'
      simp only [decsF_more hf n m rest (by omega) (by omega)]
/-- All items that bytes are. -/
def decs (d : Nat) (xs : List Int) : Option (List Itm) := decsF (dec d) xs.length xs
theorem decs_nil (d : Nat) : decs d [] = some [] := rfl
theorem decs_no {d : Nat} {xs : List Int} (h0 : xs ≠ []) (h : dec d xs = none) : decs d xs = none := by
  cases xs with
  | nil => exact absurd rfl h0
  | cons x xs => unfold decs; simp only [List.length_cons, decsF, h]
theorem decs_go {d : Nat} {xs : List Int} {t : Itm} {zs : List Int} (h : dec d xs = some (t, zs)) : decs d xs = match decs d zs with | none => none | some ks => some (t :: ks) := by
  have hl := dec_len h
  cases xs with
  | nil => simp at hl
  | cons x xs =>
    unfold decs
    simp only [List.length_cons] at hl
    simp only [List.length_cons, decsF, h]
    rw [decsF_more (f := dec d) (fun xs t zs => dec_len) xs.length zs.length zs (by omega) (Nat.le_refl _)]
theorem dec_0 (xs : List Int) : dec 0 xs = none := rfl
theorem dec_no {d : Nat} {xs : List Int} (h : hdd xs = none) : dec d xs = none := by cases d <;> simp only [dec, h]
theorem dec_text {d : Nat} {xs ys zs : List Int} (h : hdd xs = some (false, ys, zs)) : dec (d + 1) xs = some (.mk false ys [], zs) := by simp only [dec, h]
theorem dec_list {d : Nat} {xs ys zs : List Int} (h : hdd xs = some (true, ys, zs)) : dec (d + 1) xs = match decs d ys with | none => none | some ks => some (.mk true [] ks, zs) := by
  simp only [dec, h, decs]
def Hl (l : List (Nat × Obj)) (b : Nat) (o : Obj) : Prop := (b, o) ∈ l
theorem Hl.hm {l L : List (Nat × Obj)} {m : List Blk} (hin : Blk.heap L ∈ m) (hs : ∀ p ∈ l, p ∈ L) : ∀ b o, Hl l b o → HM m b o := fun b o h => ⟨_, hin, hs _ h⟩
theorem MemOk.set {w0 : World} {B : List Nat} {m : List Blk} {w : World} (h : MemOk w0 B m w) {k : Nat} {e0 e : Blk} (hb : bget m k = e0) (hn : e0 ≠ .gone) (he : e.ok w0 B w) (hee : e.nums.Nodup)
    (hnum : ∀ b ∈ e.nums, b ∈ e0.nums ∨ b ∉ m.flatMap Blk.nums) : MemOk w0 B (bset m k e) w := by
  have hd := nodup_bset (e := e) hb hn h.nodup hee hnum
  exact ⟨h.os, h.tape, h.output, h.size, h.old, fun x hx => (hd.2 x hx).elim (fun g => g ▸ he) (fun g => h.each x g.1), hd.1⟩
theorem nums_nodup : ∀ {m : List Blk} {i : Nat}, (m.flatMap Blk.nums).Nodup → (bget m i).nums.Nodup
  | [], _, _ => List.nodup_nil
  | x :: m, 0, h => by rw [List.flatMap_cons, List.nodup_append] at h; exact h.1
  | x :: m, i + 1, h => by rw [List.flatMap_cons, List.nodup_append] at h; exact nums_nodup (m := m) (i := i) h.2.1
/-- An own slice, kept as it is. -/
theorem freeze {w0 : World} {B : List Nat} {m : List Blk} {w : World} (hm : MemOk w0 B m w) {i k : Nat} {v : Value} {n : Nat} {t : TypeId} {es : Nat} {con : Con} {L : List (Nat × Obj)} (hb : bget m i = .own v n t es con) (hk : bget m k = .heap L) :
    ∃ (l : List (Nat × Obj)) (a : Option Addr) (c : Nat), v = .slice a n c ∧ adr a n c ∧ n ≤ c ∧ n ≤ maxLen ∧ (cc con).length = n * es ∧ LiesH (Hl l) a (cc con) ∧ MemOk w0 B (bset (bset m i .gone) k (.heap (L ++ l))) w := by
  have hik : k ≠ i := by rintro rfl; rw [hb] at hk; cases hk
  obtain ⟨⟨ho1, ho2⟩, ho3⟩ := hm.each _ (bget_mem hb (by simp))
  have hd1 := nodup_bset (e := .gone) hb (by simp) hm.nodup List.nodup_nil (fun b h => absurd h List.not_mem_nil)
  have h1 : MemOk w0 B (bset m i .gone) w := hm.set hb (by simp) trivial List.nodup_nil (fun b h => absurd h List.not_mem_nil)
  have hk1 : bget (bset m i .gone) k = .heap L := by rw [bget_set_ne _ _ hik]; exact hk
  have hLo := hm.each _ (bget_mem hk (by simp))
  rcases ho2 with ⟨rfl, rfl⟩ | ⟨g, cap, cur, rfl, _, h3, h4, h5, h6, h7⟩
  · refine ⟨[], none, 0, rfl, .inr ⟨rfl, rfl, rfl⟩, Nat.le_refl _, Nat.zero_le _, ho1, .inl (List.length_eq_zero_iff.1 (by rw [ho1, Nat.zero_mul])), ?_⟩
    rw [List.append_nil]
    exact h1.set hk1 (by simp) hLo (by have := nums_nodup (i := k) hm.nodup; rwa [hk] at this) (fun b hb => .inl hb)
  · have hgn : g ∈ (bget m i).nums := by rw [hb]; simp [Blk.nums, Value.ownBlock]
    have hgL := nums_sep hm.nodup (Ne.symm hik) hgn
    rw [hk] at hgL
    refine ⟨[(g, .cells cur t (0, 0))], some ⟨g, 0, none⟩, cap, rfl, .inl rfl, h4, Nat.le_trans h4 h5, ho1, .inr ⟨g, 0, cur, t, (0, 0), rfl, List.mem_singleton.2 rfl, fun j u hj => ?_⟩, ?_⟩
    · rw [← h7] at hj
      rw [Nat.zero_add, ← Array.getElem?_toList]
      rw [List.getElem?_take] at hj
      split at hj
      · exact hj
      · cases hj
    · refine h1.set hk1 (by simp) (fun p hp => ?_) ?_ (fun b hbn => ?_)
      · rcases List.mem_append.1 hp with hp | hp
        · exact hLo p hp
        · rw [List.mem_singleton] at hp; subst hp
          exact ⟨h3, ho3 g rfl⟩
      · simp only [Blk.nums, List.map_append, List.map_cons, List.map_nil]
        rw [List.nodup_append]
        refine ⟨by have := nums_nodup (i := k) hm.nodup; rwa [hk] at this, by simp, fun a ha b hb2 => ?_⟩
        rw [List.mem_singleton] at hb2; subst hb2
        rintro rfl
        exact hgL ha
      · simp only [Blk.nums, List.map_append, List.map_cons, List.map_nil] at hbn
        rcases List.mem_append.1 hbn with hbn | hbn
        · exact .inl hbn
        · rw [List.mem_singleton] at hbn; subst hbn
          refine .inr fun hc => ?_
          obtain ⟨x, hx, hxb⟩ := List.mem_flatMap.1 hc
          rcases hd1.2 x hx with rfl | ⟨_, h9⟩
          · exact absurd hxb List.not_mem_nil
          · exact h9 b (by simp [Blk.nums, Value.ownBlock]) hxb
/-- A callee that turned a block, and made blocks that are kept. -/
theorem grow2 {w0 : World} {B : List Nat} {m m' : List Blk} {w w' : World} (hm : MemOk w0 B m w) {nm k i j b : Nat} {t t' : TypeId} {con con' : Con} {L l : List (Nat × Obj)} (hb : bget m nm = .blk b t con) (hk : bget m k = .heap L)
    (h : MemOk w [b] m' w') (hi : bget m' i = .blk b t' con') (hj : bget m' j = .heap l) : MemOk w0 B (bset (bset m nm (.blk b t' con')) k (.heap (L ++ l))) w' := by
  have h1 := turn_end hm hb h hi
  have hkn : k ≠ nm := by rintro rfl; rw [hb] at hk; cases hk
  have hk1 : bget (bset m nm (.blk b t' con')) k = .heap L := by rw [bget_set_ne _ _ hkn]; exact hk
  have hij : i ≠ j := by rintro rfl; rw [hi] at hj; cases hj
  have hlo := h.each _ (bget_mem hj (by simp))
  have hLo := hm.each _ (bget_mem hk (by simp))
  have hbb := bnum_lt (hm.each _ (bget_mem hb (by simp))) (b := b) (by simp [Blk.nums])
  have hfresh : ∀ x ∈ (Blk.heap l).nums, w.heap.size ≤ x := fun x hx => by
    obtain ⟨p, hp, rfl⟩ := List.mem_map.1 hx
    rcases (hlo p hp).2 with h3 | h3
    · exact h3
    · rw [List.mem_singleton] at h3
      have h4 := nums_sep h.nodup hij (b := b) (by rw [hi]; simp [Blk.nums])
      rw [hj] at h4
      exact absurd (h3 ▸ hx) h4
  refine h1.set hk1 (by simp) (fun p hp => ?_) ?_ (fun x hx => ?_)
  · rcases List.mem_append.1 hp with hp | hp
    · exact h1.each _ (bget_mem hk1 (by simp)) p hp
    · exact ⟨(hlo p hp).1, .inl (Nat.le_trans hm.size (hfresh _ (List.mem_map_of_mem hp)))⟩
  · simp only [Blk.nums, List.map_append]
    rw [List.nodup_append]
    refine ⟨by have := nums_nodup (i := k) hm.nodup; rwa [hk] at this, by have := nums_nodup (i := j) h.nodup; rwa [hj] at this, fun x hx y hy => ?_⟩
    rintro rfl
    have h3 := hfresh x hy
    have h4 := bnum_lt (e := .heap L) hLo hx
    omega
  · simp only [Blk.nums, List.map_append] at hx
    rcases List.mem_append.1 hx with hx | hx
    · exact .inl hx
    · refine .inr fun hc => ?_
      have h3 := hfresh x hx
      obtain ⟨y, hy, hyx⟩ := List.mem_flatMap.1 hc
      rcases mem_bset hy with rfl | hy
      · simp [Blk.nums] at hyx; omega
      · have := bnum_lt (hm.each y hy) hyx; omega
/-- Nothing kept as yet. -/
theorem MemOk.heap0 {w0 : World} {B : List Nat} {m : List Blk} {w : World} (h : MemOk w0 B m w) : MemOk w0 B (m ++ [.heap []]) w :=
  ⟨h.os, h.tape, h.output, h.size, h.old, fun e he => by
    rcases List.mem_append.1 he with he | he
    · exact h.each e he
    · rw [List.mem_singleton] at he; subst he
      exact fun p hp => absurd hp List.not_mem_nil, by
    rw [List.flatMap_append]; simpa [Blk.nums] using h.nodup⟩
theorem bget_lt : ∀ {m : List Blk} {i : Nat}, bget m i ≠ .gone → i < m.length
  | [], _, h => absurd rfl h
  | _ :: _, 0, _ => by simp
  | _ :: m, i + 1, h => by have := bget_lt (m := m) (i := i) h; simp; exact this
theorem bget_appL : ∀ {m : List Blk} {i : Nat} (x : List Blk), i < m.length → bget (m ++ x) i = bget m i
  | [], _, _, h => by simp at h
  | _ :: _, 0, _, _ => rfl
  | _ :: m, i + 1, x, h => bget_appL (m := m) x (by simpa using h)
theorem bget_appR : ∀ (m : List Blk) (x : Blk), bget (m ++ [x]) m.length = x
  | [], _ => rfl
  | _ :: m, x => bget_appR m x
theorem bset_appL : ∀ {m : List Blk} {i : Nat} (x : List Blk) (e : Blk), i < m.length → bset (m ++ x) i e = bset m i e ++ x
  | [], _, _, _, h => by simp at h
  | _ :: _, 0, _, _, _ => rfl
  | y :: m, i + 1, x, e, h => by simp only [List.cons_append, bset]; rw [bset_appL (m := m) x e (by simpa using h)]
theorem bset_appR : ∀ (m : List Blk) (x e : Blk), bset (m ++ [x]) m.length e = m ++ [e]
  | [], _, _ => rfl
  | y :: m, x, e => by simp only [List.cons_append, List.length_cons, bset]; rw [bset_appR m x e]
theorem bset_length : ∀ (m : List Blk) (i : Nat) (e : Blk), (bset m i e).length = m.length
  | [], _, _ => rfl
  | _ :: _, 0, _ => rfl
  | _ :: m, i + 1, e => by simp only [bset, List.length_cons]; rw [bset_length m i e]
/-- An own slice kept as it is, in the midst of a walk. -/
theorem Vc.freeze {P : Program} {c : Code} {env : List SV} {m : List Blk} {K : Kont} (i : Nat) {v : Value} {n : Nat} {t : TypeId} {es : Nat} {con : Con} (hb : bget m i = .own v n t es con)
    (h : ∀ (a : Option Addr) (cp : Nat) (l : List (Nat × Obj)), v = .slice a n cp → adr a n cp → n ≤ cp → n ≤ maxLen → (cc con).length = n * es → LiesH (Hl l) a (cc con) → Vc P c env (bpush (bset m i .gone) (.heap l)) K) : Vc P c env m K := by
  intro w0 B ac w hf hd hm
  have hi : i < m.length := bget_lt (by rw [hb]; simp)
  obtain ⟨l, a, cp, h1, h2, h3, h4, h5, h6, h7⟩ := Go.Proofs.Ytlogpdjcgbifhaa.freeze hm.heap0 (i := i) (k := m.length) (by rw [bget_appL _ hi]; exact hb) (bget_appR _ _)
  refine h a cp l h1 h2 h3 h4 h5 h6 w0 B ac w hf hd ?_
  rw [bset_appL _ _ hi, List.nil_append] at h7
  rw [bpush_eq]
  have := bset_appR (bset m i .gone) (.heap []) (.heap l)
  rw [bset_length] at this
  rwa [this] at h7
/-- A part that holds nothing. -/
theorem Vc.pushnil {P : Program} {c : Code} {env : List SV} {m : List Blk} {K : Kont} (t : TypeId) (es : Nat) (h : Vc P c env (bpush m (.own (.slice none 0 0) 0 t es (.rows es []))) K) : Vc P c env m K := by
  intro w0 B a w hf hd hm
  refine h w0 B a w hf hd ?_
  rw [bpush_eq]
  refine hm.push (grown_refl w) ⟨⟨by simp [cc], .inl ⟨rfl, rfl⟩⟩, fun b hb => by simp [Value.ownBlock] at hb⟩ (fun b hb => ?_)
  simp [Blk.nums, Value.ownBlock] at hb
end Go.Proofs.Ytlogpdjcgbifhaa
