/-
  RLP: an item read (package rlp: item, items), walked: a recursion over bytes. No condition.
-/
import Derived.Test.YtlogpdjcgbifhaaPC
namespace Go.Proofs.Ytlogpdjcgbifhaa
set_option linter.unusedSimpArgs false
set_option linter.unusedVariables false
set_option maxHeartbeats 4000000
set_option linter.defProp false
open Go.RowKit
/-- A fault. -/
def fltV (p : Int) : SV := .ifc 67 (.agg [.int .i64 p, .ifc 36 (.int .u16 40)])
/-- What is left to chance where it fails: where the fault is, what is left of the reader, what was made. -/
structure ErX where
  p : Int
  C : Con
  l : List (Nat × Obj)
/-- What is left to chance of an item that was made. -/
structure ItX where
  lb : Bool
  ba : Option Addr
  bn : Nat
  bc : Nat
  bs : List Int
  ka : Option Addr
  kn : Nat
  kc : Nat
  rs : List (List SV)
  a2 : Option Addr
  c2 : Nat
  l : List (Nat × Obj)
/-- And of items. -/
structure KsX where
  ka : Option Addr
  kn : Nat
  kc : Nat
  rs : List (List SV)
  C : Con
  l : List (Nat × Obj)
/-- Rows are items. -/
def KsR (H : Nat → Obj → Prop) (ka : Option Addr) (kn kc : Nat) (rs : List (List SV)) (ks : List Itm) : Prop :=
  rs.length = kn ∧ kn ≤ kc ∧ adr ka kn kc ∧ (∀ r ∈ rs, r.length = 3) ∧ LiesH H ka (cc (.rows 3 rs)) ∧ rs.length = ks.length ∧ (∀ (i : Nat) (r : List SV) (k : Itm), rs[i]? = some r → ks[i]? = some k → ItR H r k) ∧ kn ≤ maxLen
/-- What a reader's call asks. -/
def rdP (b b' : Nat) (t : TypeId) (base i sz j : Nat) (a : Option Addr) (n c : Nat) (xs : List Int) (at_ dp : Int) (H : Nat → Obj → Prop) : Prop :=
  b = b' ∧ t = 64 ∧ base = 0 ∧ i = 0 ∧ sz = 0 ∧ j = 0 ∧ rdOk n c xs at_ ∧ allB xs ∧ adr a n c ∧ (1 ≤ dp ∧ dp ≤ 65) ∧ xs.length ≤ 1000000 ∧ LiesH H a (cc (.ints .u8 xs))
noncomputable def g_itemD (d : Nat) (args : List SV) (m : List Blk) : CR :=
  match args with
  | [.ptr nm b base i sz j] => match bget m nm, bget m 2 with
    | .blk b' t (.cells [.gh a n c (.ints .u8 xs), .int .i64 at_, .int .i64 dp]), .heap L => match dec (65 - dp).toNat xs with
      | none => .rel (rdP b b' t base i sz j a n c xs at_ dp (HM (bset m nm .gone)) ∧ 2 * xs.length < d) ErX (fun _ => True) (fun x => .tup [.agg [.bool false, .nilsl, .nilsl], fltV x.p])
          (fun x => bset (bset m nm (.blk b t x.C)) 2 (.heap (L ++ x.l)))
      | some (tt, zs) => .rel (rdP b b' t base i sz j a n c xs at_ dp (HM (bset m nm .gone)) ∧ 2 * xs.length < d) ItX
          (fun x => ItR (Hl x.l) [.bool x.lb, .gh x.ba x.bn x.bc (.ints .u8 x.bs), .gh x.ka x.kn x.kc (.rows 3 x.rs)] tt ∧ Pc a xs x.a2 zs.length x.c2 zs)
          (fun x => .tup [.agg [.bool x.lb, .gh x.ba x.bn x.bc (.ints .u8 x.bs), .gh x.ka x.kn x.kc (.rows 3 x.rs)], .raw .nilIface])
          (fun x => bset (bset m nm (.blk b t (.cells [.gh x.a2 zs.length x.c2 (.ints .u8 zs), .int .i64 (at_ + (xs.length - zs.length : Nat)), .int .i64 dp]))) 2 (.heap (L ++ x.l)))
    | _, _ => .none
  | _ => .none
noncomputable def g_itemsD (d : Nat) (args : List SV) (m : List Blk) : CR :=
  match args with
  | [.ptr nm b base i sz j] => match bget m nm, bget m 2 with
    | .blk b' t (.cells [.gh a n c (.ints .u8 xs), .int .i64 at_, .int .i64 dp]), .heap L => match decs (65 - dp).toNat xs with
      | none => .rel (rdP b b' t base i sz j a n c xs at_ dp (HM (bset m nm .gone)) ∧ 2 * xs.length + 1 < d) ErX (fun _ => True) (fun x => .tup [.nilsl, fltV x.p])
          (fun x => bset (bset m nm (.blk b t x.C)) 2 (.heap (L ++ x.l)))
      | some ks => .rel (rdP b b' t base i sz j a n c xs at_ dp (HM (bset m nm .gone)) ∧ 2 * xs.length + 1 < d) KsX
          (fun x => KsR (Hl x.l) x.ka x.kn x.kc x.rs ks)
          (fun x => .tup [.gh x.ka x.kn x.kc (.rows 3 x.rs), .raw .nilIface])
          (fun x => bset (bset m nm (.blk b t x.C)) 2 (.heap (L ++ x.l)))
    | _, _ => .none
  | _ => .none
noncomputable def GPE (d : Nat) : Ctr := fun f args m => match f with
  | 32 => g_itemD d args m
  | 39 => g_itemsD d args m
  | 40 => g_take args m
  | 24 => g_apNum args m
  | 31 => g_apHead args m
  | 36 => g_bare args m
  | 22 => g_Rev args m
  | 41 => g_rlen args m
  | 38 => g_split args m
  | _ => .none
theorem GPE_mk {d : Nat} (h_itemD : ∀ w0 B args m, CROk Try.prog w0 B 32 args m (g_itemD d args m)) (h_itemsD : ∀ w0 B args m, CROk Try.prog w0 B 39 args m (g_itemsD d args m)) : GOk Try.prog (GPE d) := by
  intro w0 B f args m; unfold GPE; split
  · exact h_itemD _ _ _ _
  · exact h_itemsD _ _ _ _
  · exact g_take_ok _ _ _ _
  · exact g_apNum_ok _ _ _ _
  · exact g_apHead_ok _ _ _ _
  · exact g_bare_ok _ _ _ _
  · exact g_Rev_ok _ _ _ _
  · exact g_rlen_ok _ _ _ _
  · exact g_split_ok _ _ _ _
  · exact trivial
theorem GPE_itemD {d : Nat} : GPE d 32 = g_itemD d := by funext args m; rfl
theorem GPE_itemsD {d : Nat} : GPE d 39 = g_itemsD d := by funext args m; rfl
theorem GPE_take {d : Nat} : GPE d 40 = g_take := by funext args m; rfl
theorem GPE_apNum {d : Nat} : GPE d 24 = g_apNum := by funext args m; rfl
theorem GPE_apHead {d : Nat} : GPE d 31 = g_apHead := by funext args m; rfl
theorem GPE_bare {d : Nat} : GPE d 36 = g_bare := by funext args m; rfl
theorem GPE_Rev {d : Nat} : GPE d 22 = g_Rev := by funext args m; rfl
theorem GPE_rlen {d : Nat} : GPE d 41 = g_rlen := by funext args m; rfl
theorem GPE_split {d : Nat} : GPE d 38 = g_split := by funext args m; rfl
def GPE_set := And.intro (And.intro (And.intro (And.intro (@GPE_itemD) (@g_itemD.eq_def)) (And.intro (@GPE_itemsD) (@g_itemsD.eq_def))) (And.intro (And.intro (@GPE_take) (@g_take.eq_def)) (And.intro (@GPE_apNum) (And.intro (@g_apNum.eq_def) (@GPE_apHead))))) (And.intro (And.intro (And.intro (@g_apHead.eq_def) (@GPE_bare)) (And.intro (@g_bare.eq_def) (@GPE_Rev))) (And.intro (And.intro (@g_Rev.eq_def) (@GPE_rlen)) (And.intro (@g_rlen.eq_def) (And.intro (@GPE_split) (@g_split.eq_def)))))

set_option maxRecDepth 20000 in
theorem itemN_vc (d : Nat) (GPE_ok : GOk Try.prog (GPE d)) (a : Option Addr) (n c : Nat) (xs : List Int) (at_ dp : Int) (b : Nat) (hr : rdOk n c xs at_) (hx : allB xs) (ha : adr a n c) (hdp : 1 ≤ dp ∧ dp ≤ 65) (hh : hdd xs = none) (w : World) (hL : LiesH (HBut w b) a (cc (.ints .u8 xs))) (hm : MemOk w [b] ([.blk b 64 (rdC a n c xs at_ dp), oldBut w b] ++ [.heap []]) w) :
    Calls Try.prog 32 (cvs [.ptr 0 b 0 0 0 0]).toArray w (fun en w' => ∃ u, en = .returned u ∧ ∃ v' m', u = cv v' ∧ MemOk w [b] m' w' ∧ ∃ p C l, v' = .tup [.agg [.bool false, .nilsl, .nilsl], fltV p] ∧ bget m' 0 = .blk b 64 C ∧ bget m' 2 = .heap l) := by
  unfold rdC at hm
  have hLx : ∀ m, oldBut w b ∈ m → LiesH (HM m) a (cc (.ints .u8 xs)) := fun m hin => hL.mono (HBut.hm hin)
  refine Vc.calls T0_ok Try.func32 rfl rfl (args := [.ptr 0 b 0 0 0 0]) (k := 65) rfl hm ?_; change Vc _ _ (c8 (.ptr 0 b 0 0 0 0) .undef .undef .undef .undef .undef .undef .undef (c8 .undef .undef .undef .undef .undef .undef .undef .undef (c8 .undef .undef .undef .undef .undef .undef .undef .undef (c8 .undef .undef .undef .undef .undef .undef .undef .undef (c8 .undef .undef .undef .undef .undef .undef .undef .undef (c8 .undef .undef .undef .undef .undef .undef .undef .undef (c8 .undef .undef .undef .undef .undef .undef .undef .undef (c8 .undef .undef .undef .undef .undef .undef .undef .undef ([.undef, .undef]))))))))) _ _
  (try simp only [List.cons_append, List.nil_append])
  ((repeat (first | (with_reducible refine Vc.seq fun N hN => ?_) | (with_reducible refine Vc.block ?_) | ((first | with_reducible refine Vc.skip ?_ | with_reducible refine Vc.exit ?_); dsimp only [thenK, blockK, Nat.beq]; (first | (refine hN _ _ ?_; clear hN N) | skip)) | (with_reducible intro _) | ((with_reducible refine And.intro ?_ ?_); (focus (first | ((repeat' with_reducible apply And.intro) <;> first | exact sideQ | (exact hLx _ (List.mem_cons_of_mem _ List.mem_cons_self))) | exact sd0))) | ((first | ((with_reducible refine askT_of ?_ (fun hb => ?_)); (focus (first | ((repeat' with_reducible apply And.intro) <;> first | exact sideQ | (exact hLx _ (List.mem_cons_of_mem _ List.mem_cons_self))) | exact sd0)); (try simp only [hb])) | ((with_reducible refine Vc.fin ?_); dsimp only [thenK, blockK, retK, resS, resOne, resAll]) | ((with_reducible refine Vc.hold ?_); first | refine Vc.regiont T0_ok GPE_ok ?_ | refine Vc.drawt (id := 7) T0_ok GPE_ok (by kernel_rfl) [0, 1, 2, 3, 4, 5, 6, 7, 8, 9, 10, 11, 12, 13] 15 [⟨14, 8, 64, _⟩] ⟨⟨⟨_, _, rfl⟩, zc_64⟩, trivial⟩ (by kernel_rfl) ?_)); (try simp only [v8X, v8A, v8B, v8C, Nat.beq, Nat.ble, Int.reduceToNat, Int.reduceLE, Int.reduceLT, Nat.reduceLT, Nat.reduceLeDiff, Nat.reduceAdd, Nat.reduceMul, Nat.reduceSub, Int.reduceAdd, Int.reduceSub, Int.reduceMul, eq_self, decide_true, beq_self_eq_true, List.length_cons, List.length_nil, Nat.min_eq_left, IntKind.bits, tabs, GPE_set, hh]); (try simp (disch := omega) only [v8W])) | ((with_reducible refine hN _ _ ?_); clear hN N; (try simp (disch := omega) only [v8W])))); (try ((with_reducible refine Fin.of ?_); (try with_reducible exact True.intro))))
  (refine Vc.cond T0_ok (t := true) (by rfl) (fun _ => ?_) (fun h => Bool.noConfusion h))
  ((repeat (first | (with_reducible refine Vc.seq fun N hN => ?_) | (with_reducible refine Vc.block ?_) | ((first | with_reducible refine Vc.skip ?_ | with_reducible refine Vc.exit ?_); dsimp only [thenK, blockK, Nat.beq]; (first | (refine hN _ _ ?_; clear hN N) | skip)) | (with_reducible intro _) | ((with_reducible refine And.intro ?_ ?_); (focus (first | exact sideQ | exact sd0))) | ((first | ((with_reducible refine askT_of ?_ (fun hb => ?_)); (focus (first | exact sideQ | exact sd0)); (try simp only [hb])) | ((with_reducible refine Vc.fin ?_); dsimp only [thenK, blockK, retK, resS, resOne, resAll]) | ((with_reducible refine Vc.hold ?_); first | refine Vc.regiont T0_ok GPE_ok ?_ | refine Vc.drawt (id := 7) T0_ok GPE_ok (by kernel_rfl) [0, 1, 2, 3, 4, 5, 6, 7, 8, 9, 10, 11, 12, 13] 15 [⟨14, 8, 64, _⟩] ⟨⟨⟨_, _, rfl⟩, zc_64⟩, trivial⟩ (by kernel_rfl) ?_)); (try simp only [v8X, v8A, v8B, v8C, Nat.beq, Nat.ble, Int.reduceToNat, Int.reduceLE, Int.reduceLT, Nat.reduceLT, Nat.reduceLeDiff, Nat.reduceAdd, Nat.reduceMul, Nat.reduceSub, Int.reduceAdd, Int.reduceSub, Int.reduceMul, eq_self, decide_true, beq_self_eq_true, List.length_cons, List.length_nil, Nat.min_eq_left, IntKind.bits, tabs, GPE_set]); (try simp (disch := omega) only [v8W])) | ((with_reducible refine hN _ _ ?_); clear hN N; (try simp (disch := omega) only [v8W])))); (try ((with_reducible refine Fin.of ?_); (try with_reducible exact True.intro))))
  exact ⟨by simp, _, _, _, rfl, rfl, rfl⟩
set_option maxRecDepth 20000 in
theorem itemS_vc (d : Nat) (GPE_ok : GOk Try.prog (GPE d)) (a : Option Addr) (n c : Nat) (xs : List Int) (at_ dp : Int) (b : Nat) (hr : rdOk n c xs at_) (hx : allB xs) (ha : adr a n c) (hdp : 1 ≤ dp ∧ dp ≤ 65) (l0 : Bool) (ys zs : List Int) (hh : hdd xs = some (l0, ys, zs)) (w : World) (hL : LiesH (HBut w b) a (cc (.ints .u8 xs))) (hm : MemOk w [b] ([.blk b 64 (rdC a n c xs at_ dp), oldBut w b] ++ [.heap []]) w)
    (hd5 : dp = 65) :
    Calls Try.prog 32 (cvs [.ptr 0 b 0 0 0 0]).toArray w (fun en w' => ∃ u, en = .returned u ∧ ∃ v' m', u = cv v' ∧ MemOk w [b] m' w' ∧ ∃ p C l, v' = .tup [.agg [.bool false, .nilsl, .nilsl], fltV p] ∧ bget m' 0 = .blk b 64 C ∧ bget m' 2 = .heap l) := by
  unfold rdC at hm
  have d1 : decide (64 < dp) = true := decide_eq_true (by omega)
  have hLx : ∀ m, oldBut w b ∈ m → LiesH (HM m) a (cc (.ints .u8 xs)) := fun m hin => hL.mono (HBut.hm hin)
  refine Vc.calls T0_ok Try.func32 rfl rfl (args := [.ptr 0 b 0 0 0 0]) (k := 65) rfl hm ?_; change Vc _ _ (c8 (.ptr 0 b 0 0 0 0) .undef .undef .undef .undef .undef .undef .undef (c8 .undef .undef .undef .undef .undef .undef .undef .undef (c8 .undef .undef .undef .undef .undef .undef .undef .undef (c8 .undef .undef .undef .undef .undef .undef .undef .undef (c8 .undef .undef .undef .undef .undef .undef .undef .undef (c8 .undef .undef .undef .undef .undef .undef .undef .undef (c8 .undef .undef .undef .undef .undef .undef .undef .undef (c8 .undef .undef .undef .undef .undef .undef .undef .undef ([.undef, .undef]))))))))) _ _
  (try simp only [List.cons_append, List.nil_append])
  ((repeat (first | (with_reducible refine Vc.seq fun N hN => ?_) | (with_reducible refine Vc.block ?_) | ((first | with_reducible refine Vc.skip ?_ | with_reducible refine Vc.exit ?_); dsimp only [thenK, blockK, Nat.beq]; (first | (refine hN _ _ ?_; clear hN N) | skip)) | (with_reducible intro _) | ((with_reducible refine And.intro ?_ ?_); (focus (first | ((repeat' with_reducible apply And.intro) <;> first | exact sideQ | (exact hLx _ (List.mem_cons_of_mem _ List.mem_cons_self))) | exact sd0))) | ((first | ((with_reducible refine askT_of ?_ (fun hb => ?_)); (focus (first | ((repeat' with_reducible apply And.intro) <;> first | exact sideQ | (exact hLx _ (List.mem_cons_of_mem _ List.mem_cons_self))) | exact sd0)); (try simp only [hb])) | ((with_reducible refine Vc.fin ?_); dsimp only [thenK, blockK, retK, resS, resOne, resAll]) | ((with_reducible refine Vc.hold ?_); first | refine Vc.regiont T0_ok GPE_ok ?_ | refine Vc.drawt (id := 7) T0_ok GPE_ok (by kernel_rfl) [0, 1, 2, 3, 4, 5, 6, 7, 8, 9, 10, 11, 12, 13] 15 [⟨14, 8, 64, _⟩] ⟨⟨⟨_, _, rfl⟩, zc_64⟩, trivial⟩ (by kernel_rfl) ?_)); (try simp only [v8X, v8A, v8B, v8C, Nat.beq, Nat.ble, Int.reduceToNat, Int.reduceLE, Int.reduceLT, Nat.reduceLT, Nat.reduceLeDiff, Nat.reduceAdd, Nat.reduceMul, Nat.reduceSub, Int.reduceAdd, Int.reduceSub, Int.reduceMul, eq_self, decide_true, beq_self_eq_true, List.length_cons, List.length_nil, Nat.min_eq_left, IntKind.bits, tabs, GPE_set, hh, d1]); (try simp (disch := omega) only [v8W])) | ((with_reducible refine hN _ _ ?_); clear hN N; (try simp (disch := omega) only [v8W])))); (try ((with_reducible refine Fin.of ?_); (try with_reducible exact True.intro))))
  (refine Vc.cond T0_ok (t := true) (by rfl) (fun _ => ?_) (fun h => Bool.noConfusion h))
  ((repeat (first | (with_reducible refine Vc.seq fun N hN => ?_) | (with_reducible refine Vc.block ?_) | ((first | with_reducible refine Vc.skip ?_ | with_reducible refine Vc.exit ?_); dsimp only [thenK, blockK, Nat.beq]; (first | (refine hN _ _ ?_; clear hN N) | skip)) | (with_reducible intro _) | ((with_reducible refine And.intro ?_ ?_); (focus (first | exact sideQ | exact sd0))) | ((first | ((with_reducible refine askT_of ?_ (fun hb => ?_)); (focus (first | exact sideQ | exact sd0)); (try simp only [hb])) | ((with_reducible refine Vc.fin ?_); dsimp only [thenK, blockK, retK, resS, resOne, resAll]) | ((with_reducible refine Vc.hold ?_); first | refine Vc.regiont T0_ok GPE_ok ?_ | refine Vc.drawt (id := 7) T0_ok GPE_ok (by kernel_rfl) [0, 1, 2, 3, 4, 5, 6, 7, 8, 9, 10, 11, 12, 13] 15 [⟨14, 8, 64, _⟩] ⟨⟨⟨_, _, rfl⟩, zc_64⟩, trivial⟩ (by kernel_rfl) ?_)); (try simp only [v8X, v8A, v8B, v8C, Nat.beq, Nat.ble, Int.reduceToNat, Int.reduceLE, Int.reduceLT, Nat.reduceLT, Nat.reduceLeDiff, Nat.reduceAdd, Nat.reduceMul, Nat.reduceSub, Int.reduceAdd, Int.reduceSub, Int.reduceMul, eq_self, decide_true, beq_self_eq_true, List.length_cons, List.length_nil, Nat.min_eq_left, IntKind.bits, tabs, GPE_set]); (try simp (disch := omega) only [v8W])) | ((with_reducible refine hN _ _ ?_); clear hN N; (try simp (disch := omega) only [v8W])))); (try ((with_reducible refine Fin.of ?_); (try with_reducible exact True.intro))))
  exact ⟨by simp, _, _, _, rfl, rfl, rfl⟩
set_option maxRecDepth 20000 in
theorem itemT_vc (d : Nat) (GPE_ok : GOk Try.prog (GPE d)) (a : Option Addr) (n c : Nat) (xs : List Int) (at_ dp : Int) (b : Nat) (hr : rdOk n c xs at_) (hx : allB xs) (ha : adr a n c) (hdp : 1 ≤ dp ∧ dp ≤ 64) (hxs : xs.length ≤ 1000000) (ys zs : List Int) (hh : hdd xs = some (false, ys, zs)) (w : World) (hL : LiesH (HBut w b) a (cc (.ints .u8 xs))) (hm : MemOk w [b] ([.blk b 64 (rdC a n c xs at_ dp), oldBut w b] ++ [.heap []]) w) :
    Calls Try.prog 32 (cvs [.ptr 0 b 0 0 0 0]).toArray w (fun en w' => ∃ u, en = .returned u ∧ ∃ v' m', u = cv v' ∧ MemOk w [b] m' w' ∧ ∃ k s a2 c2, v' = .tup [.agg [.bool false, .own k s ys.length, .nilsl], .raw .nilIface] ∧ Pc a xs a2 zs.length c2 zs ∧ allB ys ∧ bget m' k = .own s ys.length 5 1 (.ints .u8 ys) ∧ bget m' 0 = .blk b 64 (.cells [.gh a2 zs.length c2 (.ints .u8 zs), .int .i64 (at_ + (xs.length - zs.length : Nat)), .int .i64 dp]) ∧ bget m' 2 = .heap []) := by
  unfold rdC at hm
  have d1 : decide (64 < dp) = false := decide_eq_false (by omega)
  have hLx : ∀ m, oldBut w b ∈ m → LiesH (HM m) a (cc (.ints .u8 xs)) := fun m hin => hL.mono (HBut.hm hin)
  refine Vc.calls T0_ok Try.func32 rfl rfl (args := [.ptr 0 b 0 0 0 0]) (k := 65) rfl hm ?_; change Vc _ _ (c8 (.ptr 0 b 0 0 0 0) .undef .undef .undef .undef .undef .undef .undef (c8 .undef .undef .undef .undef .undef .undef .undef .undef (c8 .undef .undef .undef .undef .undef .undef .undef .undef (c8 .undef .undef .undef .undef .undef .undef .undef .undef (c8 .undef .undef .undef .undef .undef .undef .undef .undef (c8 .undef .undef .undef .undef .undef .undef .undef .undef (c8 .undef .undef .undef .undef .undef .undef .undef .undef (c8 .undef .undef .undef .undef .undef .undef .undef .undef ([.undef, .undef]))))))))) _ _
  (try simp only [List.cons_append, List.nil_append])
  ((repeat (first | (with_reducible refine Vc.seq fun N hN => ?_) | (with_reducible refine Vc.block ?_) | ((first | with_reducible refine Vc.skip ?_ | with_reducible refine Vc.exit ?_); dsimp only [thenK, blockK, Nat.beq]; (first | (refine hN _ _ ?_; clear hN N) | skip)) | (with_reducible intro _) | ((with_reducible refine And.intro ?_ ?_); (focus (first | ((repeat' with_reducible apply And.intro) <;> first | exact sideQ | (exact hLx _ (List.mem_cons_of_mem _ List.mem_cons_self))) | exact sd0))) | ((first | ((with_reducible refine askT_of ?_ (fun hb => ?_)); (focus (first | ((repeat' with_reducible apply And.intro) <;> first | exact sideQ | (exact hLx _ (List.mem_cons_of_mem _ List.mem_cons_self))) | exact sd0)); (try simp only [hb])) | ((with_reducible refine Vc.fin ?_); dsimp only [thenK, blockK, retK, resS, resOne, resAll]) | ((with_reducible refine Vc.hold ?_); first | refine Vc.regiont T0_ok GPE_ok ?_ | refine Vc.drawt (id := 7) T0_ok GPE_ok (by kernel_rfl) [0, 1, 2, 3, 4, 5, 6, 7, 8, 9, 10, 11, 12, 13] 15 [⟨14, 8, 64, _⟩] ⟨⟨⟨_, _, rfl⟩, zc_64⟩, trivial⟩ (by kernel_rfl) ?_)); (try simp only [v8X, v8A, v8B, v8C, Nat.beq, Nat.ble, Int.reduceToNat, Int.reduceLE, Int.reduceLT, Nat.reduceLT, Nat.reduceLeDiff, Nat.reduceAdd, Nat.reduceMul, Nat.reduceSub, Int.reduceAdd, Int.reduceSub, Int.reduceMul, eq_self, decide_true, beq_self_eq_true, List.length_cons, List.length_nil, Nat.min_eq_left, IntKind.bits, tabs, GPE_set, hh, d1]); (try simp (disch := omega) only [v8W])) | ((with_reducible refine hN _ _ ?_); clear hN N; (try simp (disch := omega) only [v8W])))); (try ((with_reducible refine Fin.of ?_); (try with_reducible exact True.intro))))
  rename_i x hq
  obtain ⟨q1, q2, q3, q4, q5, q6⟩ := hq
  have d2 : decide (x.f < 192) = true := decide_eq_true (by have := of_decide_eq_false q1.symm; omega)
  have utt : ys.take ys.length = ys := List.take_length
  have hL1 : ∀ m, oldBut w b ∈ m → LiesH (HM m) x.a1 (cc (.ints .u8 ys)) := fun m hin => q2.lies _ (hL.mono (HBut.hm hin))
  have hyc := q2.cap
  have hya := q2.adr
  have hyb := q2.all hx
  have hyn : (ys.length : Int) ≤ 9223372036854775807 := by have := hr.2.2.1; have := hr.1; omega
  (refine Vc.cond T0_ok (t := false) (by rfl) (fun h => Bool.noConfusion h) (fun _ => ?_))
  ((repeat (first | (with_reducible refine Vc.seq fun N hN => ?_) | (with_reducible refine Vc.block ?_) | ((first | with_reducible refine Vc.skip ?_ | with_reducible refine Vc.exit ?_); dsimp only [thenK, blockK, Nat.beq]; (first | (refine hN _ _ ?_; clear hN N) | skip)) | (with_reducible intro _) | ((with_reducible refine And.intro ?_ ?_); (focus (first | exact sideQ | exact sd0))) | ((first | ((with_reducible refine askT_of ?_ (fun hb => ?_)); (focus (first | exact sideQ | exact sd0)); (try simp only [hb])) | ((with_reducible refine Vc.fin ?_); dsimp only [thenK, blockK, retK, resS, resOne, resAll]) | ((with_reducible refine Vc.hold ?_); first | refine Vc.regiont T0_ok GPE_ok ?_ | refine Vc.drawt (id := 7) T0_ok GPE_ok (by kernel_rfl) [0, 1, 2, 3, 4, 5, 6, 7, 8, 9, 10, 11, 12, 13] 15 [⟨14, 8, 64, _⟩] ⟨⟨⟨_, _, rfl⟩, zc_64⟩, trivial⟩ (by kernel_rfl) ?_)); (try simp only [v8X, v8A, v8B, v8C, Nat.beq, Nat.ble, Int.reduceToNat, Int.reduceLE, Int.reduceLT, Nat.reduceLT, Nat.reduceLeDiff, Nat.reduceAdd, Nat.reduceMul, Nat.reduceSub, Int.reduceAdd, Int.reduceSub, Int.reduceMul, eq_self, decide_true, beq_self_eq_true, List.length_cons, List.length_nil, Nat.min_eq_left, IntKind.bits, tabs, GPE_set, d2]); (try simp (disch := omega) only [v8W])) | ((with_reducible refine hN _ _ ?_); clear hN N; (try simp (disch := omega) only [v8W])))); (try ((with_reducible refine Fin.of ?_); (try with_reducible exact True.intro))))
  (refine Vc.cond T0_ok (t := true) (by rfl) (fun _ => ?_) (fun h => Bool.noConfusion h))
  ((repeat (first | (with_reducible refine Vc.seq fun N hN => ?_) | (with_reducible refine Vc.block ?_) | ((first | with_reducible refine Vc.skip ?_ | with_reducible refine Vc.exit ?_); dsimp only [thenK, blockK, Nat.beq]; (first | (refine hN _ _ ?_; clear hN N) | skip)) | (with_reducible intro _) | ((with_reducible refine And.intro ?_ ?_); (focus (first | ((repeat' with_reducible apply And.intro) <;> first | exact sideQ | (exact hLx _ (List.mem_cons_of_mem _ List.mem_cons_self)) | (exact hL1 _ (List.mem_cons_of_mem _ List.mem_cons_self))) | exact sd0))) | ((first | ((with_reducible refine askT_of ?_ (fun hb => ?_)); (focus (first | ((repeat' with_reducible apply And.intro) <;> first | exact sideQ | (exact hLx _ (List.mem_cons_of_mem _ List.mem_cons_self)) | (exact hL1 _ (List.mem_cons_of_mem _ List.mem_cons_self))) | exact sd0)); (try simp only [hb])) | ((with_reducible refine Vc.fin ?_); dsimp only [thenK, blockK, retK, resS, resOne, resAll]) | ((with_reducible refine Vc.hold ?_); first | refine Vc.regiont T0_ok GPE_ok ?_ | refine Vc.drawt (id := 7) T0_ok GPE_ok (by kernel_rfl) [0, 1, 2, 3, 4, 5, 6, 7, 8, 9, 10, 11, 12, 13] 15 [⟨14, 8, 64, _⟩] ⟨⟨⟨_, _, rfl⟩, zc_64⟩, trivial⟩ (by kernel_rfl) ?_)); (try simp only [v8X, v8A, v8B, v8C, Nat.beq, Nat.ble, Int.reduceToNat, Int.reduceLE, Int.reduceLT, Nat.reduceLT, Nat.reduceLeDiff, Nat.reduceAdd, Nat.reduceMul, Nat.reduceSub, Int.reduceAdd, Int.reduceSub, Int.reduceMul, eq_self, decide_true, beq_self_eq_true, List.length_cons, List.length_nil, Nat.min_eq_left, IntKind.bits, tabs, GPE_set, utt, List.drop_zero, tnc, conEs.eq_def, conN.eq_def]); (try simp (disch := omega) only [v8W])) | ((with_reducible refine hN _ _ ?_); clear hN N; (try simp (disch := omega) only [v8W])))); (try ((with_reducible refine Fin.of ?_); (try with_reducible exact True.intro))))
  exact ⟨by simp, _, _, _, _, rfl, q3, hyb, by first | exact ⟨rfl, rfl, rfl⟩ | exact ⟨rfl, rfl, True.intro⟩ | exact ⟨rfl, True.intro⟩⟩
set_option maxRecDepth 20000 in
theorem itemE_vc (d : Nat) (GPE_ok : GOk Try.prog (GPE d)) (a : Option Addr) (n c : Nat) (xs : List Int) (at_ dp : Int) (b : Nat) (hr : rdOk n c xs at_) (hx : allB xs) (ha : adr a n c) (hdp : 1 ≤ dp ∧ dp ≤ 64) (hxs : xs.length ≤ 1000000) (hd : 2 * xs.length ≤ d) (ys zs : List Int) (hh : hdd xs = some (true, ys, zs)) (w : World) (hL : LiesH (HBut w b) a (cc (.ints .u8 xs))) (hm : MemOk w [b] ([.blk b 64 (rdC a n c xs at_ dp), oldBut w b] ++ [.heap []]) w) (hks : decs (65 - (dp + 1)).toNat ys = none) :
    Calls Try.prog 32 (cvs [.ptr 0 b 0 0 0 0]).toArray w (fun en w' => ∃ u, en = .returned u ∧ ∃ v' m', u = cv v' ∧ MemOk w [b] m' w' ∧ ∃ p C l, v' = .tup [.agg [.bool false, .nilsl, .nilsl], fltV p] ∧ bget m' 0 = .blk b 64 C ∧ bget m' 2 = .heap l) := by
  unfold rdC at hm
  have d1 : decide (64 < dp) = false := decide_eq_false (by omega)
  have hLx : ∀ m, oldBut w b ∈ m → LiesH (HM m) a (cc (.ints .u8 xs)) := fun m hin => hL.mono (HBut.hm hin)
  refine Vc.calls T0_ok Try.func32 rfl rfl (args := [.ptr 0 b 0 0 0 0]) (k := 65) rfl hm ?_; change Vc _ _ (c8 (.ptr 0 b 0 0 0 0) .undef .undef .undef .undef .undef .undef .undef (c8 .undef .undef .undef .undef .undef .undef .undef .undef (c8 .undef .undef .undef .undef .undef .undef .undef .undef (c8 .undef .undef .undef .undef .undef .undef .undef .undef (c8 .undef .undef .undef .undef .undef .undef .undef .undef (c8 .undef .undef .undef .undef .undef .undef .undef .undef (c8 .undef .undef .undef .undef .undef .undef .undef .undef (c8 .undef .undef .undef .undef .undef .undef .undef .undef ([.undef, .undef]))))))))) _ _
  (try simp only [List.cons_append, List.nil_append])
  ((repeat (first | (with_reducible refine Vc.seq fun N hN => ?_) | (with_reducible refine Vc.block ?_) | ((first | with_reducible refine Vc.skip ?_ | with_reducible refine Vc.exit ?_); dsimp only [thenK, blockK, Nat.beq]; (first | (refine hN _ _ ?_; clear hN N) | skip)) | (with_reducible intro _) | ((with_reducible refine And.intro ?_ ?_); (focus (first | ((repeat' with_reducible apply And.intro) <;> first | exact sideQ | (exact hLx _ (List.mem_cons_of_mem _ List.mem_cons_self))) | exact sd0))) | ((first | ((with_reducible refine askT_of ?_ (fun hb => ?_)); (focus (first | ((repeat' with_reducible apply And.intro) <;> first | exact sideQ | (exact hLx _ (List.mem_cons_of_mem _ List.mem_cons_self))) | exact sd0)); (try simp only [hb])) | ((with_reducible refine Vc.fin ?_); dsimp only [thenK, blockK, retK, resS, resOne, resAll]) | ((with_reducible refine Vc.hold ?_); first | refine Vc.regiont T0_ok GPE_ok ?_ | refine Vc.drawt (id := 7) T0_ok GPE_ok (by kernel_rfl) [0, 1, 2, 3, 4, 5, 6, 7, 8, 9, 10, 11, 12, 13] 15 [⟨14, 8, 64, _⟩] ⟨⟨⟨_, _, rfl⟩, zc_64⟩, trivial⟩ (by kernel_rfl) ?_)); (try simp only [v8X, v8A, v8B, v8C, Nat.beq, Nat.ble, Int.reduceToNat, Int.reduceLE, Int.reduceLT, Nat.reduceLT, Nat.reduceLeDiff, Nat.reduceAdd, Nat.reduceMul, Nat.reduceSub, Int.reduceAdd, Int.reduceSub, Int.reduceMul, eq_self, decide_true, beq_self_eq_true, List.length_cons, List.length_nil, Nat.min_eq_left, IntKind.bits, tabs, GPE_set, hh, d1]); (try simp (disch := omega) only [v8W])) | ((with_reducible refine hN _ _ ?_); clear hN N; (try simp (disch := omega) only [v8W])))); (try ((with_reducible refine Fin.of ?_); (try with_reducible exact True.intro))))
  rename_i x hq
  obtain ⟨q1, q2, q3, q4, q5, q6⟩ := hq
  have d2 : decide (x.f < 192) = false := decide_eq_false (by have := of_decide_eq_true q1.symm; omega)
  have hL1 : ∀ m, oldBut w b ∈ m → LiesH (HM m) x.a1 (cc (.ints .u8 ys)) := fun m hin => q2.lies _ (hL.mono (HBut.hm hin))
  have hyc := q2.cap
  have hya := q2.adr
  have hyb := q2.all hx
  obtain ⟨r1, r2, r3, r4, r5⟩ := hr
  have hrk : rdOk ys.length x.c1 ys (at_ + ((xs.length - zs.length : Nat) : Int) - (ys.length : Nat)) := ⟨rfl, hyc, by omega, by omega, by omega⟩
  have hyl : ys.length ≤ 1000000 := by omega
  have hmeas : 2 * ys.length + 1 < d := by have := (hdd_len hh).2.2 rfl; omega
  have hdp2 : 1 ≤ dp + 1 ∧ dp + 1 ≤ 65 := by omega
  have hk1 : inK .i64 (at_ + ((xs.length - zs.length : Nat) : Int) - (ys.length : Nat)) := by simp only [inK]; omega
  have hk2 : inK .i64 (dp + 1) := by simp only [inK]; omega
  (refine Vc.cond T0_ok (t := false) (by rfl) (fun h => Bool.noConfusion h) (fun _ => ?_))
  ((repeat (first | (with_reducible refine Vc.seq fun N hN => ?_) | (with_reducible refine Vc.block ?_) | ((first | with_reducible refine Vc.skip ?_ | with_reducible refine Vc.exit ?_); dsimp only [thenK, blockK, Nat.beq]; (first | (refine hN _ _ ?_; clear hN N) | skip)) | (with_reducible intro _) | ((with_reducible refine And.intro ?_ ?_); (focus (first | exact sideQ | exact sd0))) | ((first | ((with_reducible refine askT_of ?_ (fun hb => ?_)); (focus (first | exact sideQ | exact sd0)); (try simp only [hb])) | ((with_reducible refine Vc.fin ?_); dsimp only [thenK, blockK, retK, resS, resOne, resAll]) | ((with_reducible refine Vc.hold ?_); first | refine Vc.regiont T0_ok GPE_ok ?_ | refine Vc.drawt (id := 7) T0_ok GPE_ok (by kernel_rfl) [0, 1, 2, 3, 4, 5, 6, 7, 8, 9, 10, 11, 12, 13] 15 [⟨14, 8, 64, _⟩] ⟨⟨⟨_, _, rfl⟩, zc_64⟩, trivial⟩ (by kernel_rfl) ?_)); (try simp only [v8X, v8A, v8B, v8C, Nat.beq, Nat.ble, Int.reduceToNat, Int.reduceLE, Int.reduceLT, Nat.reduceLT, Nat.reduceLeDiff, Nat.reduceAdd, Nat.reduceMul, Nat.reduceSub, Int.reduceAdd, Int.reduceSub, Int.reduceMul, eq_self, decide_true, beq_self_eq_true, List.length_cons, List.length_nil, Nat.min_eq_left, IntKind.bits, tabs, GPE_set, d2]); (try simp (disch := omega) only [v8W])) | ((with_reducible refine hN _ _ ?_); clear hN N; (try simp (disch := omega) only [v8W])))); (try ((with_reducible refine Fin.of ?_); (try with_reducible exact True.intro))))
  (refine Vc.cond T0_ok (t := false) (by rfl) (fun h => Bool.noConfusion h) (fun _ => ?_))
  have hP : ∀ m b', oldBut w b ∈ m → rdP b' b' 64 0 0 0 0 x.a1 ys.length x.c1 ys (at_ + ((xs.length - zs.length : Nat) : Int) - (ys.length : Nat)) (dp + 1) (HM m) := fun m b' hin => ⟨rfl, rfl, rfl, rfl, rfl, rfl, hrk, hyb, hya, hdp2, hyl, hL1 _ hin⟩
  ((repeat (first | (with_reducible refine Vc.seq fun N hN => ?_) | (with_reducible refine Vc.block ?_) | ((first | with_reducible refine Vc.skip ?_ | with_reducible refine Vc.exit ?_); dsimp only [thenK, blockK, Nat.beq]; (first | (refine hN _ _ ?_; clear hN N) | skip)) | (with_reducible intro _) | ((with_reducible refine And.intro ?_ ?_); (focus (first | ((repeat' with_reducible apply And.intro) <;> first | exact sideQ | (exact hL1 _ (List.mem_cons_of_mem _ List.mem_cons_self)) | (exact hP _ _ (List.mem_cons_of_mem _ List.mem_cons_self))) | exact sd0))) | ((first | ((with_reducible refine askT_of ?_ (fun hb => ?_)); (focus (first | ((repeat' with_reducible apply And.intro) <;> first | exact sideQ | (exact hL1 _ (List.mem_cons_of_mem _ List.mem_cons_self)) | (exact hP _ _ (List.mem_cons_of_mem _ List.mem_cons_self))) | exact sd0)); (try simp only [hb])) | ((with_reducible refine Vc.fin ?_); dsimp only [thenK, blockK, retK, resS, resOne, resAll]) | ((with_reducible refine Vc.hold ?_); first | refine Vc.regiont T0_ok GPE_ok ?_ | refine Vc.drawt (id := 7) T0_ok GPE_ok (by kernel_rfl) [0, 1, 2, 3, 4, 5, 6, 7, 8, 9, 10, 11, 12, 13] 15 [⟨14, 8, 64, _⟩] ⟨⟨⟨_, _, rfl⟩, zc_64⟩, trivial⟩ (by kernel_rfl) ?_)); (try simp only [v8X, v8A, v8B, v8C, Nat.beq, Nat.ble, Int.reduceToNat, Int.reduceLE, Int.reduceLT, Nat.reduceLT, Nat.reduceLeDiff, Nat.reduceAdd, Nat.reduceMul, Nat.reduceSub, Int.reduceAdd, Int.reduceSub, Int.reduceMul, eq_self, decide_true, beq_self_eq_true, List.length_cons, List.length_nil, Nat.min_eq_left, IntKind.bits, tabs, GPE_set, hks, fltV.eq_def]); (try simp (disch := omega) only [v8W])) | ((with_reducible refine hN _ _ ?_); clear hN N; (try simp (disch := omega) only [v8W])))); (try ((with_reducible refine Fin.of ?_); (try with_reducible exact True.intro))))
  (refine Vc.cond T0_ok (t := true) (by rfl) (fun _ => ?_) (fun h => Bool.noConfusion h))
  ((repeat (first | (with_reducible refine Vc.seq fun N hN => ?_) | (with_reducible refine Vc.block ?_) | ((first | with_reducible refine Vc.skip ?_ | with_reducible refine Vc.exit ?_); dsimp only [thenK, blockK, Nat.beq]; (first | (refine hN _ _ ?_; clear hN N) | skip)) | (with_reducible intro _) | ((with_reducible refine And.intro ?_ ?_); (focus (first | exact sideQ | exact sd0))) | ((first | ((with_reducible refine askT_of ?_ (fun hb => ?_)); (focus (first | exact sideQ | exact sd0)); (try simp only [hb])) | ((with_reducible refine Vc.fin ?_); dsimp only [thenK, blockK, retK, resS, resOne, resAll]) | ((with_reducible refine Vc.hold ?_); first | refine Vc.regiont T0_ok GPE_ok ?_ | refine Vc.drawt (id := 7) T0_ok GPE_ok (by kernel_rfl) [0, 1, 2, 3, 4, 5, 6, 7, 8, 9, 10, 11, 12, 13] 15 [⟨14, 8, 64, _⟩] ⟨⟨⟨_, _, rfl⟩, zc_64⟩, trivial⟩ (by kernel_rfl) ?_)); (try simp only [v8X, v8A, v8B, v8C, Nat.beq, Nat.ble, Int.reduceToNat, Int.reduceLE, Int.reduceLT, Nat.reduceLT, Nat.reduceLeDiff, Nat.reduceAdd, Nat.reduceMul, Nat.reduceSub, Int.reduceAdd, Int.reduceSub, Int.reduceMul, eq_self, decide_true, beq_self_eq_true, List.length_cons, List.length_nil, Nat.min_eq_left, IntKind.bits, tabs, GPE_set]); (try simp (disch := omega) only [v8W])) | ((with_reducible refine hN _ _ ?_); clear hN N; (try simp (disch := omega) only [v8W])))); (try ((with_reducible refine Fin.of ?_); (try with_reducible exact True.intro))))
  exact ⟨by simp, _, _, _, rfl, rfl, rfl⟩
set_option maxRecDepth 20000 in
theorem itemL_vc (d : Nat) (GPE_ok : GOk Try.prog (GPE d)) (a : Option Addr) (n c : Nat) (xs : List Int) (at_ dp : Int) (b : Nat) (hr : rdOk n c xs at_) (hx : allB xs) (ha : adr a n c) (hdp : 1 ≤ dp ∧ dp ≤ 64) (hxs : xs.length ≤ 1000000) (hd : 2 * xs.length ≤ d) (ys zs : List Int) (hh : hdd xs = some (true, ys, zs)) (w : World) (hL : LiesH (HBut w b) a (cc (.ints .u8 xs))) (hm : MemOk w [b] ([.blk b 64 (rdC a n c xs at_ dp), oldBut w b] ++ [.heap []]) w) (ks : List Itm) (hks : decs (65 - (dp + 1)).toNat ys = some ks) :
    Calls Try.prog 32 (cvs [.ptr 0 b 0 0 0 0]).toArray w (fun en w' => ∃ u, en = .returned u ∧ ∃ v' m', u = cv v' ∧ MemOk w [b] m' w' ∧ ∃ (x : KsX) (a2 : Option Addr) (c2 : Nat), v' = .tup [.agg [.bool true, .nilsl, .gh x.ka x.kn x.kc (.rows 3 x.rs)], .raw .nilIface] ∧ KsR (Hl x.l) x.ka x.kn x.kc x.rs ks ∧ Pc a xs a2 zs.length c2 zs ∧ bget m' 0 = .blk b 64 (.cells [.gh a2 zs.length c2 (.ints .u8 zs), .int .i64 (at_ + (xs.length - zs.length : Nat)), .int .i64 dp]) ∧ bget m' 2 = .heap x.l) := by
  unfold rdC at hm
  have d1 : decide (64 < dp) = false := decide_eq_false (by omega)
  have hLx : ∀ m, oldBut w b ∈ m → LiesH (HM m) a (cc (.ints .u8 xs)) := fun m hin => hL.mono (HBut.hm hin)
  refine Vc.calls T0_ok Try.func32 rfl rfl (args := [.ptr 0 b 0 0 0 0]) (k := 65) rfl hm ?_; change Vc _ _ (c8 (.ptr 0 b 0 0 0 0) .undef .undef .undef .undef .undef .undef .undef (c8 .undef .undef .undef .undef .undef .undef .undef .undef (c8 .undef .undef .undef .undef .undef .undef .undef .undef (c8 .undef .undef .undef .undef .undef .undef .undef .undef (c8 .undef .undef .undef .undef .undef .undef .undef .undef (c8 .undef .undef .undef .undef .undef .undef .undef .undef (c8 .undef .undef .undef .undef .undef .undef .undef .undef (c8 .undef .undef .undef .undef .undef .undef .undef .undef ([.undef, .undef]))))))))) _ _
  (try simp only [List.cons_append, List.nil_append])
  ((repeat (first | (with_reducible refine Vc.seq fun N hN => ?_) | (with_reducible refine Vc.block ?_) | ((first | with_reducible refine Vc.skip ?_ | with_reducible refine Vc.exit ?_); dsimp only [thenK, blockK, Nat.beq]; (first | (refine hN _ _ ?_; clear hN N) | skip)) | (with_reducible intro _) | ((with_reducible refine And.intro ?_ ?_); (focus (first | ((repeat' with_reducible apply And.intro) <;> first | exact sideQ | (exact hLx _ (List.mem_cons_of_mem _ List.mem_cons_self))) | exact sd0))) | ((first | ((with_reducible refine askT_of ?_ (fun hb => ?_)); (focus (first | ((repeat' with_reducible apply And.intro) <;> first | exact sideQ | (exact hLx _ (List.mem_cons_of_mem _ List.mem_cons_self))) | exact sd0)); (try simp only [hb])) | ((with_reducible refine Vc.fin ?_); dsimp only [thenK, blockK, retK, resS, resOne, resAll]) | ((with_reducible refine Vc.hold ?_); first | refine Vc.regiont T0_ok GPE_ok ?_ | refine Vc.drawt (id := 7) T0_ok GPE_ok (by kernel_rfl) [0, 1, 2, 3, 4, 5, 6, 7, 8, 9, 10, 11, 12, 13] 15 [⟨14, 8, 64, _⟩] ⟨⟨⟨_, _, rfl⟩, zc_64⟩, trivial⟩ (by kernel_rfl) ?_)); (try simp only [v8X, v8A, v8B, v8C, Nat.beq, Nat.ble, Int.reduceToNat, Int.reduceLE, Int.reduceLT, Nat.reduceLT, Nat.reduceLeDiff, Nat.reduceAdd, Nat.reduceMul, Nat.reduceSub, Int.reduceAdd, Int.reduceSub, Int.reduceMul, eq_self, decide_true, beq_self_eq_true, List.length_cons, List.length_nil, Nat.min_eq_left, IntKind.bits, tabs, GPE_set, hh, d1]); (try simp (disch := omega) only [v8W])) | ((with_reducible refine hN _ _ ?_); clear hN N; (try simp (disch := omega) only [v8W])))); (try ((with_reducible refine Fin.of ?_); (try with_reducible exact True.intro))))
  rename_i x hq
  obtain ⟨q1, q2, q3, q4, q5, q6⟩ := hq
  have d2 : decide (x.f < 192) = false := decide_eq_false (by have := of_decide_eq_true q1.symm; omega)
  have hL1 : ∀ m, oldBut w b ∈ m → LiesH (HM m) x.a1 (cc (.ints .u8 ys)) := fun m hin => q2.lies _ (hL.mono (HBut.hm hin))
  have hyc := q2.cap
  have hya := q2.adr
  have hyb := q2.all hx
  obtain ⟨r1, r2, r3, r4, r5⟩ := hr
  have hrk : rdOk ys.length x.c1 ys (at_ + ((xs.length - zs.length : Nat) : Int) - (ys.length : Nat)) := ⟨rfl, hyc, by omega, by omega, by omega⟩
  have hyl : ys.length ≤ 1000000 := by omega
  have hmeas : 2 * ys.length + 1 < d := by have := (hdd_len hh).2.2 rfl; omega
  have hdp2 : 1 ≤ dp + 1 ∧ dp + 1 ≤ 65 := by omega
  have hk1 : inK .i64 (at_ + ((xs.length - zs.length : Nat) : Int) - (ys.length : Nat)) := by simp only [inK]; omega
  have hk2 : inK .i64 (dp + 1) := by simp only [inK]; omega
  (refine Vc.cond T0_ok (t := false) (by rfl) (fun h => Bool.noConfusion h) (fun _ => ?_))
  ((repeat (first | (with_reducible refine Vc.seq fun N hN => ?_) | (with_reducible refine Vc.block ?_) | ((first | with_reducible refine Vc.skip ?_ | with_reducible refine Vc.exit ?_); dsimp only [thenK, blockK, Nat.beq]; (first | (refine hN _ _ ?_; clear hN N) | skip)) | (with_reducible intro _) | ((with_reducible refine And.intro ?_ ?_); (focus (first | exact sideQ | exact sd0))) | ((first | ((with_reducible refine askT_of ?_ (fun hb => ?_)); (focus (first | exact sideQ | exact sd0)); (try simp only [hb])) | ((with_reducible refine Vc.fin ?_); dsimp only [thenK, blockK, retK, resS, resOne, resAll]) | ((with_reducible refine Vc.hold ?_); first | refine Vc.regiont T0_ok GPE_ok ?_ | refine Vc.drawt (id := 7) T0_ok GPE_ok (by kernel_rfl) [0, 1, 2, 3, 4, 5, 6, 7, 8, 9, 10, 11, 12, 13] 15 [⟨14, 8, 64, _⟩] ⟨⟨⟨_, _, rfl⟩, zc_64⟩, trivial⟩ (by kernel_rfl) ?_)); (try simp only [v8X, v8A, v8B, v8C, Nat.beq, Nat.ble, Int.reduceToNat, Int.reduceLE, Int.reduceLT, Nat.reduceLT, Nat.reduceLeDiff, Nat.reduceAdd, Nat.reduceMul, Nat.reduceSub, Int.reduceAdd, Int.reduceSub, Int.reduceMul, eq_self, decide_true, beq_self_eq_true, List.length_cons, List.length_nil, Nat.min_eq_left, IntKind.bits, tabs, GPE_set, d2]); (try simp (disch := omega) only [v8W])) | ((with_reducible refine hN _ _ ?_); clear hN N; (try simp (disch := omega) only [v8W])))); (try ((with_reducible refine Fin.of ?_); (try with_reducible exact True.intro))))
  (refine Vc.cond T0_ok (t := false) (by rfl) (fun h => Bool.noConfusion h) (fun _ => ?_))
  have hP : ∀ m b', oldBut w b ∈ m → rdP b' b' 64 0 0 0 0 x.a1 ys.length x.c1 ys (at_ + ((xs.length - zs.length : Nat) : Int) - (ys.length : Nat)) (dp + 1) (HM m) := fun m b' hin => ⟨rfl, rfl, rfl, rfl, rfl, rfl, hrk, hyb, hya, hdp2, hyl, hL1 _ hin⟩
  ((repeat (first | (with_reducible refine Vc.seq fun N hN => ?_) | (with_reducible refine Vc.block ?_) | ((first | with_reducible refine Vc.skip ?_ | with_reducible refine Vc.exit ?_); dsimp only [thenK, blockK, Nat.beq]; (first | (refine hN _ _ ?_; clear hN N) | skip)) | (with_reducible intro _) | ((with_reducible refine And.intro ?_ ?_); (focus (first | ((repeat' with_reducible apply And.intro) <;> first | exact sideQ | (exact hL1 _ (List.mem_cons_of_mem _ List.mem_cons_self)) | (exact hP _ _ (List.mem_cons_of_mem _ List.mem_cons_self))) | exact sd0))) | ((first | ((with_reducible refine askT_of ?_ (fun hb => ?_)); (focus (first | ((repeat' with_reducible apply And.intro) <;> first | exact sideQ | (exact hL1 _ (List.mem_cons_of_mem _ List.mem_cons_self)) | (exact hP _ _ (List.mem_cons_of_mem _ List.mem_cons_self))) | exact sd0)); (try simp only [hb])) | ((with_reducible refine Vc.fin ?_); dsimp only [thenK, blockK, retK, resS, resOne, resAll]) | ((with_reducible refine Vc.hold ?_); first | refine Vc.regiont T0_ok GPE_ok ?_ | refine Vc.drawt (id := 7) T0_ok GPE_ok (by kernel_rfl) [0, 1, 2, 3, 4, 5, 6, 7, 8, 9, 10, 11, 12, 13] 15 [⟨14, 8, 64, _⟩] ⟨⟨⟨_, _, rfl⟩, zc_64⟩, trivial⟩ (by kernel_rfl) ?_)); (try simp only [v8X, v8A, v8B, v8C, Nat.beq, Nat.ble, Int.reduceToNat, Int.reduceLE, Int.reduceLT, Nat.reduceLT, Nat.reduceLeDiff, Nat.reduceAdd, Nat.reduceMul, Nat.reduceSub, Int.reduceAdd, Int.reduceSub, Int.reduceMul, eq_self, decide_true, beq_self_eq_true, List.length_cons, List.length_nil, Nat.min_eq_left, IntKind.bits, tabs, GPE_set, hks, fltV.eq_def]); (try simp (disch := omega) only [v8W])) | ((with_reducible refine hN _ _ ?_); clear hN N; (try simp (disch := omega) only [v8W])))); (try ((with_reducible refine Fin.of ?_); (try with_reducible exact True.intro))))
  rename_i x2 hq2
  (refine Vc.cond T0_ok (t := false) (by rfl) (fun h => Bool.noConfusion h) (fun _ => ?_))
  ((repeat (first | (with_reducible refine Vc.seq fun N hN => ?_) | (with_reducible refine Vc.block ?_) | ((first | with_reducible refine Vc.skip ?_ | with_reducible refine Vc.exit ?_); dsimp only [thenK, blockK, Nat.beq]; (first | (refine hN _ _ ?_; clear hN N) | skip)) | (with_reducible intro _) | ((with_reducible refine And.intro ?_ ?_); (focus (first | exact sideQ | exact sd0))) | ((first | ((with_reducible refine askT_of ?_ (fun hb => ?_)); (focus (first | exact sideQ | exact sd0)); (try simp only [hb])) | ((with_reducible refine Vc.fin ?_); dsimp only [thenK, blockK, retK, resS, resOne, resAll]) | ((with_reducible refine Vc.hold ?_); first | refine Vc.regiont T0_ok GPE_ok ?_ | refine Vc.drawt (id := 7) T0_ok GPE_ok (by kernel_rfl) [0, 1, 2, 3, 4, 5, 6, 7, 8, 9, 10, 11, 12, 13] 15 [⟨14, 8, 64, _⟩] ⟨⟨⟨_, _, rfl⟩, zc_64⟩, trivial⟩ (by kernel_rfl) ?_)); (try simp only [v8X, v8A, v8B, v8C, Nat.beq, Nat.ble, Int.reduceToNat, Int.reduceLE, Int.reduceLT, Nat.reduceLT, Nat.reduceLeDiff, Nat.reduceAdd, Nat.reduceMul, Nat.reduceSub, Int.reduceAdd, Int.reduceSub, Int.reduceMul, eq_self, decide_true, beq_self_eq_true, List.length_cons, List.length_nil, Nat.min_eq_left, IntKind.bits, tabs, GPE_set]); (try simp (disch := omega) only [v8W])) | ((with_reducible refine hN _ _ ?_); clear hN N; (try simp (disch := omega) only [v8W])))); (try ((with_reducible refine Fin.of ?_); (try with_reducible exact True.intro))))
  exact ⟨by simp, x2, _, _, rfl, hq2, q3, rfl, rfl⟩
end Go.Proofs.Ytlogpdjcgbifhaa
