/-
  RLP: the document's list that bytes begin with (quaestorref04.one), walked. No condition.
-/
import Derived.Test.YtlogpdjcgbifhaaPM
namespace Go.Proofs.Ytlogpdjcgbifhaa
set_option linter.unusedSimpArgs false
set_option linter.unusedVariables false
set_option maxHeartbeats 4000000
open Go.RowKit
theorem hdd_drop {xs : List Int} {l : Bool} {ys zs : List Int} (h : hdd xs = some (l, ys, zs)) : xs.drop (xs.length - zs.length) = zs := by
  cases xs with
  | nil => cases h
  | cons f xs =>
    by_cases hf : f < 128
    · rw [hdd_lo hf] at h
      simp only [Option.some.injEq, Prod.mk.injEq] at h; obtain ⟨rfl, rfl, rfl⟩ := h
      rw [List.length_cons, show xs.length + 1 - xs.length = 1 by omega]; rfl
    · cases ho : lnO xs f with
      | none => rw [hdd_no hf ho] at h; cases h
      | some o =>
        obtain ⟨nb, us⟩ := o
        rw [hdd_hi hf ho] at h
        have h1 := lnO_le ho
        have h2 := lnO_drop ho
        split at h
        · split at h
          · cases h
          · simp only [Option.some.injEq, Prod.mk.injEq] at h; obtain ⟨_, rfl, rfl⟩ := h
            rw [List.length_drop, List.length_cons]
            have h3 : us.drop nb = xs.drop (xs.length - us.length + nb) := by conv => lhs; rw [← h2, List.drop_drop]
            rw [h3, show xs.length + 1 - (us.length - nb) = (xs.length - us.length + nb) + 1 by omega, List.drop_succ_cons]
        · cases h
theorem dec_drop {d : Nat} {xs : List Int} {t : Itm} {zs : List Int} (h : dec d xs = some (t, zs)) : xs.drop (xs.length - zs.length) = zs := by
  cases d with
  | zero => cases h
  | succ d =>
    simp only [dec] at h
    split at h
    · cases h
    · rename_i hh; simp only [Option.some.injEq, Prod.mk.injEq] at h; obtain ⟨_, rfl⟩ := h; exact hdd_drop hh
    · rename_i hh
      split at h
      · cases h
      · simp only [Option.some.injEq, Prod.mk.injEq] at h; obtain ⟨_, rfl⟩ := h; exact hdd_drop hh
set_option maxRecDepth 20000 in
theorem oneL_vc (d : Nat) (GRO_ok : GOk Try.prog (GRO d)) (a : Option Addr) (n c : Nat) (f : Int) (ys : List Int) (dp : Int) (hl : ys.length + 1 = n) (hn : n ≤ c) (hmx : n ≤ 1000000) (ha : adr a n c) (hx : allB (f :: ys)) (hdp : 1 ≤ dp ∧ dp ≤ 64) (w : World) (hL : LiesH (H0 w) a (cc (.ints .u8 (f :: ys)))) (hf : 128 ≤ f) (nb q : Nat) (zs : List Int) (hrl : rlV n f ys = .tup [.int .i64 (nb : Nat), .int .i64 (1 + (q : Nat)), .bool true]) (hq : ys.length - zs.length = q) (hz1 : nb ≤ zs.length) (hz2 : zs.length ≤ ys.length) (hz3 : ys.drop q = zs) (hd : n ≤ d) (h192 : 192 ≤ f) (D : Nat) (hD : (65 - (dp + 1)).toNat = D) :
    Calls Try.prog 28 (cvs [.gh a n c (.ints .u8 (f :: ys)), .int .i64 dp]).toArray w (fun en w' => ∃ u, en = .returned u ∧ ∃ v' m', u = cv v' ∧ MemOk w [] m' w' ∧ ((decs D (zs.take nb) = none ∧ ∃ l, v' = .tup [.agg [.bool false, .nilsl, .nilsl], .int .i64 0] ∧ bget m' 2 = .heap l) ∨
      (∃ x : LpX, LpP (shA a c (1 + q) 1) (zs.take nb) D x ∧ x.zs = [] ∧ v' = .tup [.agg [.bool true, .nilsl, .own 5 x.v x.rs.length], .int .i64 (1 + (q : Nat) + (nb : Nat))] ∧ bget m' 5 = .own x.v x.rs.length 25 3 (.rows 3 x.rs) ∧ bget m' 2 = .heap x.l))) := by
  have hLx : ∀ m, allOld w ∈ m → LiesH (HM m) a (cc (.ints .u8 (f :: ys))) := fun m hin => hL.mono (H0.hm hin)
  have hfb := hx f List.mem_cons_self
  have d0 : decide ((n : Int) = 0) = false := decide_eq_false (by omega)
  have d1 : decide (64 < dp) = false := decide_eq_false (by omega)
  have g0 : (f :: ys).getD 0 0 = f := rfl
  have d2 : decide (f < 128) = false := decide_eq_false (by omega)
  have hlr : ∀ m, allOld w ∈ m → LiesH (HM m) a (cc (.ints .u8 (f :: ys))) := hLx
  have hay : allB ys := fun y hy => hx y (List.mem_cons_of_mem _ hy)
  have hfb2 : 128 ≤ f ∧ f ≤ 255 := ⟨hf, hfb.2⟩
  have hi1 : inK .i64 ((n : Int) - (1 + (q : Int))) := by simp only [inK]; omega
  have hi2 : inK .i64 (1 + (q : Int) + (nb : Int)) := by simp only [inK]; omega
  have d4 : decide ((n : Int) - (1 + (q : Int)) < (nb : Int)) = false := decide_eq_false (by omega)
  have t1 : (1 + (q : Int)).toNat = 1 + q := by omega
  have t2 : (1 + (q : Int) + (nb : Int)).toNat = 1 + q + nb := by omega
  have t3 : 1 + q + nb - (1 + q) = nb := by omega
  have t4 : (f :: ys).drop (1 + q) = zs := by rw [Nat.add_comm]; exact hz3
  have hpc : Pc a (f :: ys) (shA a c (1 + q) 1) nb (c - (1 + q)) (zs.take nb) := by
    have := ((Pc.refl (a := a) (xs := f :: ys) (n := n) (c := c) (by simp only [List.length_cons]; exact hl) hn ha).drop (k := 1 + q) (by omega)).take (k := nb) (by omega)
    rwa [t4] at this
  have hLi : ∀ m, allOld w ∈ m → LiesH (HM m) (shA a c (1 + q) 1) (cc (.ints .u8 (zs.take nb))) := fun m hin => hpc.lies _ (hL.mono (H0.hm hin))
  have hpl := hpc.len
  have hpcc := hpc.cap
  have hpa := hpc.adr
  have hpb := hpc.all hx
  have utt : (zs.take nb).take nb = zs.take nb := List.take_of_length_le (by omega)
  have hLz : True := trivial
  have d3 : decide (192 ≤ f) = true := decide_eq_true h192
  have hsh : f - 192 = f % 64 ∧ (0 : Int) ≤ 192 ∧ (192 : Int) ≤ 255 := by omega
  refine Vc.calls T0_ok Try.func28 rfl rfl (args := [.gh a n c (.ints .u8 (f :: ys)), .int .i64 dp]) (k := 104) rfl (old_start3 w) ?_; change Vc _ _ (c8 (.gh a n c (.ints .u8 (f :: ys))) (.int .i64 dp) .undef .undef .undef .undef .undef .undef (c8 .undef .undef .undef .undef .undef .undef .undef .undef (c8 .undef .undef .undef .undef .undef .undef .undef .undef (c8 .undef .undef .undef .undef .undef .undef .undef .undef (c8 .undef .undef .undef .undef .undef .undef .undef .undef (c8 .undef .undef .undef .undef .undef .undef .undef .undef (c8 .undef .undef .undef .undef .undef .undef .undef .undef (c8 .undef .undef .undef .undef .undef .undef .undef .undef (c8 .undef .undef .undef .undef .undef .undef .undef .undef (c8 .undef .undef .undef .undef .undef .undef .undef .undef (c8 .undef .undef .undef .undef .undef .undef .undef .undef (c8 .undef .undef .undef .undef .undef .undef .undef .undef (c8 .undef .undef .undef .undef .undef .undef .undef .undef ([.undef, .undef])))))))))))))) _ _
  ((repeat (first | (with_reducible refine Vc.seq fun N hN => ?_) | (with_reducible refine Vc.block ?_) | ((first | with_reducible refine Vc.skip ?_ | with_reducible refine Vc.exit ?_); dsimp only [thenK, blockK, Nat.beq]; (first | (refine hN _ _ ?_; clear hN N) | skip)) | (with_reducible intro _) | ((with_reducible refine And.intro ?_ ?_); (focus (first | ((repeat' with_reducible apply And.intro) <;> first | exact sideQ | (exact hLx _ (List.mem_cons_of_mem _ List.mem_cons_self)) | (exact hLi _ (List.mem_cons_of_mem _ List.mem_cons_self)) | (simp only [List.length_cons]; omega)) | exact sd0))) | ((first | ((with_reducible refine askT_of ?_ (fun hb => ?_)); (focus (first | ((repeat' with_reducible apply And.intro) <;> first | exact sideQ | (exact hLx _ (List.mem_cons_of_mem _ List.mem_cons_self)) | (exact hLi _ (List.mem_cons_of_mem _ List.mem_cons_self)) | (simp only [List.length_cons]; omega)) | exact sd0)); (try simp only [hb])) | ((with_reducible refine Vc.fin ?_); dsimp only [thenK, blockK, retK, resS, resOne, resAll]) | ((with_reducible refine Vc.hold ?_); first | refine Vc.regiont T0_ok GRO_ok ?_)); (try simp only [v8X, v8A, v8B, v8C, Nat.beq, Nat.ble, Int.reduceToNat, Int.reduceLE, Int.reduceLT, Nat.reduceLT, Nat.reduceLeDiff, Nat.reduceAdd, Nat.reduceMul, Nat.reduceSub, Int.reduceAdd, Int.reduceSub, Int.reduceMul, eq_self, decide_true, beq_self_eq_true, List.length_cons, List.length_nil, Nat.min_eq_left, IntKind.bits, tabs, GRO_set, d0, d1]); (try simp (disch := omega) only [v8W])) | ((with_reducible refine hN _ _ ?_); clear hN N; (try simp (disch := omega) only [v8W])))); (try ((with_reducible refine Fin.of ?_); (try with_reducible exact True.intro))))
  (refine Vc.cond T0_ok (t := false) (by rfl) (fun h => Bool.noConfusion h) (fun _ => ?_))
  ((repeat (first | (with_reducible refine Vc.seq fun N hN => ?_) | (with_reducible refine Vc.block ?_) | ((first | with_reducible refine Vc.skip ?_ | with_reducible refine Vc.exit ?_); dsimp only [thenK, blockK, Nat.beq]; (first | (refine hN _ _ ?_; clear hN N) | skip)) | (with_reducible intro _) | ((with_reducible refine And.intro ?_ ?_); (focus (first | ((repeat' with_reducible apply And.intro) <;> first | exact sideQ | (exact hLx _ (List.mem_cons_of_mem _ List.mem_cons_self)) | (exact hLi _ (List.mem_cons_of_mem _ List.mem_cons_self)) | (simp only [List.length_cons]; omega)) | exact sd0))) | ((first | ((with_reducible refine askT_of ?_ (fun hb => ?_)); (focus (first | ((repeat' with_reducible apply And.intro) <;> first | exact sideQ | (exact hLx _ (List.mem_cons_of_mem _ List.mem_cons_self)) | (exact hLi _ (List.mem_cons_of_mem _ List.mem_cons_self)) | (simp only [List.length_cons]; omega)) | exact sd0)); (try simp only [hb])) | ((with_reducible refine Vc.fin ?_); dsimp only [thenK, blockK, retK, resS, resOne, resAll]) | ((with_reducible refine Vc.hold ?_); first | refine Vc.regiont T0_ok GRO_ok ?_)); (try simp only [v8X, v8A, v8B, v8C, Nat.beq, Nat.ble, Int.reduceToNat, Int.reduceLE, Int.reduceLT, Nat.reduceLT, Nat.reduceLeDiff, Nat.reduceAdd, Nat.reduceMul, Nat.reduceSub, Int.reduceAdd, Int.reduceSub, Int.reduceMul, eq_self, decide_true, beq_self_eq_true, List.length_cons, List.length_nil, Nat.min_eq_left, IntKind.bits, tabs, GRO_set, g0, d2, conEs.eq_def, conN.eq_def]); (try simp (disch := omega) only [v8W])) | ((with_reducible refine hN _ _ ?_); clear hN N; (try simp (disch := omega) only [v8W])))); (try ((with_reducible refine Fin.of ?_); (try with_reducible exact True.intro))))
  (refine Vc.cond T0_ok (t := false) (by rfl) (fun h => Bool.noConfusion h) (fun _ => ?_))
  ((repeat (first | (with_reducible refine Vc.seq fun N hN => ?_) | (with_reducible refine Vc.block ?_) | ((first | with_reducible refine Vc.skip ?_ | with_reducible refine Vc.exit ?_); dsimp only [thenK, blockK, Nat.beq]; (first | (refine hN _ _ ?_; clear hN N) | skip)) | (with_reducible intro _) | ((with_reducible refine And.intro ?_ ?_); (focus (first | ((repeat' with_reducible apply And.intro) <;> first | exact sideQ | (exact hLx _ (List.mem_cons_of_mem _ List.mem_cons_self)) | (exact hLi _ (List.mem_cons_of_mem _ List.mem_cons_self)) | (simp only [List.length_cons]; omega)) | exact sd0))) | ((first | ((with_reducible refine askT_of ?_ (fun hb => ?_)); (focus (first | ((repeat' with_reducible apply And.intro) <;> first | exact sideQ | (exact hLx _ (List.mem_cons_of_mem _ List.mem_cons_self)) | (exact hLi _ (List.mem_cons_of_mem _ List.mem_cons_self)) | (simp only [List.length_cons]; omega)) | exact sd0)); (try simp only [hb])) | ((with_reducible refine Vc.fin ?_); dsimp only [thenK, blockK, retK, resS, resOne, resAll]) | ((with_reducible refine Vc.hold ?_); first | refine Vc.regiont T0_ok GRO_ok ?_)); (try simp only [v8X, v8A, v8B, v8C, Nat.beq, Nat.ble, Int.reduceToNat, Int.reduceLE, Int.reduceLT, Nat.reduceLT, Nat.reduceLeDiff, Nat.reduceAdd, Nat.reduceMul, Nat.reduceSub, Int.reduceAdd, Int.reduceSub, Int.reduceMul, eq_self, decide_true, beq_self_eq_true, List.length_cons, List.length_nil, Nat.min_eq_left, IntKind.bits, tabs, GRO_set, g0, d3, conEs.eq_def, conN.eq_def]); (try simp (disch := omega) only [v8W])) | ((with_reducible refine hN _ _ ?_); clear hN N; (try simp (disch := omega) only [v8W])))); (try ((with_reducible refine Fin.of ?_); (try with_reducible exact True.intro))))
  (refine Vc.cond T0_ok (t := true) (by rfl) (fun _ => ?_) (fun h => Bool.noConfusion h))
  ((repeat (first | (with_reducible refine Vc.seq fun N hN => ?_) | (with_reducible refine Vc.block ?_) | ((first | with_reducible refine Vc.skip ?_ | with_reducible refine Vc.exit ?_); dsimp only [thenK, blockK, Nat.beq]; (first | (refine hN _ _ ?_; clear hN N) | skip)) | (with_reducible intro _) | ((with_reducible refine And.intro ?_ ?_); (focus (first | ((repeat' with_reducible apply And.intro) <;> first | exact sideQ | (exact hLx _ (List.mem_cons_of_mem _ List.mem_cons_self)) | (exact hLi _ (List.mem_cons_of_mem _ List.mem_cons_self)) | (simp only [List.length_cons]; omega)) | exact sd0))) | ((first | ((with_reducible refine askT_of ?_ (fun hb => ?_)); (focus (first | ((repeat' with_reducible apply And.intro) <;> first | exact sideQ | (exact hLx _ (List.mem_cons_of_mem _ List.mem_cons_self)) | (exact hLi _ (List.mem_cons_of_mem _ List.mem_cons_self)) | (simp only [List.length_cons]; omega)) | exact sd0)); (try simp only [hb])) | ((with_reducible refine Vc.fin ?_); dsimp only [thenK, blockK, retK, resS, resOne, resAll]) | ((with_reducible refine Vc.hold ?_); first | refine Vc.regiont T0_ok GRO_ok ?_)); (try simp only [v8X, v8A, v8B, v8C, Nat.beq, Nat.ble, Int.reduceToNat, Int.reduceLE, Int.reduceLT, Nat.reduceLT, Nat.reduceLeDiff, Nat.reduceAdd, Nat.reduceMul, Nat.reduceSub, Int.reduceAdd, Int.reduceSub, Int.reduceMul, eq_self, decide_true, beq_self_eq_true, List.length_cons, List.length_nil, Nat.min_eq_left, IntKind.bits, tabs, GRO_set, hrl, d4]); (try simp (disch := omega) only [v8W])) | ((with_reducible refine hN _ _ ?_); clear hN N; (try simp (disch := omega) only [v8W])))); (try ((with_reducible refine Fin.of ?_); (try with_reducible exact True.intro))))
  (refine Vc.cond T0_ok (t := false) (by rfl) (fun h => Bool.noConfusion h) (fun _ => ?_))
  ((repeat (first | (with_reducible refine Vc.seq fun N hN => ?_) | (with_reducible refine Vc.block ?_) | ((first | with_reducible refine Vc.skip ?_ | with_reducible refine Vc.exit ?_); dsimp only [thenK, blockK, Nat.beq]; (first | (refine hN _ _ ?_; clear hN N) | skip)) | (with_reducible intro _) | ((with_reducible refine And.intro ?_ ?_); (focus (first | ((repeat' with_reducible apply And.intro) <;> first | exact sideQ | (exact hLx _ (List.mem_cons_of_mem _ List.mem_cons_self)) | (exact hLi _ (List.mem_cons_of_mem _ List.mem_cons_self)) | (simp only [List.length_cons]; omega)) | exact sd0))) | ((first | ((with_reducible refine askT_of ?_ (fun hb => ?_)); (focus (first | ((repeat' with_reducible apply And.intro) <;> first | exact sideQ | (exact hLx _ (List.mem_cons_of_mem _ List.mem_cons_self)) | (exact hLi _ (List.mem_cons_of_mem _ List.mem_cons_self)) | (simp only [List.length_cons]; omega)) | exact sd0)); (try simp only [hb])) | ((with_reducible refine Vc.fin ?_); dsimp only [thenK, blockK, retK, resS, resOne, resAll]) | ((with_reducible refine Vc.hold ?_); first | refine Vc.regiont T0_ok GRO_ok ?_)); (try simp only [v8X, v8A, v8B, v8C, Nat.beq, Nat.ble, Int.reduceToNat, Int.reduceLE, Int.reduceLT, Nat.reduceLT, Nat.reduceLeDiff, Nat.reduceAdd, Nat.reduceMul, Nat.reduceSub, Int.reduceAdd, Int.reduceSub, Int.reduceMul, eq_self, decide_true, beq_self_eq_true, List.length_cons, List.length_nil, Nat.min_eq_left, IntKind.bits, tabs, GRO_set, t1, t2, t3, t4, conEs.eq_def, conSub.eq_def]); (try simp (disch := omega) only [v8W])) | ((with_reducible refine hN _ _ ?_); clear hN N; (try simp (disch := omega) only [v8W])))); (try ((with_reducible refine Fin.of ?_); (try with_reducible exact True.intro))))
  (refine Vc.cond T0_ok (t := false) (by rfl) (fun h => Bool.noConfusion h) (fun _ => ?_))
  ((repeat (first | (with_reducible refine Vc.seq fun N hN => ?_) | (with_reducible refine Vc.block ?_) | ((first | with_reducible refine Vc.skip ?_ | with_reducible refine Vc.exit ?_); dsimp only [thenK, blockK, Nat.beq]; (first | (refine hN _ _ ?_; clear hN N) | skip)) | (with_reducible intro _) | ((with_reducible refine And.intro ?_ ?_); (focus (first | exact sideQ | exact sd0))) | ((first | ((with_reducible refine askT_of ?_ (fun hb => ?_)); (focus (first | exact sideQ | exact sd0)); (try simp only [hb])) | ((with_reducible refine Vc.fin ?_); dsimp only [thenK, blockK, retK, resS, resOne, resAll]) | ((with_reducible refine Vc.hold ?_); first | refine Vc.regiont T0_ok GRO_ok ?_)); (try simp only [v8X, v8A, v8B, v8C, Nat.beq, Nat.ble, Int.reduceToNat, Int.reduceLE, Int.reduceLT, Nat.reduceLT, Nat.reduceLeDiff, Nat.reduceAdd, Nat.reduceMul, Nat.reduceSub, Int.reduceAdd, Int.reduceSub, Int.reduceMul, eq_self, decide_true, beq_self_eq_true, List.length_cons, List.length_nil, Nat.min_eq_left, IntKind.bits, tabs, GRO_set]); (try simp (disch := omega) only [v8W])) | ((with_reducible refine hN _ _ ?_); clear hN N; (try simp (disch := omega) only [v8W])))); (try ((with_reducible refine Fin.of ?_); (try with_reducible exact True.intro))))
  rename_i b3 _ _ _ _ _ b4
  (revert N; intro N1 hN1)
  have hXl : (zs.take nb).length ≤ 1000000 := by omega
  have hXn : (zs.take nb).length < n := by omega
  have hLA := hpc.lies _ hL
  generalize zs.take nb = XS at *
  generalize shA a c (1 + q) 1 = A0 at *
  generalize c - (1 + q) = C0 at *
  have hi3 : inK .i64 (dp + 1) := by simp only [inK]; omega
  have hdp2 : 1 ≤ dp + 1 ∧ dp + 1 ≤ 65 := by omega
  refine Vc.recon 4 (.cells [.bool true, .nilsl, .own 5 (.slice none 0 0) 0]) rfl rfl ?_
  refine Vc.pushnil 25 3 ?_
  (simp only [v8X, v8A, v8B, v8C, Nat.beq, Nat.ble, Int.reduceToNat, Int.reduceLE, Int.reduceLT, Nat.reduceLT, Nat.reduceLeDiff, Nat.reduceAdd, Nat.reduceMul, Nat.reduceSub, Int.reduceAdd, Int.reduceSub, Int.reduceMul, eq_self, decide_true, beq_self_eq_true, List.length_cons, List.length_nil, Nat.min_eq_left, IntKind.bits, tabs])
  refine Vc.loop 10 106 (fun (x : LpX) => [(10, .gh x.a2 x.zs.length x.c2 (.ints .u8 x.zs)), (12, .ptr 4 b4 0 0 0 0)]) (fun x => [.gone, allOld w, .heap x.l, .blk b3 25 (.cells [.bool false, .nilsl, .nilsl]), .blk b4 25 (.cells [.bool true, .nilsl, .own 5 x.v x.rs.length]), .own x.v x.rs.length 25 3 (.rows 3 x.rs)]) (LpP A0 XS D) (fun x => x.zs.length) ⟨XS, A0, C0, [], [], .slice none 0 0, []⟩ ⟨?_, ?_, ?_⟩ (fun x junk hx2 => ?_)
  · exact ⟨Pc.refl rfl (show XS.length ≤ C0 by omega) (hpl ▸ hpa), rfl, fun _ h => absurd h List.not_mem_nil, fun i r k h => by simp at h, by cases decs D XS <;> rfl, by simp⟩
  · subst hpl
    ((try simp only [v8X, v8A, v8B, v8C, Nat.beq, Nat.ble, Int.reduceToNat, Int.reduceLE, Int.reduceLT, Nat.reduceLT, Nat.reduceLeDiff, Nat.reduceAdd, Nat.reduceMul, Nat.reduceSub, Int.reduceAdd, Int.reduceSub, Int.reduceMul, eq_self, decide_true, beq_self_eq_true, List.length_cons, List.length_nil, Nat.min_eq_left, IntKind.bits, tabs]); (repeat' with_reducible apply And.intro) <;> first | with_reducible exact True.intro | rfl | with_reducible rfl | (congr 1 <;> omega) | trivial)
  · ((try simp only [v8X, v8A, v8B, v8C, Nat.beq, Nat.ble, Int.reduceToNat, Int.reduceLE, Int.reduceLT, Nat.reduceLT, Nat.reduceLeDiff, Nat.reduceAdd, Nat.reduceMul, Nat.reduceSub, Int.reduceAdd, Int.reduceSub, Int.reduceMul, eq_self, decide_true, beq_self_eq_true, List.length_cons, List.length_nil, Nat.min_eq_left, IntKind.bits, tabs]); (repeat' with_reducible apply And.intro) <;> first | with_reducible exact True.intro | rfl | with_reducible rfl | (congr 1 <;> omega) | trivial)
  · obtain ⟨us, a2, c2, l, rs, v, ks⟩ := x
    simp only at hx2 ⊢
    have hx3 := hx2
    obtain ⟨p1, p2, p3, p4, p5, p6⟩ := hx2
    simp only at p1 p2 p3 p4 p5 p6
    (simp only [v8X, v8A, v8B, v8C, Nat.beq, Nat.ble, Int.reduceToNat, Int.reduceLE, Int.reduceLT, Nat.reduceLT, Nat.reduceLeDiff, Nat.reduceAdd, Nat.reduceMul, Nat.reduceSub, Int.reduceAdd, Int.reduceSub, Int.reduceMul, eq_self, decide_true, beq_self_eq_true, List.length_cons, List.length_nil, Nat.min_eq_left, IntKind.bits, tabs])
    by_cases hz : us = []
    · subst hz
      have e0 : decide ((0 : Int) < ((([] : List Int).length : Nat) : Int)) = false := decide_eq_false (by simp)
      ((repeat (first | (with_reducible refine Vc.seq fun N hN => ?_) | (with_reducible refine Vc.block ?_) | ((first | with_reducible refine Vc.skip ?_ | with_reducible refine Vc.exit ?_); dsimp only [thenK, blockK, Nat.beq]; (first | (refine hN _ _ ?_; clear hN N) | skip)) | (with_reducible intro _) | ((with_reducible refine And.intro ?_ ?_); (focus (first | exact sideQ | exact sd0))) | ((first | ((with_reducible refine askT_of ?_ (fun hb => ?_)); (focus (first | exact sideQ | exact sd0)); (try simp only [hb])) | ((with_reducible refine Vc.fin ?_); dsimp only [thenK, blockK, retK, resS, resOne, resAll]) | ((with_reducible refine Vc.hold ?_); first | refine Vc.regiont T0_ok GRO_ok ?_)); (try simp only [v8X, v8A, v8B, v8C, Nat.beq, Nat.ble, Int.reduceToNat, Int.reduceLE, Int.reduceLT, Nat.reduceLT, Nat.reduceLeDiff, Nat.reduceAdd, Nat.reduceMul, Nat.reduceSub, Int.reduceAdd, Int.reduceSub, Int.reduceMul, eq_self, decide_true, beq_self_eq_true, List.length_cons, List.length_nil, Nat.min_eq_left, IntKind.bits, tabs, GRO_set, e0]); (try simp (disch := omega) only [v8W])) | ((with_reducible refine hN _ _ ?_); clear hN N; (try simp (disch := omega) only [v8W])))); (try ((with_reducible refine Fin.of ?_); (try with_reducible exact True.intro))))
      (refine Vc.cond T0_ok (t := false) (by rfl) (fun h => Bool.noConfusion h) (fun _ => ?_))
      ((repeat (first | (with_reducible refine Vc.seq fun N hN => ?_) | (with_reducible refine Vc.block ?_) | ((first | with_reducible refine Vc.skip ?_ | with_reducible refine Vc.exit ?_); dsimp only [thenK, blockK, Nat.beq]; (first | (refine hN _ _ ?_; clear hN N) | skip)) | (with_reducible intro _) | ((with_reducible refine And.intro ?_ ?_); (focus (first | exact sideQ | exact sd0))) | ((first | ((with_reducible refine askT_of ?_ (fun hb => ?_)); (focus (first | exact sideQ | exact sd0)); (try simp only [hb])) | ((with_reducible refine Vc.fin ?_); dsimp only [thenK, blockK, retK, resS, resOne, resAll]) | ((with_reducible refine Vc.hold ?_); first | refine Vc.regiont T0_ok GRO_ok ?_)); (try simp only [v8X, v8A, v8B, v8C, Nat.beq, Nat.ble, Int.reduceToNat, Int.reduceLE, Int.reduceLT, Nat.reduceLT, Nat.reduceLeDiff, Nat.reduceAdd, Nat.reduceMul, Nat.reduceSub, Int.reduceAdd, Int.reduceSub, Int.reduceMul, eq_self, decide_true, beq_self_eq_true, List.length_cons, List.length_nil, Nat.min_eq_left, IntKind.bits, tabs, GRO_set]); (try simp (disch := omega) only [v8W])) | ((with_reducible refine hN _ _ ?_); clear hN N; (try simp (disch := omega) only [v8W])))); (try ((with_reducible refine Fin.of ?_); (try with_reducible exact True.intro))))
      (refine hN1 _ _ ?_; (try clear hN N); clear hN1 N1)
      ((repeat (first | (with_reducible refine Vc.seq fun N hN => ?_) | (with_reducible refine Vc.block ?_) | ((first | with_reducible refine Vc.skip ?_ | with_reducible refine Vc.exit ?_); dsimp only [thenK, blockK, Nat.beq]; (first | (refine hN _ _ ?_; clear hN N) | skip)) | (with_reducible intro _) | ((with_reducible refine And.intro ?_ ?_); (focus (first | exact sideQ | exact sd0))) | ((first | ((with_reducible refine askT_of ?_ (fun hb => ?_)); (focus (first | exact sideQ | exact sd0)); (try simp only [hb])) | ((with_reducible refine Vc.fin ?_); dsimp only [thenK, blockK, retK, resS, resOne, resAll]) | ((with_reducible refine Vc.hold ?_); first | refine Vc.regiont T0_ok GRO_ok ?_)); (try simp only [v8X, v8A, v8B, v8C, Nat.beq, Nat.ble, Int.reduceToNat, Int.reduceLE, Int.reduceLT, Nat.reduceLT, Nat.reduceLeDiff, Nat.reduceAdd, Nat.reduceMul, Nat.reduceSub, Int.reduceAdd, Int.reduceSub, Int.reduceMul, eq_self, decide_true, beq_self_eq_true, List.length_cons, List.length_nil, Nat.min_eq_left, IntKind.bits, tabs, GRO_set]); (try simp (disch := omega) only [v8W])) | ((with_reducible refine hN _ _ ?_); clear hN N; (try simp (disch := omega) only [v8W])))); (try ((with_reducible refine Fin.of ?_); (try with_reducible exact True.intro))))
      exact ⟨by simp, .inr ⟨⟨[], a2, c2, l, rs, v, ks⟩, hx3, rfl, rfl, rfl, rfl⟩⟩
    · have hul : 0 < us.length := List.length_pos_iff.2 hz
      have e0 : decide ((0 : Int) < ((us.length : Nat) : Int)) = true := decide_eq_true (by omega)
      have hux : us.length ≤ XS.length := by omega
      have huc := p1.cap
      have hua := p1.adr
      have hub := p1.all hpb
      have hLz : ∀ m, allOld w ∈ m → LiesH (HM m) a2 (cc (.ints .u8 us)) := fun m hin => (p1.lies _ hLA).mono (H0.hm hin)
      cases hdec : dec D us with
      | none =>
        have hno : decs D XS = none := by rw [p5, decs_no hz hdec]
        ((repeat (first | (with_reducible refine Vc.seq fun N hN => ?_) | (with_reducible refine Vc.block ?_) | ((first | with_reducible refine Vc.skip ?_ | with_reducible refine Vc.exit ?_); dsimp only [thenK, blockK, Nat.beq]; (first | (refine hN _ _ ?_; clear hN N) | skip)) | (with_reducible intro _) | ((with_reducible refine And.intro ?_ ?_); (focus (first | exact sideQ | exact sd0))) | ((first | ((with_reducible refine askT_of ?_ (fun hb => ?_)); (focus (first | exact sideQ | exact sd0)); (try simp only [hb])) | ((with_reducible refine Vc.fin ?_); dsimp only [thenK, blockK, retK, resS, resOne, resAll]) | ((with_reducible refine Vc.hold ?_); first | refine Vc.regiont T0_ok GRO_ok ?_)); (try simp only [v8X, v8A, v8B, v8C, Nat.beq, Nat.ble, Int.reduceToNat, Int.reduceLE, Int.reduceLT, Nat.reduceLT, Nat.reduceLeDiff, Nat.reduceAdd, Nat.reduceMul, Nat.reduceSub, Int.reduceAdd, Int.reduceSub, Int.reduceMul, eq_self, decide_true, beq_self_eq_true, List.length_cons, List.length_nil, Nat.min_eq_left, IntKind.bits, tabs, GRO_set, e0]); (try simp (disch := omega) only [v8W])) | ((with_reducible refine hN _ _ ?_); clear hN N; (try simp (disch := omega) only [v8W])))); (try ((with_reducible refine Fin.of ?_); (try with_reducible exact True.intro))))
        (refine Vc.cond T0_ok (t := true) (by rfl) (fun _ => ?_) (fun h => Bool.noConfusion h))
        ((repeat (first | (with_reducible refine Vc.seq fun N hN => ?_) | (with_reducible refine Vc.block ?_) | ((first | with_reducible refine Vc.skip ?_ | with_reducible refine Vc.exit ?_); dsimp only [thenK, blockK, Nat.beq]; (first | (refine hN _ _ ?_; clear hN N) | skip)) | (with_reducible intro _) | ((with_reducible refine And.intro ?_ ?_); (focus (first | ((repeat' with_reducible apply And.intro) <;> first | exact sideQ | (exact hLx _ (List.mem_cons_of_mem _ List.mem_cons_self)) | (exact hLz _ (List.mem_cons_of_mem _ List.mem_cons_self)) | (simp [noAlias]; done) | (simp only [List.length_cons]; omega)) | exact sd0))) | ((first | ((with_reducible refine askT_of ?_ (fun hb => ?_)); (focus (first | ((repeat' with_reducible apply And.intro) <;> first | exact sideQ | (exact hLx _ (List.mem_cons_of_mem _ List.mem_cons_self)) | (exact hLz _ (List.mem_cons_of_mem _ List.mem_cons_self)) | (simp [noAlias]; done) | (simp only [List.length_cons]; omega)) | exact sd0)); (try simp only [hb])) | ((with_reducible refine Vc.fin ?_); dsimp only [thenK, blockK, retK, resS, resOne, resAll]) | ((with_reducible refine Vc.hold ?_); first | refine Vc.regiont T0_ok GRO_ok ?_)); (try simp only [v8X, v8A, v8B, v8C, Nat.beq, Nat.ble, Int.reduceToNat, Int.reduceLE, Int.reduceLT, Nat.reduceLT, Nat.reduceLeDiff, Nat.reduceAdd, Nat.reduceMul, Nat.reduceSub, Int.reduceAdd, Int.reduceSub, Int.reduceMul, eq_self, decide_true, beq_self_eq_true, List.length_cons, List.length_nil, Nat.min_eq_left, IntKind.bits, tabs, GRO_set, hD, hdec]); (try simp (disch := omega) only [v8W])) | ((with_reducible refine hN _ _ ?_); clear hN N; (try simp (disch := omega) only [v8W])))); (try ((with_reducible refine Fin.of ?_); (try with_reducible exact True.intro))))
        (refine Vc.cond T0_ok (t := true) (by rfl) (fun _ => ?_) (fun h => Bool.noConfusion h))
        ((repeat (first | (with_reducible refine Vc.seq fun N hN => ?_) | (with_reducible refine Vc.block ?_) | ((first | with_reducible refine Vc.skip ?_ | with_reducible refine Vc.exit ?_); dsimp only [thenK, blockK, Nat.beq]; (first | (refine hN _ _ ?_; clear hN N) | skip)) | (with_reducible intro _) | ((with_reducible refine And.intro ?_ ?_); (focus (first | exact sideQ | exact sd0))) | ((first | ((with_reducible refine askT_of ?_ (fun hb => ?_)); (focus (first | exact sideQ | exact sd0)); (try simp only [hb])) | ((with_reducible refine Vc.fin ?_); dsimp only [thenK, blockK, retK, resS, resOne, resAll]) | ((with_reducible refine Vc.hold ?_); first | refine Vc.regiont T0_ok GRO_ok ?_)); (try simp only [v8X, v8A, v8B, v8C, Nat.beq, Nat.ble, Int.reduceToNat, Int.reduceLE, Int.reduceLT, Nat.reduceLT, Nat.reduceLeDiff, Nat.reduceAdd, Nat.reduceMul, Nat.reduceSub, Int.reduceAdd, Int.reduceSub, Int.reduceMul, eq_self, decide_true, beq_self_eq_true, List.length_cons, List.length_nil, Nat.min_eq_left, IntKind.bits, tabs, GRO_set]); (try simp (disch := omega) only [v8W])) | ((with_reducible refine hN _ _ ?_); clear hN N; (try simp (disch := omega) only [v8W])))); (try ((with_reducible refine Fin.of ?_); (try with_reducible exact True.intro))))
        exact ⟨by simp, .inl ⟨hno, _, True.intro, rfl⟩⟩
      | some o =>
        obtain ⟨t, us'⟩ := o
        have hlt := dec_len hdec
        have hdr := dec_drop hdec
        generalize hM : us.length - us'.length = M at *
        have d7 : decide ((M : Int) = 0) = false := decide_eq_false (by omega)
        have r1 : us.length - M = us'.length := by omega
        have r2 : us'.take us'.length = us' := List.take_length
        have hpd := p1.drop (k := M) (by omega)
        rw [r1, hdr] at hpd
        ((repeat (first | (with_reducible refine Vc.seq fun N hN => ?_) | (with_reducible refine Vc.block ?_) | ((first | with_reducible refine Vc.skip ?_ | with_reducible refine Vc.exit ?_); dsimp only [thenK, blockK, Nat.beq]; (first | (refine hN _ _ ?_; clear hN N) | skip)) | (with_reducible intro _) | ((with_reducible refine And.intro ?_ ?_); (focus (first | exact sideQ | exact sd0))) | ((first | ((with_reducible refine askT_of ?_ (fun hb => ?_)); (focus (first | exact sideQ | exact sd0)); (try simp only [hb])) | ((with_reducible refine Vc.fin ?_); dsimp only [thenK, blockK, retK, resS, resOne, resAll]) | ((with_reducible refine Vc.hold ?_); first | refine Vc.regiont T0_ok GRO_ok ?_)); (try simp only [v8X, v8A, v8B, v8C, Nat.beq, Nat.ble, Int.reduceToNat, Int.reduceLE, Int.reduceLT, Nat.reduceLT, Nat.reduceLeDiff, Nat.reduceAdd, Nat.reduceMul, Nat.reduceSub, Int.reduceAdd, Int.reduceSub, Int.reduceMul, eq_self, decide_true, beq_self_eq_true, List.length_cons, List.length_nil, Nat.min_eq_left, IntKind.bits, tabs, GRO_set, e0]); (try simp (disch := omega) only [v8W])) | ((with_reducible refine hN _ _ ?_); clear hN N; (try simp (disch := omega) only [v8W])))); (try ((with_reducible refine Fin.of ?_); (try with_reducible exact True.intro))))
        (refine Vc.cond T0_ok (t := true) (by rfl) (fun _ => ?_) (fun h => Bool.noConfusion h))
        ((repeat (first | (with_reducible refine Vc.seq fun N hN => ?_) | (with_reducible refine Vc.block ?_) | ((first | with_reducible refine Vc.skip ?_ | with_reducible refine Vc.exit ?_); dsimp only [thenK, blockK, Nat.beq]; (first | (refine hN _ _ ?_; clear hN N) | skip)) | (with_reducible intro _) | ((with_reducible refine And.intro ?_ ?_); (focus (first | ((repeat' with_reducible apply And.intro) <;> first | exact sideQ | (exact hLx _ (List.mem_cons_of_mem _ List.mem_cons_self)) | (exact hLz _ (List.mem_cons_of_mem _ List.mem_cons_self)) | (simp [noAlias]; done) | (simp only [List.length_cons]; omega)) | exact sd0))) | ((first | ((with_reducible refine askT_of ?_ (fun hb => ?_)); (focus (first | ((repeat' with_reducible apply And.intro) <;> first | exact sideQ | (exact hLx _ (List.mem_cons_of_mem _ List.mem_cons_self)) | (exact hLz _ (List.mem_cons_of_mem _ List.mem_cons_self)) | (simp [noAlias]; done) | (simp only [List.length_cons]; omega)) | exact sd0)); (try simp only [hb])) | ((with_reducible refine Vc.fin ?_); dsimp only [thenK, blockK, retK, resS, resOne, resAll]) | ((with_reducible refine Vc.hold ?_); first | refine Vc.regiont T0_ok GRO_ok ?_)); (try simp only [v8X, v8A, v8B, v8C, Nat.beq, Nat.ble, Int.reduceToNat, Int.reduceLE, Int.reduceLT, Nat.reduceLT, Nat.reduceLeDiff, Nat.reduceAdd, Nat.reduceMul, Nat.reduceSub, Int.reduceAdd, Int.reduceSub, Int.reduceMul, eq_self, decide_true, beq_self_eq_true, List.length_cons, List.length_nil, Nat.min_eq_left, IntKind.bits, tabs, GRO_set, hD, hdec, hM, d7]); (try simp (disch := omega) only [v8W])) | ((with_reducible refine hN _ _ ?_); clear hN N; (try simp (disch := omega) only [v8W])))); (try ((with_reducible refine Fin.of ?_); (try with_reducible exact True.intro))))
        rename_i y hy b5
        (refine Vc.cond T0_ok (t := false) (by rfl) (fun h => Bool.noConfusion h) (fun _ => ?_))
        ((repeat (first | (with_reducible refine Vc.seq fun N hN => ?_) | (with_reducible refine Vc.block ?_) | ((first | with_reducible refine Vc.skip ?_ | with_reducible refine Vc.exit ?_); dsimp only [thenK, blockK, Nat.beq]; (first | (refine hN _ _ ?_; clear hN N) | skip)) | (with_reducible intro _) | ((with_reducible refine And.intro ?_ ?_); (focus (first | ((repeat' with_reducible apply And.intro) <;> first | exact sideQ | (exact hLx _ (List.mem_cons_of_mem _ List.mem_cons_self)) | (exact hLz _ (List.mem_cons_of_mem _ List.mem_cons_self)) | (simp [noAlias]; done) | (simp only [List.length_cons]; omega)) | exact sd0))) | ((first | ((with_reducible refine askT_of ?_ (fun hb => ?_)); (focus (first | ((repeat' with_reducible apply And.intro) <;> first | exact sideQ | (exact hLx _ (List.mem_cons_of_mem _ List.mem_cons_self)) | (exact hLz _ (List.mem_cons_of_mem _ List.mem_cons_self)) | (simp [noAlias]; done) | (simp only [List.length_cons]; omega)) | exact sd0)); (try simp only [hb])) | ((with_reducible refine Vc.fin ?_); dsimp only [thenK, blockK, retK, resS, resOne, resAll]) | ((with_reducible refine Vc.hold ?_); first | refine Vc.regiont T0_ok GRO_ok ?_)); (try simp only [v8X, v8A, v8B, v8C, Nat.beq, Nat.ble, Int.reduceToNat, Int.reduceLE, Int.reduceLT, Nat.reduceLT, Nat.reduceLeDiff, Nat.reduceAdd, Nat.reduceMul, Nat.reduceSub, Int.reduceAdd, Int.reduceSub, Int.reduceMul, eq_self, decide_true, beq_self_eq_true, List.length_cons, List.length_nil, Nat.min_eq_left, IntKind.bits, tabs, GRO_set, tnc, List.drop_zero, conEs.eq_def, conN.eq_def]); (try simp (disch := omega) only [v8W])) | ((with_reducible refine hN _ _ ?_); clear hN N; (try simp (disch := omega) only [v8W])))); (try ((with_reducible refine Fin.of ?_); (try with_reducible exact True.intro))))
        rename_i v2
        refine ⟨⟨us', shA a2 c2 M 1, c2 - M, l ++ y.l, rs ++ [[.bool y.lb, .gh y.ba y.bn y.bc (.ints .u8 y.bs), .gh y.ka y.kn y.kc (.rows 3 y.rs)]], v2, ks ++ [t]⟩, ⟨hpd, ?_, ?_, ?_, ?_, ?_⟩, ?_, ?_, hlt⟩
        · simp [p2]
        · intro r hr1
          rcases List.mem_append.1 hr1 with h1 | h1
          · exact p3 r h1
          · rw [List.mem_singleton] at h1; subst h1; rfl
        · intro i r k h1 h2
          simp only [List.getElem?_append] at h1 h2
          by_cases hi : i < rs.length
          · rw [if_pos hi] at h1; rw [if_pos (by omega)] at h2
            exact (p4 i r k h1 h2).mono fun b' o h => List.mem_append_left _ h
          · rw [if_neg hi] at h1; rw [if_neg (by omega)] at h2
            have hi0 : i - rs.length = 0 := by
              rcases Nat.eq_zero_or_pos (i - rs.length) with h | h
              · exact h
              · rw [List.getElem?_eq_none (by simp; omega)] at h1; cases h1
            rw [hi0] at h1
            rw [← p2, hi0] at h2
            simp only [List.getElem?_cons_zero, Option.some.injEq] at h1 h2
            subst h1; subst h2
            exact hy.mono fun b' o h => List.mem_append_right _ h
        · rw [p5, decs_go hdec]
          cases decs D us' with
          | none => rfl
          | some k2 => simp
        · simp; omega
        · simp only [r1, hdr, r2]
          simp
        · simp
end Go.Proofs.Ytlogpdjcgbifhaa
