/-
  RLP: the document's Decode walked, its contract. No condition.
-/
import Derived.Test.YtlogpdjcgbifhaaPO
namespace Go.Proofs.Ytlogpdjcgbifhaa
set_option linter.unusedSimpArgs false
set_option linter.unusedVariables false
set_option maxHeartbeats 4000000
set_option linter.defProp false
open Go.RowKit
noncomputable def GPQ : Ctr := fun f args m => match f with
  | 28 => g_rone args m
  | _ => .none
theorem GPQ_ok : GOk Try.prog GPQ := by
  intro w0 B f args m; unfold GPQ; split
  · exact g_rone_ok _ _ _ _
  · exact trivial
theorem GPQ_rone : GPQ 28 = g_rone := by funext args m; rfl
def GPQ_set := And.intro (@GPQ_rone) (@g_rone.eq_def)

set_option maxRecDepth 20000 in
theorem rdec_vc (a : Option Addr) (n c : Nat) (xs : List Int) (hl : xs.length = n) (hn : n ≤ c) (hx : allB xs) (ha : adr a n c) (hxs : n ≤ 1000000) (w : World) (hL : LiesH (H0 w) a (cc (.ints .u8 xs))) :
    Calls Try.prog 19 (cvs [.gh a n c (.ints .u8 xs)]).toArray w (fun en w' => ∃ u, en = .returned u ∧ ∃ v' m', u = cv v' ∧ MemOk w [] m' w' ∧
      ((deco xs = none ∧ v' = .tup [.agg [.bool false, .nilsl, .nilsl], .int .i64 40]) ∨
       (∃ (t : Itm) (x : ItY), deco xs = some t ∧ ItR (Hl x.l) [.bool x.lb, .gh x.ba x.bn x.bc (.ints .u8 x.bs), .gh x.ka x.kn x.kc (.rows 3 x.rs)] t ∧ v' = .tup [.agg [.bool x.lb, .gh x.ba x.bn x.bc (.ints .u8 x.bs), .gh x.ka x.kn x.kc (.rows 3 x.rs)], .int .i64 0] ∧ bget m' 2 = .heap x.l))) := by
  have hLx : ∀ m, allOld w ∈ m → LiesH (HM m) a (cc (.ints .u8 xs)) := fun m hin => hL.mono (H0.hm hin)
  have h64 : ((65 : Int) - 1).toNat = 64 := rfl
  have hd : xs.length < 1000001 := by omega
  have hdp : (1 : Int) ≤ 1 ∧ (1 : Int) ≤ 65 := by omega
  cases hdec : dec 64 xs with
  | none =>
    have hno : deco xs = none := by unfold deco; rw [hdec]
    refine Vc.calls T0_ok Try.func19 rfl rfl (args := [.gh a n c (.ints .u8 xs)]) (k := 20) rfl (old_start3 w) ?_; change Vc _ _ (c8 (.gh a n c (.ints .u8 xs)) .undef .undef .undef .undef .undef .undef .undef (c8 .undef .undef .undef .undef .undef .undef .undef .undef ([.undef, .undef, .undef, .undef, .undef]))) _ _
    ((repeat (first | (with_reducible refine Vc.seq fun N hN => ?_) | (with_reducible refine Vc.block ?_) | ((first | with_reducible refine Vc.skip ?_ | with_reducible refine Vc.exit ?_); dsimp only [thenK, blockK, Nat.beq]; (first | (refine hN _ _ ?_; clear hN N) | skip)) | (with_reducible intro _) | ((with_reducible refine And.intro ?_ ?_); (focus (first | ((repeat' with_reducible apply And.intro) <;> first | exact sideQ | (exact hLx _ (List.mem_cons_of_mem _ List.mem_cons_self))) | exact sd0))) | ((first | ((with_reducible refine askT_of ?_ (fun hb => ?_)); (focus (first | ((repeat' with_reducible apply And.intro) <;> first | exact sideQ | (exact hLx _ (List.mem_cons_of_mem _ List.mem_cons_self))) | exact sd0)); (try simp only [hb])) | ((with_reducible refine Vc.fin ?_); dsimp only [thenK, blockK, retK, resS, resOne, resAll]) | ((with_reducible refine Vc.hold ?_); first | refine Vc.regiont T0_ok GPQ_ok ?_)); (try simp only [v8X, v8A, v8B, v8C, Nat.beq, Nat.ble, Int.reduceToNat, Int.reduceLE, Int.reduceLT, Nat.reduceLT, Nat.reduceLeDiff, Nat.reduceAdd, Nat.reduceMul, Nat.reduceSub, Int.reduceAdd, Int.reduceSub, Int.reduceMul, eq_self, decide_true, beq_self_eq_true, List.length_cons, List.length_nil, Nat.min_eq_left, IntKind.bits, tabs, GPQ_set, g_roneD.eq_def, h64, hdec]); (try simp (disch := omega) only [v8W])) | ((with_reducible refine hN _ _ ?_); clear hN N; (try simp (disch := omega) only [v8W])))); (try ((with_reducible refine Fin.of ?_); (try with_reducible exact True.intro))))
    (refine Vc.cond T0_ok (t := true) (by rfl) (fun _ => ?_) (fun h => Bool.noConfusion h))
    ((repeat (first | (with_reducible refine Vc.seq fun N hN => ?_) | (with_reducible refine Vc.block ?_) | ((first | with_reducible refine Vc.skip ?_ | with_reducible refine Vc.exit ?_); dsimp only [thenK, blockK, Nat.beq]; (first | (refine hN _ _ ?_; clear hN N) | skip)) | (with_reducible intro _) | ((with_reducible refine And.intro ?_ ?_); (focus (first | exact sideQ | exact sd0))) | ((first | ((with_reducible refine askT_of ?_ (fun hb => ?_)); (focus (first | exact sideQ | exact sd0)); (try simp only [hb])) | ((with_reducible refine Vc.fin ?_); dsimp only [thenK, blockK, retK, resS, resOne, resAll]) | ((with_reducible refine Vc.hold ?_); first | refine Vc.regiont T0_ok GPQ_ok ?_)); (try simp only [v8X, v8A, v8B, v8C, Nat.beq, Nat.ble, Int.reduceToNat, Int.reduceLE, Int.reduceLT, Nat.reduceLT, Nat.reduceLeDiff, Nat.reduceAdd, Nat.reduceMul, Nat.reduceSub, Int.reduceAdd, Int.reduceSub, Int.reduceMul, eq_self, decide_true, beq_self_eq_true, List.length_cons, List.length_nil, Nat.min_eq_left, IntKind.bits, tabs, GPQ_set]); (try simp (disch := omega) only [v8W])) | ((with_reducible refine hN _ _ ?_); clear hN N; (try simp (disch := omega) only [v8W])))); (try ((with_reducible refine Fin.of ?_); (try with_reducible exact True.intro))))
    exact ⟨by simp, .inl ⟨hno, by first | exact True.intro | rfl⟩⟩
  | some o =>
    obtain ⟨t, zs⟩ := o
    have hlt := dec_len hdec
    generalize hM : xs.length - zs.length = M at *
    have d1 : decide ((M : Int) = 0) = false := decide_eq_false (by omega)
    by_cases hz : zs = []
    · subst hz
      have hyes : deco xs = some t := by unfold deco; rw [hdec]
      have hM0 : xs.length - 0 = M := hM
      have d2 : decide ((M : Int) = (n : Int)) = true := decide_eq_true (by omega)
      refine Vc.calls T0_ok Try.func19 rfl rfl (args := [.gh a n c (.ints .u8 xs)]) (k := 20) rfl (old_start3 w) ?_; change Vc _ _ (c8 (.gh a n c (.ints .u8 xs)) .undef .undef .undef .undef .undef .undef .undef (c8 .undef .undef .undef .undef .undef .undef .undef .undef ([.undef, .undef, .undef, .undef, .undef]))) _ _
      ((repeat (first | (with_reducible refine Vc.seq fun N hN => ?_) | (with_reducible refine Vc.block ?_) | ((first | with_reducible refine Vc.skip ?_ | with_reducible refine Vc.exit ?_); dsimp only [thenK, blockK, Nat.beq]; (first | (refine hN _ _ ?_; clear hN N) | skip)) | (with_reducible intro _) | ((with_reducible refine And.intro ?_ ?_); (focus (first | ((repeat' with_reducible apply And.intro) <;> first | exact sideQ | (exact hLx _ (List.mem_cons_of_mem _ List.mem_cons_self))) | exact sd0))) | ((first | ((with_reducible refine askT_of ?_ (fun hb => ?_)); (focus (first | ((repeat' with_reducible apply And.intro) <;> first | exact sideQ | (exact hLx _ (List.mem_cons_of_mem _ List.mem_cons_self))) | exact sd0)); (try simp only [hb])) | ((with_reducible refine Vc.fin ?_); dsimp only [thenK, blockK, retK, resS, resOne, resAll]) | ((with_reducible refine Vc.hold ?_); first | refine Vc.regiont T0_ok GPQ_ok ?_)); (try simp only [v8X, v8A, v8B, v8C, Nat.beq, Nat.ble, Int.reduceToNat, Int.reduceLE, Int.reduceLT, Nat.reduceLT, Nat.reduceLeDiff, Nat.reduceAdd, Nat.reduceMul, Nat.reduceSub, Int.reduceAdd, Int.reduceSub, Int.reduceMul, eq_self, decide_true, beq_self_eq_true, List.length_cons, List.length_nil, Nat.min_eq_left, IntKind.bits, tabs, GPQ_set, g_roneD.eq_def, h64, hdec, hM, hM0, d1, d2]); (try simp (disch := omega) only [v8W])) | ((with_reducible refine hN _ _ ?_); clear hN N; (try simp (disch := omega) only [v8W])))); (try ((with_reducible refine Fin.of ?_); (try with_reducible exact True.intro))))
      rename_i x hq b9
      (refine Vc.cond T0_ok (t := false) (by rfl) (fun h => Bool.noConfusion h) (fun _ => ?_))
      ((repeat (first | (with_reducible refine Vc.seq fun N hN => ?_) | (with_reducible refine Vc.block ?_) | ((first | with_reducible refine Vc.skip ?_ | with_reducible refine Vc.exit ?_); dsimp only [thenK, blockK, Nat.beq]; (first | (refine hN _ _ ?_; clear hN N) | skip)) | (with_reducible intro _) | ((with_reducible refine And.intro ?_ ?_); (focus (first | exact sideQ | exact sd0))) | ((first | ((with_reducible refine askT_of ?_ (fun hb => ?_)); (focus (first | exact sideQ | exact sd0)); (try simp only [hb])) | ((with_reducible refine Vc.fin ?_); dsimp only [thenK, blockK, retK, resS, resOne, resAll]) | ((with_reducible refine Vc.hold ?_); first | refine Vc.regiont T0_ok GPQ_ok ?_)); (try simp only [v8X, v8A, v8B, v8C, Nat.beq, Nat.ble, Int.reduceToNat, Int.reduceLE, Int.reduceLT, Nat.reduceLT, Nat.reduceLeDiff, Nat.reduceAdd, Nat.reduceMul, Nat.reduceSub, Int.reduceAdd, Int.reduceSub, Int.reduceMul, eq_self, decide_true, beq_self_eq_true, List.length_cons, List.length_nil, Nat.min_eq_left, IntKind.bits, tabs, GPQ_set]); (try simp (disch := omega) only [v8W])) | ((with_reducible refine hN _ _ ?_); clear hN N; (try simp (disch := omega) only [v8W])))); (try ((with_reducible refine Fin.of ?_); (try with_reducible exact True.intro))))
      exact ⟨by simp, .inr ⟨t, x, hyes, hq, rfl, rfl⟩⟩
    · have hno : deco xs = none := by
        unfold deco; rw [hdec]
        cases zs with
        | nil => exact absurd rfl hz
        | cons z zs => rfl
      have hzl : 0 < zs.length := List.length_pos_iff.2 hz
      have d2 : decide ((M : Int) = (n : Int)) = false := decide_eq_false (by omega)
      refine Vc.calls T0_ok Try.func19 rfl rfl (args := [.gh a n c (.ints .u8 xs)]) (k := 20) rfl (old_start3 w) ?_; change Vc _ _ (c8 (.gh a n c (.ints .u8 xs)) .undef .undef .undef .undef .undef .undef .undef (c8 .undef .undef .undef .undef .undef .undef .undef .undef ([.undef, .undef, .undef, .undef, .undef]))) _ _
      ((repeat (first | (with_reducible refine Vc.seq fun N hN => ?_) | (with_reducible refine Vc.block ?_) | ((first | with_reducible refine Vc.skip ?_ | with_reducible refine Vc.exit ?_); dsimp only [thenK, blockK, Nat.beq]; (first | (refine hN _ _ ?_; clear hN N) | skip)) | (with_reducible intro _) | ((with_reducible refine And.intro ?_ ?_); (focus (first | ((repeat' with_reducible apply And.intro) <;> first | exact sideQ | (exact hLx _ (List.mem_cons_of_mem _ List.mem_cons_self))) | exact sd0))) | ((first | ((with_reducible refine askT_of ?_ (fun hb => ?_)); (focus (first | ((repeat' with_reducible apply And.intro) <;> first | exact sideQ | (exact hLx _ (List.mem_cons_of_mem _ List.mem_cons_self))) | exact sd0)); (try simp only [hb])) | ((with_reducible refine Vc.fin ?_); dsimp only [thenK, blockK, retK, resS, resOne, resAll]) | ((with_reducible refine Vc.hold ?_); first | refine Vc.regiont T0_ok GPQ_ok ?_)); (try simp only [v8X, v8A, v8B, v8C, Nat.beq, Nat.ble, Int.reduceToNat, Int.reduceLE, Int.reduceLT, Nat.reduceLT, Nat.reduceLeDiff, Nat.reduceAdd, Nat.reduceMul, Nat.reduceSub, Int.reduceAdd, Int.reduceSub, Int.reduceMul, eq_self, decide_true, beq_self_eq_true, List.length_cons, List.length_nil, Nat.min_eq_left, IntKind.bits, tabs, GPQ_set, g_roneD.eq_def, h64, hdec, hM, d1, d2]); (try simp (disch := omega) only [v8W])) | ((with_reducible refine hN _ _ ?_); clear hN N; (try simp (disch := omega) only [v8W])))); (try ((with_reducible refine Fin.of ?_); (try with_reducible exact True.intro))))
      (refine Vc.cond T0_ok (t := true) (by rfl) (fun _ => ?_) (fun h => Bool.noConfusion h))
      ((repeat (first | (with_reducible refine Vc.seq fun N hN => ?_) | (with_reducible refine Vc.block ?_) | ((first | with_reducible refine Vc.skip ?_ | with_reducible refine Vc.exit ?_); dsimp only [thenK, blockK, Nat.beq]; (first | (refine hN _ _ ?_; clear hN N) | skip)) | (with_reducible intro _) | ((with_reducible refine And.intro ?_ ?_); (focus (first | exact sideQ | exact sd0))) | ((first | ((with_reducible refine askT_of ?_ (fun hb => ?_)); (focus (first | exact sideQ | exact sd0)); (try simp only [hb])) | ((with_reducible refine Vc.fin ?_); dsimp only [thenK, blockK, retK, resS, resOne, resAll]) | ((with_reducible refine Vc.hold ?_); first | refine Vc.regiont T0_ok GPQ_ok ?_)); (try simp only [v8X, v8A, v8B, v8C, Nat.beq, Nat.ble, Int.reduceToNat, Int.reduceLE, Int.reduceLT, Nat.reduceLT, Nat.reduceLeDiff, Nat.reduceAdd, Nat.reduceMul, Nat.reduceSub, Int.reduceAdd, Int.reduceSub, Int.reduceMul, eq_self, decide_true, beq_self_eq_true, List.length_cons, List.length_nil, Nat.min_eq_left, IntKind.bits, tabs, GPQ_set]); (try simp (disch := omega) only [v8W])) | ((with_reducible refine hN _ _ ?_); clear hN N; (try simp (disch := omega) only [v8W])))); (try ((with_reducible refine Fin.of ?_); (try with_reducible exact True.intro))))
      exact ⟨by simp, .inl ⟨hno, by first | exact True.intro | rfl⟩⟩
/-- The document's Decode, of bytes wherever they lie. -/
def g_rDec (args : List SV) (m : List Blk) : CR :=
  match args with
  | [s] => match srcC s m with
    | some (q, k, .ints .u8 xs) => match deco xs with
      | none => .pure (q ∧ allB xs ∧ k ≤ 1000000) (.tup [.agg [.bool false, .nilsl, .nilsl], .int .i64 40])
      | some t => .rel (q ∧ allB xs ∧ k ≤ 1000000) ItY
        (fun x => ItR (Hl x.l) [.bool x.lb, .gh x.ba x.bn x.bc (.ints .u8 x.bs), .gh x.ka x.kn x.kc (.rows 3 x.rs)] t)
        (fun x => .tup [.agg [.bool x.lb, .gh x.ba x.bn x.bc (.ints .u8 x.bs), .gh x.ka x.kn x.kc (.rows 3 x.rs)], .int .i64 0])
        (fun x => bpush m (.heap x.l))
    | _ => .none
  | _ => .none
theorem g_rDec_ok (w0 : World) (B : List Nat) (args : List SV) (m : List Blk) : CROk Try.prog w0 B 19 args m (g_rDec args m) := by
  unfold g_rDec
  split
  · rename_i s
    split
    · rename_i q k xs hs
      split
      · rename_i hh
        intro ⟨hq, h3, h5⟩ w hm
        obtain ⟨h1, a, cp, h2, h4, h6, h7⟩ := src_ro hs hq hm
        have hl : xs.length = k := by simpa [cc, conEs] using h1
        have e : cvs [s] = cvs [.gh a k cp (.ints .u8 xs)] := by simp only [cvs]; rw [h2, cv_sl0]; rfl
        rw [e]
        refine calls_pure Try.func19 rfl rfl ((rdec_vc a k cp xs hl h4 h3 h7 h5 w (lies_of_ro h6)).mono fun e w' ⟨u, hu, v', m', hv, hm', ho⟩ => ⟨u, hu, v', m', hv, hm', ?_⟩)
        rcases ho with ⟨_, o1⟩ | ⟨t, x, o1, _⟩
        · exact o1
        · rw [hh] at o1; cases o1
      · rename_i t hh
        intro ⟨hq, h3, h5⟩ w hm
        obtain ⟨h1, a, cp, h2, h4, h6, h7⟩ := src_ro hs hq hm
        have hl : xs.length = k := by simpa [cc, conEs] using h1
        have e : cvs [s] = cvs [.gh a k cp (.ints .u8 xs)] := by simp only [cvs]; rw [h2, cv_sl0]; rfl
        refine calls_heap (A := ItY) Try.func19 rfl rfl hm (i := 2) (args' := [.gh a k cp (.ints .u8 xs)]) e
          ((rdec_vc a k cp xs hl h4 h3 h7 h5 w (lies_of_ro h6)).mono fun e w' ⟨u, hu, v', m', hv, hm', ho⟩ => ⟨u, hu, v', m', hv, hm', ?_⟩)
        rcases ho with ⟨o1, _⟩ | ⟨t', x, o1, o2, o3, o4⟩
        · rw [hh] at o1; cases o1
        · rw [hh] at o1; cases o1
          exact ⟨x, o2, by rw [o3], o4⟩
    · exact trivial
  · exact trivial
end Go.Proofs.Ytlogpdjcgbifhaa
