/-
  RLP: Decode walked, its contract. No condition.
-/
import Derived.Test.YtlogpdjcgbifhaaPI
namespace Go.Proofs.Ytlogpdjcgbifhaa
set_option linter.unusedSimpArgs false
set_option linter.unusedVariables false
set_option maxHeartbeats 4000000
set_option linter.defProp false
open Go.RowKit
/-- An item that was made, as a value's cells. -/
structure ItY where
  lb : Bool
  ba : Option Addr
  bn : Nat
  bc : Nat
  bs : List Int
  ka : Option Addr
  kn : Nat
  kc : Nat
  rs : List (List SV)
  l : List (Nat × Obj)
def g_deco (args : List SV) (m : List Blk) : CR :=
  match args with
  | [.gh a n c (.ints .u8 xs)] => match deco xs with
    | none => .rel (xs.length = n ∧ n ≤ c ∧ allB xs ∧ adr a n c ∧ n ≤ 1000000 ∧ LiesH (HM m) a (cc (.ints .u8 xs))) (Int × List (Nat × Obj)) (fun _ => True) (fun x => .tup [.agg [.bool false, .nilsl, .nilsl], fltV x.1]) (fun x => bpush m (.heap x.2))
    | some t => .rel (xs.length = n ∧ n ≤ c ∧ allB xs ∧ adr a n c ∧ n ≤ 1000000 ∧ LiesH (HM m) a (cc (.ints .u8 xs))) ItY
        (fun x => ItR (Hl x.l) [.bool x.lb, .gh x.ba x.bn x.bc (.ints .u8 x.bs), .gh x.ka x.kn x.kc (.rows 3 x.rs)] t)
        (fun x => .tup [.agg [.bool x.lb, .gh x.ba x.bn x.bc (.ints .u8 x.bs), .gh x.ka x.kn x.kc (.rows 3 x.rs)], .raw .nilIface])
        (fun x => bpush m (.heap x.l))
  | _ => .none
theorem g_deco_ok (w0 : World) (B : List Nat) (args : List SV) (m : List Blk) : CROk Try.prog w0 B 26 args m (g_deco args m) := by
  unfold g_deco
  split
  · rename_i a n c xs
    split
    · rename_i hh
      intro ⟨h1, h2, h3, h4, h5, h6⟩ w hm
      refine calls_heap (A := Int × List (Nat × Obj)) Try.func26 rfl rfl hm (i := 2) (args' := [.gh a n c (.ints .u8 xs)]) rfl
        ((deco_vc a n c xs h1 h2 h3 h4 h5 w (h6.mono fun b o h => hm.hm h)).mono fun e w' ⟨u, hu, v', m', hv, hm', ho⟩ => ⟨u, hu, v', m', hv, hm', ?_⟩)
      rcases ho with ⟨_, p, l, o1, o2⟩ | ⟨t, x, o1, _⟩
      · exact ⟨(p, l), trivial, by rw [o1], o2⟩
      · rw [hh] at o1; cases o1
    · rename_i t hh
      intro ⟨h1, h2, h3, h4, h5, h6⟩ w hm
      refine calls_heap (A := ItY) Try.func26 rfl rfl hm (i := 2) (args' := [.gh a n c (.ints .u8 xs)]) rfl
        ((deco_vc a n c xs h1 h2 h3 h4 h5 w (h6.mono fun b o h => hm.hm h)).mono fun e w' ⟨u, hu, v', m', hv, hm', ho⟩ => ⟨u, hu, v', m', hv, hm', ?_⟩)
      rcases ho with ⟨o1, _⟩ | ⟨t', x, o1, o2, o3, o4⟩
      · rw [hh] at o1; cases o1
      · rw [hh] at o1; cases o1
        exact ⟨⟨x.lb, x.ba, x.bn, x.bc, x.bs, x.ka, x.kn, x.kc, x.rs, x.l⟩, o2, by rw [o3], o4⟩
  · exact trivial
noncomputable def GPJ : Ctr := fun f args m => match f with
  | 26 => g_deco args m
  | 27 => g_isE args m
  | _ => .none
theorem GPJ_ok : GOk Try.prog GPJ := by
  intro w0 B f args m; unfold GPJ; split
  · exact g_deco_ok _ _ _ _
  · exact g_isE_ok _ _ _ _
  · exact trivial
theorem GPJ_deco : GPJ 26 = g_deco := by funext args m; rfl
theorem GPJ_isE : GPJ 27 = g_isE := by funext args m; rfl
def GPJ_set := And.intro (And.intro (@GPJ_deco) (@g_deco.eq_def)) (And.intro (@GPJ_isE) (@g_isE.eq_def))

set_option maxRecDepth 20000 in
theorem decN_vc (a : Option Addr) (n c : Nat) (xs : List Int) (hl : xs.length = n) (hn : n ≤ c) (hx : allB xs) (ha : adr a n c) (hxs : n ≤ 1000000) (w : World) (hL : LiesH (H0 w) a (cc (.ints .u8 xs))) (hd : deco xs = none) :
    Calls Try.prog 18 (cvs [.gh a n c (.ints .u8 xs)]).toArray w (fun en w' => ∃ u, en = .returned u ∧ ∃ v' m', u = cv v' ∧ MemOk w [] m' w' ∧ v' = .tup [.agg [.bool false, .nilsl, .nilsl], .int .u16 40]) := by
  have hLx : ∀ m, allOld w ∈ m → LiesH (HM m) a (cc (.ints .u8 xs)) := fun m hin => hL.mono (H0.hm hin)
  refine Vc.calls T0_ok Try.func18 rfl rfl (args := [.gh a n c (.ints .u8 xs)]) (k := 15) rfl (old_start w) ?_; change Vc _ _ (c8 (.gh a n c (.ints .u8 xs)) .undef .undef .undef .undef .undef .undef .undef (c8 .undef .undef .undef .undef .undef .undef .undef .undef ([]))) _ _
  ((repeat (first | (with_reducible refine Vc.seq fun N hN => ?_) | (with_reducible refine Vc.block ?_) | ((first | with_reducible refine Vc.skip ?_ | with_reducible refine Vc.exit ?_); dsimp only [thenK, blockK, Nat.beq]; (first | (refine hN _ _ ?_; clear hN N) | skip)) | (with_reducible intro _) | ((with_reducible refine And.intro ?_ ?_); (focus (first | ((repeat' with_reducible apply And.intro) <;> first | exact sideQ | (exact hLx _ List.mem_cons_self)) | exact sd0))) | ((first | ((with_reducible refine askT_of ?_ (fun hb => ?_)); (focus (first | ((repeat' with_reducible apply And.intro) <;> first | exact sideQ | (exact hLx _ List.mem_cons_self)) | exact sd0)); (try simp only [hb])) | ((with_reducible refine Vc.fin ?_); dsimp only [thenK, blockK, retK, resS, resOne, resAll]) | ((with_reducible refine Vc.hold ?_); first | refine Vc.regiont T0_ok GPJ_ok ?_)); (try simp only [v8X, v8A, v8B, v8C, Nat.beq, Nat.ble, Int.reduceToNat, Int.reduceLE, Int.reduceLT, Nat.reduceLT, Nat.reduceLeDiff, Nat.reduceAdd, Nat.reduceMul, Nat.reduceSub, Int.reduceAdd, Int.reduceSub, Int.reduceMul, eq_self, decide_true, beq_self_eq_true, List.length_cons, List.length_nil, Nat.min_eq_left, IntKind.bits, tabs, GPJ_set, hd, fltV.eq_def]); (try simp (disch := omega) only [v8W])) | ((with_reducible refine hN _ _ ?_); clear hN N; (try simp (disch := omega) only [v8W])))); (try ((with_reducible refine Fin.of ?_); (try with_reducible exact True.intro))))
  (refine Vc.cond T0_ok (t := true) (by rfl) (fun _ => ?_) (fun h => Bool.noConfusion h))
  ((repeat (first | (with_reducible refine Vc.seq fun N hN => ?_) | (with_reducible refine Vc.block ?_) | ((first | with_reducible refine Vc.skip ?_ | with_reducible refine Vc.exit ?_); dsimp only [thenK, blockK, Nat.beq]; (first | (refine hN _ _ ?_; clear hN N) | skip)) | (with_reducible intro _) | ((with_reducible refine And.intro ?_ ?_); (focus (first | exact sideQ | exact sd0))) | ((first | ((with_reducible refine askT_of ?_ (fun hb => ?_)); (focus (first | exact sideQ | exact sd0)); (try simp only [hb])) | ((with_reducible refine Vc.fin ?_); dsimp only [thenK, blockK, retK, resS, resOne, resAll]) | ((with_reducible refine Vc.hold ?_); first | refine Vc.regiont T0_ok GPJ_ok ?_)); (try simp only [v8X, v8A, v8B, v8C, Nat.beq, Nat.ble, Int.reduceToNat, Int.reduceLE, Int.reduceLT, Nat.reduceLT, Nat.reduceLeDiff, Nat.reduceAdd, Nat.reduceMul, Nat.reduceSub, Int.reduceAdd, Int.reduceSub, Int.reduceMul, eq_self, decide_true, beq_self_eq_true, List.length_cons, List.length_nil, Nat.min_eq_left, IntKind.bits, tabs, GPJ_set]); (try simp (disch := omega) only [v8W])) | ((with_reducible refine hN _ _ ?_); clear hN N; (try simp (disch := omega) only [v8W])))); (try ((with_reducible refine Fin.of ?_); (try with_reducible exact True.intro))))
  exact ⟨by simp, True.intro⟩
set_option maxRecDepth 20000 in
theorem decY_vc (a : Option Addr) (n c : Nat) (xs : List Int) (hl : xs.length = n) (hn : n ≤ c) (hx : allB xs) (ha : adr a n c) (hxs : n ≤ 1000000) (w : World) (hL : LiesH (H0 w) a (cc (.ints .u8 xs))) (t : Itm) (hd : deco xs = some t) :
    Calls Try.prog 18 (cvs [.gh a n c (.ints .u8 xs)]).toArray w (fun en w' => ∃ u, en = .returned u ∧ ∃ v' m', u = cv v' ∧ MemOk w [] m' w' ∧ ∃ x : ItY, ItR (Hl x.l) [.bool x.lb, .gh x.ba x.bn x.bc (.ints .u8 x.bs), .gh x.ka x.kn x.kc (.rows 3 x.rs)] t ∧ v' = .tup [.agg [.bool x.lb, .gh x.ba x.bn x.bc (.ints .u8 x.bs), .gh x.ka x.kn x.kc (.rows 3 x.rs)], .int .u16 0] ∧ bget m' 2 = .heap x.l) := by
  have hLx : ∀ m, allOld w ∈ m → LiesH (HM m) a (cc (.ints .u8 xs)) := fun m hin => hL.mono (H0.hm hin)
  refine Vc.calls T0_ok Try.func18 rfl rfl (args := [.gh a n c (.ints .u8 xs)]) (k := 15) rfl (old_start w) ?_; change Vc _ _ (c8 (.gh a n c (.ints .u8 xs)) .undef .undef .undef .undef .undef .undef .undef (c8 .undef .undef .undef .undef .undef .undef .undef .undef ([]))) _ _
  ((repeat (first | (with_reducible refine Vc.seq fun N hN => ?_) | (with_reducible refine Vc.block ?_) | ((first | with_reducible refine Vc.skip ?_ | with_reducible refine Vc.exit ?_); dsimp only [thenK, blockK, Nat.beq]; (first | (refine hN _ _ ?_; clear hN N) | skip)) | (with_reducible intro _) | ((with_reducible refine And.intro ?_ ?_); (focus (first | ((repeat' with_reducible apply And.intro) <;> first | exact sideQ | (exact hLx _ List.mem_cons_self)) | exact sd0))) | ((first | ((with_reducible refine askT_of ?_ (fun hb => ?_)); (focus (first | ((repeat' with_reducible apply And.intro) <;> first | exact sideQ | (exact hLx _ List.mem_cons_self)) | exact sd0)); (try simp only [hb])) | ((with_reducible refine Vc.fin ?_); dsimp only [thenK, blockK, retK, resS, resOne, resAll]) | ((with_reducible refine Vc.hold ?_); first | refine Vc.regiont T0_ok GPJ_ok ?_)); (try simp only [v8X, v8A, v8B, v8C, Nat.beq, Nat.ble, Int.reduceToNat, Int.reduceLE, Int.reduceLT, Nat.reduceLT, Nat.reduceLeDiff, Nat.reduceAdd, Nat.reduceMul, Nat.reduceSub, Int.reduceAdd, Int.reduceSub, Int.reduceMul, eq_self, decide_true, beq_self_eq_true, List.length_cons, List.length_nil, Nat.min_eq_left, IntKind.bits, tabs, GPJ_set, hd, fltV.eq_def]); (try simp (disch := omega) only [v8W])) | ((with_reducible refine hN _ _ ?_); clear hN N; (try simp (disch := omega) only [v8W])))); (try ((with_reducible refine Fin.of ?_); (try with_reducible exact True.intro))))
  rename_i x hq b9
  (refine Vc.cond T0_ok (t := false) (by rfl) (fun h => Bool.noConfusion h) (fun _ => ?_))
  ((repeat (first | (with_reducible refine Vc.seq fun N hN => ?_) | (with_reducible refine Vc.block ?_) | ((first | with_reducible refine Vc.skip ?_ | with_reducible refine Vc.exit ?_); dsimp only [thenK, blockK, Nat.beq]; (first | (refine hN _ _ ?_; clear hN N) | skip)) | (with_reducible intro _) | ((with_reducible refine And.intro ?_ ?_); (focus (first | exact sideQ | exact sd0))) | ((first | ((with_reducible refine askT_of ?_ (fun hb => ?_)); (focus (first | exact sideQ | exact sd0)); (try simp only [hb])) | ((with_reducible refine Vc.fin ?_); dsimp only [thenK, blockK, retK, resS, resOne, resAll]) | ((with_reducible refine Vc.hold ?_); first | refine Vc.regiont T0_ok GPJ_ok ?_)); (try simp only [v8X, v8A, v8B, v8C, Nat.beq, Nat.ble, Int.reduceToNat, Int.reduceLE, Int.reduceLT, Nat.reduceLT, Nat.reduceLeDiff, Nat.reduceAdd, Nat.reduceMul, Nat.reduceSub, Int.reduceAdd, Int.reduceSub, Int.reduceMul, eq_self, decide_true, beq_self_eq_true, List.length_cons, List.length_nil, Nat.min_eq_left, IntKind.bits, tabs, GPJ_set]); (try simp (disch := omega) only [v8W])) | ((with_reducible refine hN _ _ ?_); clear hN N; (try simp (disch := omega) only [v8W])))); (try ((with_reducible refine Fin.of ?_); (try with_reducible exact True.intro))))
  exact ⟨by simp, x, hq, rfl, rfl⟩
/-- Decode, of bytes wherever they lie. -/
def g_Dec (args : List SV) (m : List Blk) : CR :=
  match args with
  | [s] => match srcC s m with
    | some (q, k, .ints .u8 xs) => match deco xs with
      | none => .pure (q ∧ allB xs ∧ k ≤ 1000000) (.tup [.agg [.bool false, .nilsl, .nilsl], .int .u16 40])
      | some t => .rel (q ∧ allB xs ∧ k ≤ 1000000) ItY
        (fun x => ItR (Hl x.l) [.bool x.lb, .gh x.ba x.bn x.bc (.ints .u8 x.bs), .gh x.ka x.kn x.kc (.rows 3 x.rs)] t)
        (fun x => .tup [.agg [.bool x.lb, .gh x.ba x.bn x.bc (.ints .u8 x.bs), .gh x.ka x.kn x.kc (.rows 3 x.rs)], .int .u16 0])
        (fun x => bpush m (.heap x.l))
    | _ => .none
  | _ => .none
theorem g_Dec_ok (w0 : World) (B : List Nat) (args : List SV) (m : List Blk) : CROk Try.prog w0 B 18 args m (g_Dec args m) := by
  unfold g_Dec
  split
  · rename_i s
    split
    · rename_i q k xs hs
      split
      · rename_i hh
        intro ⟨hq, h3, h5⟩ w hm
        obtain ⟨h1, a, cp, h2, h4, h6, h7⟩ := src_ro hs hq hm
        have hl : xs.length = k := by simpa [cc, conEs] using h1
        have e : cvs [s] = cvs [.gh a k cp (.ints .u8 xs)] := by simp only [cvs]; rw [h2, cv_sl0]; rfl
        rw [e]
        exact calls_pure Try.func18 rfl rfl (decN_vc a k cp xs hl h4 h3 h7 h5 w (lies_of_ro h6) hh)
      · rename_i t hh
        intro ⟨hq, h3, h5⟩ w hm
        obtain ⟨h1, a, cp, h2, h4, h6, h7⟩ := src_ro hs hq hm
        have hl : xs.length = k := by simpa [cc, conEs] using h1
        have e : cvs [s] = cvs [.gh a k cp (.ints .u8 xs)] := by simp only [cvs]; rw [h2, cv_sl0]; rfl
        refine calls_heap (A := ItY) Try.func18 rfl rfl hm (i := 2) (args' := [.gh a k cp (.ints .u8 xs)]) e
          ((decY_vc a k cp xs hl h4 h3 h7 h5 w (lies_of_ro h6) t hh).mono fun e w' ⟨u, hu, v', m', hv, hm', x, o1, o2, o3⟩ => ⟨u, hu, v', m', hv, hm', x, o1, by rw [o2], o3⟩)
    · exact trivial
  · exact trivial
end Go.Proofs.Ytlogpdjcgbifhaa
