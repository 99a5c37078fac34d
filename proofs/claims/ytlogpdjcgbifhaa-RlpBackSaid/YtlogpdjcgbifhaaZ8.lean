/-
  RLP: the plain item of an item (quaestorlaw04.plain), walked: made anew, of bytes and lists only. No condition.
-/
import Derived.Test.YtlogpdjcgbifhaaZ4
namespace Go.Proofs.Ytlogpdjcgbifhaa
set_option linter.unusedSimpArgs false
set_option linter.unusedVariables false
set_option maxHeartbeats 4000000
set_option linter.defProp false
open Go.RowKit
/-- An item's plain one: what is no list, or too deep, is its bytes; a list is the list of its kids' plain ones. -/
def plainI : Nat → Itm → Itm
  | 0, .mk _ bs _ => .mk false bs []
  | d + 1, .mk l bs ks => if l = true then .mk true [] (ks.map (plainI d)) else .mk false bs []
noncomputable def g_plainD (d : Nat) (args : List SV) (m : List Blk) : CR :=
  match args with
  | [.agg l, .int .i64 p] => .grw (∃ t, ItR (HM m) l t ∧ isz t ≤ 100000 ∧ 0 ≤ p ∧ p ≤ 1000 ∧ p < d) ItY
        (fun x => ItR (Hl x.l) [.bool x.lb, .gh x.ba x.bn x.bc (.ints .u8 x.bs), .gh x.ka x.kn x.kc (.rows 3 x.rs)] (plainI p.toNat (tOf l)))
        (fun x => .agg [.bool x.lb, .gh x.ba x.bn x.bc (.ints .u8 x.bs), .gh x.ka x.kn x.kc (.rows 3 x.rs)])
        (fun x => .heap x.l)
  | _ => .none
/-- A callee that only reads, and made blocks that are kept: all that it made is new. -/
theorem calls_grw {P : Program} {f : FuncId} {fn : Func} {args args' : List SV} {w0 w : World} {B : List Nat} {m : List Blk} {i : Nat} {A : Type} {Q : A → Prop} {F : A → SV} {l : A → List (Nat × Obj)}
    (hf : P.funcs[f]? = some fn) (hn : (fn.name == "runtime.NumGoroutine") = false) (hb : fn.body.isNone = false)
    (hm : MemOk w0 B m w) (he : cvs args = cvs args') (h : Calls P f (cvs args').toArray w (fun en w' => ∃ u, en = .returned u ∧ ∃ m' x, MemOk w [] m' w' ∧ Q x ∧ u = cv (F x) ∧ bget m' i = .heap (l x))) :
    Enters P f (cvs args).toArray w fun u w' => ∃ a : A, Q a ∧ u = cv (F a) ∧ w.grownBy w' .none ∧ (Blk.heap (l a)).ok w0 B w' ∧ (∀ b ∈ (Blk.heap (l a)).nums, w.heap.size ≤ b) ∧ (Blk.heap (l a)).nums.Nodup := by
  rw [he]
  refine .inr ⟨enter_run hf hn hb _ w, h.mono fun e w' ⟨u, hu, m', x, hm', hx, hv, hk⟩ => ⟨u, hu, x, hx, hv, hm'.grown, ?_⟩⟩
  have hl := hm'.each _ (bget_mem hk (by simp))
  have hfresh : ∀ p ∈ l x, w.heap.size ≤ p.1 := fun p hp => (hl p hp).2.resolve_right List.not_mem_nil
  refine ⟨fun p hp => ⟨(hl p hp).1, .inl (Nat.le_trans hm.size (hfresh p hp))⟩, fun b hb => ?_, by have := nums_nodup (i := i) hm'.nodup; rwa [hk] at this⟩
  obtain ⟨p, hp, rfl⟩ := List.mem_map.1 hb
  exact hfresh p hp
/-- Two parts that are kept are one. -/
theorem Vc.merge {P : Program} {c : Code} {env : List SV} {m : List Blk} {K : Kont} (i j : Nat) {L l : List (Nat × Obj)} (hij : i ≠ j) (hi : bget m i = .heap L) (hj : bget m j = .heap l)
    (h : Vc P c env (bset (bset m j .gone) i (.heap (L ++ l))) K) : Vc P c env m K := by
  intro w0 B ac w hf hd hm
  refine h w0 B ac w hf hd ?_
  have hd1 := nodup_bset (e := .gone) hj (by simp) hm.nodup List.nodup_nil (fun b h => absurd h List.not_mem_nil)
  have h1 : MemOk w0 B (bset m j .gone) w := hm.set hj (by simp) trivial List.nodup_nil (fun b h => absurd h List.not_mem_nil)
  have hk1 : bget (bset m j .gone) i = .heap L := by rw [bget_set_ne _ _ hij]; exact hi
  have hLo := hm.each _ (bget_mem hi (by simp))
  have hlo := hm.each _ (bget_mem hj (by simp))
  refine h1.set hk1 (by simp) (fun p hp => ?_) ?_ (fun b hbn => ?_)
  · rcases List.mem_append.1 hp with hp | hp
    · exact hLo p hp
    · exact hlo p hp
  · simp only [Blk.nums, List.map_append]
    rw [List.nodup_append]
    refine ⟨by have := nums_nodup (i := i) hm.nodup; rwa [hi] at this, by have := nums_nodup (i := j) hm.nodup; rwa [hj] at this, fun a ha b hb => ?_⟩
    rintro rfl
    have := nums_sep hm.nodup (Ne.symm hij) (b := a) (by rw [hj]; exact hb)
    rw [hi] at this
    exact this ha
  · simp only [Blk.nums, List.map_append] at hbn
    rcases List.mem_append.1 hbn with hbn | hbn
    · exact .inl hbn
    · refine .inr fun hc => ?_
      obtain ⟨x, hx, hxb⟩ := List.mem_flatMap.1 hc
      rcases hd1.2 x hx with rfl | ⟨_, h9⟩
      · exact absurd hxb List.not_mem_nil
      · exact h9 b hbn hxb
noncomputable def GPl (d : Nat) : Ctr := fun f args m => match f with
  | 20 => g_plainD d args m
  | 17 => g_lent args m
  | _ => .none
theorem GPl_mk {d : Nat} (h_plainD : ∀ w0 B args m, CROk Try.prog w0 B 20 args m (g_plainD d args m)) : GOk Try.prog (GPl d) := by
  intro w0 B f args m; unfold GPl; split
  · exact h_plainD _ _ _ _
  · exact g_lent_ok _ _ _ _
  · exact trivial
theorem GPl_plainD {d : Nat} : GPl d 20 = g_plainD d := by funext args m; rfl
theorem GPl_lent {d : Nat} : GPl d 17 = g_lent := by funext args m; rfl
def GPl_set := And.intro (And.intro (@GPl_plainD) (@g_plainD.eq_def)) (And.intro (@GPl_lent) (@g_lent.eq_def))

set_option maxRecDepth 20000 in
theorem plainT_vc (d : Nat) (GPl_ok : GOk Try.prog (GPl d)) (b : Bool) (a a' : Option Addr) (n c n' c' : Nat) (bs : List Int) (rs : List (List SV)) (p : Int) (h1 : bs.length = n) (h2 : n ≤ c) (h3 : adr a n c) (hn : n ≤ 100000) (w : World) (h4 : LiesH (H0 w) a (cc (.ints .u8 bs))) (hb : b = false ∨ b = true ∧ p = 0) :
    Calls Try.prog 20 (cvs [.agg [.bool b, .gh a n c (.ints .u8 bs), .gh a' n' c' (.rows 3 rs)], .int .i64 p]).toArray w (fun en w' => ∃ u, en = .returned u ∧ ∃ v' m', u = cv v' ∧ MemOk w [] m' w' ∧ ∃ k s, v' = .agg [.bool false, .own k s n, .nilsl] ∧ bget m' k = .own s n 5 1 (.ints .u8 bs) ∧ bget m' 2 = .heap []) := by
  have hLx : ∀ m, allOld w ∈ m → LiesH (HM m) a (cc (.ints .u8 bs)) := fun m hin => h4.mono (H0.hm hin)
  have u1 : bs.take n = bs := List.take_of_length_le (by omega)
  have d0 : decide ((0 : Int) = 0) = true := rfl
  rcases hb with rfl | ⟨rfl, rfl⟩
  · refine Vc.calls T0_ok Try.func20 rfl rfl (args := [.agg [.bool false, .gh a n c (.ints .u8 bs), .gh a' n' c' (.rows 3 rs)], .int .i64 p]) (k := 38) rfl (old_start3 w) ?_; change Vc _ _ (c8 (.agg [.bool false, .gh a n c (.ints .u8 bs), .gh a' n' c' (.rows 3 rs)]) (.int .i64 p) .undef .undef .undef .undef .undef .undef (c8 .undef .undef .undef .undef .undef .undef .undef .undef (c8 .undef .undef .undef .undef .undef .undef .undef .undef (c8 .undef .undef .undef .undef .undef .undef .undef .undef (c8 .undef .undef .undef .undef .undef .undef .undef .undef ([])))))) _ _
    ((repeat (first | (with_reducible refine Vc.seq fun N hN => ?_) | (with_reducible refine Vc.block ?_) | ((first | with_reducible refine Vc.skip ?_ | with_reducible refine Vc.exit ?_); dsimp only [thenK, blockK, Nat.beq]; (first | (refine hN _ _ ?_; clear hN N) | skip)) | (with_reducible intro _) | ((with_reducible refine And.intro ?_ ?_); (focus (first | ((repeat' with_reducible apply And.intro) <;> first | exact sideQ | (exact hLx _ (by simp))) | exact sd0))) | ((first | ((with_reducible refine askT_of ?_ (fun hb => ?_)); (focus (first | ((repeat' with_reducible apply And.intro) <;> first | exact sideQ | (exact hLx _ (by simp))) | exact sd0)); (try simp only [hb])) | ((with_reducible refine Vc.fin ?_); dsimp only [thenK, blockK, retK, resS, resOne, resAll]) | ((with_reducible refine Vc.hold ?_); first | refine Vc.regiont T0_ok GPl_ok ?_ | refine Vc.drawt (id := 7) T0_ok GPl_ok (by kernel_rfl) [0, 1, 2, 3, 4, 5, 6, 7, 8, 9, 10] 11 [] trivial (by kernel_rfl) ?_)); (try simp only [v8X, v8A, v8B, v8C, Nat.beq, Nat.ble, Int.reduceToNat, Int.reduceLE, Int.reduceLT, Nat.reduceLT, Nat.reduceLeDiff, Nat.reduceAdd, Nat.reduceMul, Nat.reduceSub, Int.reduceAdd, Int.reduceSub, Int.reduceMul, eq_self, decide_true, beq_self_eq_true, List.length_cons, List.length_nil, Nat.min_eq_left, IntKind.bits, tabs, GPl_set, u1, List.drop_zero]); (try simp (disch := omega) only [v8W])) | ((with_reducible refine hN _ _ ?_); clear hN N; (try simp (disch := omega) only [v8W])))); (try ((with_reducible refine Fin.of ?_); (try with_reducible exact True.intro))))
    (refine Vc.cond T0_ok (t := true) (by rfl) (fun _ => ?_) (fun h => Bool.noConfusion h))
    ((repeat (first | (with_reducible refine Vc.seq fun N hN => ?_) | (with_reducible refine Vc.block ?_) | ((first | with_reducible refine Vc.skip ?_ | with_reducible refine Vc.exit ?_); dsimp only [thenK, blockK, Nat.beq]; (first | (refine hN _ _ ?_; clear hN N) | skip)) | (with_reducible intro _) | ((with_reducible refine And.intro ?_ ?_); (focus (first | ((repeat' with_reducible apply And.intro) <;> first | exact sideQ | (exact hLx _ (by simp))) | exact sd0))) | ((first | ((with_reducible refine askT_of ?_ (fun hb => ?_)); (focus (first | ((repeat' with_reducible apply And.intro) <;> first | exact sideQ | (exact hLx _ (by simp))) | exact sd0)); (try simp only [hb])) | ((with_reducible refine Vc.fin ?_); dsimp only [thenK, blockK, retK, resS, resOne, resAll]) | ((with_reducible refine Vc.hold ?_); first | refine Vc.regiont T0_ok GPl_ok ?_ | refine Vc.drawt (id := 7) T0_ok GPl_ok (by kernel_rfl) [0, 1, 2, 3, 4, 5, 6, 7, 8, 9, 10] 11 [] trivial (by kernel_rfl) ?_)); (try simp only [v8X, v8A, v8B, v8C, Nat.beq, Nat.ble, Int.reduceToNat, Int.reduceLE, Int.reduceLT, Nat.reduceLT, Nat.reduceLeDiff, Nat.reduceAdd, Nat.reduceMul, Nat.reduceSub, Int.reduceAdd, Int.reduceSub, Int.reduceMul, eq_self, decide_true, beq_self_eq_true, List.length_cons, List.length_nil, Nat.min_eq_left, IntKind.bits, tabs, GPl_set, u1, List.drop_zero]); (try simp (disch := omega) only [v8W])) | ((with_reducible refine hN _ _ ?_); clear hN N; (try simp (disch := omega) only [v8W])))); (try ((with_reducible refine Fin.of ?_); (try with_reducible exact True.intro))))
    exact ⟨by simp, _, _, rfl, rfl, trivial⟩
  · refine Vc.calls T0_ok Try.func20 rfl rfl (args := [.agg [.bool true, .gh a n c (.ints .u8 bs), .gh a' n' c' (.rows 3 rs)], .int .i64 0]) (k := 38) rfl (old_start3 w) ?_; change Vc _ _ (c8 (.agg [.bool true, .gh a n c (.ints .u8 bs), .gh a' n' c' (.rows 3 rs)]) (.int .i64 0) .undef .undef .undef .undef .undef .undef (c8 .undef .undef .undef .undef .undef .undef .undef .undef (c8 .undef .undef .undef .undef .undef .undef .undef .undef (c8 .undef .undef .undef .undef .undef .undef .undef .undef (c8 .undef .undef .undef .undef .undef .undef .undef .undef ([])))))) _ _
    ((repeat (first | (with_reducible refine Vc.seq fun N hN => ?_) | (with_reducible refine Vc.block ?_) | ((first | with_reducible refine Vc.skip ?_ | with_reducible refine Vc.exit ?_); dsimp only [thenK, blockK, Nat.beq]; (first | (refine hN _ _ ?_; clear hN N) | skip)) | (with_reducible intro _) | ((with_reducible refine And.intro ?_ ?_); (focus (first | ((repeat' with_reducible apply And.intro) <;> first | exact sideQ | (exact hLx _ (by simp))) | exact sd0))) | ((first | ((with_reducible refine askT_of ?_ (fun hb => ?_)); (focus (first | ((repeat' with_reducible apply And.intro) <;> first | exact sideQ | (exact hLx _ (by simp))) | exact sd0)); (try simp only [hb])) | ((with_reducible refine Vc.fin ?_); dsimp only [thenK, blockK, retK, resS, resOne, resAll]) | ((with_reducible refine Vc.hold ?_); first | refine Vc.regiont T0_ok GPl_ok ?_ | refine Vc.drawt (id := 7) T0_ok GPl_ok (by kernel_rfl) [0, 1, 2, 3, 4, 5, 6, 7, 8, 9, 10] 11 [] trivial (by kernel_rfl) ?_)); (try simp only [v8X, v8A, v8B, v8C, Nat.beq, Nat.ble, Int.reduceToNat, Int.reduceLE, Int.reduceLT, Nat.reduceLT, Nat.reduceLeDiff, Nat.reduceAdd, Nat.reduceMul, Nat.reduceSub, Int.reduceAdd, Int.reduceSub, Int.reduceMul, eq_self, decide_true, beq_self_eq_true, List.length_cons, List.length_nil, Nat.min_eq_left, IntKind.bits, tabs, GPl_set, u1, List.drop_zero, d0]); (try simp (disch := omega) only [v8W])) | ((with_reducible refine hN _ _ ?_); clear hN N; (try simp (disch := omega) only [v8W])))); (try ((with_reducible refine Fin.of ?_); (try with_reducible exact True.intro))))
    (refine Vc.cond T0_ok (t := true) (by rfl) (fun _ => ?_) (fun h => Bool.noConfusion h))
    ((repeat (first | (with_reducible refine Vc.seq fun N hN => ?_) | (with_reducible refine Vc.block ?_) | ((first | with_reducible refine Vc.skip ?_ | with_reducible refine Vc.exit ?_); dsimp only [thenK, blockK, Nat.beq]; (first | (refine hN _ _ ?_; clear hN N) | skip)) | (with_reducible intro _) | ((with_reducible refine And.intro ?_ ?_); (focus (first | ((repeat' with_reducible apply And.intro) <;> first | exact sideQ | (exact hLx _ (by simp))) | exact sd0))) | ((first | ((with_reducible refine askT_of ?_ (fun hb => ?_)); (focus (first | ((repeat' with_reducible apply And.intro) <;> first | exact sideQ | (exact hLx _ (by simp))) | exact sd0)); (try simp only [hb])) | ((with_reducible refine Vc.fin ?_); dsimp only [thenK, blockK, retK, resS, resOne, resAll]) | ((with_reducible refine Vc.hold ?_); first | refine Vc.regiont T0_ok GPl_ok ?_ | refine Vc.drawt (id := 7) T0_ok GPl_ok (by kernel_rfl) [0, 1, 2, 3, 4, 5, 6, 7, 8, 9, 10] 11 [] trivial (by kernel_rfl) ?_)); (try simp only [v8X, v8A, v8B, v8C, Nat.beq, Nat.ble, Int.reduceToNat, Int.reduceLE, Int.reduceLT, Nat.reduceLT, Nat.reduceLeDiff, Nat.reduceAdd, Nat.reduceMul, Nat.reduceSub, Int.reduceAdd, Int.reduceSub, Int.reduceMul, eq_self, decide_true, beq_self_eq_true, List.length_cons, List.length_nil, Nat.min_eq_left, IntKind.bits, tabs, GPl_set, u1, List.drop_zero]); (try simp (disch := omega) only [v8W])) | ((with_reducible refine hN _ _ ?_); clear hN N; (try simp (disch := omega) only [v8W])))); (try ((with_reducible refine Fin.of ?_); (try with_reducible exact True.intro))))
    exact ⟨by simp, _, _, rfl, rfl, trivial⟩
set_option maxRecDepth 20000 in
theorem plainL_vc (d : Nat) (GPl_ok : GOk Try.prog (GPl d)) (a a' : Option Addr) (n c n' c' : Nat) (bs : List Int) (rs : List (List SV)) (ks : List Itm) (p : Int) (hp : 1 ≤ p ∧ p ≤ 1000 ∧ p ≤ d) (h6 : rs.length = n') (h7 : n' ≤ c') (h8 : adr a' n' c') (h9 : ∀ r ∈ rs, r.length = 3) (h11 : rs.length = ks.length) (hn : n' ≤ maxLen) (w : World) (h10 : LiesH (H0 w) a' (cc (.rows 3 rs))) (h12 : ∀ (i : Nat) (r : List SV) (k : Itm), rs[i]? = some r → ks[i]? = some k → ItR (H0 w) r k) (hz : iszL ks ≤ 100000) :
    Calls Try.prog 20 (cvs [.agg [.bool true, .gh a n c (.ints .u8 bs), .gh a' n' c' (.rows 3 rs)], .int .i64 p]).toArray w (fun en w' => ∃ u, en = .returned u ∧ ∃ v' m', u = cv v' ∧ MemOk w [] m' w' ∧ ∃ (l : List (Nat × Obj)) (qs : List (List SV)) (s : Value), v' = .agg [.bool true, .nilsl, .own 6 s n'] ∧ bget m' 6 = .own s n' 25 3 (.rows 3 qs) ∧ bget m' 2 = .heap l ∧ qs.length = n' ∧ (∀ r ∈ qs, r.length = 3) ∧ (∀ (i : Nat) (r : List SV) (k : Itm), qs[i]? = some r → ks[i]? = some k → ItR (Hl l) r (plainI (p.toNat - 1) k))) := by
  have hLr : ∀ m, allOld w ∈ m → LiesH (HM m) a' (cc (.rows 3 rs)) := fun m hin => h10.mono (H0.hm hin)
  have d0 : decide (p = 0) = false := decide_eq_false (by omega)
  have hm64 : n' ≤ 9223372036854775807 := by unfold maxLen at hn; omega
  refine Vc.calls T0_ok Try.func20 rfl rfl (args := [.agg [.bool true, .gh a n c (.ints .u8 bs), .gh a' n' c' (.rows 3 rs)], .int .i64 p]) (k := 38) rfl (old_start3 w) ?_; change Vc _ _ (c8 (.agg [.bool true, .gh a n c (.ints .u8 bs), .gh a' n' c' (.rows 3 rs)]) (.int .i64 p) .undef .undef .undef .undef .undef .undef (c8 .undef .undef .undef .undef .undef .undef .undef .undef (c8 .undef .undef .undef .undef .undef .undef .undef .undef (c8 .undef .undef .undef .undef .undef .undef .undef .undef (c8 .undef .undef .undef .undef .undef .undef .undef .undef ([])))))) _ _
  ((repeat (first | (with_reducible refine Vc.seq fun N hN => ?_) | (with_reducible refine Vc.block ?_) | ((first | with_reducible refine Vc.skip ?_ | with_reducible refine Vc.exit ?_); dsimp only [thenK, blockK, Nat.beq]; (first | (refine hN _ _ ?_; clear hN N) | skip)) | (with_reducible intro _) | ((with_reducible refine And.intro ?_ ?_); (focus (first | ((repeat' with_reducible apply And.intro) <;> first | exact sideQ | (exact hLr _ (by simp))) | exact sd0))) | ((first | ((with_reducible refine askT_of ?_ (fun hb => ?_)); (focus (first | ((repeat' with_reducible apply And.intro) <;> first | exact sideQ | (exact hLr _ (by simp))) | exact sd0)); (try simp only [hb])) | ((with_reducible refine Vc.fin ?_); dsimp only [thenK, blockK, retK, resS, resOne, resAll]) | ((with_reducible refine Vc.hold ?_); first | refine Vc.regiont T0_ok GPl_ok ?_ | refine Vc.drawt (id := 7) T0_ok GPl_ok (by kernel_rfl) [0, 1, 2, 3, 4, 5, 6, 7, 8, 9, 10] 11 [] trivial (by kernel_rfl) ?_)); (try simp only [v8X, v8A, v8B, v8C, Nat.beq, Nat.ble, Int.reduceToNat, Int.reduceLE, Int.reduceLT, Nat.reduceLT, Nat.reduceLeDiff, Nat.reduceAdd, Nat.reduceMul, Nat.reduceSub, Int.reduceAdd, Int.reduceSub, Int.reduceMul, eq_self, decide_true, beq_self_eq_true, List.length_cons, List.length_nil, Nat.min_eq_left, IntKind.bits, tabs, GPl_set, d0]); (try simp (disch := omega) only [v8W])) | ((with_reducible refine hN _ _ ?_); clear hN N; (try simp (disch := omega) only [v8W])))); (try ((with_reducible refine Fin.of ?_); (try with_reducible exact True.intro))))
  (refine Vc.cond T0_ok (t := false) (by rfl) (fun h => Bool.noConfusion h) (fun _ => ?_))
  ((repeat (first | (with_reducible refine Vc.seq fun N hN => ?_) | (with_reducible refine Vc.block ?_) | ((first | with_reducible refine Vc.skip ?_ | with_reducible refine Vc.exit ?_); dsimp only [thenK, blockK, Nat.beq]; (first | (refine hN _ _ ?_; clear hN N) | skip)) | (with_reducible intro _) | ((with_reducible refine And.intro ?_ ?_); (focus (first | exact sideQ | exact sd0))) | ((first | ((with_reducible refine askT_of ?_ (fun hb => ?_)); (focus (first | exact sideQ | exact sd0)); (try simp only [hb])) | ((with_reducible refine Vc.fin ?_); dsimp only [thenK, blockK, retK, resS, resOne, resAll]) | ((with_reducible refine Vc.hold ?_); first | refine Vc.regiont T0_ok GPl_ok ?_ | refine Vc.drawt (id := 7) T0_ok GPl_ok (by kernel_rfl) [0, 1, 2, 3, 4, 5, 6, 7, 8, 9, 10] 11 [] trivial (by kernel_rfl) ?_)); (try simp only [v8X, v8A, v8B, v8C, Nat.beq, Nat.ble, Int.reduceToNat, Int.reduceLE, Int.reduceLT, Nat.reduceLT, Nat.reduceLeDiff, Nat.reduceAdd, Nat.reduceMul, Nat.reduceSub, Int.reduceAdd, Int.reduceSub, Int.reduceMul, eq_self, decide_true, beq_self_eq_true, List.length_cons, List.length_nil, Nat.min_eq_left, IntKind.bits, tabs, GPl_set]); (try simp (disch := omega) only [v8W])) | ((with_reducible refine hN _ _ ?_); clear hN N; (try simp (disch := omega) only [v8W])))); (try ((with_reducible refine Fin.of ?_); (try with_reducible exact True.intro))))
  rename_i b3 b4 _ b5
  (revert N; intro N1 hN1)
  refine Vc.recon 5 (.cells [.bool true, .nilsl, .own 6 (.slice none 0 0) 0]) rfl rfl ?_
  refine Vc.pushnil 25 3 ?_
  (simp only [v8X, v8A, v8B, v8C, Nat.beq, Nat.ble, Int.reduceToNat, Int.reduceLE, Int.reduceLT, Nat.reduceLT, Nat.reduceLeDiff, Nat.reduceAdd, Nat.reduceMul, Nat.reduceSub, Int.reduceAdd, Int.reduceSub, Int.reduceMul, eq_self, decide_true, beq_self_eq_true, List.length_cons, List.length_nil, Nat.min_eq_left, IntKind.bits, tabs])
  refine Vc.loop 6 39 (fun (x : Nat × List (Nat × Obj) × List (List SV) × Value) => [(6, .int .i64 (x.1 : Nat))]) (fun x => [.gone, allOld w, .heap x.2.1, .blk b3 25 (.cells [.bool true, .gh a n c (.ints .u8 bs), .gh a' n' c' (.rows 3 rs)]), .blk b4 25 (.cells [.bool false, .nilsl, .nilsl]), .blk b5 25 (.cells [.bool true, .nilsl, .own 6 x.2.2.2 x.1]), .own x.2.2.2 x.1 25 3 (.rows 3 x.2.2.1)])
    (fun x => x.1 ≤ n' ∧ x.2.2.1.length = x.1 ∧ (∀ r ∈ x.2.2.1, r.length = 3) ∧ (∀ (i : Nat) (r : List SV) (k : Itm), x.2.2.1[i]? = some r → ks[i]? = some k → ItR (Hl x.2.1) r (plainI (p.toNat - 1) k))) (fun x => n' - x.1) (0, [], [], .slice none 0 0) ⟨⟨Nat.zero_le _, rfl, fun _ h => absurd h List.not_mem_nil, fun i r k h => by simp at h⟩, ?_, ?_⟩ (fun x junk hx2 => ?_)
  · ((try simp only [v8X, v8A, v8B, v8C, Nat.beq, Nat.ble, Int.reduceToNat, Int.reduceLE, Int.reduceLT, Nat.reduceLT, Nat.reduceLeDiff, Nat.reduceAdd, Nat.reduceMul, Nat.reduceSub, Int.reduceAdd, Int.reduceSub, Int.reduceMul, eq_self, decide_true, beq_self_eq_true, List.length_cons, List.length_nil, Nat.min_eq_left, IntKind.bits, tabs]); (repeat' with_reducible apply And.intro) <;> first | with_reducible exact True.intro | rfl | with_reducible rfl | (congr 1 <;> omega) | trivial)
  · ((try simp only [v8X, v8A, v8B, v8C, Nat.beq, Nat.ble, Int.reduceToNat, Int.reduceLE, Int.reduceLT, Nat.reduceLT, Nat.reduceLeDiff, Nat.reduceAdd, Nat.reduceMul, Nat.reduceSub, Int.reduceAdd, Int.reduceSub, Int.reduceMul, eq_self, decide_true, beq_self_eq_true, List.length_cons, List.length_nil, Nat.min_eq_left, IntKind.bits, tabs]); (repeat' with_reducible apply And.intro) <;> first | with_reducible exact True.intro | rfl | with_reducible rfl | (congr 1 <;> omega) | trivial)
  · obtain ⟨k, L, R, v⟩ := x
    simp only at hx2 ⊢
    obtain ⟨hk1, p2, p3, p4⟩ := hx2
    (simp only [v8X, v8A, v8B, v8C, Nat.beq, Nat.ble, Int.reduceToNat, Int.reduceLE, Int.reduceLT, Nat.reduceLT, Nat.reduceLeDiff, Nat.reduceAdd, Nat.reduceMul, Nat.reduceSub, Int.reduceAdd, Int.reduceSub, Int.reduceMul, eq_self, decide_true, beq_self_eq_true, List.length_cons, List.length_nil, Nat.min_eq_left, IntKind.bits, tabs])
    by_cases hc1 : k < n'
    · have e0 : decide ((k : Int) < (n' : Int)) = true := decide_eq_true (by omega)
      have e1 := List.getElem?_eq_getElem (show k < rs.length by omega)
      have e2 := List.getElem?_eq_getElem (show k < ks.length by omega)
      have hkid := h12 k _ _ e1 e2
      have hsz := iszL_get e2
      have hti := tOf_eq hkid
      have hP : ∀ M, allOld w ∈ M → ∃ t, ItR (HM M) rs[k] t ∧ isz t ≤ 100000 ∧ 0 ≤ p - 1 ∧ p - 1 ≤ 1000 ∧ p - 1 < (d : Int) := fun M hin => ⟨_, hkid.mono (H0.hm hin), by omega, by omega, by omega, by omega⟩
      have hgd := getD_of e1
      have hpn : (p - 1).toNat = p.toNat - 1 := by omega
      generalize rs[k] = r at *
      generalize ks[k] = kk at *
      cases hkid with
      | @mk l2 a2 a2' m2 c2 m2' c2' bs2 rs2 ks2 g1 g2 g3 g4 g5 g6 g7 g8 g9 g10 g11 g12 g13 g14 =>
        ((repeat (first | (with_reducible refine Vc.seq fun N hN => ?_) | (with_reducible refine Vc.block ?_) | ((first | with_reducible refine Vc.skip ?_ | with_reducible refine Vc.exit ?_); dsimp only [thenK, blockK, Nat.beq]; (first | (refine hN _ _ ?_; clear hN N) | skip)) | (with_reducible intro _) | ((with_reducible refine And.intro ?_ ?_); (focus (first | ((repeat' with_reducible apply And.intro) <;> first | exact sideQ | (exact hLr _ (by simp))) | exact sd0))) | ((first | ((with_reducible refine askT_of ?_ (fun hb => ?_)); (focus (first | ((repeat' with_reducible apply And.intro) <;> first | exact sideQ | (exact hLr _ (by simp))) | exact sd0)); (try simp only [hb])) | ((with_reducible refine Vc.fin ?_); dsimp only [thenK, blockK, retK, resS, resOne, resAll]) | ((with_reducible refine Vc.hold ?_); first | refine Vc.regiont T0_ok GPl_ok ?_ | refine Vc.drawt (id := 7) T0_ok GPl_ok (by kernel_rfl) [0, 1, 2, 3, 4, 5, 6, 7, 8, 9, 10] 11 [] trivial (by kernel_rfl) ?_)); (try simp only [v8X, v8A, v8B, v8C, Nat.beq, Nat.ble, Int.reduceToNat, Int.reduceLE, Int.reduceLT, Nat.reduceLT, Nat.reduceLeDiff, Nat.reduceAdd, Nat.reduceMul, Nat.reduceSub, Int.reduceAdd, Int.reduceSub, Int.reduceMul, eq_self, decide_true, beq_self_eq_true, List.length_cons, List.length_nil, Nat.min_eq_left, IntKind.bits, tabs, GPl_set, e0]); (try simp (disch := omega) only [v8W])) | ((with_reducible refine hN _ _ ?_); clear hN N; (try simp (disch := omega) only [v8W])))); (try ((with_reducible refine Fin.of ?_); (try with_reducible exact True.intro))))
        (refine Vc.cond T0_ok (t := true) (by rfl) (fun _ => ?_) (fun h => Bool.noConfusion h))
        ((repeat (first | (with_reducible refine Vc.seq fun N hN => ?_) | (with_reducible refine Vc.block ?_) | ((first | with_reducible refine Vc.skip ?_ | with_reducible refine Vc.exit ?_); dsimp only [thenK, blockK, Nat.beq]; (first | (refine hN _ _ ?_; clear hN N) | skip)) | (with_reducible intro _) | ((with_reducible refine And.intro ?_ ?_); (focus (first | ((repeat' with_reducible apply And.intro) <;> first | exact sideQ | (exact hLr _ (by simp)) | (exact hP _ (by simp)) | (simp [noAlias]; done)) | exact sd0))) | ((first | ((with_reducible refine askT_of ?_ (fun hb => ?_)); (focus (first | ((repeat' with_reducible apply And.intro) <;> first | exact sideQ | (exact hLr _ (by simp)) | (exact hP _ (by simp)) | (simp [noAlias]; done)) | exact sd0)); (try simp only [hb])) | ((with_reducible refine Vc.fin ?_); dsimp only [thenK, blockK, retK, resS, resOne, resAll]) | ((with_reducible refine Vc.hold ?_); first | refine Vc.regiont T0_ok GPl_ok ?_ | refine Vc.drawt (id := 7) T0_ok GPl_ok (by kernel_rfl) [0, 1, 2, 3, 4, 5, 6, 7, 8, 9, 10] 11 [] trivial (by kernel_rfl) ?_)); (try simp only [v8X, v8A, v8B, v8C, Nat.beq, Nat.ble, Int.reduceToNat, Int.reduceLE, Int.reduceLT, Nat.reduceLT, Nat.reduceLeDiff, Nat.reduceAdd, Nat.reduceMul, Nat.reduceSub, Int.reduceAdd, Int.reduceSub, Int.reduceMul, eq_self, decide_true, beq_self_eq_true, List.length_cons, List.length_nil, Nat.min_eq_left, IntKind.bits, tabs, GPl_set, hgd, hti, hpn, tnc, List.drop_zero, conEs.eq_def, conN.eq_def]); (try simp (disch := omega) only [v8W])) | ((with_reducible refine hN _ _ ?_); clear hN N; (try simp (disch := omega) only [v8W])))); (try ((with_reducible refine Fin.of ?_); (try with_reducible exact True.intro))))
        rename_i y hy b7
        have hcl := isz_cnt ks
        refine ⟨⟨⟨⟨trivial, trivial⟩, trivial, trivial, trivial⟩, trivial, trivial, trivial, by omega, by omega⟩, fun vO => ⟨trivial, ⟨trivial, trivial, trivial, trivial⟩, hN _ _ ?_⟩⟩
        clear hN N
        refine Vc.merge 2 7 (by decide) rfl rfl ?_
        simp only [bset]
        ((repeat (first | (with_reducible refine Vc.seq fun N hN => ?_) | (with_reducible refine Vc.block ?_) | ((first | with_reducible refine Vc.skip ?_ | with_reducible refine Vc.exit ?_); dsimp only [thenK, blockK, Nat.beq]; (first | (refine hN _ _ ?_; clear hN N) | skip)) | (with_reducible intro _) | ((with_reducible refine And.intro ?_ ?_); (focus (first | exact sideQ | exact sd0))) | ((first | ((with_reducible refine askT_of ?_ (fun hb => ?_)); (focus (first | exact sideQ | exact sd0)); (try simp only [hb])) | ((with_reducible refine Vc.fin ?_); dsimp only [thenK, blockK, retK, resS, resOne, resAll]) | ((with_reducible refine Vc.hold ?_); first | refine Vc.regiont T0_ok GPl_ok ?_ | refine Vc.drawt (id := 7) T0_ok GPl_ok (by kernel_rfl) [0, 1, 2, 3, 4, 5, 6, 7, 8, 9, 10] 11 [] trivial (by kernel_rfl) ?_)); (try simp only [v8X, v8A, v8B, v8C, Nat.beq, Nat.ble, Int.reduceToNat, Int.reduceLE, Int.reduceLT, Nat.reduceLT, Nat.reduceLeDiff, Nat.reduceAdd, Nat.reduceMul, Nat.reduceSub, Int.reduceAdd, Int.reduceSub, Int.reduceMul, eq_self, decide_true, beq_self_eq_true, List.length_cons, List.length_nil, Nat.min_eq_left, IntKind.bits, tabs, GPl_set, ]); (try simp (disch := omega) only [v8W])) | ((with_reducible refine hN _ _ ?_); clear hN N; (try simp (disch := omega) only [v8W])))); (try ((with_reducible refine Fin.of ?_); (try with_reducible exact True.intro))))
        refine ⟨(k + 1, L ++ y.l, R ++ [[.bool y.lb, .gh y.ba y.bn y.bc (.ints .u8 y.bs), .gh y.ka y.kn y.kc (.rows 3 y.rs)]], vO), ⟨by simp only; omega, by simp [p2], ?_, ?_⟩, ?_, ?_, by simp only; omega⟩
        · intro r hr1
          rcases List.mem_append.1 hr1 with h1 | h1
          · exact p3 r h1
          · rw [List.mem_singleton] at h1; subst h1; rfl
        · intro i r t h1 h2
          simp only [List.getElem?_append] at h1
          by_cases hi : i < R.length
          · rw [if_pos hi] at h1
            exact (p4 i r t h1 h2).mono fun b' o h => List.mem_append_left _ h
          · rw [if_neg hi] at h1
            have hi0 : i - R.length = 0 := by
              rcases Nat.eq_zero_or_pos (i - R.length) with h | h
              · exact h
              · rw [List.getElem?_eq_none (by simp; omega)] at h1; cases h1
            rw [hi0] at h1
            obtain rfl : i = k := by omega
            rw [e2] at h2
            simp only [List.getElem?_cons_zero, Option.some.injEq] at h1 h2
            subst h1; subst h2
            exact hy.mono fun b' o h => List.mem_append_right _ h
        · ((try simp only [v8X, v8A, v8B, v8C, Nat.beq, Nat.ble, Int.reduceToNat, Int.reduceLE, Int.reduceLT, Nat.reduceLT, Nat.reduceLeDiff, Nat.reduceAdd, Nat.reduceMul, Nat.reduceSub, Int.reduceAdd, Int.reduceSub, Int.reduceMul, eq_self, decide_true, beq_self_eq_true, List.length_cons, List.length_nil, Nat.min_eq_left, IntKind.bits, tabs]); (repeat' with_reducible apply And.intro) <;> first | with_reducible exact True.intro | rfl | with_reducible rfl | (congr 1 <;> omega) | trivial)
        · ((try simp only [v8X, v8A, v8B, v8C, Nat.beq, Nat.ble, Int.reduceToNat, Int.reduceLE, Int.reduceLT, Nat.reduceLT, Nat.reduceLeDiff, Nat.reduceAdd, Nat.reduceMul, Nat.reduceSub, Int.reduceAdd, Int.reduceSub, Int.reduceMul, eq_self, decide_true, beq_self_eq_true, List.length_cons, List.length_nil, Nat.min_eq_left, IntKind.bits, tabs]); (repeat' with_reducible apply And.intro) <;> first | with_reducible exact True.intro | rfl | with_reducible rfl | (congr 1 <;> omega) | trivial)
    · obtain rfl : k = n' := by omega
      have e0 : decide ((k : Int) < (k : Int)) = false := decide_eq_false (by omega)
      ((repeat (first | (with_reducible refine Vc.seq fun N hN => ?_) | (with_reducible refine Vc.block ?_) | ((first | with_reducible refine Vc.skip ?_ | with_reducible refine Vc.exit ?_); dsimp only [thenK, blockK, Nat.beq]; (first | (refine hN _ _ ?_; clear hN N) | skip)) | (with_reducible intro _) | ((with_reducible refine And.intro ?_ ?_); (focus (first | ((repeat' with_reducible apply And.intro) <;> first | exact sideQ | (exact hLr _ (by simp))) | exact sd0))) | ((first | ((with_reducible refine askT_of ?_ (fun hb => ?_)); (focus (first | ((repeat' with_reducible apply And.intro) <;> first | exact sideQ | (exact hLr _ (by simp))) | exact sd0)); (try simp only [hb])) | ((with_reducible refine Vc.fin ?_); dsimp only [thenK, blockK, retK, resS, resOne, resAll]) | ((with_reducible refine Vc.hold ?_); first | refine Vc.regiont T0_ok GPl_ok ?_ | refine Vc.drawt (id := 7) T0_ok GPl_ok (by kernel_rfl) [0, 1, 2, 3, 4, 5, 6, 7, 8, 9, 10] 11 [] trivial (by kernel_rfl) ?_)); (try simp only [v8X, v8A, v8B, v8C, Nat.beq, Nat.ble, Int.reduceToNat, Int.reduceLE, Int.reduceLT, Nat.reduceLT, Nat.reduceLeDiff, Nat.reduceAdd, Nat.reduceMul, Nat.reduceSub, Int.reduceAdd, Int.reduceSub, Int.reduceMul, eq_self, decide_true, beq_self_eq_true, List.length_cons, List.length_nil, Nat.min_eq_left, IntKind.bits, tabs, GPl_set, e0]); (try simp (disch := omega) only [v8W])) | ((with_reducible refine hN _ _ ?_); clear hN N; (try simp (disch := omega) only [v8W])))); (try ((with_reducible refine Fin.of ?_); (try with_reducible exact True.intro))))
      (refine Vc.cond T0_ok (t := false) (by rfl) (fun h => Bool.noConfusion h) (fun _ => ?_))
      ((repeat (first | (with_reducible refine Vc.seq fun N hN => ?_) | (with_reducible refine Vc.block ?_) | ((first | with_reducible refine Vc.skip ?_ | with_reducible refine Vc.exit ?_); dsimp only [thenK, blockK, Nat.beq]; (first | (refine hN _ _ ?_; clear hN N) | skip)) | (with_reducible intro _) | ((with_reducible refine And.intro ?_ ?_); (focus (first | exact sideQ | exact sd0))) | ((first | ((with_reducible refine askT_of ?_ (fun hb => ?_)); (focus (first | exact sideQ | exact sd0)); (try simp only [hb])) | ((with_reducible refine Vc.fin ?_); dsimp only [thenK, blockK, retK, resS, resOne, resAll]) | ((with_reducible refine Vc.hold ?_); first | refine Vc.regiont T0_ok GPl_ok ?_ | refine Vc.drawt (id := 7) T0_ok GPl_ok (by kernel_rfl) [0, 1, 2, 3, 4, 5, 6, 7, 8, 9, 10] 11 [] trivial (by kernel_rfl) ?_)); (try simp only [v8X, v8A, v8B, v8C, Nat.beq, Nat.ble, Int.reduceToNat, Int.reduceLE, Int.reduceLT, Nat.reduceLT, Nat.reduceLeDiff, Nat.reduceAdd, Nat.reduceMul, Nat.reduceSub, Int.reduceAdd, Int.reduceSub, Int.reduceMul, eq_self, decide_true, beq_self_eq_true, List.length_cons, List.length_nil, Nat.min_eq_left, IntKind.bits, tabs, GPl_set]); (try simp (disch := omega) only [v8W])) | ((with_reducible refine hN _ _ ?_); clear hN N; (try simp (disch := omega) only [v8W])))); (try ((with_reducible refine Fin.of ?_); (try with_reducible exact True.intro))))
      (refine hN1 _ _ ?_; (try clear hN N); clear hN1 N1)
      ((repeat (first | (with_reducible refine Vc.seq fun N hN => ?_) | (with_reducible refine Vc.block ?_) | ((first | with_reducible refine Vc.skip ?_ | with_reducible refine Vc.exit ?_); dsimp only [thenK, blockK, Nat.beq]; (first | (refine hN _ _ ?_; clear hN N) | skip)) | (with_reducible intro _) | ((with_reducible refine And.intro ?_ ?_); (focus (first | exact sideQ | exact sd0))) | ((first | ((with_reducible refine askT_of ?_ (fun hb => ?_)); (focus (first | exact sideQ | exact sd0)); (try simp only [hb])) | ((with_reducible refine Vc.fin ?_); dsimp only [thenK, blockK, retK, resS, resOne, resAll]) | ((with_reducible refine Vc.hold ?_); first | refine Vc.regiont T0_ok GPl_ok ?_ | refine Vc.drawt (id := 7) T0_ok GPl_ok (by kernel_rfl) [0, 1, 2, 3, 4, 5, 6, 7, 8, 9, 10] 11 [] trivial (by kernel_rfl) ?_)); (try simp only [v8X, v8A, v8B, v8C, Nat.beq, Nat.ble, Int.reduceToNat, Int.reduceLE, Int.reduceLT, Nat.reduceLT, Nat.reduceLeDiff, Nat.reduceAdd, Nat.reduceMul, Nat.reduceSub, Int.reduceAdd, Int.reduceSub, Int.reduceMul, eq_self, decide_true, beq_self_eq_true, List.length_cons, List.length_nil, Nat.min_eq_left, IntKind.bits, tabs, GPl_set]); (try simp (disch := omega) only [v8W])) | ((with_reducible refine hN _ _ ?_); clear hN N; (try simp (disch := omega) only [v8W])))); (try ((with_reducible refine Fin.of ?_); (try with_reducible exact True.intro))))
      exact ⟨by simp, L, R, v, rfl, rfl, rfl, p2, p3, p4⟩
theorem plain_all : ∀ d w0 B args m, CROk Try.prog w0 B 20 args m (g_plainD d args m)
  | 0 => fun w0 B args m => by
    unfold g_plainD
    split
    · exact fun ⟨_, _, _, h1, _, h2⟩ => absurd h2 (by simpa using h1)
    · exact trivial
  | d + 1 => fun w0 B args m => by
    have G := GPl_mk (plain_all d)
    unfold g_plainD
    split
    · rename_i l p
      intro ⟨t, hI, hz, q0, q1, q2⟩ w hm
      have hI0 := it_old hm hI
      rw [tOf_eq hI]
      cases hI0 with
      | @mk b a a' n c n' c' bs rs ks h1 h2 h3 h4 h5 h6 h7 h8 h9 h10 h11 h12 h13 h14 =>
        simp only [isz] at hz
        by_cases hb : b = false ∨ b = true ∧ p = 0
        · have hpl : plainI p.toNat (.mk b bs ks) = .mk false bs [] := by
            rcases hb with rfl | ⟨rfl, rfl⟩
            · cases p.toNat <;> rfl
            · rfl
          rw [hpl]
          refine calls_grw (A := ItY) Try.func20 rfl rfl hm (i := 2) (args' := [.agg [.bool b, .gh a n c (.ints .u8 bs), .gh a' n' c' (.rows 3 rs)], .int .i64 p]) rfl
            ((plainT_vc d G b a a' n c n' c' bs rs p h1 h2 h3 (by omega) w h4 hb).mono fun e w' ⟨u, hu, v', m', hv, hm', k, s, o1, o2, o3⟩ => ⟨u, hu, ?_⟩)
          have hk2 : k ≠ 2 := by rintro rfl; rw [o2] at o3; cases o3
          obtain ⟨l2, ba, bc, e1, e2, e3, e4, e5, e6, e7⟩ := freeze hm' o2 o3
          refine ⟨_, ⟨false, ba, n, bc, bs, none, 0, 0, [], l2⟩, e7, ?_, ?_, freeze_heap _ (Ne.symm hk2) o3⟩
          · exact .mk h1 e3 e2 e6 h5 rfl (Nat.le_refl _) (.inr ⟨rfl, rfl, rfl⟩) (fun _ h => absurd h List.not_mem_nil) (.inl rfl) rfl (fun i r k h => by simp at h) e4 (Nat.zero_le _)
          · rw [hv, o1]
            simp only [cv, cvs, e1]
            rfl
        · obtain rfl : b = true := by
            cases b with
            | true => rfl
            | false => exact absurd (.inl rfl) hb
          have hp0 : p ≠ 0 := fun h => hb (.inr ⟨rfl, h⟩)
          obtain ⟨q, hq⟩ : ∃ q, p.toNat = q + 1 := ⟨p.toNat - 1, by omega⟩
          have hpl : plainI p.toNat (.mk true bs ks) = .mk true [] (ks.map (plainI q)) := by rw [hq]; rfl
          rw [hpl]
          refine calls_grw (A := ItY) Try.func20 rfl rfl hm (i := 2) (args' := [.agg [.bool true, .gh a n c (.ints .u8 bs), .gh a' n' c' (.rows 3 rs)], .int .i64 p]) rfl
            ((plainL_vc d G a a' n c n' c' bs rs ks p ⟨by omega, q1, by omega⟩ h6 h7 h8 h9 h11 h14 w h10 h12 (by omega)).mono fun e w' ⟨u, hu, v', m', hv, hm', l1, qs, s, o1, o2, o3, o4, o5, o6⟩ => ⟨u, hu, ?_⟩)
          obtain ⟨l2, ka, kc, e1, e2, e3, e4, e5, e6, e7⟩ := freeze hm' o2 o3
          refine ⟨_, ⟨true, none, 0, 0, [], ka, n', kc, qs, l1 ++ l2⟩, e7, ?_, ?_, freeze_heap _ (by decide) o3⟩
          · refine .mk rfl (Nat.le_refl _) (.inr ⟨rfl, rfl, rfl⟩) (.inl rfl) (fun _ h => absurd h List.not_mem_nil) o4 e3 e2 o5 (e6.mono fun b o h => List.mem_append_right _ h) (by rw [List.length_map]; show qs.length = ks.length; omega) (fun i r k g1 g2 => ?_) (Nat.zero_le _) e4
            rw [List.getElem?_map] at g2
            cases hk : ks[i]? with
            | none => rw [hk] at g2; cases g2
            | some t =>
              rw [hk] at g2
              obtain rfl : plainI q t = k := by simpa using g2
              have := (o6 i r t g1 hk).mono (H' := Hl (l1 ++ l2)) fun b o h => List.mem_append_left _ h
              rwa [hq] at this
          · rw [hv, o1]
            simp only [cv, cvs, e1]
            rfl
    · exact trivial
noncomputable def g_plain (args : List SV) (m : List Blk) : CR :=
  match args with
  | [.agg l, .int .i64 p] => .grw (p = 60 ∧ ∃ t, ItR (HM m) l t ∧ isz t ≤ 100000) ItY
        (fun x => ItR (Hl x.l) [.bool x.lb, .gh x.ba x.bn x.bc (.ints .u8 x.bs), .gh x.ka x.kn x.kc (.rows 3 x.rs)] (plainI 60 (tOf l)))
        (fun x => .agg [.bool x.lb, .gh x.ba x.bn x.bc (.ints .u8 x.bs), .gh x.ka x.kn x.kc (.rows 3 x.rs)])
        (fun x => .heap x.l)
  | _ => .none
theorem g_plain_ok (w0 : World) (B : List Nat) (args : List SV) (m : List Blk) : CROk Try.prog w0 B 20 args m (g_plain args m) := by
  unfold g_plain
  split
  · rename_i l p
    intro ⟨hp, t, hI, hz⟩ w hm
    subst hp
    exact plain_all 61 w0 B [.agg l, .int .i64 60] m ⟨t, hI, hz, by decide, by decide, by decide⟩ w hm
  · exact trivial
theorem iszL_map {f : Itm → Itm} (h : ∀ t, isz (f t) ≤ isz t) : ∀ ks : List Itm, iszL (ks.map f) ≤ iszL ks
  | [] => Nat.le_refl _
  | k :: ks => by simp only [List.map_cons, iszL]; have := h k; have := iszL_map h ks; omega
theorem cntL_map {f : Itm → Itm} (h : ∀ t, cntI (f t) ≤ cntI t) : ∀ ks : List Itm, cntL (ks.map f) ≤ cntL ks
  | [] => Nat.le_refl _
  | k :: ks => by simp only [List.map_cons, cntL]; have := h k; have := cntL_map h ks; omega
theorem plain_isz : ∀ (d : Nat) (t : Itm), isz (plainI d t) ≤ isz t
  | 0, .mk l bs ks => by simp only [plainI, isz, iszL]; omega
  | d + 1, .mk l bs ks => by
    simp only [plainI]
    split
    · simp only [isz, List.length_nil]; have := iszL_map (plain_isz d) ks; omega
    · simp only [isz, iszL]; omega
theorem plain_cnt : ∀ (d : Nat) (t : Itm), cntI (plainI d t) ≤ cntI t
  | 0, .mk l bs ks => by simp only [plainI, cntI, cntL]; omega
  | d + 1, .mk l bs ks => by
    simp only [plainI]
    split
    · simp only [cntI]; have := cntL_map (plain_cnt d) ks; omega
    · simp only [cntI, cntL]; omega
theorem plain_ok : ∀ (d e : Nat) (t : Itm), d < e → okI e (plainI d t)
  | _, 0, _, h => absurd h (Nat.not_lt_zero _)
  | 0, e + 1, .mk l bs ks, _ => rfl
  | d + 1, e + 1, .mk l bs ks, h => by
    simp only [plainI]
    split
    · refine ⟨rfl, fun k hk => ?_⟩
      obtain ⟨t, _, rfl⟩ := List.mem_map.1 hk
      exact plain_ok d e t (by omega)
    · rfl
end Go.Proofs.Ytlogpdjcgbifhaa
