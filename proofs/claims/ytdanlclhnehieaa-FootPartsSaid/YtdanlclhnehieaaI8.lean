/-
  Law FootParts, walked. No condition.
-/
import Derived.Test.YtdanlclhnehieaaI7
namespace Go.Proofs.Ytdanlclhnehieaa
set_option linter.unusedSimpArgs false
set_option linter.unusedVariables false
set_option maxHeartbeats 4000000
set_option linter.defProp false
open Go.RowKit
theorem Vc.nilownR {P : Program} {c : Code} {env : List SV} {m : List Blk} {K : Kont} (i : Nat) (t : TypeId) (es : Nat) (h0 : sget env i = .nilsl)
    (h : Vc P c (sset env i (.own (blen m) (.slice none 0 0) 0)) (bpush m (.own (.slice none 0 0) 0 t es (.rows es []))) K) : Vc P c env m K := by
  intro w0 B a w hf hd hm
  refine h w0 B a w (by unfold Fr at *; rw [cvs_sset_same env i (by rw [h0]; rfl)]; exact hf) hd ?_
  rw [bpush_eq]
  refine hm.push (grown_refl w) ⟨⟨by simp [cc], .inl ⟨rfl, rfl⟩⟩, fun b hb => by simp [Value.ownBlock] at hb⟩ (fun b hb => ?_)
  simp [Blk.nums, Value.ownBlock] at hb
set_option maxRecDepth 20000 in
theorem anyIn_flat (fs : List FtD) (F : FtD → List (List Int)) (S : List (List Int)) : anyIn (fs.flatMap F) S = fs.any fun f => anyIn (F f) S := by
  unfold anyIn; rw [List.any_flatMap]
theorem anyIn_flat2 (fs : List FtD) (F : FtD → List (List Int)) (l : List (List Int)) : anyIn l (fs.flatMap F) = fs.any fun f => anyIn l (F f) := by
  unfold anyIn
  rw [Bool.eq_iff_iff, List.any_eq_true, List.any_eq_true]
  constructor
  · rintro ⟨c, h1, h2⟩
    obtain ⟨f, h3, h4⟩ := List.mem_flatMap.1 (of_decide_eq_true h2)
    exact ⟨f, h3, List.any_eq_true.2 ⟨c, h1, decide_eq_true h4⟩⟩
  · rintro ⟨f, h3, h4⟩
    obtain ⟨c, h1, h2⟩ := List.any_eq_true.1 h4
    exact ⟨c, h1, decide_eq_true (List.mem_flatMap.2 ⟨f, h3, of_decide_eq_true h2⟩)⟩
theorem any_or3 {α : Type} (p q r : α → Bool) : ∀ l : List α, (l.any p || (l.any q || l.any r)) = l.any fun x => (p x || (q x || r x))
  | [] => rfl
  | x :: l => by
    rw [List.any_cons, List.any_cons, List.any_cons, List.any_cons, ← any_or3 p q r l]
    cases p x <;> cases q x <;> cases r x <;> cases l.any p <;> cases l.any q <;> cases l.any r <;> rfl
theorem meets_any (r w : List (List Int)) (fs : List FtD) : meetsD r w (rdU fs) (wrU fs) = fs.any fun f => meetsD r w f.l1 f.l2 := by
  unfold meetsD rdU wrU
  rw [anyIn_flat, anyIn_flat, anyIn_flat2, any_or3]
theorem SetL.iff {R u : List (List Int)} (h : SetL (addF noF R) u) (hR : ∀ c ∈ R, okP c) (x : List Int) : x ∈ u ↔ x ∈ R :=
  ⟨fun hx => (addF_some R x).1 ((h.mem x (h.ok x hx)).1 hx), fun hx => (h.mem x (hR x hx)).2 ((addF_some R x).2 hx)⟩
theorem anyIn_iff1 {u R S : List (List Int)} (h : ∀ x, x ∈ u ↔ x ∈ R) : anyIn u S = anyIn R S := by
  unfold anyIn
  rw [Bool.eq_iff_iff, List.any_eq_true, List.any_eq_true]
  exact ⟨fun ⟨c, h1, h2⟩ => ⟨c, (h c).1 h1, h2⟩, fun ⟨c, h1, h2⟩ => ⟨c, (h c).2 h1, h2⟩⟩
theorem anyIn_iff2 {u R l : List (List Int)} (h : ∀ x, x ∈ u ↔ x ∈ R) : anyIn l u = anyIn l R := by
  unfold anyIn
  congr 1
  funext c
  exact decide_eq_decide.2 (h c)
theorem meets_set {r w u1 u2 R Wr : List (List Int)} (h1 : ∀ x, x ∈ u1 ↔ x ∈ R) (h2 : ∀ x, x ∈ u2 ↔ x ∈ Wr) : meetsD r w u1 u2 = meetsD r w R Wr := by
  unfold meetsD; rw [anyIn_iff1 h1, anyIn_iff1 h2, anyIn_iff2 h2]
theorem SetL.short {R u : List (List Int)} (h : SetL (addF noF R) u) : u.length ≤ R.length :=
  nodup_le (h.rises.imp fun {a b} hab e => by rw [e, plLt_irrefl] at hab; cases hab) fun x hx => (addF_some R x).1 ((h.mem x (h.ok x hx)).1 hx)
theorem set_same {R R' u v : List (List Int)} (h1 : SetL (addF noF R) u) (h2 : SetL (addF noF R') v) (hR : ∀ c ∈ R, okP c) (hR' : ∀ c ∈ R', okP c) (h : ∀ x, x ∈ R ↔ x ∈ R') : u = v :=
  rises_eq h1.rises h2.rises fun x => (h1.iff hR x).trans ((h x).trans (h2.iff hR' x).symm)
def lns (fs : List FtD) : List (Nat × Nat) := fs.map fun f => (f.n1, f.n2)
theorem lns_eq (fs : List FtD) : (fs.map ftRow).map lnOf = lns fs := by rw [List.map_map]; rfl
theorem ftRows_ok : ∀ fs : List FtD, rowsOk 2 (fs.map ftRow) = true
  | [] => rfl
  | f :: fs => by rw [List.map_cons]; unfold rowsOk; rw [ftRows_ok fs]; rfl
theorem any_take {fs : List FtD} {k : Nat} {g : FtD} (F : FtD → Bool) (h : fs[k]? = some g) : (fs.take (k + 1)).any F = ((fs.take k).any F || F g) := by
  rw [List.take_add_one, h, List.any_append]; simp
theorem back_take {fs : List FtD} {k : Nat} {g : FtD} (hk : k < fs.length) (h : fs[fs.length - 1 - k]? = some g) : (fs.reverse.take (k + 1)).map ftRow = (fs.reverse.take k).map ftRow ++ [ftRow g] := by
  have : fs.reverse[k]? = some g := by rw [List.getElem?_reverse hk]; exact h
  rw [List.take_add_one, this, List.map_append]; rfl
theorem rdU_rev (fs : List FtD) (x : List Int) : x ∈ rdU fs ↔ x ∈ rdU fs.reverse := by
  unfold rdU; simp only [List.mem_flatMap, List.mem_reverse]
theorem wrU_rev (fs : List FtD) (x : List Int) : x ∈ wrU fs ↔ x ∈ wrU fs.reverse := by
  unfold wrU; simp only [List.mem_flatMap, List.mem_reverse]
noncomputable def GI9 : Ctr := fun f args m => match f with
  | 8 => g_meets args m
  | 10 => g_touches args m
  | 5 => g_fheavy args m
  | 6 => g_fknown args m
  | 7 => g_union args m
  | 9 => g_sameFt args m
  | _ => .none
theorem GI9_ok : GOk Try.prog GI9 := by
  intro w0 B f args m; unfold GI9; split
  · exact g_meets_ok _ _ _ _
  · exact g_touches_ok _ _ _ _
  · exact g_fheavy_ok _ _ _ _
  · exact g_fknown_ok _ _ _ _
  · exact g_union_ok _ _ _ _
  · exact g_sameFt_ok _ _ _ _
  · exact trivial
theorem GI9_meets : GI9 8 = g_meets := by funext args m; rfl
theorem GI9_touches : GI9 10 = g_touches := by funext args m; rfl
theorem GI9_fheavy : GI9 5 = g_fheavy := by funext args m; rfl
theorem GI9_fknown : GI9 6 = g_fknown := by funext args m; rfl
theorem GI9_union : GI9 7 = g_union := by funext args m; rfl
theorem GI9_sameFt : GI9 9 = g_sameFt := by funext args m; rfl
def GI9_set := And.intro (And.intro (And.intro (@GI9_meets) (And.intro (@g_meets.eq_def) (@GI9_touches))) (And.intro (@g_touches.eq_def) (And.intro (@GI9_fheavy) (@g_fheavy.eq_def)))) (And.intro (And.intro (@GI9_fknown) (And.intro (@g_fknown.eq_def) (@GI9_union))) (And.intro (@g_union.eq_def) (And.intro (@GI9_sameFt) (@g_sameFt.eq_def))))

set_option maxRecDepth 20000 in
theorem footParts_law (f : FtD) (a : Option Addr) (n c : Nat) (fs : List FtD) (w : World) (h_f : FtOk (H0 w) f) (hl : fs.length = n) (hn : n ≤ c) (ha : adr a n c) (hM : n ≤ maxLen) (hL : LiesH (H0 w) a (cc (.rows 2 (fs.map ftRow)))) (hF : ∀ g ∈ fs, FtOk (H0 w) g) :
    Calls Try.prog 3 (cvs [.agg [.gh f.a1 f.n1 f.c1 (.rows 25 (f.l1.map plL)), .gh f.a2 f.n2 f.c2 (.rows 25 (f.l2.map plL))], .gh a n c (.rows 2 (fs.map ftRow))]).toArray w (Yes w) := by
  have hrow1 : ∀ r ∈ fs.map ftRow, ∃ p, FtRow r p := fun r hr => by
    obtain ⟨g, hg, rfl⟩ := List.mem_map.1 hr
    exact ⟨(g.n1, g.n2), _, _, _, _, _, _, rfl, (hF g hg).b1, (hF g hg).b2⟩
  have hrow2 : ∀ r ∈ [[.gh f.a1 f.n1 f.c1 (.rows 25 (f.l1.map plL)), .gh f.a2 f.n2 f.c2 (.rows 25 (f.l2.map plL))]], ∃ p, FtRow r p := fun r hr => by
    rw [List.mem_singleton] at hr
    subst hr
    exact ⟨(f.n1, f.n2), _, _, _, _, _, _, rfl, h_f.b1, h_f.b2⟩
  have hLs : ∀ m, allOld w ∈ m → LiesH (HM m) a (cc (.rows 2 (fs.map ftRow))) := fun m hin => hL.mono (H0.hm hin)
  have hrl : (fs.map ftRow).length = n := by rw [List.length_map, hl]
  have hr2 : ∀ r ∈ fs.map ftRow, r.length = 2 := fun r hr => by obtain ⟨f, _, rfl⟩ := List.mem_map.1 hr; rfl
  have hro := ftRows_ok fs
  have htk := List.take_of_length_le (show (fs.map ftRow).length ≤ n by omega)
  have hln := lns_eq fs
  have hl1 : lnOf [.gh f.a1 f.n1 f.c1 (.rows 25 (f.l1.map plL)), .gh f.a2 f.n2 f.c2 (.rows 25 (f.l2.map plL))] = (f.n1, f.n2) := rfl
  have hk1 : (1 : Nat) ≤ maxLen := by unfold maxLen; omega
  have hno1 := heavyD_no (l := lns fs)
  have hno2 := heavyD_no (l := [(f.n1, f.n2)])
  cases hv1 : heavyD (lns fs)
  case true =>
    refine Vc.calls T0_ok Try.func3 rfl rfl (args := [.agg [.gh f.a1 f.n1 f.c1 (.rows 25 (f.l1.map plL)), .gh f.a2 f.n2 f.c2 (.rows 25 (f.l2.map plL))], .gh a n c (.rows 2 (fs.map ftRow))]) (k := 68) rfl (old_start w) ?_; change Vc _ _ (c8 (.agg [.gh f.a1 f.n1 f.c1 (.rows 25 (f.l1.map plL)), .gh f.a2 f.n2 f.c2 (.rows 25 (f.l2.map plL))]) (.gh a n c (.rows 2 (fs.map ftRow))) .undef .undef .undef .undef .undef .undef (c8 .undef .undef .undef .undef .undef .undef .undef .undef (c8 .undef .undef .undef .undef .undef .undef .undef .undef (c8 .undef .undef .undef .undef .undef .undef .undef .undef (c8 .undef .undef .undef .undef .undef .undef .undef .undef (c8 .undef .undef .undef .undef .undef .undef .undef .undef (c8 .undef .undef .undef .undef .undef .undef .undef .undef (c8 .undef .undef .undef .undef .undef .undef .undef .undef ([.undef, .undef, .undef, .undef, .undef, .undef]))))))))) _ _
    ((repeat (first | (with_reducible refine Vc.seq fun N hN => ?_) | (with_reducible refine Vc.block ?_) | ((first | with_reducible refine Vc.skip ?_ | with_reducible refine Vc.exit ?_); dsimp only [thenK, blockK, Nat.beq]; (first | (refine hN _ _ ?_; clear hN N) | skip)) | (with_reducible intro _) | ((with_reducible refine And.intro ?_ ?_); (focus (first | ((repeat' with_reducible apply And.intro) <;> first | exact sideQ | (exact hLs _ (by simp)) | (exact hrow1) | (exact hrow2) | (exact hY_f_1 _ (by simp)) | (exact hY_f_2 _ (by simp)) | (exact ⟨_, rfl, o_f_1⟩) | (exact ⟨_, rfl, o_f_2⟩) | (exact ⟨fs, rfl, fun f hf => (hFB _ hf).mono (H0.hm (by simp))⟩)) | exact sd0))) | ((first | ((with_reducible refine askT_of ?_ (fun hb => ?_)); (focus (first | ((repeat' with_reducible apply And.intro) <;> first | exact sideQ | (exact hLs _ (by simp)) | (exact hrow1) | (exact hrow2) | (exact hY_f_1 _ (by simp)) | (exact hY_f_2 _ (by simp)) | (exact ⟨_, rfl, o_f_1⟩) | (exact ⟨_, rfl, o_f_2⟩) | (exact ⟨fs, rfl, fun f hf => (hFB _ hf).mono (H0.hm (by simp))⟩)) | exact sd0)); (try simp only [hb])) | ((with_reducible refine Vc.fin ?_); dsimp only [thenK, blockK, retK, resS, resOne, resAll]) | ((with_reducible refine Vc.hold ?_); first | refine Vc.regiont T0_ok GI9_ok ?_ | refine Vc.drawt (id := 9) T0_ok GI9_ok (by kernel_rfl) [0, 1, 2, 3, 4] 5 [] trivial (by kernel_rfl) ?_ | refine Vc.drawt (id := 12) T0_ok GI9_ok (by kernel_rfl) [0, 1, 3, 2, 4, 5, 6, 7, 8, 9, 10, 11, 12, 13, 14, 15, 16] 17 [] trivial (by kernel_rfl) ?_)); (try simp only [v8X, v8A, v8B, v8C, Nat.beq, Nat.ble, Int.reduceToNat, Int.reduceLE, Int.reduceLT, Nat.reduceLT, Nat.reduceLeDiff, Nat.reduceAdd, Nat.reduceMul, Nat.reduceSub, Int.reduceAdd, Int.reduceSub, Int.reduceMul, eq_self, decide_true, beq_self_eq_true, List.length_cons, List.length_nil, Nat.min_eq_left, IntKind.bits, tabs, GI9_set, srcNs, hro, htk, hln, hl1, hv1, List.map_cons, List.map_nil, List.drop_zero, List.take_succ_cons, List.take_zero]); (try simp (disch := omega) only [v8W])) | ((with_reducible refine hN _ _ ?_); clear hN N; (try simp (disch := omega) only [v8W])))); (try ((with_reducible refine Fin.of ?_); (try with_reducible exact True.intro))))
    (refine Vc.cond T0_ok (t := true) (by rfl) (fun _ => ?_) (fun h => Bool.noConfusion h))
    ((repeat (first | (with_reducible refine Vc.seq fun N hN => ?_) | (with_reducible refine Vc.block ?_) | ((first | with_reducible refine Vc.skip ?_ | with_reducible refine Vc.exit ?_); dsimp only [thenK, blockK, Nat.beq]; (first | (refine hN _ _ ?_; clear hN N) | skip)) | (with_reducible intro _) | ((with_reducible refine And.intro ?_ ?_); (focus (first | ((repeat' with_reducible apply And.intro) <;> first | exact sideQ | (exact hLs _ (by simp)) | (exact hrow1) | (exact hrow2) | (exact hY_f_1 _ (by simp)) | (exact hY_f_2 _ (by simp)) | (exact ⟨_, rfl, o_f_1⟩) | (exact ⟨_, rfl, o_f_2⟩) | (exact ⟨fs, rfl, fun f hf => (hFB _ hf).mono (H0.hm (by simp))⟩)) | exact sd0))) | ((first | ((with_reducible refine askT_of ?_ (fun hb => ?_)); (focus (first | ((repeat' with_reducible apply And.intro) <;> first | exact sideQ | (exact hLs _ (by simp)) | (exact hrow1) | (exact hrow2) | (exact hY_f_1 _ (by simp)) | (exact hY_f_2 _ (by simp)) | (exact ⟨_, rfl, o_f_1⟩) | (exact ⟨_, rfl, o_f_2⟩) | (exact ⟨fs, rfl, fun f hf => (hFB _ hf).mono (H0.hm (by simp))⟩)) | exact sd0)); (try simp only [hb])) | ((with_reducible refine Vc.fin ?_); dsimp only [thenK, blockK, retK, resS, resOne, resAll]) | ((with_reducible refine Vc.hold ?_); first | refine Vc.regiont T0_ok GI9_ok ?_ | refine Vc.drawt (id := 9) T0_ok GI9_ok (by kernel_rfl) [0, 1, 2, 3, 4] 5 [] trivial (by kernel_rfl) ?_ | refine Vc.drawt (id := 12) T0_ok GI9_ok (by kernel_rfl) [0, 1, 3, 2, 4, 5, 6, 7, 8, 9, 10, 11, 12, 13, 14, 15, 16] 17 [] trivial (by kernel_rfl) ?_)); (try simp only [v8X, v8A, v8B, v8C, Nat.beq, Nat.ble, Int.reduceToNat, Int.reduceLE, Int.reduceLT, Nat.reduceLT, Nat.reduceLeDiff, Nat.reduceAdd, Nat.reduceMul, Nat.reduceSub, Int.reduceAdd, Int.reduceSub, Int.reduceMul, eq_self, decide_true, beq_self_eq_true, List.length_cons, List.length_nil, Nat.min_eq_left, IntKind.bits, tabs, GI9_set, ]); (try simp (disch := omega) only [v8W])) | ((with_reducible refine hN _ _ ?_); clear hN N; (try simp (disch := omega) only [v8W])))); (try ((with_reducible refine Fin.of ?_); (try with_reducible exact True.intro))))
    exact ⟨by simp, trivial⟩
  cases hv2 : heavyD [(f.n1, f.n2)]
  case true =>
    refine Vc.calls T0_ok Try.func3 rfl rfl (args := [.agg [.gh f.a1 f.n1 f.c1 (.rows 25 (f.l1.map plL)), .gh f.a2 f.n2 f.c2 (.rows 25 (f.l2.map plL))], .gh a n c (.rows 2 (fs.map ftRow))]) (k := 68) rfl (old_start w) ?_; change Vc _ _ (c8 (.agg [.gh f.a1 f.n1 f.c1 (.rows 25 (f.l1.map plL)), .gh f.a2 f.n2 f.c2 (.rows 25 (f.l2.map plL))]) (.gh a n c (.rows 2 (fs.map ftRow))) .undef .undef .undef .undef .undef .undef (c8 .undef .undef .undef .undef .undef .undef .undef .undef (c8 .undef .undef .undef .undef .undef .undef .undef .undef (c8 .undef .undef .undef .undef .undef .undef .undef .undef (c8 .undef .undef .undef .undef .undef .undef .undef .undef (c8 .undef .undef .undef .undef .undef .undef .undef .undef (c8 .undef .undef .undef .undef .undef .undef .undef .undef (c8 .undef .undef .undef .undef .undef .undef .undef .undef ([.undef, .undef, .undef, .undef, .undef, .undef]))))))))) _ _
    ((repeat (first | (with_reducible refine Vc.seq fun N hN => ?_) | (with_reducible refine Vc.block ?_) | ((first | with_reducible refine Vc.skip ?_ | with_reducible refine Vc.exit ?_); dsimp only [thenK, blockK, Nat.beq]; (first | (refine hN _ _ ?_; clear hN N) | skip)) | (with_reducible intro _) | ((with_reducible refine And.intro ?_ ?_); (focus (first | ((repeat' with_reducible apply And.intro) <;> first | exact sideQ | (exact hLs _ (by simp)) | (exact hrow1) | (exact hrow2) | (exact hY_f_1 _ (by simp)) | (exact hY_f_2 _ (by simp)) | (exact ⟨_, rfl, o_f_1⟩) | (exact ⟨_, rfl, o_f_2⟩) | (exact ⟨fs, rfl, fun f hf => (hFB _ hf).mono (H0.hm (by simp))⟩)) | exact sd0))) | ((first | ((with_reducible refine askT_of ?_ (fun hb => ?_)); (focus (first | ((repeat' with_reducible apply And.intro) <;> first | exact sideQ | (exact hLs _ (by simp)) | (exact hrow1) | (exact hrow2) | (exact hY_f_1 _ (by simp)) | (exact hY_f_2 _ (by simp)) | (exact ⟨_, rfl, o_f_1⟩) | (exact ⟨_, rfl, o_f_2⟩) | (exact ⟨fs, rfl, fun f hf => (hFB _ hf).mono (H0.hm (by simp))⟩)) | exact sd0)); (try simp only [hb])) | ((with_reducible refine Vc.fin ?_); dsimp only [thenK, blockK, retK, resS, resOne, resAll]) | ((with_reducible refine Vc.hold ?_); first | refine Vc.regiont T0_ok GI9_ok ?_ | refine Vc.drawt (id := 9) T0_ok GI9_ok (by kernel_rfl) [0, 1, 2, 3, 4] 5 [] trivial (by kernel_rfl) ?_ | refine Vc.drawt (id := 12) T0_ok GI9_ok (by kernel_rfl) [0, 1, 3, 2, 4, 5, 6, 7, 8, 9, 10, 11, 12, 13, 14, 15, 16] 17 [] trivial (by kernel_rfl) ?_)); (try simp only [v8X, v8A, v8B, v8C, Nat.beq, Nat.ble, Int.reduceToNat, Int.reduceLE, Int.reduceLT, Nat.reduceLT, Nat.reduceLeDiff, Nat.reduceAdd, Nat.reduceMul, Nat.reduceSub, Int.reduceAdd, Int.reduceSub, Int.reduceMul, eq_self, decide_true, beq_self_eq_true, List.length_cons, List.length_nil, Nat.min_eq_left, IntKind.bits, tabs, GI9_set, srcNs, hro, htk, hln, hl1, hv1, hv2, List.map_cons, List.map_nil, List.drop_zero, List.take_succ_cons, List.take_zero]); (try simp (disch := omega) only [v8W])) | ((with_reducible refine hN _ _ ?_); clear hN N; (try simp (disch := omega) only [v8W])))); (try ((with_reducible refine Fin.of ?_); (try with_reducible exact True.intro))))
    (refine Vc.cond T0_ok (t := true) (by rfl) (fun _ => ?_) (fun h => Bool.noConfusion h))
    ((repeat (first | (with_reducible refine Vc.seq fun N hN => ?_) | (with_reducible refine Vc.block ?_) | ((first | with_reducible refine Vc.skip ?_ | with_reducible refine Vc.exit ?_); dsimp only [thenK, blockK, Nat.beq]; (first | (refine hN _ _ ?_; clear hN N) | skip)) | (with_reducible intro _) | ((with_reducible refine And.intro ?_ ?_); (focus (first | ((repeat' with_reducible apply And.intro) <;> first | exact sideQ | (exact hLs _ (by simp)) | (exact hrow1) | (exact hrow2) | (exact hY_f_1 _ (by simp)) | (exact hY_f_2 _ (by simp)) | (exact ⟨_, rfl, o_f_1⟩) | (exact ⟨_, rfl, o_f_2⟩) | (exact ⟨fs, rfl, fun f hf => (hFB _ hf).mono (H0.hm (by simp))⟩)) | exact sd0))) | ((first | ((with_reducible refine askT_of ?_ (fun hb => ?_)); (focus (first | ((repeat' with_reducible apply And.intro) <;> first | exact sideQ | (exact hLs _ (by simp)) | (exact hrow1) | (exact hrow2) | (exact hY_f_1 _ (by simp)) | (exact hY_f_2 _ (by simp)) | (exact ⟨_, rfl, o_f_1⟩) | (exact ⟨_, rfl, o_f_2⟩) | (exact ⟨fs, rfl, fun f hf => (hFB _ hf).mono (H0.hm (by simp))⟩)) | exact sd0)); (try simp only [hb])) | ((with_reducible refine Vc.fin ?_); dsimp only [thenK, blockK, retK, resS, resOne, resAll]) | ((with_reducible refine Vc.hold ?_); first | refine Vc.regiont T0_ok GI9_ok ?_ | refine Vc.drawt (id := 9) T0_ok GI9_ok (by kernel_rfl) [0, 1, 2, 3, 4] 5 [] trivial (by kernel_rfl) ?_ | refine Vc.drawt (id := 12) T0_ok GI9_ok (by kernel_rfl) [0, 1, 3, 2, 4, 5, 6, 7, 8, 9, 10, 11, 12, 13, 14, 15, 16] 17 [] trivial (by kernel_rfl) ?_)); (try simp only [v8X, v8A, v8B, v8C, Nat.beq, Nat.ble, Int.reduceToNat, Int.reduceLE, Int.reduceLT, Nat.reduceLT, Nat.reduceLeDiff, Nat.reduceAdd, Nat.reduceMul, Nat.reduceSub, Int.reduceAdd, Int.reduceSub, Int.reduceMul, eq_self, decide_true, beq_self_eq_true, List.length_cons, List.length_nil, Nat.min_eq_left, IntKind.bits, tabs, GI9_set, ]); (try simp (disch := omega) only [v8W])) | ((with_reducible refine hN _ _ ?_); clear hN N; (try simp (disch := omega) only [v8W])))); (try ((with_reducible refine Fin.of ?_); (try with_reducible exact True.intro))))
    exact ⟨by simp, trivial⟩
  obtain ⟨m1, m2⟩ := hno1 hv1
  obtain ⟨_, m3⟩ := hno2 hv2
  obtain ⟨m4, m5⟩ := m3 _ List.mem_cons_self
  simp only at m4 m5
  clear hno1 hno2 m3
  have hnl : n ≤ 100 := by have := m1; unfold lns at this; rw [List.length_map] at this; omega
  have hFB : ∀ g ∈ fs, FtB (H0 w) g := fun g hg => ⟨hF g hg, by have := (m2 (g.n1, g.n2) (List.mem_map.2 ⟨g, hg, rfl⟩)).1; simp only at this; omega, by have := (m2 (g.n1, g.n2) (List.mem_map.2 ⟨g, hg, rfl⟩)).2; simp only at this; omega⟩
  have hokr : ∀ c ∈ rdU fs, okP c := fun c hc => by obtain ⟨g, h1, h2⟩ := List.mem_flatMap.1 hc; exact (hF g h1).p1.ok c h2
  have hokw : ∀ c ∈ wrU fs, okP c := fun c hc => by obtain ⟨g, h1, h2⟩ := List.mem_flatMap.1 hc; exact (hF g h1).p2.ok c h2
  have hsz1 : (rdU fs).length ≤ 10000 := Nat.le_trans (flat_len7 (c := 100) fun x hx => by have := m2 (x.n1, x.n2) (List.mem_map.2 ⟨x, hx, rfl⟩); rw [(hF x hx).p1.len]; exact this.1) (by omega)
  have hsz2 : (wrU fs).length ≤ 10000 := Nat.le_trans (flat_len7 (c := 100) fun x hx => by have := m2 (x.n1, x.n2) (List.mem_map.2 ⟨x, hx, rfl⟩); rw [(hF x hx).p2.len]; exact this.2) (by omega)
  have hrd : rdR (fs.map ftRow) = rdU fs := rdR_eq fun g hg => (hF g hg).p1.ok
  have hwd : wrR (fs.map ftRow) = wrU fs := wrR_eq fun g hg => (hF g hg).p2.ok
  have hY_f_1 : ∀ m, allOld w ∈ m → LiesH (HM m) f.a1 (cc (.rows 25 (f.l1.map plL))) := fun m hin => h_f.p1.lies.mono (H0.hm hin)
  have p_f_1 := plsOf_eq h_f.p1.ok
  have r_f_1 := rowsOk_pl h_f.p1.ok
  have o_f_1 := h_f.p1.ok
  have le_f_1 := h_f.p1.le
  have ad_f_1 := h_f.p1.adr
  have t_f_1 : (f.l1.map plL).length = f.n1 := by rw [List.length_map, h_f.p1.len]
  have y_f_1 := List.take_of_length_le (show (f.l1.map plL).length ≤ f.n1 by omega)
  have hY_f_2 : ∀ m, allOld w ∈ m → LiesH (HM m) f.a2 (cc (.rows 25 (f.l2.map plL))) := fun m hin => h_f.p2.lies.mono (H0.hm hin)
  have p_f_2 := plsOf_eq h_f.p2.ok
  have r_f_2 := rowsOk_pl h_f.p2.ok
  have o_f_2 := h_f.p2.ok
  have le_f_2 := h_f.p2.le
  have ad_f_2 := h_f.p2.adr
  have t_f_2 : (f.l2.map plL).length = f.n2 := by rw [List.length_map, h_f.p2.len]
  have y_f_2 := List.take_of_length_le (show (f.l2.map plL).length ≤ f.n2 by omega)
  clear hL
  refine Vc.calls T0_ok Try.func3 rfl rfl (args := [.agg [.gh f.a1 f.n1 f.c1 (.rows 25 (f.l1.map plL)), .gh f.a2 f.n2 f.c2 (.rows 25 (f.l2.map plL))], .gh a n c (.rows 2 (fs.map ftRow))]) (k := 68) rfl (old_start w) ?_; change Vc _ _ (c8 (.agg [.gh f.a1 f.n1 f.c1 (.rows 25 (f.l1.map plL)), .gh f.a2 f.n2 f.c2 (.rows 25 (f.l2.map plL))]) (.gh a n c (.rows 2 (fs.map ftRow))) .undef .undef .undef .undef .undef .undef (c8 .undef .undef .undef .undef .undef .undef .undef .undef (c8 .undef .undef .undef .undef .undef .undef .undef .undef (c8 .undef .undef .undef .undef .undef .undef .undef .undef (c8 .undef .undef .undef .undef .undef .undef .undef .undef (c8 .undef .undef .undef .undef .undef .undef .undef .undef (c8 .undef .undef .undef .undef .undef .undef .undef .undef (c8 .undef .undef .undef .undef .undef .undef .undef .undef ([.undef, .undef, .undef, .undef, .undef, .undef]))))))))) _ _
  ((repeat (first | (with_reducible refine Vc.seq fun N hN => ?_) | (with_reducible refine Vc.block ?_) | ((first | with_reducible refine Vc.skip ?_ | with_reducible refine Vc.exit ?_); dsimp only [thenK, blockK, Nat.beq]; (first | (refine hN _ _ ?_; clear hN N) | skip)) | (with_reducible intro _) | ((with_reducible refine And.intro ?_ ?_); (focus (first | ((repeat' with_reducible apply And.intro) <;> first | exact sideQ | (exact hLs _ (by simp)) | (exact hrow1) | (exact hrow2) | (exact hY_f_1 _ (by simp)) | (exact hY_f_2 _ (by simp)) | (exact ⟨_, rfl, o_f_1⟩) | (exact ⟨_, rfl, o_f_2⟩) | (exact ⟨fs, rfl, fun f hf => (hFB _ hf).mono (H0.hm (by simp))⟩)) | exact sd0))) | ((first | ((with_reducible refine askT_of ?_ (fun hb => ?_)); (focus (first | ((repeat' with_reducible apply And.intro) <;> first | exact sideQ | (exact hLs _ (by simp)) | (exact hrow1) | (exact hrow2) | (exact hY_f_1 _ (by simp)) | (exact hY_f_2 _ (by simp)) | (exact ⟨_, rfl, o_f_1⟩) | (exact ⟨_, rfl, o_f_2⟩) | (exact ⟨fs, rfl, fun f hf => (hFB _ hf).mono (H0.hm (by simp))⟩)) | exact sd0)); (try simp only [hb])) | ((with_reducible refine Vc.fin ?_); dsimp only [thenK, blockK, retK, resS, resOne, resAll]) | ((with_reducible refine Vc.hold ?_); first | refine Vc.regiont T0_ok GI9_ok ?_ | refine Vc.drawt (id := 9) T0_ok GI9_ok (by kernel_rfl) [0, 1, 2, 3, 4] 5 [] trivial (by kernel_rfl) ?_ | refine Vc.drawt (id := 12) T0_ok GI9_ok (by kernel_rfl) [0, 1, 3, 2, 4, 5, 6, 7, 8, 9, 10, 11, 12, 13, 14, 15, 16] 17 [] trivial (by kernel_rfl) ?_)); (try simp only [v8X, v8A, v8B, v8C, Nat.beq, Nat.ble, Int.reduceToNat, Int.reduceLE, Int.reduceLT, Nat.reduceLT, Nat.reduceLeDiff, Nat.reduceAdd, Nat.reduceMul, Nat.reduceSub, Int.reduceAdd, Int.reduceSub, Int.reduceMul, eq_self, decide_true, beq_self_eq_true, List.length_cons, List.length_nil, Nat.min_eq_left, IntKind.bits, tabs, GI9_set, srcNs, hro, htk, hln, hl1, hv1, hv2, List.map_cons, List.map_nil, List.drop_zero, List.take_succ_cons, List.take_zero]); (try simp (disch := omega) only [v8W])) | ((with_reducible refine hN _ _ ?_); clear hN N; (try simp (disch := omega) only [v8W])))); (try ((with_reducible refine Fin.of ?_); (try with_reducible exact True.intro))))
  (refine Vc.cond T0_ok (t := false) (by rfl) (fun h => Bool.noConfusion h) (fun _ => ?_))
  ((repeat (first | (with_reducible refine Vc.seq fun N hN => ?_) | (with_reducible refine Vc.block ?_) | ((first | with_reducible refine Vc.skip ?_ | with_reducible refine Vc.exit ?_); dsimp only [thenK, blockK, Nat.beq]; (first | (refine hN _ _ ?_; clear hN N) | skip)) | (with_reducible intro _) | ((with_reducible refine And.intro ?_ ?_); (focus (first | ((repeat' with_reducible apply And.intro) <;> first | exact sideQ | (exact hLs _ (by simp)) | (exact hrow1) | (exact hrow2) | (exact hY_f_1 _ (by simp)) | (exact hY_f_2 _ (by simp)) | (exact ⟨_, rfl, o_f_1⟩) | (exact ⟨_, rfl, o_f_2⟩) | (exact ⟨fs, rfl, fun f hf => (hFB _ hf).mono (H0.hm (by simp))⟩)) | exact sd0))) | ((first | ((with_reducible refine askT_of ?_ (fun hb => ?_)); (focus (first | ((repeat' with_reducible apply And.intro) <;> first | exact sideQ | (exact hLs _ (by simp)) | (exact hrow1) | (exact hrow2) | (exact hY_f_1 _ (by simp)) | (exact hY_f_2 _ (by simp)) | (exact ⟨_, rfl, o_f_1⟩) | (exact ⟨_, rfl, o_f_2⟩) | (exact ⟨fs, rfl, fun f hf => (hFB _ hf).mono (H0.hm (by simp))⟩)) | exact sd0)); (try simp only [hb])) | ((with_reducible refine Vc.fin ?_); dsimp only [thenK, blockK, retK, resS, resOne, resAll]) | ((with_reducible refine Vc.hold ?_); first | refine Vc.regiont T0_ok GI9_ok ?_ | refine Vc.drawt (id := 9) T0_ok GI9_ok (by kernel_rfl) [0, 1, 2, 3, 4] 5 [] trivial (by kernel_rfl) ?_ | refine Vc.drawt (id := 12) T0_ok GI9_ok (by kernel_rfl) [0, 1, 3, 2, 4, 5, 6, 7, 8, 9, 10, 11, 12, 13, 14, 15, 16] 17 [] trivial (by kernel_rfl) ?_)); (try simp only [v8X, v8A, v8B, v8C, Nat.beq, Nat.ble, Int.reduceToNat, Int.reduceLE, Int.reduceLT, Nat.reduceLT, Nat.reduceLeDiff, Nat.reduceAdd, Nat.reduceMul, Nat.reduceSub, Int.reduceAdd, Int.reduceSub, Int.reduceMul, eq_self, decide_true, beq_self_eq_true, List.length_cons, List.length_nil, Nat.min_eq_left, IntKind.bits, tabs, GI9_set, FtF, hro, htk, hrd, hwd, List.drop_zero]); (try simp (disch := omega) only [v8W])) | ((with_reducible refine hN _ _ ?_); clear hN N; (try simp (disch := omega) only [v8W])))); (try ((with_reducible refine Fin.of ?_); (try with_reducible exact True.intro))))
  rename_i b2 b3 _ x hx b5
  (revert N; intro N1 hN1)
  refine Vc.nilownR 6 24 2 rfl ?_
  dsimp only [sset, c8, bpush, blen]
  refine Vc.loop 9 51 (fun (s : Nat × Value) => [(6, .own 5 s.2 s.1), (7, .bool ((fs.take s.1).any fun g => meetsD f.l1 f.l2 g.l1 g.l2)), (8, .int .i64 (s.1 : Nat))])
    (fun s => [allOld w, .blk b2 24 (.cells [.gh f.a1 f.n1 f.c1 (.rows 25 (f.l1.map plL)), .gh f.a2 f.n2 f.c2 (.rows 25 (f.l2.map plL))]), .blk b3 24 (.rows 2 [[.gh f.a1 f.n1 f.c1 (.rows 25 (f.l1.map plL)), .gh f.a2 f.n2 f.c2 (.rows 25 (f.l2.map plL))]]), .heap x.h, .blk b5 24 (.cells [.gh x.a1 x.l1.length x.c1 (.rows 25 (x.l1.map plL)), .gh x.a2 x.l2.length x.c2 (.rows 25 (x.l2.map plL))]), .own s.2 s.1 24 2 (.rows 2 ((fs.reverse.take s.1).map ftRow))])
    (fun s => s.1 ≤ n) (fun s => n - s.1) (0, .slice none 0 0) ⟨Nat.zero_le _, ?_, ?_⟩ (fun s junk hk => ?_)
  · ((try simp only [v8X, v8A, v8B, v8C, Nat.beq, Nat.ble, Int.reduceToNat, Int.reduceLE, Int.reduceLT, Nat.reduceLT, Nat.reduceLeDiff, Nat.reduceAdd, Nat.reduceMul, Nat.reduceSub, Int.reduceAdd, Int.reduceSub, Int.reduceMul, eq_self, decide_true, beq_self_eq_true, List.length_cons, List.length_nil, Nat.min_eq_left, IntKind.bits, tabs]); (repeat' with_reducible apply And.intro) <;> first | with_reducible exact True.intro | rfl | with_reducible rfl | (congr 1 <;> omega) | trivial)
  · ((try simp only [v8X, v8A, v8B, v8C, Nat.beq, Nat.ble, Int.reduceToNat, Int.reduceLE, Int.reduceLT, Nat.reduceLT, Nat.reduceLeDiff, Nat.reduceAdd, Nat.reduceMul, Nat.reduceSub, Int.reduceAdd, Int.reduceSub, Int.reduceMul, eq_self, decide_true, beq_self_eq_true, List.length_cons, List.length_nil, Nat.min_eq_left, IntKind.bits, tabs]); (repeat' with_reducible apply And.intro) <;> first | with_reducible exact True.intro | rfl | with_reducible rfl | (congr 1 <;> omega) | trivial)
  · obtain ⟨k, v⟩ := s
    simp only at hk ⊢
    (simp only [v8X, v8A, v8B, v8C, Nat.beq, Nat.ble, Int.reduceToNat, Int.reduceLE, Int.reduceLT, Nat.reduceLT, Nat.reduceLeDiff, Nat.reduceAdd, Nat.reduceMul, Nat.reduceSub, Int.reduceAdd, Int.reduceSub, Int.reduceMul, eq_self, decide_true, beq_self_eq_true, List.length_cons, List.length_nil, Nat.min_eq_left, IntKind.bits, tabs])
    by_cases hc1 : k < n
    · have d1 : decide ((k : Int) < (n : Int)) = true := decide_eq_true (by omega)
      have tk : ((k : Nat) : Int).toNat = k := by omega
      have e2 := List.getElem?_eq_getElem (show k < fs.length by omega)
      have hgd := ftRow_gd e2
      have hat := any_take (fun g => meetsD f.l1 f.l2 g.l1 g.l2) e2
      have h_g := hF fs[k] (List.getElem_mem _)
      have hb_g := (hFB fs[k] (List.getElem_mem _)).2
      generalize fs[k] = g at *
      have hY_g_1 : ∀ m, allOld w ∈ m → LiesH (HM m) g.a1 (cc (.rows 25 (g.l1.map plL))) := fun m hin => h_g.p1.lies.mono (H0.hm hin)
      have p_g_1 := plsOf_eq h_g.p1.ok
      have r_g_1 := rowsOk_pl h_g.p1.ok
      have o_g_1 := h_g.p1.ok
      have le_g_1 := h_g.p1.le
      have ad_g_1 := h_g.p1.adr
      have t_g_1 : (g.l1.map plL).length = g.n1 := by rw [List.length_map, h_g.p1.len]
      have y_g_1 := List.take_of_length_le (show (g.l1.map plL).length ≤ g.n1 by omega)
      have hY_g_2 : ∀ m, allOld w ∈ m → LiesH (HM m) g.a2 (cc (.rows 25 (g.l2.map plL))) := fun m hin => h_g.p2.lies.mono (H0.hm hin)
      have p_g_2 := plsOf_eq h_g.p2.ok
      have r_g_2 := rowsOk_pl h_g.p2.ok
      have o_g_2 := h_g.p2.ok
      have le_g_2 := h_g.p2.le
      have ad_g_2 := h_g.p2.adr
      have t_g_2 : (g.l2.map plL).length = g.n2 := by rw [List.length_map, h_g.p2.len]
      have y_g_2 := List.take_of_length_le (show (g.l2.map plL).length ≤ g.n2 by omega)
      have e3 := List.getElem?_eq_getElem (show fs.length - 1 - k < fs.length by omega)
      have hgd2 := ftRow_gd e3
      have hbk := back_take (by omega) e3
      have hlk : ((fs.reverse.take k).map ftRow).length = k := by rw [List.length_map, List.length_take, List.length_reverse]; omega
      have htk3 := List.take_of_length_le (show ((fs.reverse.take k).map ftRow).length ≤ k by omega)
      have tk2 : ((n : Int) - 1 - (k : Int)).toNat = fs.length - 1 - k := by omega
      generalize fs[fs.length - 1 - k] = g2 at *
      have hro2 := ftRows_ok (fs.reverse.take k)
      have hbk2 : (fs.reverse.take k).map ftRow ++ [[.gh g2.a1 g2.n1 g2.c1 (.rows 25 (g2.l1.map plL)), .gh g2.a2 g2.n2 g2.c2 (.rows 25 (g2.l2.map plL))]] = (fs.reverse.take (k + 1)).map ftRow := hbk.symm
      generalize hmt : meetsD f.l1 f.l2 g.l1 g.l2 = mt at *
      generalize ((fs.take k).any fun g => meetsD f.l1 f.l2 g.l1 g.l2) = z at *
      cases z
      · rw [Bool.false_or] at hat
        ((repeat (first | (with_reducible refine Vc.seq fun N hN => ?_) | (with_reducible refine Vc.block ?_) | ((first | with_reducible refine Vc.skip ?_ | with_reducible refine Vc.exit ?_); dsimp only [thenK, blockK, Nat.beq]; (first | (refine hN _ _ ?_; clear hN N) | skip)) | (with_reducible intro _) | ((with_reducible refine And.intro ?_ ?_); (focus (first | ((repeat' with_reducible apply And.intro) <;> first | exact sideQ | (exact hLs _ (by simp)) | (exact hrow1) | (exact hrow2) | (exact hY_f_1 _ (by simp)) | (exact hY_f_2 _ (by simp)) | (exact ⟨_, rfl, o_f_1⟩) | (exact ⟨_, rfl, o_f_2⟩) | (exact hY_g_1 _ (by simp)) | (exact hY_g_2 _ (by simp)) | (exact ⟨_, rfl, o_g_1⟩) | (exact ⟨_, rfl, o_g_2⟩)) | exact sd0))) | ((first | ((with_reducible refine askT_of ?_ (fun hb => ?_)); (focus (first | ((repeat' with_reducible apply And.intro) <;> first | exact sideQ | (exact hLs _ (by simp)) | (exact hrow1) | (exact hrow2) | (exact hY_f_1 _ (by simp)) | (exact hY_f_2 _ (by simp)) | (exact ⟨_, rfl, o_f_1⟩) | (exact ⟨_, rfl, o_f_2⟩) | (exact hY_g_1 _ (by simp)) | (exact hY_g_2 _ (by simp)) | (exact ⟨_, rfl, o_g_1⟩) | (exact ⟨_, rfl, o_g_2⟩)) | exact sd0)); (try simp only [hb])) | ((with_reducible refine Vc.fin ?_); dsimp only [thenK, blockK, retK, resS, resOne, resAll]) | ((with_reducible refine Vc.hold ?_); first | refine Vc.regiont T0_ok GI9_ok ?_ | refine Vc.drawt (id := 9) T0_ok GI9_ok (by kernel_rfl) [0, 1, 2, 3, 4] 5 [] trivial (by kernel_rfl) ?_ | refine Vc.drawt (id := 12) T0_ok GI9_ok (by kernel_rfl) [0, 1, 3, 2, 4, 5, 6, 7, 8, 9, 10, 11, 12, 13, 14, 15, 16] 17 [] trivial (by kernel_rfl) ?_)); (try simp only [v8X, v8A, v8B, v8C, Nat.beq, Nat.ble, Int.reduceToNat, Int.reduceLE, Int.reduceLT, Nat.reduceLT, Nat.reduceLeDiff, Nat.reduceAdd, Nat.reduceMul, Nat.reduceSub, Int.reduceAdd, Int.reduceSub, Int.reduceMul, eq_self, decide_true, beq_self_eq_true, List.length_cons, List.length_nil, Nat.min_eq_left, IntKind.bits, tabs, GI9_set, d1]); (try simp (disch := omega) only [v8W])) | ((with_reducible refine hN _ _ ?_); clear hN N; (try simp (disch := omega) only [v8W])))); (try ((with_reducible refine Fin.of ?_); (try with_reducible exact True.intro))))
        (refine Vc.cond T0_ok (t := true) (by rfl) (fun _ => ?_) (fun h => Bool.noConfusion h))
        ((repeat (first | (with_reducible refine Vc.seq fun N hN => ?_) | (with_reducible refine Vc.block ?_) | ((first | with_reducible refine Vc.skip ?_ | with_reducible refine Vc.exit ?_); dsimp only [thenK, blockK, Nat.beq]; (first | (refine hN _ _ ?_; clear hN N) | skip)) | (with_reducible intro _) | ((with_reducible refine And.intro ?_ ?_); (focus (first | ((repeat' with_reducible apply And.intro) <;> first | exact sideQ | (exact hLs _ (by simp)) | (exact hrow1) | (exact hrow2) | (exact hY_f_1 _ (by simp)) | (exact hY_f_2 _ (by simp)) | (exact ⟨_, rfl, o_f_1⟩) | (exact ⟨_, rfl, o_f_2⟩) | (exact hY_g_1 _ (by simp)) | (exact hY_g_2 _ (by simp)) | (exact ⟨_, rfl, o_g_1⟩) | (exact ⟨_, rfl, o_g_2⟩)) | exact sd0))) | ((first | ((with_reducible refine askT_of ?_ (fun hb => ?_)); (focus (first | ((repeat' with_reducible apply And.intro) <;> first | exact sideQ | (exact hLs _ (by simp)) | (exact hrow1) | (exact hrow2) | (exact hY_f_1 _ (by simp)) | (exact hY_f_2 _ (by simp)) | (exact ⟨_, rfl, o_f_1⟩) | (exact ⟨_, rfl, o_f_2⟩) | (exact hY_g_1 _ (by simp)) | (exact hY_g_2 _ (by simp)) | (exact ⟨_, rfl, o_g_1⟩) | (exact ⟨_, rfl, o_g_2⟩)) | exact sd0)); (try simp only [hb])) | ((with_reducible refine Vc.fin ?_); dsimp only [thenK, blockK, retK, resS, resOne, resAll]) | ((with_reducible refine Vc.hold ?_); first | refine Vc.regiont T0_ok GI9_ok ?_ | refine Vc.drawt (id := 9) T0_ok GI9_ok (by kernel_rfl) [0, 1, 2, 3, 4] 5 [] trivial (by kernel_rfl) ?_ | refine Vc.drawt (id := 12) T0_ok GI9_ok (by kernel_rfl) [0, 1, 3, 2, 4, 5, 6, 7, 8, 9, 10, 11, 12, 13, 14, 15, 16] 17 [] trivial (by kernel_rfl) ?_)); (try simp only [v8X, v8A, v8B, v8C, Nat.beq, Nat.ble, Int.reduceToNat, Int.reduceLE, Int.reduceLT, Nat.reduceLT, Nat.reduceLeDiff, Nat.reduceAdd, Nat.reduceMul, Nat.reduceSub, Int.reduceAdd, Int.reduceSub, Int.reduceMul, eq_self, decide_true, beq_self_eq_true, List.length_cons, List.length_nil, Nat.min_eq_left, IntKind.bits, tabs, GI9_set, srcNs, tk, hgd, hmt, p_f_1, p_f_2, r_f_1, r_f_2, y_f_1, y_f_2, p_g_1, p_g_2, r_g_1, r_g_2, y_g_1, y_g_2, tk2, hgd2, hro2, hlk, htk3, hbk2, List.drop_zero, List.take_succ_cons, List.take_zero, Nat.zero_add]); (try simp (disch := omega) only [v8W])) | ((with_reducible refine hN _ _ ?_); clear hN N; (try simp (disch := omega) only [v8W])))); (try ((with_reducible refine Fin.of ?_); (try with_reducible exact True.intro))))
        rename_i v2
        refine ⟨(k + 1, v2), by simp only; omega, ?_, ?_, by simp only; omega⟩
        · rw [hat]
          ((try simp only [v8X, v8A, v8B, v8C, Nat.beq, Nat.ble, Int.reduceToNat, Int.reduceLE, Int.reduceLT, Nat.reduceLT, Nat.reduceLeDiff, Nat.reduceAdd, Nat.reduceMul, Nat.reduceSub, Int.reduceAdd, Int.reduceSub, Int.reduceMul, eq_self, decide_true, beq_self_eq_true, List.length_cons, List.length_nil, Nat.min_eq_left, IntKind.bits, tabs]); (repeat' with_reducible apply And.intro) <;> first | with_reducible exact True.intro | rfl | (congr 1 <;> omega))
        · ((try simp only [v8X, v8A, v8B, v8C, Nat.beq, Nat.ble, Int.reduceToNat, Int.reduceLE, Int.reduceLT, Nat.reduceLT, Nat.reduceLeDiff, Nat.reduceAdd, Nat.reduceMul, Nat.reduceSub, Int.reduceAdd, Int.reduceSub, Int.reduceMul, eq_self, decide_true, beq_self_eq_true, List.length_cons, List.length_nil, Nat.min_eq_left, IntKind.bits, tabs]); (repeat' with_reducible apply And.intro) <;> first | with_reducible exact True.intro | rfl | (congr 1 <;> omega))
      · rw [Bool.true_or] at hat
        ((repeat (first | (with_reducible refine Vc.seq fun N hN => ?_) | (with_reducible refine Vc.block ?_) | ((first | with_reducible refine Vc.skip ?_ | with_reducible refine Vc.exit ?_); dsimp only [thenK, blockK, Nat.beq]; (first | (refine hN _ _ ?_; clear hN N) | skip)) | (with_reducible intro _) | ((with_reducible refine And.intro ?_ ?_); (focus (first | ((repeat' with_reducible apply And.intro) <;> first | exact sideQ | (exact hLs _ (by simp)) | (exact hrow1) | (exact hrow2) | (exact hY_f_1 _ (by simp)) | (exact hY_f_2 _ (by simp)) | (exact ⟨_, rfl, o_f_1⟩) | (exact ⟨_, rfl, o_f_2⟩) | (exact hY_g_1 _ (by simp)) | (exact hY_g_2 _ (by simp)) | (exact ⟨_, rfl, o_g_1⟩) | (exact ⟨_, rfl, o_g_2⟩)) | exact sd0))) | ((first | ((with_reducible refine askT_of ?_ (fun hb => ?_)); (focus (first | ((repeat' with_reducible apply And.intro) <;> first | exact sideQ | (exact hLs _ (by simp)) | (exact hrow1) | (exact hrow2) | (exact hY_f_1 _ (by simp)) | (exact hY_f_2 _ (by simp)) | (exact ⟨_, rfl, o_f_1⟩) | (exact ⟨_, rfl, o_f_2⟩) | (exact hY_g_1 _ (by simp)) | (exact hY_g_2 _ (by simp)) | (exact ⟨_, rfl, o_g_1⟩) | (exact ⟨_, rfl, o_g_2⟩)) | exact sd0)); (try simp only [hb])) | ((with_reducible refine Vc.fin ?_); dsimp only [thenK, blockK, retK, resS, resOne, resAll]) | ((with_reducible refine Vc.hold ?_); first | refine Vc.regiont T0_ok GI9_ok ?_ | refine Vc.drawt (id := 9) T0_ok GI9_ok (by kernel_rfl) [0, 1, 2, 3, 4] 5 [] trivial (by kernel_rfl) ?_ | refine Vc.drawt (id := 12) T0_ok GI9_ok (by kernel_rfl) [0, 1, 3, 2, 4, 5, 6, 7, 8, 9, 10, 11, 12, 13, 14, 15, 16] 17 [] trivial (by kernel_rfl) ?_)); (try simp only [v8X, v8A, v8B, v8C, Nat.beq, Nat.ble, Int.reduceToNat, Int.reduceLE, Int.reduceLT, Nat.reduceLT, Nat.reduceLeDiff, Nat.reduceAdd, Nat.reduceMul, Nat.reduceSub, Int.reduceAdd, Int.reduceSub, Int.reduceMul, eq_self, decide_true, beq_self_eq_true, List.length_cons, List.length_nil, Nat.min_eq_left, IntKind.bits, tabs, GI9_set, d1]); (try simp (disch := omega) only [v8W])) | ((with_reducible refine hN _ _ ?_); clear hN N; (try simp (disch := omega) only [v8W])))); (try ((with_reducible refine Fin.of ?_); (try with_reducible exact True.intro))))
        (refine Vc.cond T0_ok (t := true) (by rfl) (fun _ => ?_) (fun h => Bool.noConfusion h))
        ((repeat (first | (with_reducible refine Vc.seq fun N hN => ?_) | (with_reducible refine Vc.block ?_) | ((first | with_reducible refine Vc.skip ?_ | with_reducible refine Vc.exit ?_); dsimp only [thenK, blockK, Nat.beq]; (first | (refine hN _ _ ?_; clear hN N) | skip)) | (with_reducible intro _) | ((with_reducible refine And.intro ?_ ?_); (focus (first | ((repeat' with_reducible apply And.intro) <;> first | exact sideQ | (exact hLs _ (by simp)) | (exact hrow1) | (exact hrow2) | (exact hY_f_1 _ (by simp)) | (exact hY_f_2 _ (by simp)) | (exact ⟨_, rfl, o_f_1⟩) | (exact ⟨_, rfl, o_f_2⟩) | (exact hY_g_1 _ (by simp)) | (exact hY_g_2 _ (by simp)) | (exact ⟨_, rfl, o_g_1⟩) | (exact ⟨_, rfl, o_g_2⟩)) | exact sd0))) | ((first | ((with_reducible refine askT_of ?_ (fun hb => ?_)); (focus (first | ((repeat' with_reducible apply And.intro) <;> first | exact sideQ | (exact hLs _ (by simp)) | (exact hrow1) | (exact hrow2) | (exact hY_f_1 _ (by simp)) | (exact hY_f_2 _ (by simp)) | (exact ⟨_, rfl, o_f_1⟩) | (exact ⟨_, rfl, o_f_2⟩) | (exact hY_g_1 _ (by simp)) | (exact hY_g_2 _ (by simp)) | (exact ⟨_, rfl, o_g_1⟩) | (exact ⟨_, rfl, o_g_2⟩)) | exact sd0)); (try simp only [hb])) | ((with_reducible refine Vc.fin ?_); dsimp only [thenK, blockK, retK, resS, resOne, resAll]) | ((with_reducible refine Vc.hold ?_); first | refine Vc.regiont T0_ok GI9_ok ?_ | refine Vc.drawt (id := 9) T0_ok GI9_ok (by kernel_rfl) [0, 1, 2, 3, 4] 5 [] trivial (by kernel_rfl) ?_ | refine Vc.drawt (id := 12) T0_ok GI9_ok (by kernel_rfl) [0, 1, 3, 2, 4, 5, 6, 7, 8, 9, 10, 11, 12, 13, 14, 15, 16] 17 [] trivial (by kernel_rfl) ?_)); (try simp only [v8X, v8A, v8B, v8C, Nat.beq, Nat.ble, Int.reduceToNat, Int.reduceLE, Int.reduceLT, Nat.reduceLT, Nat.reduceLeDiff, Nat.reduceAdd, Nat.reduceMul, Nat.reduceSub, Int.reduceAdd, Int.reduceSub, Int.reduceMul, eq_self, decide_true, beq_self_eq_true, List.length_cons, List.length_nil, Nat.min_eq_left, IntKind.bits, tabs, GI9_set, srcNs, tk, hgd, hmt, p_f_1, p_f_2, r_f_1, r_f_2, y_f_1, y_f_2, p_g_1, p_g_2, r_g_1, r_g_2, y_g_1, y_g_2, tk2, hgd2, hro2, hlk, htk3, hbk2, List.drop_zero, List.take_succ_cons, List.take_zero, Nat.zero_add]); (try simp (disch := omega) only [v8W])) | ((with_reducible refine hN _ _ ?_); clear hN N; (try simp (disch := omega) only [v8W])))); (try ((with_reducible refine Fin.of ?_); (try with_reducible exact True.intro))))
        rename_i v2
        refine ⟨(k + 1, v2), by simp only; omega, ?_, ?_, by simp only; omega⟩
        · rw [hat]
          ((try simp only [v8X, v8A, v8B, v8C, Nat.beq, Nat.ble, Int.reduceToNat, Int.reduceLE, Int.reduceLT, Nat.reduceLT, Nat.reduceLeDiff, Nat.reduceAdd, Nat.reduceMul, Nat.reduceSub, Int.reduceAdd, Int.reduceSub, Int.reduceMul, eq_self, decide_true, beq_self_eq_true, List.length_cons, List.length_nil, Nat.min_eq_left, IntKind.bits, tabs]); (repeat' with_reducible apply And.intro) <;> first | with_reducible exact True.intro | rfl | (congr 1 <;> omega))
        · ((try simp only [v8X, v8A, v8B, v8C, Nat.beq, Nat.ble, Int.reduceToNat, Int.reduceLE, Int.reduceLT, Nat.reduceLT, Nat.reduceLeDiff, Nat.reduceAdd, Nat.reduceMul, Nat.reduceSub, Int.reduceAdd, Int.reduceSub, Int.reduceMul, eq_self, decide_true, beq_self_eq_true, List.length_cons, List.length_nil, Nat.min_eq_left, IntKind.bits, tabs]); (repeat' with_reducible apply And.intro) <;> first | with_reducible exact True.intro | rfl | (congr 1 <;> omega))
    · have d1 : decide ((k : Int) < (n : Int)) = false := decide_eq_false (by omega)
      obtain rfl : k = n := by omega
      ((repeat (first | (with_reducible refine Vc.seq fun N hN => ?_) | (with_reducible refine Vc.block ?_) | ((first | with_reducible refine Vc.skip ?_ | with_reducible refine Vc.exit ?_); dsimp only [thenK, blockK, Nat.beq]; (first | (refine hN _ _ ?_; clear hN N) | skip)) | (with_reducible intro _) | ((with_reducible refine And.intro ?_ ?_); (focus (first | ((repeat' with_reducible apply And.intro) <;> first | exact sideQ | (exact hLs _ (by simp)) | (exact hrow1) | (exact hrow2) | (exact hY_f_1 _ (by simp)) | (exact hY_f_2 _ (by simp)) | (exact ⟨_, rfl, o_f_1⟩) | (exact ⟨_, rfl, o_f_2⟩) | (exact hY_g_1 _ (by simp)) | (exact hY_g_2 _ (by simp)) | (exact ⟨_, rfl, o_g_1⟩) | (exact ⟨_, rfl, o_g_2⟩)) | exact sd0))) | ((first | ((with_reducible refine askT_of ?_ (fun hb => ?_)); (focus (first | ((repeat' with_reducible apply And.intro) <;> first | exact sideQ | (exact hLs _ (by simp)) | (exact hrow1) | (exact hrow2) | (exact hY_f_1 _ (by simp)) | (exact hY_f_2 _ (by simp)) | (exact ⟨_, rfl, o_f_1⟩) | (exact ⟨_, rfl, o_f_2⟩) | (exact hY_g_1 _ (by simp)) | (exact hY_g_2 _ (by simp)) | (exact ⟨_, rfl, o_g_1⟩) | (exact ⟨_, rfl, o_g_2⟩)) | exact sd0)); (try simp only [hb])) | ((with_reducible refine Vc.fin ?_); dsimp only [thenK, blockK, retK, resS, resOne, resAll]) | ((with_reducible refine Vc.hold ?_); first | refine Vc.regiont T0_ok GI9_ok ?_ | refine Vc.drawt (id := 9) T0_ok GI9_ok (by kernel_rfl) [0, 1, 2, 3, 4] 5 [] trivial (by kernel_rfl) ?_ | refine Vc.drawt (id := 12) T0_ok GI9_ok (by kernel_rfl) [0, 1, 3, 2, 4, 5, 6, 7, 8, 9, 10, 11, 12, 13, 14, 15, 16] 17 [] trivial (by kernel_rfl) ?_)); (try simp only [v8X, v8A, v8B, v8C, Nat.beq, Nat.ble, Int.reduceToNat, Int.reduceLE, Int.reduceLT, Nat.reduceLT, Nat.reduceLeDiff, Nat.reduceAdd, Nat.reduceMul, Nat.reduceSub, Int.reduceAdd, Int.reduceSub, Int.reduceMul, eq_self, decide_true, beq_self_eq_true, List.length_cons, List.length_nil, Nat.min_eq_left, IntKind.bits, tabs, GI9_set, d1]); (try simp (disch := omega) only [v8W])) | ((with_reducible refine hN _ _ ?_); clear hN N; (try simp (disch := omega) only [v8W])))); (try ((with_reducible refine Fin.of ?_); (try with_reducible exact True.intro))))
      (refine Vc.cond T0_ok (t := false) (by rfl) (fun h => Bool.noConfusion h) (fun _ => ?_))
      ((repeat (first | (with_reducible refine Vc.seq fun N hN => ?_) | (with_reducible refine Vc.block ?_) | ((first | with_reducible refine Vc.skip ?_ | with_reducible refine Vc.exit ?_); dsimp only [thenK, blockK, Nat.beq]; (first | (refine hN _ _ ?_; clear hN N) | skip)) | (with_reducible intro _) | ((with_reducible refine And.intro ?_ ?_); (focus (first | ((repeat' with_reducible apply And.intro) <;> first | exact sideQ | (exact hLs _ (by simp)) | (exact hrow1) | (exact hrow2) | (exact hY_f_1 _ (by simp)) | (exact hY_f_2 _ (by simp)) | (exact ⟨_, rfl, o_f_1⟩) | (exact ⟨_, rfl, o_f_2⟩) | (exact hY_g_1 _ (by simp)) | (exact hY_g_2 _ (by simp)) | (exact ⟨_, rfl, o_g_1⟩) | (exact ⟨_, rfl, o_g_2⟩)) | exact sd0))) | ((first | ((with_reducible refine askT_of ?_ (fun hb => ?_)); (focus (first | ((repeat' with_reducible apply And.intro) <;> first | exact sideQ | (exact hLs _ (by simp)) | (exact hrow1) | (exact hrow2) | (exact hY_f_1 _ (by simp)) | (exact hY_f_2 _ (by simp)) | (exact ⟨_, rfl, o_f_1⟩) | (exact ⟨_, rfl, o_f_2⟩) | (exact hY_g_1 _ (by simp)) | (exact hY_g_2 _ (by simp)) | (exact ⟨_, rfl, o_g_1⟩) | (exact ⟨_, rfl, o_g_2⟩)) | exact sd0)); (try simp only [hb])) | ((with_reducible refine Vc.fin ?_); dsimp only [thenK, blockK, retK, resS, resOne, resAll]) | ((with_reducible refine Vc.hold ?_); first | refine Vc.regiont T0_ok GI9_ok ?_ | refine Vc.drawt (id := 9) T0_ok GI9_ok (by kernel_rfl) [0, 1, 2, 3, 4] 5 [] trivial (by kernel_rfl) ?_ | refine Vc.drawt (id := 12) T0_ok GI9_ok (by kernel_rfl) [0, 1, 3, 2, 4, 5, 6, 7, 8, 9, 10, 11, 12, 13, 14, 15, 16] 17 [] trivial (by kernel_rfl) ?_)); (try simp only [v8X, v8A, v8B, v8C, Nat.beq, Nat.ble, Int.reduceToNat, Int.reduceLE, Int.reduceLT, Nat.reduceLT, Nat.reduceLeDiff, Nat.reduceAdd, Nat.reduceMul, Nat.reduceSub, Int.reduceAdd, Int.reduceSub, Int.reduceMul, eq_self, decide_true, beq_self_eq_true, List.length_cons, List.length_nil, Nat.min_eq_left, IntKind.bits, tabs, GI9_set]); (try simp (disch := omega) only [v8W])) | ((with_reducible refine hN _ _ ?_); clear hN N; (try simp (disch := omega) only [v8W])))); (try ((with_reducible refine Fin.of ?_); (try with_reducible exact True.intro))))
      (refine hN1 _ _ ?_; (try clear hN N); clear hN1 N1)
      have eR : fs.take k = fs := List.take_of_length_le (by omega)
      have eV : fs.reverse.take k = fs.reverse := List.take_of_length_le (by rw [List.length_reverse]; omega)
      rw [eR, eV]
      have hokr2 : ∀ c ∈ rdU fs.reverse, okP c := fun c hc => hokr c ((rdU_rev fs c).2 hc)
      have hokw2 : ∀ c ∈ wrU fs.reverse, okP c := fun c hc => hokw c ((wrU_rev fs c).2 hc)
      have hrd2 : rdR (fs.reverse.map ftRow) = rdU fs.reverse := rdR_eq fun g hg => (hF g (List.mem_reverse.1 hg)).p1.ok
      have hwd2 : wrR (fs.reverse.map ftRow) = wrU fs.reverse := wrR_eq fun g hg => (hF g (List.mem_reverse.1 hg)).p2.ok
      have hmz : meetsD f.l1 f.l2 x.l1 x.l2 = (fs.any fun g => meetsD f.l1 f.l2 g.l1 g.l2) := (meets_set (hx.s1.iff hokr) (hx.s2.iff hokw)).trans (meets_any _ _ _)
      generalize (fs.any fun g => meetsD f.l1 f.l2 g.l1 g.l2) = z at *
      have hzz : decide (z = z) = true := decide_eq_true rfl
      have hro2 := ftRows_ok fs.reverse
      have hlk : (fs.reverse.map ftRow).length = k := by rw [List.length_map, List.length_reverse]; omega
      have htk3 := List.take_of_length_le (show (fs.reverse.map ftRow).length ≤ k by omega)
      have hrev : ∃ gs : List FtD, fs.reverse.map ftRow = gs.map ftRow ∧ ∀ g ∈ gs, FtB (H0 w) g := ⟨fs.reverse, rfl, fun g hg => hFB _ (List.mem_reverse.1 hg)⟩
      have rx1 := rowsOk_pl hx.p1.ok
      have rx2 := rowsOk_pl hx.p2.ok
      have tx1 : (x.l1.map plL).take x.l1.length = x.l1.map plL := List.take_of_length_le (by rw [List.length_map]; exact Nat.le_refl _)
      have tx2 : (x.l2.map plL).take x.l2.length = x.l2.map plL := List.take_of_length_le (by rw [List.length_map]; exact Nat.le_refl _)
      have px1 := plsOf_eq hx.p1.ok
      have px2 := plsOf_eq hx.p2.ok
      have w1 := hx.wit1
      have w2 := hx.wit2
      have f1 := hx.few1
      have f2 := hx.few2
      have g1 := hx.le1
      have g2 := hx.le2
      have j1 := hx.adr1
      have j2 := hx.adr2
      have hs1 : ∀ m, Blk.heap x.h ∈ m → LiesH (HM m) x.a1 (cc (.rows 25 (x.l1.map plL))) := fun m hin => hx.src1 hin
      have hs2 : ∀ m, Blk.heap x.h ∈ m → LiesH (HM m) x.a2 (cc (.rows 25 (x.l2.map plL))) := fun m hin => hx.src2 hin
      have hlx1 : (x.l1.map plL).length = x.l1.length := List.length_map ..
      have hlx2 : (x.l2.map plL).length = x.l2.length := List.length_map ..
      ((repeat (first | (with_reducible refine Vc.seq fun N hN => ?_) | (with_reducible refine Vc.block ?_) | ((first | with_reducible refine Vc.skip ?_ | with_reducible refine Vc.exit ?_); dsimp only [thenK, blockK, Nat.beq]; (first | (refine hN _ _ ?_; clear hN N) | skip)) | (with_reducible intro _) | ((with_reducible refine And.intro ?_ ?_); (focus (first | ((repeat' with_reducible apply And.intro) <;> first | exact sideQ | (exact hLs _ (by simp)) | (exact hrow1) | (exact hrow2) | (exact hY_f_1 _ (by simp)) | (exact hY_f_2 _ (by simp)) | (exact ⟨_, rfl, o_f_1⟩) | (exact ⟨_, rfl, o_f_2⟩) | (exact hs1 _ (by simp)) | (exact hs2 _ (by simp)) | (exact hsy1 _ (by simp)) | (exact hsy2 _ (by simp)) | (exact ⟨fs.reverse, hrev, fun f hf => (hFB _ (List.mem_reverse.1 hf)).mono (H0.hm (by simp))⟩) | (exact hUU _ (by simp)) | (exact hs1 _ (by simp)) | (exact hs2 _ (by simp)) | (exact hrev.imp fun gs h => ⟨h.1, fun g hg => (h.2 g hg).mono (H0.hm (by simp))⟩)) | exact sd0))) | ((first | ((with_reducible refine askT_of ?_ (fun hb => ?_)); (focus (first | ((repeat' with_reducible apply And.intro) <;> first | exact sideQ | (exact hLs _ (by simp)) | (exact hrow1) | (exact hrow2) | (exact hY_f_1 _ (by simp)) | (exact hY_f_2 _ (by simp)) | (exact ⟨_, rfl, o_f_1⟩) | (exact ⟨_, rfl, o_f_2⟩) | (exact hs1 _ (by simp)) | (exact hs2 _ (by simp)) | (exact hsy1 _ (by simp)) | (exact hsy2 _ (by simp)) | (exact ⟨fs.reverse, hrev, fun f hf => (hFB _ (List.mem_reverse.1 hf)).mono (H0.hm (by simp))⟩) | (exact hUU _ (by simp)) | (exact hs1 _ (by simp)) | (exact hs2 _ (by simp)) | (exact hrev.imp fun gs h => ⟨h.1, fun g hg => (h.2 g hg).mono (H0.hm (by simp))⟩)) | exact sd0)); (try simp only [hb])) | ((with_reducible refine Vc.fin ?_); dsimp only [thenK, blockK, retK, resS, resOne, resAll]) | ((with_reducible refine Vc.hold ?_); first | refine Vc.regiont T0_ok GI9_ok ?_ | refine Vc.drawt (id := 9) T0_ok GI9_ok (by kernel_rfl) [0, 1, 2, 3, 4] 5 [] trivial (by kernel_rfl) ?_ | refine Vc.drawt (id := 12) T0_ok GI9_ok (by kernel_rfl) [0, 1, 3, 2, 4, 5, 6, 7, 8, 9, 10, 11, 12, 13, 14, 15, 16] 17 [] trivial (by kernel_rfl) ?_)); (try simp only [v8X, v8A, v8B, v8C, Nat.beq, Nat.ble, Int.reduceToNat, Int.reduceLE, Int.reduceLT, Nat.reduceLT, Nat.reduceLeDiff, Nat.reduceAdd, Nat.reduceMul, Nat.reduceSub, Int.reduceAdd, Int.reduceSub, Int.reduceMul, eq_self, decide_true, beq_self_eq_true, List.length_cons, List.length_nil, Nat.min_eq_left, IntKind.bits, tabs, GI9_set, srcNs, hmz, hzz, p_f_1, p_f_2, r_f_1, r_f_2, y_f_1, y_f_2, px1, px2, rx1, rx2, tx1, tx2, hro2, hlk, htk3, hrd2, hwd2, FtF, List.drop_zero]); (try simp (disch := omega) only [v8W])) | ((with_reducible refine hN _ _ ?_); clear hN N; (try simp (disch := omega) only [v8W])))); (try ((with_reducible refine Fin.of ?_); (try with_reducible exact True.intro))))
      rename_i y hy
      have wy1 := hy.wit1
      have wy2 := hy.wit2
      have fy1 := hy.few1
      have fy2 := hy.few2
      have gy1 := hy.le1
      have gy2 := hy.le2
      have jy1 := hy.adr1
      have jy2 := hy.adr2
      have hsy1 : ∀ m, Blk.heap y.h ∈ m → LiesH (HM m) y.a1 (cc (.rows 25 (y.l1.map plL))) := fun m hin => hy.src1 hin
      have hsy2 : ∀ m, Blk.heap y.h ∈ m → LiesH (HM m) y.a2 (cc (.rows 25 (y.l2.map plL))) := fun m hin => hy.src2 hin
      have hly1 : (y.l1.map plL).length = y.l1.length := List.length_map ..
      have hly2 : (y.l2.map plL).length = y.l2.length := List.length_map ..
      have ry1 := rowsOk_pl hy.p1.ok
      have ry2 := rowsOk_pl hy.p2.ok
      have ty1 : (y.l1.map plL).take y.l1.length = y.l1.map plL := List.take_of_length_le (by rw [List.length_map]; exact Nat.le_refl _)
      have ty2 : (y.l2.map plL).take y.l2.length = y.l2.map plL := List.take_of_length_le (by rw [List.length_map]; exact Nat.le_refl _)
      have py1 := plsOf_eq hy.p1.ok
      have py2 := plsOf_eq hy.p2.ok
      have ee1 : decide (x.l1 = y.l1) = true := decide_eq_true (set_same hx.s1 hy.s1 hokr hokr2 (rdU_rev fs))
      have ee2 : decide (x.l2 = y.l2) = true := decide_eq_true (set_same hx.s2 hy.s2 hokw hokw2 (wrU_rev fs))
      have hrx : rdR [[.gh x.a1 x.l1.length x.c1 (.rows 25 (x.l1.map plL)), .gh x.a2 x.l2.length x.c2 (.rows 25 (x.l2.map plL))], [.gh x.a1 x.l1.length x.c1 (.rows 25 (x.l1.map plL)), .gh x.a2 x.l2.length x.c2 (.rows 25 (x.l2.map plL))]] = x.l1 ++ x.l1 := by
        show plsOf (x.l1.map plL) ++ (plsOf (x.l1.map plL) ++ []) = _
        rw [px1, List.append_nil]
      have hwx : wrR [[.gh x.a1 x.l1.length x.c1 (.rows 25 (x.l1.map plL)), .gh x.a2 x.l2.length x.c2 (.rows 25 (x.l2.map plL))], [.gh x.a1 x.l1.length x.c1 (.rows 25 (x.l1.map plL)), .gh x.a2 x.l2.length x.c2 (.rows 25 (x.l2.map plL))]] = x.l2 ++ x.l2 := by
        show plsOf (x.l2.map plL) ++ (plsOf (x.l2.map plL) ++ []) = _
        rw [px2, List.append_nil]
      have hb1 : x.l1.length ≤ 10000 := Nat.le_trans hx.s1.short hsz1
      have hb2 : x.l2.length ≤ 10000 := Nat.le_trans hx.s2.short hsz2
      have hUU : ∀ m, Blk.heap x.h ∈ m → ∃ gs : List FtD, [[.gh x.a1 x.l1.length x.c1 (.rows 25 (x.l1.map plL)), .gh x.a2 x.l2.length x.c2 (.rows 25 (x.l2.map plL))], [.gh x.a1 x.l1.length x.c1 (.rows 25 (x.l1.map plL)), .gh x.a2 x.l2.length x.c2 (.rows 25 (x.l2.map plL))]] = gs.map ftRow ∧ ∀ g ∈ gs, FtB (HM m) g := fun m hin => by
        refine ⟨[⟨x.a1, x.l1.length, x.c1, x.l1, x.a2, x.l2.length, x.c2, x.l2⟩, ⟨x.a1, x.l1.length, x.c1, x.l1, x.a2, x.l2.length, x.c2, x.l2⟩], rfl, fun g hg => ?_⟩
        have hq : FtB (HM m) ⟨x.a1, x.l1.length, x.c1, x.l1, x.a2, x.l2.length, x.c2, x.l2⟩ := ⟨⟨⟨rfl, hx.le1, hx.adr1, hx.src1 hin, hx.p1.ok⟩, ⟨rfl, hx.le2, hx.adr2, hx.src2 hin, hx.p2.ok⟩, by show x.l1.length ≤ maxLen; unfold maxLen; omega, by show x.l2.length ≤ maxLen; unfold maxLen; omega⟩, hb1, hb2⟩
        simp only [List.mem_cons, List.not_mem_nil, or_false, or_self] at hg
        rw [hg]; exact hq
      (simp only [v8X, v8A, v8B, v8C, Nat.beq, Nat.ble, Int.reduceToNat, Int.reduceLE, Int.reduceLT, Nat.reduceLT, Nat.reduceLeDiff, Nat.reduceAdd, Nat.reduceMul, Nat.reduceSub, Int.reduceAdd, Int.reduceSub, Int.reduceMul, eq_self, decide_true, beq_self_eq_true, List.length_cons, List.length_nil, Nat.min_eq_left, IntKind.bits, tabs, GI9_set, srcNs, ry1, ry2, ty1, ty2, py1, py2, ee1, ee2, px1, px2, rx1, rx2, tx1, tx2, hrx, hwx, FtF, List.drop_zero, List.take_succ_cons, List.take_zero, Bool.and_true]; (try simp (disch := omega) only [v8W]); (repeat (first | with_reducible intro _ | ((with_reducible refine And.intro ?_ ?_); (focus (first | ((repeat' with_reducible apply And.intro) <;> first | exact sideQ | (exact hLs _ (by simp)) | (exact hrow1) | (exact hrow2) | (exact hY_f_1 _ (by simp)) | (exact hY_f_2 _ (by simp)) | (exact ⟨_, rfl, o_f_1⟩) | (exact ⟨_, rfl, o_f_2⟩) | (exact hs1 _ (by simp)) | (exact hs2 _ (by simp)) | (exact hsy1 _ (by simp)) | (exact hsy2 _ (by simp)) | (exact ⟨fs.reverse, hrev, fun f hf => (hFB _ (List.mem_reverse.1 hf)).mono (H0.hm (by simp))⟩) | (exact hUU _ (by simp)) | (exact hs1 _ (by simp)) | (exact hs2 _ (by simp)) | (exact hrev.imp fun gs h => ⟨h.1, fun g hg => (h.2 g hg).mono (H0.hm (by simp))⟩)) | exact sd0))) | ((with_reducible refine askT_of ?_ (fun hb => ?_)); (focus (first | ((repeat' with_reducible apply And.intro) <;> first | exact sideQ | (exact hLs _ (by simp)) | (exact hrow1) | (exact hrow2) | (exact hY_f_1 _ (by simp)) | (exact hY_f_2 _ (by simp)) | (exact ⟨_, rfl, o_f_1⟩) | (exact ⟨_, rfl, o_f_2⟩) | (exact hs1 _ (by simp)) | (exact hs2 _ (by simp)) | (exact hsy1 _ (by simp)) | (exact hsy2 _ (by simp)) | (exact ⟨fs.reverse, hrev, fun f hf => (hFB _ (List.mem_reverse.1 hf)).mono (H0.hm (by simp))⟩) | (exact hUU _ (by simp)) | (exact hs1 _ (by simp)) | (exact hs2 _ (by simp)) | (exact hrev.imp fun gs h => ⟨h.1, fun g hg => (h.2 g hg).mono (H0.hm (by simp))⟩)) | exact sd0)); simp only [hb, v8X, v8A, v8B, v8C, Nat.beq, Nat.ble, Int.reduceToNat, Int.reduceLE, Int.reduceLT, Nat.reduceLT, Nat.reduceLeDiff, Nat.reduceAdd, Nat.reduceMul, Nat.reduceSub, Int.reduceAdd, Int.reduceSub, Int.reduceMul, eq_self, decide_true, beq_self_eq_true, List.length_cons, List.length_nil, Nat.min_eq_left, IntKind.bits, tabs, GI9_set, srcNs, ry1, ry2, ty1, ty2, py1, py2, ee1, ee2, px1, px2, rx1, rx2, tx1, tx2, hrx, hwx, FtF, List.drop_zero, List.take_succ_cons, List.take_zero, Bool.and_true]; (try simp (disch := omega) only [v8W])))); (first | (refine hN _ _ ?_; clear hN N; (try simp (disch := omega) only [v8W])) | skip))
      rename_i b6 y3 hy3
      clear hy ry1 ry2 ty1 ty2 py1 py2 ee1 ee2 wy1 wy2 fy1 fy2 gy1 gy2 jy1 jy2 hsy1 hsy2 hly1 hly2
      have wy1 := hy3.wit1
      have wy2 := hy3.wit2
      have fy1 := hy3.few1
      have fy2 := hy3.few2
      have gy1 := hy3.le1
      have gy2 := hy3.le2
      have jy1 := hy3.adr1
      have jy2 := hy3.adr2
      have hsy1 : ∀ m, Blk.heap y3.h ∈ m → LiesH (HM m) y3.a1 (cc (.rows 25 (y3.l1.map plL))) := fun m hin => hy3.src1 hin
      have hsy2 : ∀ m, Blk.heap y3.h ∈ m → LiesH (HM m) y3.a2 (cc (.rows 25 (y3.l2.map plL))) := fun m hin => hy3.src2 hin
      have hly1 : (y3.l1.map plL).length = y3.l1.length := List.length_map ..
      have hly2 : (y3.l2.map plL).length = y3.l2.length := List.length_map ..
      have ry1 := rowsOk_pl hy3.p1.ok
      have ry2 := rowsOk_pl hy3.p2.ok
      have ty1 : (y3.l1.map plL).take y3.l1.length = y3.l1.map plL := List.take_of_length_le (by rw [List.length_map]; exact Nat.le_refl _)
      have ty2 : (y3.l2.map plL).take y3.l2.length = y3.l2.map plL := List.take_of_length_le (by rw [List.length_map]; exact Nat.le_refl _)
      have py1 := plsOf_eq hy3.p1.ok
      have py2 := plsOf_eq hy3.p2.ok
      have ha1 : ∀ z : List Int, z ∈ rdU fs ↔ z ∈ x.l1 ++ x.l1 := fun z => by rw [List.mem_append, or_self]; exact (hx.s1.iff hokr z).symm
      have ha2 : ∀ z : List Int, z ∈ wrU fs ↔ z ∈ x.l2 ++ x.l2 := fun z => by rw [List.mem_append, or_self]; exact (hx.s2.iff hokw z).symm
      have ee1 : decide (x.l1 = y3.l1) = true := decide_eq_true (set_same hx.s1 hy3.s1 hokr (fun z hz => hokr z ((ha1 z).2 hz)) ha1)
      have ee2 : decide (x.l2 = y3.l2) = true := decide_eq_true (set_same hx.s2 hy3.s2 hokw (fun z hz => hokw z ((ha2 z).2 hz)) ha2)
      (simp only [v8X, v8A, v8B, v8C, Nat.beq, Nat.ble, Int.reduceToNat, Int.reduceLE, Int.reduceLT, Nat.reduceLT, Nat.reduceLeDiff, Nat.reduceAdd, Nat.reduceMul, Nat.reduceSub, Int.reduceAdd, Int.reduceSub, Int.reduceMul, eq_self, decide_true, beq_self_eq_true, List.length_cons, List.length_nil, Nat.min_eq_left, IntKind.bits, tabs, GI9_set, srcNs, ry1, ry2, ty1, ty2, py1, py2, ee1, ee2, px1, px2, rx1, rx2, tx1, tx2, FtF, List.drop_zero, List.take_succ_cons, List.take_zero, Bool.and_true]; (try simp (disch := omega) only [v8W]); (repeat (first | with_reducible intro _ | ((with_reducible refine And.intro ?_ ?_); (focus (first | ((repeat' with_reducible apply And.intro) <;> first | exact sideQ | (exact hLs _ (by simp)) | (exact hrow1) | (exact hrow2) | (exact hY_f_1 _ (by simp)) | (exact hY_f_2 _ (by simp)) | (exact ⟨_, rfl, o_f_1⟩) | (exact ⟨_, rfl, o_f_2⟩) | (exact hs1 _ (by simp)) | (exact hs2 _ (by simp)) | (exact hsy1 _ (by simp)) | (exact hsy2 _ (by simp)) | (exact ⟨fs.reverse, hrev, fun f hf => (hFB _ (List.mem_reverse.1 hf)).mono (H0.hm (by simp))⟩) | (exact hUU _ (by simp)) | (exact hs1 _ (by simp)) | (exact hs2 _ (by simp)) | (exact hrev.imp fun gs h => ⟨h.1, fun g hg => (h.2 g hg).mono (H0.hm (by simp))⟩)) | exact sd0))) | ((with_reducible refine askT_of ?_ (fun hb => ?_)); (focus (first | ((repeat' with_reducible apply And.intro) <;> first | exact sideQ | (exact hLs _ (by simp)) | (exact hrow1) | (exact hrow2) | (exact hY_f_1 _ (by simp)) | (exact hY_f_2 _ (by simp)) | (exact ⟨_, rfl, o_f_1⟩) | (exact ⟨_, rfl, o_f_2⟩) | (exact hs1 _ (by simp)) | (exact hs2 _ (by simp)) | (exact hsy1 _ (by simp)) | (exact hsy2 _ (by simp)) | (exact ⟨fs.reverse, hrev, fun f hf => (hFB _ (List.mem_reverse.1 hf)).mono (H0.hm (by simp))⟩) | (exact hUU _ (by simp)) | (exact hs1 _ (by simp)) | (exact hs2 _ (by simp)) | (exact hrev.imp fun gs h => ⟨h.1, fun g hg => (h.2 g hg).mono (H0.hm (by simp))⟩)) | exact sd0)); simp only [hb, v8X, v8A, v8B, v8C, Nat.beq, Nat.ble, Int.reduceToNat, Int.reduceLE, Int.reduceLT, Nat.reduceLT, Nat.reduceLeDiff, Nat.reduceAdd, Nat.reduceMul, Nat.reduceSub, Int.reduceAdd, Int.reduceSub, Int.reduceMul, eq_self, decide_true, beq_self_eq_true, List.length_cons, List.length_nil, Nat.min_eq_left, IntKind.bits, tabs, GI9_set, srcNs, ry1, ry2, ty1, ty2, py1, py2, ee1, ee2, px1, px2, rx1, rx2, tx1, tx2, FtF, List.drop_zero, List.take_succ_cons, List.take_zero, Bool.and_true]; (try simp (disch := omega) only [v8W])))); (first | (refine hN _ _ ?_; clear hN N; (try simp (disch := omega) only [v8W])) | skip))
      ((repeat (first | (with_reducible refine Vc.seq fun N hN => ?_) | (with_reducible refine Vc.block ?_) | ((first | with_reducible refine Vc.skip ?_ | with_reducible refine Vc.exit ?_); dsimp only [thenK, blockK, Nat.beq]; (first | (refine hN _ _ ?_; clear hN N) | skip)) | (with_reducible intro _) | ((with_reducible refine And.intro ?_ ?_); (focus (first | ((repeat' with_reducible apply And.intro) <;> first | exact sideQ | (exact hLs _ (by simp)) | (exact hrow1) | (exact hrow2) | (exact hY_f_1 _ (by simp)) | (exact hY_f_2 _ (by simp)) | (exact ⟨_, rfl, o_f_1⟩) | (exact ⟨_, rfl, o_f_2⟩) | (exact hs1 _ (by simp)) | (exact hs2 _ (by simp)) | (exact hsy1 _ (by simp)) | (exact hsy2 _ (by simp)) | (exact ⟨fs.reverse, hrev, fun f hf => (hFB _ (List.mem_reverse.1 hf)).mono (H0.hm (by simp))⟩) | (exact hUU _ (by simp)) | (exact hs1 _ (by simp)) | (exact hs2 _ (by simp)) | (exact hrev.imp fun gs h => ⟨h.1, fun g hg => (h.2 g hg).mono (H0.hm (by simp))⟩)) | exact sd0))) | ((first | ((with_reducible refine askT_of ?_ (fun hb => ?_)); (focus (first | ((repeat' with_reducible apply And.intro) <;> first | exact sideQ | (exact hLs _ (by simp)) | (exact hrow1) | (exact hrow2) | (exact hY_f_1 _ (by simp)) | (exact hY_f_2 _ (by simp)) | (exact ⟨_, rfl, o_f_1⟩) | (exact ⟨_, rfl, o_f_2⟩) | (exact hs1 _ (by simp)) | (exact hs2 _ (by simp)) | (exact hsy1 _ (by simp)) | (exact hsy2 _ (by simp)) | (exact ⟨fs.reverse, hrev, fun f hf => (hFB _ (List.mem_reverse.1 hf)).mono (H0.hm (by simp))⟩) | (exact hUU _ (by simp)) | (exact hs1 _ (by simp)) | (exact hs2 _ (by simp)) | (exact hrev.imp fun gs h => ⟨h.1, fun g hg => (h.2 g hg).mono (H0.hm (by simp))⟩)) | exact sd0)); (try simp only [hb])) | ((with_reducible refine Vc.fin ?_); dsimp only [thenK, blockK, retK, resS, resOne, resAll]) | ((with_reducible refine Vc.hold ?_); first | refine Vc.regiont T0_ok GI9_ok ?_ | refine Vc.drawt (id := 9) T0_ok GI9_ok (by kernel_rfl) [0, 1, 2, 3, 4] 5 [] trivial (by kernel_rfl) ?_ | refine Vc.drawt (id := 12) T0_ok GI9_ok (by kernel_rfl) [0, 1, 3, 2, 4, 5, 6, 7, 8, 9, 10, 11, 12, 13, 14, 15, 16] 17 [] trivial (by kernel_rfl) ?_)); (try simp only [v8X, v8A, v8B, v8C, Nat.beq, Nat.ble, Int.reduceToNat, Int.reduceLE, Int.reduceLT, Nat.reduceLT, Nat.reduceLeDiff, Nat.reduceAdd, Nat.reduceMul, Nat.reduceSub, Int.reduceAdd, Int.reduceSub, Int.reduceMul, eq_self, decide_true, beq_self_eq_true, List.length_cons, List.length_nil, Nat.min_eq_left, IntKind.bits, tabs, GI9_set]); (try simp (disch := omega) only [v8W])) | ((with_reducible refine hN _ _ ?_); clear hN N; (try simp (disch := omega) only [v8W])))); (try ((with_reducible refine Fin.of ?_); (try with_reducible exact True.intro))))
      exact ⟨by simp, trivial⟩
end Go.Proofs.Ytdanlclhnehieaa
