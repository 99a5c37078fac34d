/-
  Package foot: Meets and Touches, walked. No condition.
-/
import Derived.Test.YtdanlclhnehieaaI1
namespace Go.Proofs.Ytdanlclhnehieaa
set_option linter.unusedSimpArgs false
set_option linter.unusedVariables false
set_option maxHeartbeats 4000000
set_option linter.defProp false
open Go.RowKit
def meetsD (r1 w1 r2 w2 : List (List Int)) : Bool := anyIn r2 w1 || (anyIn w2 w1 || anyIn r1 w2)
def touchD (r w l : List (List Int)) : Bool := anyIn r l || anyIn w l
noncomputable def GI5 : Ctr := fun f args m => match f with
  | 13 => g_among args m
  | 18 => g_amg1 args m
  | _ => .none
theorem GI5_ok : GOk Try.prog GI5 := by
  intro w0 B f args m; unfold GI5; split
  · exact g_among_ok _ _ _ _
  · exact g_amg1_ok _ _ _ _
  · exact trivial
theorem GI5_among : GI5 13 = g_among := by funext args m; rfl
theorem GI5_amg1 : GI5 18 = g_amg1 := by funext args m; rfl
def GI5_set := And.intro (And.intro (@GI5_among) (@g_among.eq_def)) (And.intro (@GI5_amg1) (@g_amg1.eq_def))

set_option maxRecDepth 20000 in
theorem meets_vc (a1 a2 a3 a4 : Option Addr) (n1 n2 n3 n4 c1 c2 c3 c4 : Nat) (l1 l2 l3 l4 : List (List Int)) (w : World) (h1 : PlL (H0 w) a1 n1 c1 l1) (h2 : PlL (H0 w) a2 n2 c2 l2) (h3 : PlL (H0 w) a3 n3 c3 l3) (h4 : PlL (H0 w) a4 n4 c4 l4) (b1 : n1 ≤ 1000000) (b2 : n2 ≤ 1000000) (b3 : n3 ≤ 1000000) (b4 : n4 ≤ 1000000) :
    Calls Try.prog 8 (cvs [.agg [.gh a1 n1 c1 (.rows 25 (l1.map plL)), .gh a2 n2 c2 (.rows 25 (l2.map plL))], .agg [.gh a3 n3 c3 (.rows 25 (l3.map plL)), .gh a4 n4 c4 (.rows 25 (l4.map plL))]]).toArray w (fun en w' => ∃ u, en = .returned u ∧ ∃ v' m', u = cv v' ∧ MemOk w [] m' w' ∧ v' = .bool (meetsD l1 l2 l3 l4)) := by
  have hR1 : ∀ m, allOld w ∈ m → LiesH (HM m) a1 (cc (.rows 25 (l1.map plL))) := fun m hin => h1.lies.mono (H0.hm hin)
  have p1 := plsOf_eq h1.ok
  have r1 := rowsOk_pl h1.ok
  have o1 := h1.ok
  have le1 := h1.le
  have ad1 := h1.adr
  have t1 : (l1.map plL).length = n1 := by rw [List.length_map, h1.len]
  have y1 := List.take_of_length_le (show (l1.map plL).length ≤ n1 by omega)
  have hW1 : ∀ m, allOld w ∈ m → LiesH (HM m) a2 (cc (.rows 25 (l2.map plL))) := fun m hin => h2.lies.mono (H0.hm hin)
  have p2 := plsOf_eq h2.ok
  have r2 := rowsOk_pl h2.ok
  have o2 := h2.ok
  have le2 := h2.le
  have ad2 := h2.adr
  have t2 : (l2.map plL).length = n2 := by rw [List.length_map, h2.len]
  have y2 := List.take_of_length_le (show (l2.map plL).length ≤ n2 by omega)
  have hR2 : ∀ m, allOld w ∈ m → LiesH (HM m) a3 (cc (.rows 25 (l3.map plL))) := fun m hin => h3.lies.mono (H0.hm hin)
  have p3 := plsOf_eq h3.ok
  have r3 := rowsOk_pl h3.ok
  have o3 := h3.ok
  have le3 := h3.le
  have ad3 := h3.adr
  have t3 : (l3.map plL).length = n3 := by rw [List.length_map, h3.len]
  have y3 := List.take_of_length_le (show (l3.map plL).length ≤ n3 by omega)
  have hW2 : ∀ m, allOld w ∈ m → LiesH (HM m) a4 (cc (.rows 25 (l4.map plL))) := fun m hin => h4.lies.mono (H0.hm hin)
  have p4 := plsOf_eq h4.ok
  have r4 := rowsOk_pl h4.ok
  have o4 := h4.ok
  have le4 := h4.le
  have ad4 := h4.adr
  have t4 : (l4.map plL).length = n4 := by rw [List.length_map, h4.len]
  have y4 := List.take_of_length_le (show (l4.map plL).length ≤ n4 by omega)
  clear h1 h2 h3 h4
  unfold meetsD
  generalize hz1 : anyIn l3 l2 = z1
  generalize hz2 : anyIn l4 l2 = z2
  generalize hz3 : anyIn l1 l4 = z3
  refine Vc.calls T0_ok Try.func8 rfl rfl (args := [.agg [.gh a1 n1 c1 (.rows 25 (l1.map plL)), .gh a2 n2 c2 (.rows 25 (l2.map plL))], .agg [.gh a3 n3 c3 (.rows 25 (l3.map plL)), .gh a4 n4 c4 (.rows 25 (l4.map plL))]]) (k := 27) rfl (old_start w) ?_; change Vc _ _ (c8 (.agg [.gh a1 n1 c1 (.rows 25 (l1.map plL)), .gh a2 n2 c2 (.rows 25 (l2.map plL))]) (.agg [.gh a3 n3 c3 (.rows 25 (l3.map plL)), .gh a4 n4 c4 (.rows 25 (l4.map plL))]) .undef .undef .undef .undef .undef .undef (c8 .undef .undef .undef .undef .undef .undef .undef .undef (c8 .undef .undef .undef .undef .undef .undef .undef .undef ([.undef, .undef, .undef, .undef, .undef])))) _ _
  cases z1
  · cases z2
    · ((repeat (first | (with_reducible refine Vc.seq fun N hN => ?_) | (with_reducible refine Vc.block ?_) | ((first | with_reducible refine Vc.skip ?_ | with_reducible refine Vc.exit ?_); dsimp only [thenK, blockK, Nat.beq]; (first | (refine hN _ _ ?_; clear hN N) | skip)) | (with_reducible intro _) | ((with_reducible refine And.intro ?_ ?_); (focus (first | ((repeat' with_reducible apply And.intro) <;> first | exact sideQ | (exact hR1 _ (by simp)) | (exact hW1 _ (by simp)) | (exact hR2 _ (by simp)) | (exact hW2 _ (by simp)) | (exact ⟨_, rfl, o1⟩) | (exact ⟨_, rfl, o2⟩) | (exact ⟨_, rfl, o3⟩) | (exact ⟨_, rfl, o4⟩) | (refine ⟨_, rfl, o1, ?_⟩; exact AmgC.mono (by assumption) (Hl.hm (by simp) fun _ h => h)) | (refine ⟨_, rfl, o2, ?_⟩; exact AmgC.mono (by assumption) (Hl.hm (by simp) fun _ h => h)) | (refine ⟨_, rfl, o3, ?_⟩; exact AmgC.mono (by assumption) (Hl.hm (by simp) fun _ h => h)) | (refine ⟨_, rfl, o4, ?_⟩; exact AmgC.mono (by assumption) (Hl.hm (by simp) fun _ h => h))) | exact sd0))) | ((first | ((with_reducible refine askT_of ?_ (fun hb => ?_)); (focus (first | ((repeat' with_reducible apply And.intro) <;> first | exact sideQ | (exact hR1 _ (by simp)) | (exact hW1 _ (by simp)) | (exact hR2 _ (by simp)) | (exact hW2 _ (by simp)) | (exact ⟨_, rfl, o1⟩) | (exact ⟨_, rfl, o2⟩) | (exact ⟨_, rfl, o3⟩) | (exact ⟨_, rfl, o4⟩) | (refine ⟨_, rfl, o1, ?_⟩; exact AmgC.mono (by assumption) (Hl.hm (by simp) fun _ h => h)) | (refine ⟨_, rfl, o2, ?_⟩; exact AmgC.mono (by assumption) (Hl.hm (by simp) fun _ h => h)) | (refine ⟨_, rfl, o3, ?_⟩; exact AmgC.mono (by assumption) (Hl.hm (by simp) fun _ h => h)) | (refine ⟨_, rfl, o4, ?_⟩; exact AmgC.mono (by assumption) (Hl.hm (by simp) fun _ h => h))) | exact sd0)); (try simp only [hb])) | ((with_reducible refine Vc.fin ?_); dsimp only [thenK, blockK, retK, resS, resOne, resAll]) | ((with_reducible refine Vc.hold ?_); first | refine Vc.regiont T0_ok GI5_ok ?_ | refine Vc.drawt (id := 1) T0_ok GI5_ok (by kernel_rfl) [0, 1, 3, 4, 2] 5 [] trivial (by kernel_rfl) ?_)); (try simp only [v8X, v8A, v8B, v8C, Nat.beq, Nat.ble, Int.reduceToNat, Int.reduceLE, Int.reduceLT, Nat.reduceLT, Nat.reduceLeDiff, Nat.reduceAdd, Nat.reduceMul, Nat.reduceSub, Int.reduceAdd, Int.reduceSub, Int.reduceMul, eq_self, decide_true, beq_self_eq_true, List.length_cons, List.length_nil, Nat.min_eq_left, IntKind.bits, tabs, GI5_set, srcNs, p1, p2, p3, p4, r1, r2, r3, r4, y1, y2, y3, y4, List.drop_zero, hz1, hz2, hz3]); (try simp (disch := omega) only [v8W])) | ((with_reducible refine hN _ _ ?_); clear hN N; (try simp (disch := omega) only [v8W])))); (try ((with_reducible refine Fin.of ?_); (try with_reducible exact True.intro))))
      exact ⟨trivial, trivial⟩
    · ((repeat (first | (with_reducible refine Vc.seq fun N hN => ?_) | (with_reducible refine Vc.block ?_) | ((first | with_reducible refine Vc.skip ?_ | with_reducible refine Vc.exit ?_); dsimp only [thenK, blockK, Nat.beq]; (first | (refine hN _ _ ?_; clear hN N) | skip)) | (with_reducible intro _) | ((with_reducible refine And.intro ?_ ?_); (focus (first | ((repeat' with_reducible apply And.intro) <;> first | exact sideQ | (exact hR1 _ (by simp)) | (exact hW1 _ (by simp)) | (exact hR2 _ (by simp)) | (exact hW2 _ (by simp)) | (exact ⟨_, rfl, o1⟩) | (exact ⟨_, rfl, o2⟩) | (exact ⟨_, rfl, o3⟩) | (exact ⟨_, rfl, o4⟩) | (refine ⟨_, rfl, o1, ?_⟩; exact AmgC.mono (by assumption) (Hl.hm (by simp) fun _ h => h)) | (refine ⟨_, rfl, o2, ?_⟩; exact AmgC.mono (by assumption) (Hl.hm (by simp) fun _ h => h)) | (refine ⟨_, rfl, o3, ?_⟩; exact AmgC.mono (by assumption) (Hl.hm (by simp) fun _ h => h)) | (refine ⟨_, rfl, o4, ?_⟩; exact AmgC.mono (by assumption) (Hl.hm (by simp) fun _ h => h))) | exact sd0))) | ((first | ((with_reducible refine askT_of ?_ (fun hb => ?_)); (focus (first | ((repeat' with_reducible apply And.intro) <;> first | exact sideQ | (exact hR1 _ (by simp)) | (exact hW1 _ (by simp)) | (exact hR2 _ (by simp)) | (exact hW2 _ (by simp)) | (exact ⟨_, rfl, o1⟩) | (exact ⟨_, rfl, o2⟩) | (exact ⟨_, rfl, o3⟩) | (exact ⟨_, rfl, o4⟩) | (refine ⟨_, rfl, o1, ?_⟩; exact AmgC.mono (by assumption) (Hl.hm (by simp) fun _ h => h)) | (refine ⟨_, rfl, o2, ?_⟩; exact AmgC.mono (by assumption) (Hl.hm (by simp) fun _ h => h)) | (refine ⟨_, rfl, o3, ?_⟩; exact AmgC.mono (by assumption) (Hl.hm (by simp) fun _ h => h)) | (refine ⟨_, rfl, o4, ?_⟩; exact AmgC.mono (by assumption) (Hl.hm (by simp) fun _ h => h))) | exact sd0)); (try simp only [hb])) | ((with_reducible refine Vc.fin ?_); dsimp only [thenK, blockK, retK, resS, resOne, resAll]) | ((with_reducible refine Vc.hold ?_); first | refine Vc.regiont T0_ok GI5_ok ?_ | refine Vc.drawt (id := 1) T0_ok GI5_ok (by kernel_rfl) [0, 1, 3, 4, 2] 5 [] trivial (by kernel_rfl) ?_)); (try simp only [v8X, v8A, v8B, v8C, Nat.beq, Nat.ble, Int.reduceToNat, Int.reduceLE, Int.reduceLT, Nat.reduceLT, Nat.reduceLeDiff, Nat.reduceAdd, Nat.reduceMul, Nat.reduceSub, Int.reduceAdd, Int.reduceSub, Int.reduceMul, eq_self, decide_true, beq_self_eq_true, List.length_cons, List.length_nil, Nat.min_eq_left, IntKind.bits, tabs, GI5_set, srcNs, p1, p2, p3, p4, r1, r2, r3, r4, y1, y2, y3, y4, List.drop_zero, hz1, hz2, hz3]); (try simp (disch := omega) only [v8W])) | ((with_reducible refine hN _ _ ?_); clear hN N; (try simp (disch := omega) only [v8W])))); (try ((with_reducible refine Fin.of ?_); (try with_reducible exact True.intro))))
      exact ⟨trivial, trivial⟩
  · ((repeat (first | (with_reducible refine Vc.seq fun N hN => ?_) | (with_reducible refine Vc.block ?_) | ((first | with_reducible refine Vc.skip ?_ | with_reducible refine Vc.exit ?_); dsimp only [thenK, blockK, Nat.beq]; (first | (refine hN _ _ ?_; clear hN N) | skip)) | (with_reducible intro _) | ((with_reducible refine And.intro ?_ ?_); (focus (first | ((repeat' with_reducible apply And.intro) <;> first | exact sideQ | (exact hR1 _ (by simp)) | (exact hW1 _ (by simp)) | (exact hR2 _ (by simp)) | (exact hW2 _ (by simp)) | (exact ⟨_, rfl, o1⟩) | (exact ⟨_, rfl, o2⟩) | (exact ⟨_, rfl, o3⟩) | (exact ⟨_, rfl, o4⟩) | (refine ⟨_, rfl, o1, ?_⟩; exact AmgC.mono (by assumption) (Hl.hm (by simp) fun _ h => h)) | (refine ⟨_, rfl, o2, ?_⟩; exact AmgC.mono (by assumption) (Hl.hm (by simp) fun _ h => h)) | (refine ⟨_, rfl, o3, ?_⟩; exact AmgC.mono (by assumption) (Hl.hm (by simp) fun _ h => h)) | (refine ⟨_, rfl, o4, ?_⟩; exact AmgC.mono (by assumption) (Hl.hm (by simp) fun _ h => h))) | exact sd0))) | ((first | ((with_reducible refine askT_of ?_ (fun hb => ?_)); (focus (first | ((repeat' with_reducible apply And.intro) <;> first | exact sideQ | (exact hR1 _ (by simp)) | (exact hW1 _ (by simp)) | (exact hR2 _ (by simp)) | (exact hW2 _ (by simp)) | (exact ⟨_, rfl, o1⟩) | (exact ⟨_, rfl, o2⟩) | (exact ⟨_, rfl, o3⟩) | (exact ⟨_, rfl, o4⟩) | (refine ⟨_, rfl, o1, ?_⟩; exact AmgC.mono (by assumption) (Hl.hm (by simp) fun _ h => h)) | (refine ⟨_, rfl, o2, ?_⟩; exact AmgC.mono (by assumption) (Hl.hm (by simp) fun _ h => h)) | (refine ⟨_, rfl, o3, ?_⟩; exact AmgC.mono (by assumption) (Hl.hm (by simp) fun _ h => h)) | (refine ⟨_, rfl, o4, ?_⟩; exact AmgC.mono (by assumption) (Hl.hm (by simp) fun _ h => h))) | exact sd0)); (try simp only [hb])) | ((with_reducible refine Vc.fin ?_); dsimp only [thenK, blockK, retK, resS, resOne, resAll]) | ((with_reducible refine Vc.hold ?_); first | refine Vc.regiont T0_ok GI5_ok ?_ | refine Vc.drawt (id := 1) T0_ok GI5_ok (by kernel_rfl) [0, 1, 3, 4, 2] 5 [] trivial (by kernel_rfl) ?_)); (try simp only [v8X, v8A, v8B, v8C, Nat.beq, Nat.ble, Int.reduceToNat, Int.reduceLE, Int.reduceLT, Nat.reduceLT, Nat.reduceLeDiff, Nat.reduceAdd, Nat.reduceMul, Nat.reduceSub, Int.reduceAdd, Int.reduceSub, Int.reduceMul, eq_self, decide_true, beq_self_eq_true, List.length_cons, List.length_nil, Nat.min_eq_left, IntKind.bits, tabs, GI5_set, srcNs, p1, p2, p3, p4, r1, r2, r3, r4, y1, y2, y3, y4, List.drop_zero, hz1, hz2, hz3]); (try simp (disch := omega) only [v8W])) | ((with_reducible refine hN _ _ ?_); clear hN N; (try simp (disch := omega) only [v8W])))); (try ((with_reducible refine Fin.of ?_); (try with_reducible exact True.intro))))
    exact ⟨trivial, trivial⟩
noncomputable def g_meets (args : List SV) (m : List Blk) : CR :=
  match args with
  | [.agg [x1, x2], .agg [x3, x4]] => match srcN x1 m, srcN x2 m, srcN x3 m, srcN x4 m with
    | some (g1, n1, .rows 25 r1), some (g2, n2, .rows 25 r2), some (g3, n3, .rows 25 r3), some (g4, n4, .rows 25 r4) => .pure (g1 ∧ g2 ∧ g3 ∧ g4 ∧ n1 ≤ 1000000 ∧ n2 ≤ 1000000 ∧ n3 ≤ 1000000 ∧ n4 ≤ 1000000 ∧
        (∃ l : List (List Int), r1 = l.map plL ∧ ∀ x ∈ l, okP x) ∧ (∃ l : List (List Int), r2 = l.map plL ∧ ∀ x ∈ l, okP x) ∧ (∃ l : List (List Int), r3 = l.map plL ∧ ∀ x ∈ l, okP x) ∧ (∃ l : List (List Int), r4 = l.map plL ∧ ∀ x ∈ l, okP x)) (.bool (meetsD (plsOf r1) (plsOf r2) (plsOf r3) (plsOf r4)))
    | _, _, _, _ => .none
  | _ => .none
theorem g_meets_ok (w0 : World) (B : List Nat) (args : List SV) (m : List Blk) : CROk Try.prog w0 B 8 args m (g_meets args m) := by
  unfold g_meets
  split
  · rename_i x1 x2 x3 x4
    split
    · rename_i g1 n1 r1 g2 n2 r2 g3 n3 r3 g4 n4 r4 s1 s2 s3 s4
      rintro ⟨p1, p2, p3, p4, b1, b2, b3, b4, ⟨l1, rfl, k1⟩, ⟨l2, rfl, k2⟩, ⟨l3, rfl, k3⟩, ⟨l4, rfl, k4⟩⟩ w hm
      obtain ⟨a1, c1, e1, h1⟩ := srcN_pl s1 p1 k1 hm
      obtain ⟨a2, c2, e2, h2⟩ := srcN_pl s2 p2 k2 hm
      obtain ⟨a3, c3, e3, h3⟩ := srcN_pl s3 p3 k3 hm
      obtain ⟨a4, c4, e4, h4⟩ := srcN_pl s4 p4 k4 hm
      have e : cvs [.agg [x1, x2], .agg [x3, x4]] = cvs [.agg [.gh a1 n1 c1 (.rows 25 (l1.map plL)), .gh a2 n2 c2 (.rows 25 (l2.map plL))], .agg [.gh a3 n3 c3 (.rows 25 (l3.map plL)), .gh a4 n4 c4 (.rows 25 (l4.map plL))]] := by
        have : ∀ x y : SV, cv (.agg [x, y]) = .agg #[cv x, cv y] := fun _ _ => rfl
        simp only [cvs, this, e1, e2, e3, e4]
      rw [e, plsOf_eq k1, plsOf_eq k2, plsOf_eq k3, plsOf_eq k4]
      exact calls_pure Try.func8 rfl rfl (meets_vc a1 a2 a3 a4 n1 n2 n3 n4 c1 c2 c3 c4 l1 l2 l3 l4 w h1 h2 h3 h4 b1 b2 b3 b4)
    · exact trivial
  · exact trivial
set_option maxRecDepth 20000 in
theorem touches_vc (a1 a2 a3 : Option Addr) (n1 n2 n3 c1 c2 c3 : Nat) (l1 l2 l3 : List (List Int)) (w : World) (h1 : PlL (H0 w) a1 n1 c1 l1) (h2 : PlL (H0 w) a2 n2 c2 l2) (h3 : PlL (H0 w) a3 n3 c3 l3) (b1 : n1 ≤ 1000000) (b2 : n2 ≤ 1000000) (b3 : n3 ≤ 1000000) :
    Calls Try.prog 10 (cvs [.agg [.gh a1 n1 c1 (.rows 25 (l1.map plL)), .gh a2 n2 c2 (.rows 25 (l2.map plL))], .gh a3 n3 c3 (.rows 25 (l3.map plL))]).toArray w (fun en w' => ∃ u, en = .returned u ∧ ∃ v' m', u = cv v' ∧ MemOk w [] m' w' ∧ v' = .bool (touchD l1 l2 l3)) := by
  have hR1 : ∀ m, allOld w ∈ m → LiesH (HM m) a1 (cc (.rows 25 (l1.map plL))) := fun m hin => h1.lies.mono (H0.hm hin)
  have p1 := plsOf_eq h1.ok
  have r1 := rowsOk_pl h1.ok
  have o1 := h1.ok
  have le1 := h1.le
  have ad1 := h1.adr
  have t1 : (l1.map plL).length = n1 := by rw [List.length_map, h1.len]
  have y1 := List.take_of_length_le (show (l1.map plL).length ≤ n1 by omega)
  have hW1 : ∀ m, allOld w ∈ m → LiesH (HM m) a2 (cc (.rows 25 (l2.map plL))) := fun m hin => h2.lies.mono (H0.hm hin)
  have p2 := plsOf_eq h2.ok
  have r2 := rowsOk_pl h2.ok
  have o2 := h2.ok
  have le2 := h2.le
  have ad2 := h2.adr
  have t2 : (l2.map plL).length = n2 := by rw [List.length_map, h2.len]
  have y2 := List.take_of_length_le (show (l2.map plL).length ≤ n2 by omega)
  have hR2 : ∀ m, allOld w ∈ m → LiesH (HM m) a3 (cc (.rows 25 (l3.map plL))) := fun m hin => h3.lies.mono (H0.hm hin)
  have p3 := plsOf_eq h3.ok
  have r3 := rowsOk_pl h3.ok
  have o3 := h3.ok
  have le3 := h3.le
  have ad3 := h3.adr
  have t3 : (l3.map plL).length = n3 := by rw [List.length_map, h3.len]
  have y3 := List.take_of_length_le (show (l3.map plL).length ≤ n3 by omega)
  clear h1 h2 h3
  unfold touchD
  generalize hz1 : anyIn l1 l3 = z1
  generalize hz2 : anyIn l2 l3 = z2
  refine Vc.calls T0_ok Try.func10 rfl rfl (args := [.agg [.gh a1 n1 c1 (.rows 25 (l1.map plL)), .gh a2 n2 c2 (.rows 25 (l2.map plL))], .gh a3 n3 c3 (.rows 25 (l3.map plL))]) (k := 16) rfl (old_start w) ?_; change Vc _ _ (c8 (.agg [.gh a1 n1 c1 (.rows 25 (l1.map plL)), .gh a2 n2 c2 (.rows 25 (l2.map plL))]) (.gh a3 n3 c3 (.rows 25 (l3.map plL))) .undef .undef .undef .undef .undef .undef (c8 .undef .undef .undef .undef .undef .undef .undef .undef ([.undef, .undef]))) _ _
  cases z1
  · ((repeat (first | (with_reducible refine Vc.seq fun N hN => ?_) | (with_reducible refine Vc.block ?_) | ((first | with_reducible refine Vc.skip ?_ | with_reducible refine Vc.exit ?_); dsimp only [thenK, blockK, Nat.beq]; (first | (refine hN _ _ ?_; clear hN N) | skip)) | (with_reducible intro _) | ((with_reducible refine And.intro ?_ ?_); (focus (first | ((repeat' with_reducible apply And.intro) <;> first | exact sideQ | (exact hR1 _ (by simp)) | (exact hW1 _ (by simp)) | (exact hR2 _ (by simp)) | (exact hW2 _ (by simp)) | (exact ⟨_, rfl, o1⟩) | (exact ⟨_, rfl, o2⟩) | (exact ⟨_, rfl, o3⟩) | (exact ⟨_, rfl, o4⟩) | (refine ⟨_, rfl, o1, ?_⟩; exact AmgC.mono (by assumption) (Hl.hm (by simp) fun _ h => h)) | (refine ⟨_, rfl, o2, ?_⟩; exact AmgC.mono (by assumption) (Hl.hm (by simp) fun _ h => h)) | (refine ⟨_, rfl, o3, ?_⟩; exact AmgC.mono (by assumption) (Hl.hm (by simp) fun _ h => h)) | (refine ⟨_, rfl, o4, ?_⟩; exact AmgC.mono (by assumption) (Hl.hm (by simp) fun _ h => h))) | exact sd0))) | ((first | ((with_reducible refine askT_of ?_ (fun hb => ?_)); (focus (first | ((repeat' with_reducible apply And.intro) <;> first | exact sideQ | (exact hR1 _ (by simp)) | (exact hW1 _ (by simp)) | (exact hR2 _ (by simp)) | (exact hW2 _ (by simp)) | (exact ⟨_, rfl, o1⟩) | (exact ⟨_, rfl, o2⟩) | (exact ⟨_, rfl, o3⟩) | (exact ⟨_, rfl, o4⟩) | (refine ⟨_, rfl, o1, ?_⟩; exact AmgC.mono (by assumption) (Hl.hm (by simp) fun _ h => h)) | (refine ⟨_, rfl, o2, ?_⟩; exact AmgC.mono (by assumption) (Hl.hm (by simp) fun _ h => h)) | (refine ⟨_, rfl, o3, ?_⟩; exact AmgC.mono (by assumption) (Hl.hm (by simp) fun _ h => h)) | (refine ⟨_, rfl, o4, ?_⟩; exact AmgC.mono (by assumption) (Hl.hm (by simp) fun _ h => h))) | exact sd0)); (try simp only [hb])) | ((with_reducible refine Vc.fin ?_); dsimp only [thenK, blockK, retK, resS, resOne, resAll]) | ((with_reducible refine Vc.hold ?_); first | refine Vc.regiont T0_ok GI5_ok ?_)); (try simp only [v8X, v8A, v8B, v8C, Nat.beq, Nat.ble, Int.reduceToNat, Int.reduceLE, Int.reduceLT, Nat.reduceLT, Nat.reduceLeDiff, Nat.reduceAdd, Nat.reduceMul, Nat.reduceSub, Int.reduceAdd, Int.reduceSub, Int.reduceMul, eq_self, decide_true, beq_self_eq_true, List.length_cons, List.length_nil, Nat.min_eq_left, IntKind.bits, tabs, GI5_set, srcNs, p1, p2, p3, r1, r2, r3, y1, y2, y3, List.drop_zero, hz1, hz2]); (try simp (disch := omega) only [v8W])) | ((with_reducible refine hN _ _ ?_); clear hN N; (try simp (disch := omega) only [v8W])))); (try ((with_reducible refine Fin.of ?_); (try with_reducible exact True.intro))))
    exact ⟨trivial, trivial⟩
  · ((repeat (first | (with_reducible refine Vc.seq fun N hN => ?_) | (with_reducible refine Vc.block ?_) | ((first | with_reducible refine Vc.skip ?_ | with_reducible refine Vc.exit ?_); dsimp only [thenK, blockK, Nat.beq]; (first | (refine hN _ _ ?_; clear hN N) | skip)) | (with_reducible intro _) | ((with_reducible refine And.intro ?_ ?_); (focus (first | ((repeat' with_reducible apply And.intro) <;> first | exact sideQ | (exact hR1 _ (by simp)) | (exact hW1 _ (by simp)) | (exact hR2 _ (by simp)) | (exact hW2 _ (by simp)) | (exact ⟨_, rfl, o1⟩) | (exact ⟨_, rfl, o2⟩) | (exact ⟨_, rfl, o3⟩) | (exact ⟨_, rfl, o4⟩) | (refine ⟨_, rfl, o1, ?_⟩; exact AmgC.mono (by assumption) (Hl.hm (by simp) fun _ h => h)) | (refine ⟨_, rfl, o2, ?_⟩; exact AmgC.mono (by assumption) (Hl.hm (by simp) fun _ h => h)) | (refine ⟨_, rfl, o3, ?_⟩; exact AmgC.mono (by assumption) (Hl.hm (by simp) fun _ h => h)) | (refine ⟨_, rfl, o4, ?_⟩; exact AmgC.mono (by assumption) (Hl.hm (by simp) fun _ h => h))) | exact sd0))) | ((first | ((with_reducible refine askT_of ?_ (fun hb => ?_)); (focus (first | ((repeat' with_reducible apply And.intro) <;> first | exact sideQ | (exact hR1 _ (by simp)) | (exact hW1 _ (by simp)) | (exact hR2 _ (by simp)) | (exact hW2 _ (by simp)) | (exact ⟨_, rfl, o1⟩) | (exact ⟨_, rfl, o2⟩) | (exact ⟨_, rfl, o3⟩) | (exact ⟨_, rfl, o4⟩) | (refine ⟨_, rfl, o1, ?_⟩; exact AmgC.mono (by assumption) (Hl.hm (by simp) fun _ h => h)) | (refine ⟨_, rfl, o2, ?_⟩; exact AmgC.mono (by assumption) (Hl.hm (by simp) fun _ h => h)) | (refine ⟨_, rfl, o3, ?_⟩; exact AmgC.mono (by assumption) (Hl.hm (by simp) fun _ h => h)) | (refine ⟨_, rfl, o4, ?_⟩; exact AmgC.mono (by assumption) (Hl.hm (by simp) fun _ h => h))) | exact sd0)); (try simp only [hb])) | ((with_reducible refine Vc.fin ?_); dsimp only [thenK, blockK, retK, resS, resOne, resAll]) | ((with_reducible refine Vc.hold ?_); first | refine Vc.regiont T0_ok GI5_ok ?_)); (try simp only [v8X, v8A, v8B, v8C, Nat.beq, Nat.ble, Int.reduceToNat, Int.reduceLE, Int.reduceLT, Nat.reduceLT, Nat.reduceLeDiff, Nat.reduceAdd, Nat.reduceMul, Nat.reduceSub, Int.reduceAdd, Int.reduceSub, Int.reduceMul, eq_self, decide_true, beq_self_eq_true, List.length_cons, List.length_nil, Nat.min_eq_left, IntKind.bits, tabs, GI5_set, srcNs, p1, p2, p3, r1, r2, r3, y1, y2, y3, List.drop_zero, hz1, hz2]); (try simp (disch := omega) only [v8W])) | ((with_reducible refine hN _ _ ?_); clear hN N; (try simp (disch := omega) only [v8W])))); (try ((with_reducible refine Fin.of ?_); (try with_reducible exact True.intro))))
    exact ⟨trivial, trivial⟩
noncomputable def g_touches (args : List SV) (m : List Blk) : CR :=
  match args with
  | [.agg [x1, x2], x3] => match srcN x1 m, srcN x2 m, srcN x3 m with
    | some (g1, n1, .rows 25 r1), some (g2, n2, .rows 25 r2), some (g3, n3, .rows 25 r3) => .pure (g1 ∧ g2 ∧ g3 ∧ n1 ≤ 1000000 ∧ n2 ≤ 1000000 ∧ n3 ≤ 1000000 ∧
        (∃ l : List (List Int), r1 = l.map plL ∧ ∀ x ∈ l, okP x) ∧ (∃ l : List (List Int), r2 = l.map plL ∧ ∀ x ∈ l, okP x) ∧ (∃ l : List (List Int), r3 = l.map plL ∧ ∀ x ∈ l, okP x)) (.bool (touchD (plsOf r1) (plsOf r2) (plsOf r3)))
    | _, _, _ => .none
  | _ => .none
theorem g_touches_ok (w0 : World) (B : List Nat) (args : List SV) (m : List Blk) : CROk Try.prog w0 B 10 args m (g_touches args m) := by
  unfold g_touches
  split
  · rename_i x1 x2 x3
    split
    · rename_i g1 n1 r1 g2 n2 r2 g3 n3 r3 s1 s2 s3
      rintro ⟨p1, p2, p3, b1, b2, b3, ⟨l1, rfl, k1⟩, ⟨l2, rfl, k2⟩, ⟨l3, rfl, k3⟩⟩ w hm
      obtain ⟨a1, c1, e1, h1⟩ := srcN_pl s1 p1 k1 hm
      obtain ⟨a2, c2, e2, h2⟩ := srcN_pl s2 p2 k2 hm
      obtain ⟨a3, c3, e3, h3⟩ := srcN_pl s3 p3 k3 hm
      have e : cvs [.agg [x1, x2], x3] = cvs [.agg [.gh a1 n1 c1 (.rows 25 (l1.map plL)), .gh a2 n2 c2 (.rows 25 (l2.map plL))], .gh a3 n3 c3 (.rows 25 (l3.map plL))] := by
        have : ∀ x y : SV, cv (.agg [x, y]) = .agg #[cv x, cv y] := fun _ _ => rfl
        simp only [cvs, this, e1, e2, e3]
      rw [e, plsOf_eq k1, plsOf_eq k2, plsOf_eq k3]
      exact calls_pure Try.func10 rfl rfl (touches_vc a1 a2 a3 n1 n2 n3 c1 c2 c3 l1 l2 l3 w h1 h2 h3 b1 b2 b3)
    · exact trivial
  · exact trivial
end Go.Proofs.Ytdanlclhnehieaa
