/-
  Package quaestorlaw18: heavy and known, walked. No condition.
-/
import Derived.Test.YtdanlclhnehieaaI2
namespace Go.Proofs.Ytdanlclhnehieaa
set_option linter.unusedSimpArgs false
set_option linter.unusedVariables false
set_option maxHeartbeats 4000000
set_option linter.defProp false
open Go.RowKit
def FtRow (r : List SV) (p : Nat × Nat) : Prop := ∃ a1 c1 k1 a2 c2 k2, r = [.gh a1 p.1 c1 k1, .gh a2 p.2 c2 k2] ∧ p.1 ≤ maxLen ∧ p.2 ≤ maxLen
def lnOf (r : List SV) : Nat × Nat := match r with
  | [.gh _ n1 _ _, .gh _ n2 _ _] => (n1, n2)
  | _ => (0, 0)
theorem lnOf_eq {r : List SV} {p : Nat × Nat} (h : FtRow r p) : lnOf r = p := by
  obtain ⟨a1, c1, k1, a2, c2, k2, rfl, _, _⟩ := h; rfl
theorem FtRow.len {r : List SV} {p : Nat × Nat} (h : FtRow r p) : r.length = 2 := by
  obtain ⟨a1, c1, k1, a2, c2, k2, rfl, _, _⟩ := h; rfl
def hvF : List (Nat × Nat) → Int → Int
  | [], n => n
  | p :: l, n => if n ≤ 100 then hvF l (n + (min (p.1 : Int) 101 + min (p.2 : Int) 101)) else n
def heavyD (l : List (Nat × Nat)) : Bool := decide (100 < hvF l l.length)
theorem hvF_big : ∀ (l : List (Nat × Nat)) (n : Int), 100 < n → hvF l n = n
  | [], _, _ => rfl
  | p :: l, n, h => if_neg (by omega)
theorem hvF_le : ∀ (l : List (Nat × Nat)) (n : Int), 0 ≤ n → hvF l n ≤ 100 → n ≤ 100 ∧ ∀ p ∈ l, p.1 ≤ 100 ∧ p.2 ≤ 100
  | [], n, _, h => ⟨h, fun _ h => absurd h List.not_mem_nil⟩
  | p :: l, n, h0, h => by
    by_cases hn : n ≤ 100
    · simp only [hvF, if_pos hn] at h
      obtain ⟨h1, h2⟩ := hvF_le l _ (by omega) h
      refine ⟨hn, fun q hq => ?_⟩
      rcases List.mem_cons.1 hq with rfl | hq
      · omega
      · exact h2 q hq
    · rw [hvF_big _ _ (by omega)] at h; omega
theorem heavyD_no {l : List (Nat × Nat)} (h : heavyD l = false) : l.length ≤ 100 ∧ ∀ p ∈ l, p.1 ≤ 100 ∧ p.2 ≤ 100 := by
  unfold heavyD at h
  have := hvF_le l _ (by omega) (Int.not_lt.1 (of_decide_eq_false h))
  exact ⟨by omega, this.2⟩
noncomputable def GI6 : Ctr := fun f args m => match f with
  | 8 => g_meets args m
  | 10 => g_touches args m
  | _ => .none
theorem GI6_ok : GOk Try.prog GI6 := by
  intro w0 B f args m; unfold GI6; split
  · exact g_meets_ok _ _ _ _
  · exact g_touches_ok _ _ _ _
  · exact trivial
theorem GI6_meets : GI6 8 = g_meets := by funext args m; rfl
theorem GI6_touches : GI6 10 = g_touches := by funext args m; rfl
def GI6_set := And.intro (And.intro (@GI6_meets) (@g_meets.eq_def)) (And.intro (@GI6_touches) (@g_touches.eq_def))

set_option maxRecDepth 20000 in
theorem fheavy_vc (a : Option Addr) (n c : Nat) (rs : List (List SV)) (hl : rs.length = n) (hn : n ≤ c) (ha : adr a n c) (hM : n ≤ maxLen) (hR : ∀ r ∈ rs, ∃ p, FtRow r p) (w : World) (hm : MemOk w [] [.ro a (.rows 2 rs)] w) :
    Calls Try.prog 5 (cvs [.sl 0 a 0 0 2 n c]).toArray w (fun en w' => ∃ u, en = .returned u ∧ ∃ v' m', u = cv v' ∧ MemOk w [] m' w' ∧ v' = .bool (heavyD (rs.map lnOf))) := by
  unfold maxLen at hM
  have hr2 : ∀ r ∈ rs, r.length = 2 := fun r hr => (hR r hr).elim fun p h => h.len
  have hll : (rs.map lnOf).length = n := by rw [List.length_map, hl]
  refine Vc.calls T0_ok Try.func5 rfl rfl (args := [.sl 0 a 0 0 2 n c]) (k := 35) rfl hm ?_; change Vc _ _ (c8 (.sl 0 a 0 0 2 n c) .undef .undef .undef .undef .undef .undef .undef (c8 .undef .undef .undef .undef .undef .undef .undef .undef (c8 .undef .undef .undef .undef .undef .undef .undef .undef (c8 .undef .undef .undef .undef .undef .undef .undef .undef ([.undef, .undef, .undef, .undef]))))) _ _
  ((repeat (first | (with_reducible refine Vc.seq fun N hN => ?_) | (with_reducible refine Vc.block ?_) | ((first | with_reducible refine Vc.skip ?_ | with_reducible refine Vc.exit ?_); dsimp only [thenK, blockK, Nat.beq]; (first | (refine hN _ _ ?_; clear hN N) | skip)) | (with_reducible intro _) | ((with_reducible refine And.intro ?_ ?_); (focus (first | ((repeat' with_reducible apply And.intro) <;> first | exact sideQ) | exact sd0))) | ((first | ((with_reducible refine askT_of ?_ (fun hb => ?_)); (focus (first | ((repeat' with_reducible apply And.intro) <;> first | exact sideQ) | exact sd0)); (try simp only [hb])) | ((with_reducible refine Vc.fin ?_); dsimp only [thenK, blockK, retK, resS, resOne, resAll]) | ((with_reducible refine Vc.hold ?_); first | refine Vc.regiont T0_ok GI6_ok ?_ | refine Vc.drawt (id := 5) T0_ok GI6_ok (by kernel_rfl) [0, 1, 2, 3, 4, 5, 6, 7, 8, 9, 10, 11, 12, 13, 14] 15 [] trivial (by kernel_rfl) ?_)); (try simp only [v8X, v8A, v8B, v8C, Nat.beq, Nat.ble, Int.reduceToNat, Int.reduceLE, Int.reduceLT, Nat.reduceLT, Nat.reduceLeDiff, Nat.reduceAdd, Nat.reduceMul, Nat.reduceSub, Int.reduceAdd, Int.reduceSub, Int.reduceMul, eq_self, decide_true, beq_self_eq_true, List.length_cons, List.length_nil, Nat.min_eq_left, IntKind.bits, tabs, GI6_set]); (try simp (disch := omega) only [v8W])) | ((with_reducible refine hN _ _ ?_); clear hN N; (try simp (disch := omega) only [v8W])))); (try ((with_reducible refine Fin.of ?_); (try with_reducible exact True.intro))))
  (revert N; intro N1 hN1)
  refine Vc.loop 5 36 (fun (x : Nat × Int) => [(3, .int .i64 x.2), (4, .int .i64 (x.1 : Nat))]) (fun x => [.ro a (.rows 2 rs)]) (fun x => x.1 ≤ n ∧ 0 ≤ x.2 ∧ (x.2 ≤ n ∨ x.2 ≤ 5000) ∧ hvF ((rs.map lnOf).drop x.1) x.2 = hvF (rs.map lnOf) n) (fun x => n - x.1) (0, (n : Int)) ⟨⟨Nat.zero_le _, by simp only; omega, .inl (Int.le_refl _), by simp⟩, ?_, ?_⟩ (fun x junk hx2 => ?_)
  · ((try simp only [v8X, v8A, v8B, v8C, Nat.beq, Nat.ble, Int.reduceToNat, Int.reduceLE, Int.reduceLT, Nat.reduceLT, Nat.reduceLeDiff, Nat.reduceAdd, Nat.reduceMul, Nat.reduceSub, Int.reduceAdd, Int.reduceSub, Int.reduceMul, eq_self, decide_true, beq_self_eq_true, List.length_cons, List.length_nil, Nat.min_eq_left, IntKind.bits, tabs]); (repeat' with_reducible apply And.intro) <;> first | with_reducible exact True.intro | rfl | with_reducible rfl | (congr 1 <;> omega) | trivial)
  · ((try simp only [v8X, v8A, v8B, v8C, Nat.beq, Nat.ble, Int.reduceToNat, Int.reduceLE, Int.reduceLT, Nat.reduceLT, Nat.reduceLeDiff, Nat.reduceAdd, Nat.reduceMul, Nat.reduceSub, Int.reduceAdd, Int.reduceSub, Int.reduceMul, eq_self, decide_true, beq_self_eq_true, List.length_cons, List.length_nil, Nat.min_eq_left, IntKind.bits, tabs]); (repeat' with_reducible apply And.intro) <;> first | with_reducible exact True.intro | rfl | with_reducible rfl | (congr 1 <;> omega) | trivial)
  · obtain ⟨k, s⟩ := x
    simp only at hx2 ⊢
    obtain ⟨k1, k2, k3, k4⟩ := hx2
    (simp only [v8X, v8A, v8B, v8C, Nat.beq, Nat.ble, Int.reduceToNat, Int.reduceLE, Int.reduceLT, Nat.reduceLT, Nat.reduceLeDiff, Nat.reduceAdd, Nat.reduceMul, Nat.reduceSub, Int.reduceAdd, Int.reduceSub, Int.reduceMul, eq_self, decide_true, beq_self_eq_true, List.length_cons, List.length_nil, Nat.min_eq_left, IntKind.bits, tabs])
    by_cases hc1 : k < n
    · have d1 : decide ((k : Int) < (n : Int)) = true := decide_eq_true (by omega)
      have e1 := List.getElem?_eq_getElem (show k < rs.length by omega)
      obtain ⟨p, hp⟩ := hR rs[k] (List.getElem_mem _)
      have hgd := getD_of e1
      have hdk : (rs.map lnOf).drop k = p :: (rs.map lnOf).drop (k + 1) := by
        rw [List.drop_eq_getElem_cons (by omega), List.getElem_map, lnOf_eq hp]
      have tk : ((k : Nat) : Int).toNat = k := by omega
      generalize rs[k] = r at *
      obtain ⟨a1, c1, q1, a2, c2, q2, rfl, m1, m2⟩ := hp
      unfold maxLen at m1 m2
      rw [hdk] at k4
      by_cases hs : s ≤ 100
      · have d2 : decide (s ≤ 100) = true := decide_eq_true hs
        simp only [hvF, if_pos hs] at k4
        have hm1 : (if (101 : Int) < (p.1 : Int) then (101 : Int) else (p.1 : Int)) = min (p.1 : Int) 101 := by split <;> omega
        have hm2 : (if (101 : Int) < (p.2 : Int) then (101 : Int) else (p.2 : Int)) = min (p.2 : Int) 101 := by split <;> omega
        have hz1 : 0 ≤ min (p.1 : Int) 101 ∧ min (p.1 : Int) 101 ≤ 101 := by omega
        have hz2 : 0 ≤ min (p.2 : Int) 101 ∧ min (p.2 : Int) 101 ≤ 101 := by omega
        ((repeat (first | (with_reducible refine Vc.seq fun N hN => ?_) | (with_reducible refine Vc.block ?_) | ((first | with_reducible refine Vc.skip ?_ | with_reducible refine Vc.exit ?_); dsimp only [thenK, blockK, Nat.beq]; (first | (refine hN _ _ ?_; clear hN N) | skip)) | (with_reducible intro _) | ((with_reducible refine And.intro ?_ ?_); (focus (first | ((repeat' with_reducible apply And.intro) <;> first | exact sideQ) | exact sd0))) | ((first | ((with_reducible refine askT_of ?_ (fun hb => ?_)); (focus (first | ((repeat' with_reducible apply And.intro) <;> first | exact sideQ) | exact sd0)); (try simp only [hb])) | ((with_reducible refine Vc.fin ?_); dsimp only [thenK, blockK, retK, resS, resOne, resAll]) | ((with_reducible refine Vc.hold ?_); first | refine Vc.regiont T0_ok GI6_ok ?_ | refine Vc.drawt (id := 5) T0_ok GI6_ok (by kernel_rfl) [0, 1, 2, 3, 4, 5, 6, 7, 8, 9, 10, 11, 12, 13, 14] 15 [] trivial (by kernel_rfl) ?_)); (try simp only [v8X, v8A, v8B, v8C, Nat.beq, Nat.ble, Int.reduceToNat, Int.reduceLE, Int.reduceLT, Nat.reduceLT, Nat.reduceLeDiff, Nat.reduceAdd, Nat.reduceMul, Nat.reduceSub, Int.reduceAdd, Int.reduceSub, Int.reduceMul, eq_self, decide_true, beq_self_eq_true, List.length_cons, List.length_nil, Nat.min_eq_left, IntKind.bits, tabs, GI6_set, d1, d2]); (try simp (disch := omega) only [v8W])) | ((with_reducible refine hN _ _ ?_); clear hN N; (try simp (disch := omega) only [v8W])))); (try ((with_reducible refine Fin.of ?_); (try with_reducible exact True.intro))))
        (refine Vc.cond T0_ok (t := true) (by rfl) (fun _ => ?_) (fun h => Bool.noConfusion h))
        ((repeat (first | (with_reducible refine Vc.seq fun N hN => ?_) | (with_reducible refine Vc.block ?_) | ((first | with_reducible refine Vc.skip ?_ | with_reducible refine Vc.exit ?_); dsimp only [thenK, blockK, Nat.beq]; (first | (refine hN _ _ ?_; clear hN N) | skip)) | (with_reducible intro _) | ((with_reducible refine And.intro ?_ ?_); (focus (first | ((repeat' with_reducible apply And.intro) <;> first | exact sideQ) | exact sd0))) | ((first | ((with_reducible refine askT_of ?_ (fun hb => ?_)); (focus (first | ((repeat' with_reducible apply And.intro) <;> first | exact sideQ) | exact sd0)); (try simp only [hb])) | ((with_reducible refine Vc.fin ?_); dsimp only [thenK, blockK, retK, resS, resOne, resAll]) | ((with_reducible refine Vc.hold ?_); first | refine Vc.regiont T0_ok GI6_ok ?_ | refine Vc.drawt (id := 5) T0_ok GI6_ok (by kernel_rfl) [0, 1, 2, 3, 4, 5, 6, 7, 8, 9, 10, 11, 12, 13, 14] 15 [] trivial (by kernel_rfl) ?_)); (try simp only [v8X, v8A, v8B, v8C, Nat.beq, Nat.ble, Int.reduceToNat, Int.reduceLE, Int.reduceLT, Nat.reduceLT, Nat.reduceLeDiff, Nat.reduceAdd, Nat.reduceMul, Nat.reduceSub, Int.reduceAdd, Int.reduceSub, Int.reduceMul, eq_self, decide_true, beq_self_eq_true, List.length_cons, List.length_nil, Nat.min_eq_left, IntKind.bits, tabs, GI6_set, d1, d2, tk, hgd, Nat.zero_add]); (try simp (disch := omega) only [v8W])) | ((with_reducible refine hN _ _ ?_); clear hN N; (try simp (disch := omega) only [v8W])))); (try ((with_reducible refine Fin.of ?_); (try with_reducible exact True.intro))))
        rw [hm1, hm2]
        refine ⟨(k + 1, s + (min (p.1 : Int) 101 + min (p.2 : Int) 101)), ⟨by simp only; omega, by simp only; omega, by simp only; omega, k4⟩, ?_, ?_, by simp only; omega⟩
        · ((try simp only [v8X, v8A, v8B, v8C, Nat.beq, Nat.ble, Int.reduceToNat, Int.reduceLE, Int.reduceLT, Nat.reduceLT, Nat.reduceLeDiff, Nat.reduceAdd, Nat.reduceMul, Nat.reduceSub, Int.reduceAdd, Int.reduceSub, Int.reduceMul, eq_self, decide_true, beq_self_eq_true, List.length_cons, List.length_nil, Nat.min_eq_left, IntKind.bits, tabs]); (repeat' with_reducible apply And.intro) <;> first | with_reducible exact True.intro | rfl | (congr 1 <;> omega))
        · ((try simp only [v8X, v8A, v8B, v8C, Nat.beq, Nat.ble, Int.reduceToNat, Int.reduceLE, Int.reduceLT, Nat.reduceLT, Nat.reduceLeDiff, Nat.reduceAdd, Nat.reduceMul, Nat.reduceSub, Int.reduceAdd, Int.reduceSub, Int.reduceMul, eq_self, decide_true, beq_self_eq_true, List.length_cons, List.length_nil, Nat.min_eq_left, IntKind.bits, tabs]); (repeat' with_reducible apply And.intro) <;> first | with_reducible exact True.intro | rfl | (congr 1 <;> omega))
      · have d2 : decide (s ≤ 100) = false := decide_eq_false hs
        have hfin : heavyD (rs.map lnOf) = true := decide_eq_true (by rw [hll, ← k4, hvF_big _ _ (by omega)]; omega)
        have d3 : decide (100 < s) = true := decide_eq_true (by omega)
        ((repeat (first | (with_reducible refine Vc.seq fun N hN => ?_) | (with_reducible refine Vc.block ?_) | ((first | with_reducible refine Vc.skip ?_ | with_reducible refine Vc.exit ?_); dsimp only [thenK, blockK, Nat.beq]; (first | (refine hN _ _ ?_; clear hN N) | skip)) | (with_reducible intro _) | ((with_reducible refine And.intro ?_ ?_); (focus (first | ((repeat' with_reducible apply And.intro) <;> first | exact sideQ) | exact sd0))) | ((first | ((with_reducible refine askT_of ?_ (fun hb => ?_)); (focus (first | ((repeat' with_reducible apply And.intro) <;> first | exact sideQ) | exact sd0)); (try simp only [hb])) | ((with_reducible refine Vc.fin ?_); dsimp only [thenK, blockK, retK, resS, resOne, resAll]) | ((with_reducible refine Vc.hold ?_); first | refine Vc.regiont T0_ok GI6_ok ?_ | refine Vc.drawt (id := 5) T0_ok GI6_ok (by kernel_rfl) [0, 1, 2, 3, 4, 5, 6, 7, 8, 9, 10, 11, 12, 13, 14] 15 [] trivial (by kernel_rfl) ?_)); (try simp only [v8X, v8A, v8B, v8C, Nat.beq, Nat.ble, Int.reduceToNat, Int.reduceLE, Int.reduceLT, Nat.reduceLT, Nat.reduceLeDiff, Nat.reduceAdd, Nat.reduceMul, Nat.reduceSub, Int.reduceAdd, Int.reduceSub, Int.reduceMul, eq_self, decide_true, beq_self_eq_true, List.length_cons, List.length_nil, Nat.min_eq_left, IntKind.bits, tabs, GI6_set, d1, d2]); (try simp (disch := omega) only [v8W])) | ((with_reducible refine hN _ _ ?_); clear hN N; (try simp (disch := omega) only [v8W])))); (try ((with_reducible refine Fin.of ?_); (try with_reducible exact True.intro))))
        (refine Vc.cond T0_ok (t := false) (by rfl) (fun h => Bool.noConfusion h) (fun _ => ?_))
        ((repeat (first | (with_reducible refine Vc.seq fun N hN => ?_) | (with_reducible refine Vc.block ?_) | ((first | with_reducible refine Vc.skip ?_ | with_reducible refine Vc.exit ?_); dsimp only [thenK, blockK, Nat.beq]; (first | (refine hN _ _ ?_; clear hN N) | skip)) | (with_reducible intro _) | ((with_reducible refine And.intro ?_ ?_); (focus (first | ((repeat' with_reducible apply And.intro) <;> first | exact sideQ) | exact sd0))) | ((first | ((with_reducible refine askT_of ?_ (fun hb => ?_)); (focus (first | ((repeat' with_reducible apply And.intro) <;> first | exact sideQ) | exact sd0)); (try simp only [hb])) | ((with_reducible refine Vc.fin ?_); dsimp only [thenK, blockK, retK, resS, resOne, resAll]) | ((with_reducible refine Vc.hold ?_); first | refine Vc.regiont T0_ok GI6_ok ?_ | refine Vc.drawt (id := 5) T0_ok GI6_ok (by kernel_rfl) [0, 1, 2, 3, 4, 5, 6, 7, 8, 9, 10, 11, 12, 13, 14] 15 [] trivial (by kernel_rfl) ?_)); (try simp only [v8X, v8A, v8B, v8C, Nat.beq, Nat.ble, Int.reduceToNat, Int.reduceLE, Int.reduceLT, Nat.reduceLT, Nat.reduceLeDiff, Nat.reduceAdd, Nat.reduceMul, Nat.reduceSub, Int.reduceAdd, Int.reduceSub, Int.reduceMul, eq_self, decide_true, beq_self_eq_true, List.length_cons, List.length_nil, Nat.min_eq_left, IntKind.bits, tabs, GI6_set]); (try simp (disch := omega) only [v8W])) | ((with_reducible refine hN _ _ ?_); clear hN N; (try simp (disch := omega) only [v8W])))); (try ((with_reducible refine Fin.of ?_); (try with_reducible exact True.intro))))
        (refine hN1 _ _ ?_; (try clear hN N); clear hN1 N1)
        ((repeat (first | (with_reducible refine Vc.seq fun N hN => ?_) | (with_reducible refine Vc.block ?_) | ((first | with_reducible refine Vc.skip ?_ | with_reducible refine Vc.exit ?_); dsimp only [thenK, blockK, Nat.beq]; (first | (refine hN _ _ ?_; clear hN N) | skip)) | (with_reducible intro _) | ((with_reducible refine And.intro ?_ ?_); (focus (first | ((repeat' with_reducible apply And.intro) <;> first | exact sideQ) | exact sd0))) | ((first | ((with_reducible refine askT_of ?_ (fun hb => ?_)); (focus (first | ((repeat' with_reducible apply And.intro) <;> first | exact sideQ) | exact sd0)); (try simp only [hb])) | ((with_reducible refine Vc.fin ?_); dsimp only [thenK, blockK, retK, resS, resOne, resAll]) | ((with_reducible refine Vc.hold ?_); first | refine Vc.regiont T0_ok GI6_ok ?_ | refine Vc.drawt (id := 5) T0_ok GI6_ok (by kernel_rfl) [0, 1, 2, 3, 4, 5, 6, 7, 8, 9, 10, 11, 12, 13, 14] 15 [] trivial (by kernel_rfl) ?_)); (try simp only [v8X, v8A, v8B, v8C, Nat.beq, Nat.ble, Int.reduceToNat, Int.reduceLE, Int.reduceLT, Nat.reduceLT, Nat.reduceLeDiff, Nat.reduceAdd, Nat.reduceMul, Nat.reduceSub, Int.reduceAdd, Int.reduceSub, Int.reduceMul, eq_self, decide_true, beq_self_eq_true, List.length_cons, List.length_nil, Nat.min_eq_left, IntKind.bits, tabs, GI6_set, d3]); (try simp (disch := omega) only [v8W])) | ((with_reducible refine hN _ _ ?_); clear hN N; (try simp (disch := omega) only [v8W])))); (try ((with_reducible refine Fin.of ?_); (try with_reducible exact True.intro))))
        exact ⟨trivial, by rw [hfin]⟩
    · have d1 : decide ((k : Int) < (n : Int)) = false := decide_eq_false (by omega)
      obtain rfl : k = n := by omega
      rw [List.drop_eq_nil_of_le (by omega)] at k4
      simp only [hvF] at k4
      ((repeat (first | (with_reducible refine Vc.seq fun N hN => ?_) | (with_reducible refine Vc.block ?_) | ((first | with_reducible refine Vc.skip ?_ | with_reducible refine Vc.exit ?_); dsimp only [thenK, blockK, Nat.beq]; (first | (refine hN _ _ ?_; clear hN N) | skip)) | (with_reducible intro _) | ((with_reducible refine And.intro ?_ ?_); (focus (first | ((repeat' with_reducible apply And.intro) <;> first | exact sideQ) | exact sd0))) | ((first | ((with_reducible refine askT_of ?_ (fun hb => ?_)); (focus (first | ((repeat' with_reducible apply And.intro) <;> first | exact sideQ) | exact sd0)); (try simp only [hb])) | ((with_reducible refine Vc.fin ?_); dsimp only [thenK, blockK, retK, resS, resOne, resAll]) | ((with_reducible refine Vc.hold ?_); first | refine Vc.regiont T0_ok GI6_ok ?_ | refine Vc.drawt (id := 5) T0_ok GI6_ok (by kernel_rfl) [0, 1, 2, 3, 4, 5, 6, 7, 8, 9, 10, 11, 12, 13, 14] 15 [] trivial (by kernel_rfl) ?_)); (try simp only [v8X, v8A, v8B, v8C, Nat.beq, Nat.ble, Int.reduceToNat, Int.reduceLE, Int.reduceLT, Nat.reduceLT, Nat.reduceLeDiff, Nat.reduceAdd, Nat.reduceMul, Nat.reduceSub, Int.reduceAdd, Int.reduceSub, Int.reduceMul, eq_self, decide_true, beq_self_eq_true, List.length_cons, List.length_nil, Nat.min_eq_left, IntKind.bits, tabs, GI6_set, d1]); (try simp (disch := omega) only [v8W])) | ((with_reducible refine hN _ _ ?_); clear hN N; (try simp (disch := omega) only [v8W])))); (try ((with_reducible refine Fin.of ?_); (try with_reducible exact True.intro))))
      (refine Vc.cond T0_ok (t := false) (by rfl) (fun h => Bool.noConfusion h) (fun _ => ?_))
      ((repeat (first | (with_reducible refine Vc.seq fun N hN => ?_) | (with_reducible refine Vc.block ?_) | ((first | with_reducible refine Vc.skip ?_ | with_reducible refine Vc.exit ?_); dsimp only [thenK, blockK, Nat.beq]; (first | (refine hN _ _ ?_; clear hN N) | skip)) | (with_reducible intro _) | ((with_reducible refine And.intro ?_ ?_); (focus (first | ((repeat' with_reducible apply And.intro) <;> first | exact sideQ) | exact sd0))) | ((first | ((with_reducible refine askT_of ?_ (fun hb => ?_)); (focus (first | ((repeat' with_reducible apply And.intro) <;> first | exact sideQ) | exact sd0)); (try simp only [hb])) | ((with_reducible refine Vc.fin ?_); dsimp only [thenK, blockK, retK, resS, resOne, resAll]) | ((with_reducible refine Vc.hold ?_); first | refine Vc.regiont T0_ok GI6_ok ?_ | refine Vc.drawt (id := 5) T0_ok GI6_ok (by kernel_rfl) [0, 1, 2, 3, 4, 5, 6, 7, 8, 9, 10, 11, 12, 13, 14] 15 [] trivial (by kernel_rfl) ?_)); (try simp only [v8X, v8A, v8B, v8C, Nat.beq, Nat.ble, Int.reduceToNat, Int.reduceLE, Int.reduceLT, Nat.reduceLT, Nat.reduceLeDiff, Nat.reduceAdd, Nat.reduceMul, Nat.reduceSub, Int.reduceAdd, Int.reduceSub, Int.reduceMul, eq_self, decide_true, beq_self_eq_true, List.length_cons, List.length_nil, Nat.min_eq_left, IntKind.bits, tabs, GI6_set]); (try simp (disch := omega) only [v8W])) | ((with_reducible refine hN _ _ ?_); clear hN N; (try simp (disch := omega) only [v8W])))); (try ((with_reducible refine Fin.of ?_); (try with_reducible exact True.intro))))
      (refine hN1 _ _ ?_; (try clear hN N); clear hN1 N1)
      ((repeat (first | (with_reducible refine Vc.seq fun N hN => ?_) | (with_reducible refine Vc.block ?_) | ((first | with_reducible refine Vc.skip ?_ | with_reducible refine Vc.exit ?_); dsimp only [thenK, blockK, Nat.beq]; (first | (refine hN _ _ ?_; clear hN N) | skip)) | (with_reducible intro _) | ((with_reducible refine And.intro ?_ ?_); (focus (first | ((repeat' with_reducible apply And.intro) <;> first | exact sideQ) | exact sd0))) | ((first | ((with_reducible refine askT_of ?_ (fun hb => ?_)); (focus (first | ((repeat' with_reducible apply And.intro) <;> first | exact sideQ) | exact sd0)); (try simp only [hb])) | ((with_reducible refine Vc.fin ?_); dsimp only [thenK, blockK, retK, resS, resOne, resAll]) | ((with_reducible refine Vc.hold ?_); first | refine Vc.regiont T0_ok GI6_ok ?_ | refine Vc.drawt (id := 5) T0_ok GI6_ok (by kernel_rfl) [0, 1, 2, 3, 4, 5, 6, 7, 8, 9, 10, 11, 12, 13, 14] 15 [] trivial (by kernel_rfl) ?_)); (try simp only [v8X, v8A, v8B, v8C, Nat.beq, Nat.ble, Int.reduceToNat, Int.reduceLE, Int.reduceLT, Nat.reduceLT, Nat.reduceLeDiff, Nat.reduceAdd, Nat.reduceMul, Nat.reduceSub, Int.reduceAdd, Int.reduceSub, Int.reduceMul, eq_self, decide_true, beq_self_eq_true, List.length_cons, List.length_nil, Nat.min_eq_left, IntKind.bits, tabs, GI6_set]); (try simp (disch := omega) only [v8W])) | ((with_reducible refine hN _ _ ?_); clear hN N; (try simp (disch := omega) only [v8W])))); (try ((with_reducible refine Fin.of ?_); (try with_reducible exact True.intro))))
      exact ⟨trivial, by unfold heavyD; rw [hll, ← k4]⟩
noncomputable def g_fheavy (args : List SV) (m : List Blk) : CR :=
  match args with
  | [x] => match srcC x m with
    | some (q, k, .rows 2 rs) => .pure (q ∧ k ≤ maxLen ∧ ∀ r ∈ rs, ∃ p, FtRow r p) (.bool (heavyD (rs.map lnOf)))
    | _ => .none
  | _ => .none
theorem rows2_len : ∀ {rs : List (List SV)}, (∀ r ∈ rs, r.length = 2) → (cc (.rows 2 rs)).length = rs.length * 2
  | [], _ => rfl
  | r :: l, h => by
    have h1 := h r List.mem_cons_self
    have h2 : (cc (.rows 2 l)).length = l.length * 2 := rows2_len fun r hr => h r (List.mem_cons_of_mem _ hr)
    show (cvs r ++ l.flatMap cvs).length = _
    rw [List.length_append, cvs_eq, List.length_map, h1, List.length_cons]
    have : (l.flatMap cvs).length = l.length * 2 := h2
    omega
theorem g_fheavy_ok (w0 : World) (B : List Nat) (args : List SV) (m : List Blk) : CROk Try.prog w0 B 5 args m (g_fheavy args m) := by
  unfold g_fheavy
  split
  · rename_i x
    split
    · rename_i q k rs hs
      rintro ⟨hq, hk, hR⟩ w hm
      obtain ⟨l1, a, cp, ex, b1, m1, d1⟩ := src_ro hs hq hm
      have hr2 : ∀ r ∈ rs, r.length = 2 := fun r hr => (hR r hr).elim fun p h => h.len
      have e : cvs [x] = cvs [.sl 0 a 0 0 2 k cp] := by simp only [cvs]; rw [ex]; rfl
      rw [rows2_len hr2] at l1
      simp only [conEs] at l1
      rw [e]
      exact calls_pure Try.func5 rfl rfl (fheavy_vc a k cp rs (by omega) b1 d1 hk hR w m1)
    · exact trivial
  · exact trivial
def kpl : List Int := [1, 0, 0, 0, 0, 0, 0, 0, 0, 0, 0, 0, 0, 0, 0, 0, 0, 0, 0, 0, 0, 1, 0, 0, 0]
theorem kpl_one (x : List Int) (h : x ∈ [kpl]) : okP x := by
  rw [List.mem_singleton] at h
  subst h
  exact ⟨rfl, rfl, rfl, rfl, rfl, rfl, rfl, rfl, rfl, rfl, rfl, rfl, rfl, rfl, rfl, rfl, rfl, rfl, rfl, rfl, .inl rfl, rfl, rfl, rfl, rfl, trivial⟩
theorem kpl_ok : ∀ x ∈ [kpl], okP x := kpl_one
theorem allU1 : allU [1, 0, 0, 0] := by simp [allU]
theorem kpl_row : ([.int .u8 1, .int .u8 0, .int .u8 0, .int .u8 0, .int .u8 0, .int .u8 0, .int .u8 0, .int .u8 0, .int .u8 0, .int .u8 0, .int .u8 0, .int .u8 0, .int .u8 0, .int .u8 0, .int .u8 0, .int .u8 0, .int .u8 0, .int .u8 0, .int .u8 0, .int .u8 0, .bool false, .int .u64 (lm (numI [1, 0, 0, 0]) 0 : Nat), .int .u64 (lm (numI [1, 0, 0, 0]) 1 : Nat), .int .u64 (lm (numI [1, 0, 0, 0]) 2 : Nat), .int .u64 (lm (numI [1, 0, 0, 0]) 3 : Nat)] : List SV) = plL kpl := by rfl
theorem kpl_ln : (plL kpl).length = 25 := rfl
theorem kpl_al : allOne (plL kpl) = true := rfl
theorem kpl_rows : rowsOk 25 [plL kpl] = true := rowsOk_pl (l := [kpl]) kpl_ok
theorem kpl_pls : plsOf [plL kpl] = [kpl] := plsOf_eq (l := [kpl]) kpl_ok
theorem pls_nil : plsOf [] = [] := rfl
theorem kpl_m1 : meetsD [] [kpl] [kpl] [] = true := by decide
theorem kpl_m2 : meetsD [kpl] [] [kpl] [] = false := by decide
theorem kpl_t : touchD [kpl] [] [kpl] = true := by decide
set_option maxRecDepth 20000 in
theorem fknown_vc (w : World) : Calls Try.prog 6 (cvs []).toArray w (fun en w' => ∃ u, en = .returned u ∧ ∃ v' m', u = cv v' ∧ MemOk w [] m' w' ∧ v' = .bool true) := by
  refine Vc.calls T0_ok Try.func6 rfl rfl (args := []) (k := 25) rfl (MemOk.start _) ?_; change Vc _ _ (c8 .undef .undef .undef .undef .undef .undef .undef .undef (c8 .undef .undef .undef .undef .undef .undef .undef .undef (c8 .undef .undef .undef .undef .undef .undef .undef .undef ([.undef])))) _ _
  ((repeat (first | (with_reducible refine Vc.seq fun N hN => ?_) | (with_reducible refine Vc.block ?_) | ((first | with_reducible refine Vc.skip ?_ | with_reducible refine Vc.exit ?_); dsimp only [thenK, blockK, Nat.beq]; (first | (refine hN _ _ ?_; clear hN N) | skip)) | (with_reducible intro _) | ((with_reducible refine And.intro ?_ ?_); (focus (first | ((repeat' with_reducible apply And.intro) <;> first | exact sideQ | (exact allU1) | (exact ⟨[kpl], rfl, kpl_ok⟩) | (exact ⟨[], rfl, fun _ h => absurd h List.not_mem_nil⟩)) | exact sd0))) | ((first | ((with_reducible refine askT_of ?_ (fun hb => ?_)); (focus (first | ((repeat' with_reducible apply And.intro) <;> first | exact sideQ | (exact allU1) | (exact ⟨[kpl], rfl, kpl_ok⟩) | (exact ⟨[], rfl, fun _ h => absurd h List.not_mem_nil⟩)) | exact sd0)); (try simp only [hb])) | ((with_reducible refine Vc.fin ?_); dsimp only [thenK, blockK, retK, resS, resOne, resAll]) | ((with_reducible refine Vc.hold ?_); first | refine Vc.regiont T0_ok GI6_ok ?_)); (try simp only [v8X, v8A, v8B, v8C, Nat.beq, Nat.ble, Int.reduceToNat, Int.reduceLE, Int.reduceLT, Nat.reduceLT, Nat.reduceLeDiff, Nat.reduceAdd, Nat.reduceMul, Nat.reduceSub, Int.reduceAdd, Int.reduceSub, Int.reduceMul, eq_self, decide_true, beq_self_eq_true, List.length_cons, List.length_nil, Nat.min_eq_left, IntKind.bits, tabs, GI6_set, srcNs, kpl_row, kpl_ln, kpl_al, kpl_rows, kpl_pls, pls_nil, kpl_m1, kpl_m2, kpl_t, List.drop_zero, List.take_succ_cons, List.take_zero]); (try simp (disch := omega) only [v8W])) | ((with_reducible refine hN _ _ ?_); clear hN N; (try simp (disch := omega) only [v8W])))); (try ((with_reducible refine Fin.of ?_); (try with_reducible exact True.intro))))
  exact ⟨trivial, trivial⟩
def g_fknown (args : List SV) (_m : List Blk) : CR := match args with | [] => .pure (True) (.bool true) | _ => .none
theorem g_fknown_ok (w0 : World) (B : List Nat) (args : List SV) (m : List Blk) : CROk Try.prog w0 B 6 args m (g_fknown args m) := by
  unfold g_fknown; split
  · exact fun h w _ => calls_pure Try.func6 rfl rfl (fknown_vc w)
  · exact trivial
end Go.Proofs.Ytdanlclhnehieaa
