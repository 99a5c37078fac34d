/-
  RLP: items as trees, in memory that is told; how much there is of one (quaestorlaw04.much), walked. No condition.
-/
import Derived.Test.YtlogpdjcgbifhaaP6
namespace Go.Proofs.Ytlogpdjcgbifhaa
set_option linter.unusedSimpArgs false
set_option linter.unusedVariables false
set_option maxHeartbeats 4000000
set_option linter.defProp false
open Go.RowKit
/-- An item. -/
inductive Itm where
  | mk (l : Bool) (bs : List Int) (ks : List Itm)
/-- A struct's cells are an item's, in blocks that are told. -/
inductive ItR (H : Nat → Obj → Prop) : List SV → Itm → Prop
  | mk {l : Bool} {a a' : Option Addr} {n c n' c' : Nat} {bs : List Int} {rs : List (List SV)} {ks : List Itm} : bs.length = n → n ≤ c → adr a n c → LiesH H a (cc (.ints .u8 bs)) → allB bs →
      rs.length = n' → n' ≤ c' → adr a' n' c' → (∀ r ∈ rs, r.length = 3) → LiesH H a' (cc (.rows 3 rs)) → rs.length = ks.length → (∀ (i : Nat) (r : List SV) (k : Itm), rs[i]? = some r → ks[i]? = some k → ItR H r k) →
      n ≤ maxLen → n' ≤ maxLen →
      ItR H [.bool l, .gh a n c (.ints .u8 bs), .gh a' n' c' (.rows 3 rs)] (.mk l bs ks)
theorem ItR.mono {H H' : Nat → Obj → Prop} (hh : ∀ b o, H b o → H' b o) {l : List SV} {t : Itm} (h : ItR H l t) : ItR H' l t := by
  induction h with
  | mk h1 h2 h3 h4 h5 h6 h7 h8 h9 h10 h11 h12 h13 h14 ih => exact .mk h1 h2 h3 (h4.mono hh) h5 h6 h7 h8 h9 (h10.mono hh) h11 ih h13 h14
theorem ItR.uniq {H H' : Nat → Obj → Prop} {l : List SV} {t t' : Itm} (h : ItR H l t) (h' : ItR H' l t') : t = t' := by
  induction h generalizing t' with
  | @mk l a a' n c n' c' bs rs ks h1 h2 h3 h4 h5 h6 h7 h8 h9 h10 h11 h12 h13 h14 ih =>
    cases h' with
    | @mk _ _ _ _ _ _ _ _ _ ks' g1 g2 g3 g4 g5 g6 g7 g8 g9 g10 g11 g12 g13 g14 =>
      congr 1
      apply List.ext_getElem?
      intro i
      by_cases hi : i < rs.length
      · have e1 := List.getElem?_eq_getElem hi
        have e2 := List.getElem?_eq_getElem (show i < ks.length by omega)
        have e3 := List.getElem?_eq_getElem (show i < ks'.length by omega)
        rw [e2, e3, ih i _ _ e1 e2 (g12 i _ _ e1 e3)]
      · rw [List.getElem?_eq_none (by omega), List.getElem?_eq_none (by omega)]
instance : Inhabited Itm := ⟨.mk false [] []⟩
/-- The item that a struct's cells are. -/
noncomputable def tOf (l : List SV) : Itm := Classical.epsilon fun t => ∃ H, ItR H l t
theorem tOf_eq {H : Nat → Obj → Prop} {l : List SV} {t : Itm} (h : ItR H l t) : tOf l = t := by
  have h1 : ∃ H', ItR H' l (tOf l) := Classical.epsilon_spec (p := fun t => ∃ H, ItR H l t) ⟨t, H, h⟩
  obtain ⟨H', h2⟩ := h1
  exact h2.uniq h
mutual
/-- How many nodes and bytes an item has. -/
def isz : Itm → Nat
  | .mk _ bs ks => 1 + bs.length + iszL ks
def iszL : List Itm → Nat
  | [] => 0
  | k :: ks => isz k + iszL ks
end
theorem isz_pos (t : Itm) : 1 ≤ isz t := by cases t; simp only [isz]; omega
theorem iszL_get : ∀ {ks : List Itm} {i : Nat} {k : Itm}, ks[i]? = some k → isz k ≤ iszL ks
  | [], _, _, h => by simp at h
  | x :: ks, 0, k, h => by simp at h; subst h; simp only [iszL]; omega
  | x :: ks, i + 1, k, h => by simp at h; have := iszL_get h; simp only [iszL]; omega
mutual
/-- How much there is, no further than so. -/
def mu : Itm → Int → Int
  | .mk _ bs ks, w => muL ks (w + (1 + (bs.length : Int) / 16))
def muL : List Itm → Int → Int
  | [], w => w
  | k :: ks, w => if w ≤ 1000 then muL ks (mu k w) else w
end
theorem muL_stop : ∀ {ks : List Itm} {w : Int}, ¬ w ≤ 1000 → muL ks w = w
  | [], _, _ => by simp only [muL]
  | k :: ks, w, h => by simp only [muL]; rw [if_neg h]
theorem muL_go {ks : List Itm} {i : Nat} {k : Itm} {w : Int} (h : ks[i]? = some k) (hw : w ≤ 1000) : muL (ks.drop i) w = muL (ks.drop (i + 1)) (mu k w) := by
  obtain ⟨hi, rfl⟩ := List.getElem?_eq_some_iff.1 h
  rw [List.drop_eq_getElem_cons hi]
  simp only [muL]; rw [if_pos hw]
def H0 (w : World) (b : Nat) (o : Obj) : Prop := w.heap[b]? = some o
theorem H0.hm {w : World} {m : List Blk} (hin : allOld w ∈ m) : ∀ b o, H0 w b o → HM m b o := fun b o h => ⟨_, hin, h⟩
theorem mu_bd {H : Nat → Obj → Prop} {l : List SV} {t : Itm} (h : ItR H l t) : ∀ w : Int, 0 ≤ w ∧ w ≤ 1001 → 0 ≤ mu t w ∧ mu t w ≤ 1000000000000000000 := by
  induction h with
  | @mk l a a' n c n' c' bs rs ks h1 h2 h3 h4 h5 h6 h7 h8 h9 h10 h11 h12 h13 h14 ih =>
    intro w hw
    have hb : (bs.length : Int) ≤ 9223372036854775807 := by rw [h1]; unfold maxLen at h13; omega
    have key : ∀ (j i : Nat), j = ks.length - i → ∀ w : Int, 0 ≤ w ∧ w ≤ 1000000000000000000 → 0 ≤ muL (ks.drop i) w ∧ muL (ks.drop i) w ≤ 1000000000000000000 := by
      intro j
      induction j with
      | zero => intro i hj w hw; rw [List.drop_of_length_le (by omega)]; simp only [muL]; exact hw
      | succ j ihj =>
        intro i hj w hw
        have hi : i < ks.length := by omega
        by_cases hc : w ≤ 1000
        · rw [muL_go (List.getElem?_eq_getElem hi) hc]
          exact ihj (i + 1) (by omega) _ (ih i _ _ (List.getElem?_eq_getElem (show i < rs.length by omega)) (List.getElem?_eq_getElem hi) w ⟨hw.1, by omega⟩)
        · rw [muL_stop hc]; exact hw
    simp only [mu]
    have := key ks.length 0 rfl (w + (1 + (bs.length : Int) / 16)) (by omega)
    rwa [List.drop_zero] at this
noncomputable def g_muchD (d : Nat) (args : List SV) (m : List Blk) : CR :=
  match args with
  | [.agg l, .int .i64 w] => .pure (∃ t, ItR (HM m) l t ∧ isz t < d ∧ 0 ≤ w ∧ w ≤ 1001) (.int .i64 (mu (tOf l) w))
  | _ => .none
noncomputable def GMu (d : Nat) : Ctr := fun f args m => match f with
  | 9 => g_muchD d args m
  | _ => .none
theorem GMu_mk {d : Nat} (h_muchD : ∀ w0 B args m, CROk Try.prog w0 B 9 args m (g_muchD d args m)) : GOk Try.prog (GMu d) := by
  intro w0 B f args m; unfold GMu; split
  · exact h_muchD _ _ _ _
  · exact trivial
theorem GMu_muchD {d : Nat} : GMu d 9 = g_muchD d := by funext args m; rfl
def GMu_set := And.intro (@GMu_muchD) (@g_muchD.eq_def)

theorem getD_of {rs : List (List SV)} {i : Nat} {r : List SV} (h : rs[i]? = some r) : rs.getD i [] = r := by rw [List.getD_eq_getElem?_getD, h]; rfl
set_option maxRecDepth 20000 in
theorem much_vc (d : Nat) (GMu_ok : GOk Try.prog (GMu d)) (t : Itm) (l : List SV) (w0 : Int) (hw0 : 0 ≤ w0 ∧ w0 ≤ 1001) (w : World) (hI : ItR (H0 w) l t) (hd : isz t ≤ d) :
    Calls Try.prog 9 (cvs [.agg l, .int .i64 w0]).toArray w (fun en w' => ∃ u, en = .returned u ∧ ∃ v m', u = cv v ∧ MemOk w [] m' w' ∧ v = .int .i64 (mu t w0)) := by
  have hmu := mu_bd hI w0 hw0
  cases hI with
  | @mk l a a' n c n' c' bs rs ks h1 h2 h3 h4 h5 h6 h7 h8 h9 h10 h11 h12 h13 h14 =>
    have hb : (n : Int) ≤ 9223372036854775807 := by unfold maxLen at h13; omega
    have hn' : (n' : Int) ≤ 9223372036854775807 := by unfold maxLen at h14; omega
    have hL : ∀ m, allOld w ∈ m → LiesH (HM m) a' (cc (.rows 3 rs)) := fun m hin => h10.mono (H0.hm hin)
    refine Vc.calls T0_ok Try.func9 rfl rfl (args := [.agg [.bool l, .gh a n c (.ints .u8 bs), .gh a' n' c' (.rows 3 rs)], .int .i64 w0]) (k := 30) rfl (old_start w) ?_; change Vc _ _ (c8 (.agg [.bool l, .gh a n c (.ints .u8 bs), .gh a' n' c' (.rows 3 rs)]) (.int .i64 w0) .undef .undef .undef .undef .undef .undef (c8 .undef .undef .undef .undef .undef .undef .undef .undef (c8 .undef .undef .undef .undef .undef .undef .undef .undef (c8 .undef .undef .undef .undef .undef .undef .undef .undef ([]))))) _ _
    ((repeat (first | (with_reducible refine Vc.seq fun N hN => ?_) | (with_reducible refine Vc.block ?_) | ((first | with_reducible refine Vc.skip ?_ | with_reducible refine Vc.exit ?_); dsimp only [thenK, blockK, Nat.beq]; (first | (refine hN _ _ ?_; clear hN N) | skip)) | (with_reducible intro _) | ((with_reducible refine And.intro ?_ ?_); (focus (first | exact sideQ | exact sd0))) | ((first | ((with_reducible refine askT_of ?_ (fun hb => ?_)); (focus (first | exact sideQ | exact sd0)); (try simp only [hb])) | ((with_reducible refine Vc.fin ?_); dsimp only [thenK, blockK, retK, resS, resOne, resAll]) | ((with_reducible refine Vc.hold ?_); first | refine Vc.regiont T0_ok GMu_ok ?_)); (try simp only [v8X, v8A, v8B, v8C, Nat.beq, Nat.ble, Int.reduceToNat, Int.reduceLE, Int.reduceLT, Nat.reduceLT, Nat.reduceLeDiff, Nat.reduceAdd, Nat.reduceMul, Nat.reduceSub, Int.reduceAdd, Int.reduceSub, Int.reduceMul, eq_self, decide_true, beq_self_eq_true, List.length_cons, List.length_nil, Nat.min_eq_left, IntKind.bits, tabs, GMu_set]); (try simp (disch := omega) only [v8W])) | ((with_reducible refine hN _ _ ?_); clear hN N; (try simp (disch := omega) only [v8W])))); (try ((with_reducible refine Fin.of ?_); (try with_reducible exact True.intro))))
    rename_i b1
    (revert N; intro N1 hN1)
    have hst : muL ks (w0 + (1 + (n : Int) / 16)) = mu (.mk l bs ks) w0 := by simp only [mu]; rw [h1]
    have hks : ks.length = n' := by omega
    refine Vc.loop 1 32 (fun (x : Nat × Int) => [(1, .int .i64 x.2), (2, .ptr 1 b1 0 0 0 0), (4, .int .i64 0), (5, .int .i64 (x.1 : Nat))]) (fun x => [allOld w, .blk b1 25 (.cells [.bool l, .gh a n c (.ints .u8 bs), .gh a' n' c' (.rows 3 rs)])]) (fun x => x.1 ≤ n' ∧ muL (ks.drop x.1) x.2 = mu (.mk l bs ks) w0 ∧ 0 ≤ x.2 ∧ x.2 ≤ 1000000000000000000) (fun x => n' - x.1) (0, w0 + (1 + (n : Int) / 16)) ⟨⟨Nat.zero_le _, hst, by omega, by omega⟩, ?_, ?_⟩ (fun x junk hx2 => ?_)
    · ((try simp only [v8X, v8A, v8B, v8C, Nat.beq, Nat.ble, Int.reduceToNat, Int.reduceLE, Int.reduceLT, Nat.reduceLT, Nat.reduceLeDiff, Nat.reduceAdd, Nat.reduceMul, Nat.reduceSub, Int.reduceAdd, Int.reduceSub, Int.reduceMul, eq_self, decide_true, beq_self_eq_true, List.length_cons, List.length_nil, Nat.min_eq_left, IntKind.bits, tabs]); (repeat' with_reducible apply And.intro) <;> first | with_reducible exact True.intro | rfl | with_reducible rfl | (congr 1 <;> omega) | trivial)
    · ((try simp only [v8X, v8A, v8B, v8C, Nat.beq, Nat.ble, Int.reduceToNat, Int.reduceLE, Int.reduceLT, Nat.reduceLT, Nat.reduceLeDiff, Nat.reduceAdd, Nat.reduceMul, Nat.reduceSub, Int.reduceAdd, Int.reduceSub, Int.reduceMul, eq_self, decide_true, beq_self_eq_true, List.length_cons, List.length_nil, Nat.min_eq_left, IntKind.bits, tabs]); (repeat' with_reducible apply And.intro) <;> first | with_reducible exact True.intro | rfl | with_reducible rfl | (congr 1 <;> omega) | trivial)
    · obtain ⟨k, v⟩ := x
      simp only at hx2 ⊢
      obtain ⟨hk, hm2, hv0, hv1⟩ := hx2
      (simp only [v8X, v8A, v8B, v8C, Nat.beq, Nat.ble, Int.reduceToNat, Int.reduceLE, Int.reduceLT, Nat.reduceLT, Nat.reduceLeDiff, Nat.reduceAdd, Nat.reduceMul, Nat.reduceSub, Int.reduceAdd, Int.reduceSub, Int.reduceMul, eq_self, decide_true, beq_self_eq_true, List.length_cons, List.length_nil, Nat.min_eq_left, IntKind.bits, tabs])
      by_cases hc : k < n' ∧ v ≤ 1000
      · obtain ⟨hc1, hc2⟩ := hc
        have d1 : decide ((k : Int) < (n' : Int)) = true := decide_eq_true (by omega)
        have d2 : decide (v ≤ 1000) = true := decide_eq_true hc2
        have e1 := List.getElem?_eq_getElem (show k < rs.length by omega)
        have e2 := List.getElem?_eq_getElem (show k < ks.length by omega)
        have hkid := h12 k _ _ e1 e2
        have hkb := mu_bd hkid v ⟨hv0, by omega⟩
        have hsz := iszL_get e2
        have hti := tOf_eq hkid
        have hgo := muL_go e2 hc2
        have hP : ∀ m, allOld w ∈ m → ∃ t, ItR (HM m) rs[k] t ∧ isz t < d ∧ 0 ≤ v ∧ v ≤ 1001 := fun m hin => ⟨_, hkid.mono (H0.hm hin), by simp only [isz] at hd; omega, hv0, by omega⟩
        have hgd := getD_of e1
        generalize rs[k] = r at *
        generalize ks[k] = kk at *
        cases hkid with
        | @mk l2 a2 a2' m2 c2 m2' c2' bs2 rs2 ks2 g1 g2 g3 g4 g5 g6 g7 g8 g9 g10 g11 g12 g13 g14 =>
          ((repeat (first | (with_reducible refine Vc.seq fun N hN => ?_) | (with_reducible refine Vc.block ?_) | ((first | with_reducible refine Vc.skip ?_ | with_reducible refine Vc.exit ?_); dsimp only [thenK, blockK, Nat.beq]; (first | (refine hN _ _ ?_; clear hN N) | skip)) | (with_reducible intro _) | ((with_reducible refine And.intro ?_ ?_); (focus (first | exact sideQ | exact sd0))) | ((first | ((with_reducible refine askT_of ?_ (fun hb => ?_)); (focus (first | exact sideQ | exact sd0)); (try simp only [hb])) | ((with_reducible refine Vc.fin ?_); dsimp only [thenK, blockK, retK, resS, resOne, resAll]) | ((with_reducible refine Vc.hold ?_); first | refine Vc.regiont T0_ok GMu_ok ?_)); (try simp only [v8X, v8A, v8B, v8C, Nat.beq, Nat.ble, Int.reduceToNat, Int.reduceLE, Int.reduceLT, Nat.reduceLT, Nat.reduceLeDiff, Nat.reduceAdd, Nat.reduceMul, Nat.reduceSub, Int.reduceAdd, Int.reduceSub, Int.reduceMul, eq_self, decide_true, beq_self_eq_true, List.length_cons, List.length_nil, Nat.min_eq_left, IntKind.bits, tabs, GMu_set, d1, d2]); (try simp (disch := omega) only [v8W])) | ((with_reducible refine hN _ _ ?_); clear hN N; (try simp (disch := omega) only [v8W])))); (try ((with_reducible refine Fin.of ?_); (try with_reducible exact True.intro))))
          (refine Vc.cond T0_ok (t := true) (by rfl) (fun _ => ?_) (fun h => Bool.noConfusion h))
          ((repeat (first | (with_reducible refine Vc.seq fun N hN => ?_) | (with_reducible refine Vc.block ?_) | ((first | with_reducible refine Vc.skip ?_ | with_reducible refine Vc.exit ?_); dsimp only [thenK, blockK, Nat.beq]; (first | (refine hN _ _ ?_; clear hN N) | skip)) | (with_reducible intro _) | ((with_reducible refine And.intro ?_ ?_); (focus (first | ((repeat' with_reducible apply And.intro) <;> first | exact sideQ | (exact hL _ List.mem_cons_self) | (exact hP _ List.mem_cons_self)) | exact sd0))) | ((first | ((with_reducible refine askT_of ?_ (fun hb => ?_)); (focus (first | ((repeat' with_reducible apply And.intro) <;> first | exact sideQ | (exact hL _ List.mem_cons_self) | (exact hP _ List.mem_cons_self)) | exact sd0)); (try simp only [hb])) | ((with_reducible refine Vc.fin ?_); dsimp only [thenK, blockK, retK, resS, resOne, resAll]) | ((with_reducible refine Vc.hold ?_); first | refine Vc.regiont T0_ok GMu_ok ?_)); (try simp only [v8X, v8A, v8B, v8C, Nat.beq, Nat.ble, Int.reduceToNat, Int.reduceLE, Int.reduceLT, Nat.reduceLT, Nat.reduceLeDiff, Nat.reduceAdd, Nat.reduceMul, Nat.reduceSub, Int.reduceAdd, Int.reduceSub, Int.reduceMul, eq_self, decide_true, beq_self_eq_true, List.length_cons, List.length_nil, Nat.min_eq_left, IntKind.bits, tabs, GMu_set, hgd, hti, tnc, conEs.eq_def, conN.eq_def]); (try simp (disch := omega) only [v8W])) | ((with_reducible refine hN _ _ ?_); clear hN N; (try simp (disch := omega) only [v8W])))); (try ((with_reducible refine Fin.of ?_); (try with_reducible exact True.intro))))
          refine ⟨(k + 1, mu (.mk l2 bs2 ks2) v), ⟨by simp only; omega, by simp only; rw [← hgo]; exact hm2, hkb.1, hkb.2⟩, ?_, ?_, by simp only; omega⟩
          · ((try simp only [v8X, v8A, v8B, v8C, Nat.beq, Nat.ble, Int.reduceToNat, Int.reduceLE, Int.reduceLT, Nat.reduceLT, Nat.reduceLeDiff, Nat.reduceAdd, Nat.reduceMul, Nat.reduceSub, Int.reduceAdd, Int.reduceSub, Int.reduceMul, eq_self, decide_true, beq_self_eq_true, List.length_cons, List.length_nil, Nat.min_eq_left, IntKind.bits, tabs]); (repeat' with_reducible apply And.intro) <;> first | with_reducible exact True.intro | rfl | with_reducible rfl | (congr 1 <;> omega) | trivial)
          · ((try simp only [v8X, v8A, v8B, v8C, Nat.beq, Nat.ble, Int.reduceToNat, Int.reduceLE, Int.reduceLT, Nat.reduceLT, Nat.reduceLeDiff, Nat.reduceAdd, Nat.reduceMul, Nat.reduceSub, Int.reduceAdd, Int.reduceSub, Int.reduceMul, eq_self, decide_true, beq_self_eq_true, List.length_cons, List.length_nil, Nat.min_eq_left, IntKind.bits, tabs]); (repeat' with_reducible apply And.intro) <;> first | with_reducible exact True.intro | rfl | with_reducible rfl | (congr 1 <;> omega) | trivial)
      · have hv : v = mu (.mk l bs ks) w0 := by
          by_cases h : k < n'
          · rw [← hm2, muL_stop (by omega)]
          · rw [← hm2, List.drop_of_length_le (by omega)]; simp only [muL]
        have dd : decide ((k : Int) < (n' : Int)) = false ∨ (decide ((k : Int) < (n' : Int)) = true ∧ decide (v ≤ 1000) = false) := by
          by_cases h : k < n'
          · exact .inr ⟨decide_eq_true (by omega), decide_eq_false (by omega)⟩
          · exact .inl (decide_eq_false (by omega))
        rcases dd with d1 | ⟨d1, d2⟩
        · ((repeat (first | (with_reducible refine Vc.seq fun N hN => ?_) | (with_reducible refine Vc.block ?_) | ((first | with_reducible refine Vc.skip ?_ | with_reducible refine Vc.exit ?_); dsimp only [thenK, blockK, Nat.beq]; (first | (refine hN _ _ ?_; clear hN N) | skip)) | (with_reducible intro _) | ((with_reducible refine And.intro ?_ ?_); (focus (first | exact sideQ | exact sd0))) | ((first | ((with_reducible refine askT_of ?_ (fun hb => ?_)); (focus (first | exact sideQ | exact sd0)); (try simp only [hb])) | ((with_reducible refine Vc.fin ?_); dsimp only [thenK, blockK, retK, resS, resOne, resAll]) | ((with_reducible refine Vc.hold ?_); first | refine Vc.regiont T0_ok GMu_ok ?_)); (try simp only [v8X, v8A, v8B, v8C, Nat.beq, Nat.ble, Int.reduceToNat, Int.reduceLE, Int.reduceLT, Nat.reduceLT, Nat.reduceLeDiff, Nat.reduceAdd, Nat.reduceMul, Nat.reduceSub, Int.reduceAdd, Int.reduceSub, Int.reduceMul, eq_self, decide_true, beq_self_eq_true, List.length_cons, List.length_nil, Nat.min_eq_left, IntKind.bits, tabs, GMu_set, d1]); (try simp (disch := omega) only [v8W])) | ((with_reducible refine hN _ _ ?_); clear hN N; (try simp (disch := omega) only [v8W])))); (try ((with_reducible refine Fin.of ?_); (try with_reducible exact True.intro))))
          (refine Vc.cond T0_ok (t := false) (by rfl) (fun h => Bool.noConfusion h) (fun _ => ?_))
          ((repeat (first | (with_reducible refine Vc.seq fun N hN => ?_) | (with_reducible refine Vc.block ?_) | ((first | with_reducible refine Vc.skip ?_ | with_reducible refine Vc.exit ?_); dsimp only [thenK, blockK, Nat.beq]; (first | (refine hN _ _ ?_; clear hN N) | skip)) | (with_reducible intro _) | ((with_reducible refine And.intro ?_ ?_); (focus (first | exact sideQ | exact sd0))) | ((first | ((with_reducible refine askT_of ?_ (fun hb => ?_)); (focus (first | exact sideQ | exact sd0)); (try simp only [hb])) | ((with_reducible refine Vc.fin ?_); dsimp only [thenK, blockK, retK, resS, resOne, resAll]) | ((with_reducible refine Vc.hold ?_); first | refine Vc.regiont T0_ok GMu_ok ?_)); (try simp only [v8X, v8A, v8B, v8C, Nat.beq, Nat.ble, Int.reduceToNat, Int.reduceLE, Int.reduceLT, Nat.reduceLT, Nat.reduceLeDiff, Nat.reduceAdd, Nat.reduceMul, Nat.reduceSub, Int.reduceAdd, Int.reduceSub, Int.reduceMul, eq_self, decide_true, beq_self_eq_true, List.length_cons, List.length_nil, Nat.min_eq_left, IntKind.bits, tabs, GMu_set]); (try simp (disch := omega) only [v8W])) | ((with_reducible refine hN _ _ ?_); clear hN N; (try simp (disch := omega) only [v8W])))); (try ((with_reducible refine Fin.of ?_); (try with_reducible exact True.intro))))
          (refine hN1 _ _ ?_; (try clear hN N); clear hN1 N1)
          ((repeat (first | (with_reducible refine Vc.seq fun N hN => ?_) | (with_reducible refine Vc.block ?_) | ((first | with_reducible refine Vc.skip ?_ | with_reducible refine Vc.exit ?_); dsimp only [thenK, blockK, Nat.beq]; (first | (refine hN _ _ ?_; clear hN N) | skip)) | (with_reducible intro _) | ((with_reducible refine And.intro ?_ ?_); (focus (first | exact sideQ | exact sd0))) | ((first | ((with_reducible refine askT_of ?_ (fun hb => ?_)); (focus (first | exact sideQ | exact sd0)); (try simp only [hb])) | ((with_reducible refine Vc.fin ?_); dsimp only [thenK, blockK, retK, resS, resOne, resAll]) | ((with_reducible refine Vc.hold ?_); first | refine Vc.regiont T0_ok GMu_ok ?_)); (try simp only [v8X, v8A, v8B, v8C, Nat.beq, Nat.ble, Int.reduceToNat, Int.reduceLE, Int.reduceLT, Nat.reduceLT, Nat.reduceLeDiff, Nat.reduceAdd, Nat.reduceMul, Nat.reduceSub, Int.reduceAdd, Int.reduceSub, Int.reduceMul, eq_self, decide_true, beq_self_eq_true, List.length_cons, List.length_nil, Nat.min_eq_left, IntKind.bits, tabs, GMu_set]); (try simp (disch := omega) only [v8W])) | ((with_reducible refine hN _ _ ?_); clear hN N; (try simp (disch := omega) only [v8W])))); (try ((with_reducible refine Fin.of ?_); (try with_reducible exact True.intro))))
          exact ⟨trivial, by rw [hv]⟩
        · ((repeat (first | (with_reducible refine Vc.seq fun N hN => ?_) | (with_reducible refine Vc.block ?_) | ((first | with_reducible refine Vc.skip ?_ | with_reducible refine Vc.exit ?_); dsimp only [thenK, blockK, Nat.beq]; (first | (refine hN _ _ ?_; clear hN N) | skip)) | (with_reducible intro _) | ((with_reducible refine And.intro ?_ ?_); (focus (first | exact sideQ | exact sd0))) | ((first | ((with_reducible refine askT_of ?_ (fun hb => ?_)); (focus (first | exact sideQ | exact sd0)); (try simp only [hb])) | ((with_reducible refine Vc.fin ?_); dsimp only [thenK, blockK, retK, resS, resOne, resAll]) | ((with_reducible refine Vc.hold ?_); first | refine Vc.regiont T0_ok GMu_ok ?_)); (try simp only [v8X, v8A, v8B, v8C, Nat.beq, Nat.ble, Int.reduceToNat, Int.reduceLE, Int.reduceLT, Nat.reduceLT, Nat.reduceLeDiff, Nat.reduceAdd, Nat.reduceMul, Nat.reduceSub, Int.reduceAdd, Int.reduceSub, Int.reduceMul, eq_self, decide_true, beq_self_eq_true, List.length_cons, List.length_nil, Nat.min_eq_left, IntKind.bits, tabs, GMu_set, d1, d2]); (try simp (disch := omega) only [v8W])) | ((with_reducible refine hN _ _ ?_); clear hN N; (try simp (disch := omega) only [v8W])))); (try ((with_reducible refine Fin.of ?_); (try with_reducible exact True.intro))))
          (refine Vc.cond T0_ok (t := false) (by rfl) (fun h => Bool.noConfusion h) (fun _ => ?_))
          ((repeat (first | (with_reducible refine Vc.seq fun N hN => ?_) | (with_reducible refine Vc.block ?_) | ((first | with_reducible refine Vc.skip ?_ | with_reducible refine Vc.exit ?_); dsimp only [thenK, blockK, Nat.beq]; (first | (refine hN _ _ ?_; clear hN N) | skip)) | (with_reducible intro _) | ((with_reducible refine And.intro ?_ ?_); (focus (first | exact sideQ | exact sd0))) | ((first | ((with_reducible refine askT_of ?_ (fun hb => ?_)); (focus (first | exact sideQ | exact sd0)); (try simp only [hb])) | ((with_reducible refine Vc.fin ?_); dsimp only [thenK, blockK, retK, resS, resOne, resAll]) | ((with_reducible refine Vc.hold ?_); first | refine Vc.regiont T0_ok GMu_ok ?_)); (try simp only [v8X, v8A, v8B, v8C, Nat.beq, Nat.ble, Int.reduceToNat, Int.reduceLE, Int.reduceLT, Nat.reduceLT, Nat.reduceLeDiff, Nat.reduceAdd, Nat.reduceMul, Nat.reduceSub, Int.reduceAdd, Int.reduceSub, Int.reduceMul, eq_self, decide_true, beq_self_eq_true, List.length_cons, List.length_nil, Nat.min_eq_left, IntKind.bits, tabs, GMu_set]); (try simp (disch := omega) only [v8W])) | ((with_reducible refine hN _ _ ?_); clear hN N; (try simp (disch := omega) only [v8W])))); (try ((with_reducible refine Fin.of ?_); (try with_reducible exact True.intro))))
          (refine hN1 _ _ ?_; (try clear hN N); clear hN1 N1)
          ((repeat (first | (with_reducible refine Vc.seq fun N hN => ?_) | (with_reducible refine Vc.block ?_) | ((first | with_reducible refine Vc.skip ?_ | with_reducible refine Vc.exit ?_); dsimp only [thenK, blockK, Nat.beq]; (first | (refine hN _ _ ?_; clear hN N) | skip)) | (with_reducible intro _) | ((with_reducible refine And.intro ?_ ?_); (focus (first | exact sideQ | exact sd0))) | ((first | ((with_reducible refine askT_of ?_ (fun hb => ?_)); (focus (first | exact sideQ | exact sd0)); (try simp only [hb])) | ((with_reducible refine Vc.fin ?_); dsimp only [thenK, blockK, retK, resS, resOne, resAll]) | ((with_reducible refine Vc.hold ?_); first | refine Vc.regiont T0_ok GMu_ok ?_)); (try simp only [v8X, v8A, v8B, v8C, Nat.beq, Nat.ble, Int.reduceToNat, Int.reduceLE, Int.reduceLT, Nat.reduceLT, Nat.reduceLeDiff, Nat.reduceAdd, Nat.reduceMul, Nat.reduceSub, Int.reduceAdd, Int.reduceSub, Int.reduceMul, eq_self, decide_true, beq_self_eq_true, List.length_cons, List.length_nil, Nat.min_eq_left, IntKind.bits, tabs, GMu_set]); (try simp (disch := omega) only [v8W])) | ((with_reducible refine hN _ _ ?_); clear hN N; (try simp (disch := omega) only [v8W])))); (try ((with_reducible refine Fin.of ?_); (try with_reducible exact True.intro))))
          exact ⟨trivial, by rw [hv]⟩
theorem it_old {w0 : World} {B : List Nat} {m : List Blk} {w : World} (hm : MemOk w0 B m w) {l : List SV} {t : Itm} (h : ItR (HM m) l t) : ItR (H0 w) l t := h.mono fun _ _ ho => hm.hm ho
theorem g_muchD_ok : ∀ d, ∀ (w0 : World) (B : List Nat) (args : List SV) (m : List Blk), CROk Try.prog w0 B 9 args m (g_muchD d args m) := by
  intro d
  induction d with
  | zero =>
    intro w0 B args m
    unfold g_muchD
    split
    · exact fun ⟨t, _, h, _⟩ => absurd h (Nat.not_lt_zero _)
    · exact trivial
  | succ d ih =>
    intro w0 B args m
    unfold g_muchD
    split
    · rename_i l v
      intro ⟨t, hI, hd, h0, h1⟩ w hm
      rw [tOf_eq hI]
      exact calls_pure Try.func9 rfl rfl (much_vc d (GMu_mk ih) t l v ⟨h0, h1⟩ w (it_old hm hI) (by omega))
    · exact trivial
noncomputable def g_much (args : List SV) (m : List Blk) : CR :=
  match args with
  | [.agg l, .int .i64 w] => .pure (∃ t, ItR (HM m) l t ∧ 0 ≤ w ∧ w ≤ 1001) (.int .i64 (mu (tOf l) w))
  | _ => .none
theorem g_much_ok (w0 : World) (B : List Nat) (args : List SV) (m : List Blk) : CROk Try.prog w0 B 9 args m (g_much args m) := by
  unfold g_much
  split
  · rename_i l v
    intro ⟨t, hI, h0, h1⟩ w hm
    exact g_muchD_ok (isz t + 1) w0 B [.agg l, .int .i64 v] m ⟨t, hI, Nat.lt_succ_self _, h0, h1⟩ w hm
  · exact trivial
end Go.Proofs.Ytlogpdjcgbifhaa
