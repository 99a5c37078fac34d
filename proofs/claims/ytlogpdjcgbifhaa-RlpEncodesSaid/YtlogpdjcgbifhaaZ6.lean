/-
  The law RlpEncodes of package quaestorlaw04 answers true for all items and numbers, and leaves them as they were. No condition.
-/
import Derived.Test.YtlogpdjcgbifhaaZ4
import Derived.Test.YtlogpdjcgbifhaaFI
namespace Go.Proofs.Ytlogpdjcgbifhaa
set_option linter.unusedSimpArgs false
set_option linter.unusedVariables false
set_option maxHeartbeats 4000000
set_option linter.defProp false
open Go.RowKit Go.ChangeShapes Go.WideShapes Go.ChangeAt
/-! ### How much there is bounds how many nodes there are -/
mutual
theorem mu_ge : ∀ (t : Itm) (w : Int), w ≤ mu t w
  | .mk _ bs ks, w => by have := muL_ge ks (w + (1 + (bs.length : Int) / 16)); simp only [mu]; omega
theorem muL_ge : ∀ (ks : List Itm) (w : Int), w ≤ muL ks w
  | [], w => by simp only [muL]; omega
  | k :: ks, w => by
    have h1 := mu_ge k w
    have h2 := muL_ge ks (mu k w)
    simp only [muL]; split <;> omega
end
mutual
theorem mu_bounds : ∀ (t : Itm) (w : Int), mu t w ≤ 1000 → (isz t : Int) ≤ 16 * (mu t w - w) ∧ (cntI t : Int) ≤ mu t w - w
  | .mk _ bs ks, w, h => by
    simp only [mu] at h ⊢
    obtain ⟨h1, h2⟩ := muL_bounds ks _ h
    simp only [isz, cntI]; omega
theorem muL_bounds : ∀ (ks : List Itm) (w : Int), muL ks w ≤ 1000 → (iszL ks : Int) ≤ 16 * (muL ks w - w) ∧ (cntL ks : Int) ≤ muL ks w - w
  | [], w, _ => by simp only [muL, iszL, cntL]; omega
  | k :: ks, w, h => by
    simp only [muL] at h ⊢
    by_cases hw : w ≤ 1000
    · rw [if_pos hw] at h ⊢
      have h3 := muL_ge ks (mu k w)
      obtain ⟨h1, h2⟩ := muL_bounds ks _ h
      obtain ⟨h4, h5⟩ := mu_bounds k w (by omega)
      simp only [iszL, cntL]; omega
    · rw [if_neg hw] at h; exact absurd h hw
end
/-! ### The document's Number; are two strings alike -/
noncomputable def GZ5 : Ctr := fun f args m => match f with
  | 25 => g_big args m
  | _ => .none
theorem GZ5_ok : GOk Try.prog GZ5 := by
  intro w0 B f args m; unfold GZ5; split
  · exact g_big_ok _ _ _ _
  · exact trivial
theorem GZ5_big : GZ5 25 = g_big := by funext args m; rfl
def GZ5_set := And.intro (@GZ5_big) (@g_big.eq_def)

theorem rnum_vc (n : Nat) (hn : n < 18446744073709551616) (w : World) :
    Calls Try.prog 16 (cvs [.int .u64 (n : Int)]).toArray w (fun en w' => ∃ u, en = .returned u ∧ ∃ v' m', u = cv v' ∧ MemOk w [] m' w' ∧ ∃ i s, v' = .agg [.bool false, .own i s (beB n).length, .nilsl] ∧ bget m' i = .own s (beB n).length 5 1 (.ints .u8 (beB n))) := by
  refine Vc.calls T0_ok Try.func16 rfl rfl (args := [.int .u64 (n : Int)]) (k := 5) rfl (MemOk.start _) ?_; change Vc _ _ ([.int .u64 (n : Int), .undef, .undef, .undef, .undef, .undef]) _ _
  ((repeat (first | (with_reducible refine Vc.seq fun N hN => ?_) | (with_reducible refine Vc.block ?_) | ((first | with_reducible refine Vc.skip ?_ | with_reducible refine Vc.exit ?_); dsimp only [thenK, blockK, Nat.beq]; (first | (refine hN _ _ ?_; clear hN N) | skip)) | (with_reducible intro _) | ((with_reducible refine And.intro ?_ ?_); (focus (first | exact sideQ | exact sd0))) | ((first | ((with_reducible refine askT_of ?_ (fun hb => ?_)); (focus (first | exact sideQ | exact sd0)); (try simp only [hb])) | ((with_reducible refine Vc.fin ?_); dsimp only [thenK, blockK, retK, resS, resOne, resAll]) | ((with_reducible refine Vc.hold ?_); first | refine Vc.regiont T0_ok GZ5_ok ?_)); (try simp only [v8X, v8A, v8B, v8C, Nat.beq, Nat.ble, Int.reduceToNat, Int.reduceLE, Int.reduceLT, Nat.reduceLT, Nat.reduceLeDiff, Nat.reduceAdd, Nat.reduceMul, Nat.reduceSub, Int.reduceAdd, Int.reduceSub, Int.reduceMul, eq_self, decide_true, beq_self_eq_true, List.length_cons, List.length_nil, Nat.min_eq_left, IntKind.bits, tabs, GZ5_set, tnc]); (try simp (disch := omega) only [v8W])) | ((with_reducible refine hN _ _ ?_); clear hN N; (try simp (disch := omega) only [v8W])))); (try ((with_reducible refine Fin.of ?_); (try with_reducible exact True.intro))))
  exact ⟨by simp, _, _, rfl, rfl⟩
def g_rNum (args : List SV) (m : List Blk) : CR :=
  match args with
  | [.int .u64 k] => .own (0 ≤ k ∧ k ≤ 18446744073709551615) 5 1 (beB k.toNat).length (.ints .u8 (beB k.toNat)) (fun v => .agg [.bool false, v, .nilsl])
  | _ => .none
theorem g_rNum_ok (w0 : World) (B : List Nat) (args : List SV) (m : List Blk) : CROk Try.prog w0 B 16 args m (g_rNum args m) := by
  unfold g_rNum
  split
  · rename_i k
    intro ⟨h1, h2⟩ w hm
    obtain ⟨n, rfl⟩ := Int.eq_ofNat_of_zero_le h1
    rw [show ((n : Int)).toNat = n from rfl]
    exact .inr ⟨enter_run Try.func16 rfl rfl _ w, (rnum_vc n (by omega) w).mono fun e w' ⟨u, he, v', m', hu, hm', i, s, hv, hs⟩ => ⟨u, he, s, by rw [hu, hv]; rfl, hm'.grown, own_ok0 (hm'.each _ (bget_mem hs (by simp)))⟩⟩
  · exact trivial
theorem str_itr {w : World} {a : Option Addr} {n c : Nat} {bs : List Int} (hl : bs.length = n) (hn : n ≤ c) (ha : adr a n c) (hx : allB bs) (hm : n ≤ maxLen) (h : MemOk w [] [.ro a (.ints .u8 bs)] w) : ItR (H0 w) [.bool false, .gh a n c (.ints .u8 bs), .gh none 0 0 (.rows 3 [])] (.mk false bs []) :=
  .mk hl hn ha (lies_of_ro h) hx rfl (Nat.le_refl _) (.inr ⟨rfl, rfl, rfl⟩) (fun _ h => absurd h List.not_mem_nil) (.inl rfl) rfl (fun i r k h _ => by simp at h) hm (Nat.zero_le _)
/-- Same, of two strings. -/
def g_sameS (args : List SV) (m : List Blk) : CR :=
  match args with
  | [.agg [.bool false, s, .nilsl], .agg [.bool false, s', .nilsl]] => match srcC s m, srcC s' m with
    | some (q, k, .ints .u8 xs), some (q', k', .ints .u8 ys) => .pure (q ∧ q' ∧ allB xs ∧ allB ys ∧ k ≤ 1000000 ∧ k' ≤ 1000000) (.bool (decide (xs = ys)))
    | _, _ => .none
  | _ => .none
theorem g_sameS_ok (w0 : World) (B : List Nat) (args : List SV) (m : List Blk) : CROk Try.prog w0 B 14 args m (g_sameS args m) := by
  unfold g_sameS
  split
  · rename_i s s'
    split
    · rename_i q k xs q' k' ys hs hs'
      intro ⟨hq, hq', hx, hy, b1, b2⟩ w hm
      obtain ⟨l1, a1, c1, e1, g1, m1, d1⟩ := src_ro hs hq hm
      obtain ⟨l2, a2, c2, e2, g2, m2, d2⟩ := src_ro hs' hq' hm
      have hmx : 1000000 ≤ maxLen := by decide
      have i1 := str_itr (by simpa [cc, conEs] using l1) g1 d1 hx (by omega) m1
      have i2 := str_itr (by simpa [cc, conEs] using l2) g2 d2 hy (by omega) m2
      have e : cvs [.agg [.bool false, s, .nilsl], .agg [.bool false, s', .nilsl]] = cvs [.agg [.bool false, .gh a1 k c1 (.ints .u8 xs), .gh none 0 0 (.rows 3 [])], .agg [.bool false, .gh a2 k' c2 (.ints .u8 ys), .gh none 0 0 (.rows 3 [])]] := by
        simp only [cvs, cv]; rw [e1, e2, cv_sl0, cv_sl0]
      have hsm : sameI (.mk false xs []) (.mk false ys []) = decide (xs = ys) := by simp only [sameI, sameL, beq_self_eq_true, Bool.true_and, Bool.and_true]
      rw [e, ← hsm]
      exact calls_pure Try.func14 rfl rfl (same_vc _ (GSa_mk (g_sameD_ok (isz (.mk false xs [])))) _ _ _ _ w i1 i2 (Nat.le_refl _))
    · exact trivial
  · exact trivial
noncomputable def GZ6 : Ctr := fun f args m => match f with
  | 12 => g_EncA args m
  | 13 => g_renc args m
  | 15 => g_Num args m
  | 16 => g_rNum args m
  | 14 => g_sameS args m
  | 10 => g_xlKnown args m
  | 9 => g_much args m
  | 11 => g_sby args m
  | _ => .none
theorem GZ6_ok : GOk Try.prog GZ6 := by
  intro w0 B f args m; unfold GZ6; split
  · exact g_EncA_ok _ _ _ _
  · exact g_renc_ok _ _ _ _
  · exact g_Num_ok _ _ _ _
  · exact g_rNum_ok _ _ _ _
  · exact g_sameS_ok _ _ _ _
  · exact g_xlKnown_ok _ _ _ _
  · exact g_much_ok _ _ _ _
  · exact g_sby_ok _ _ _ _
  · exact trivial
theorem GZ6_EncA : GZ6 12 = g_EncA := by funext args m; rfl
theorem GZ6_renc : GZ6 13 = g_renc := by funext args m; rfl
theorem GZ6_Num : GZ6 15 = g_Num := by funext args m; rfl
theorem GZ6_rNum : GZ6 16 = g_rNum := by funext args m; rfl
theorem GZ6_sameS : GZ6 14 = g_sameS := by funext args m; rfl
theorem GZ6_xlKnown : GZ6 10 = g_xlKnown := by funext args m; rfl
theorem GZ6_much : GZ6 9 = g_much := by funext args m; rfl
theorem GZ6_sby : GZ6 11 = g_sby := by funext args m; rfl
def GZ6_set := And.intro (And.intro (And.intro (And.intro (@GZ6_EncA) (@g_EncA.eq_def)) (And.intro (@GZ6_renc) (@g_renc.eq_def))) (And.intro (And.intro (@GZ6_Num) (@g_Num.eq_def)) (And.intro (@GZ6_rNum) (@g_rNum.eq_def)))) (And.intro (And.intro (And.intro (@GZ6_sameS) (@g_sameS.eq_def)) (And.intro (@GZ6_xlKnown) (@g_xlKnown.eq_def))) (And.intro (And.intro (@GZ6_much) (@g_much.eq_def)) (And.intro (@GZ6_sby) (@g_sby.eq_def))))

set_option maxRecDepth 20000 in
theorem rlpEnc_law (l : List SV) (t : Itm) (n : Nat) (hn : n < 18446744073709551616) (w : World) (hI : ItR (H0 w) l t) :
    Calls Try.prog 3 (cvs [.agg l, .int .u64 (n : Int)]).toArray w (Yes w) := by
  obtain ⟨lb, a, m, c, bs, a', n', c', rs, rfl⟩ := it_shape hI
  have hti := tOf_eq hI
  have hall := enc_all hI
  have hP : ∀ M, allOld w ∈ M → ∃ t, ItR (HM M) [.bool lb, .gh a m c (.ints .u8 bs), .gh a' n' c' (.rows 3 rs)] t ∧ True ∧ True := fun M hin => ⟨t, hI.mono (H0.hm hin), trivial, trivial⟩
  by_cases hk : mu t 0 ≤ 1000
  · obtain ⟨b1, b2⟩ := mu_bounds t 0 hk
    have hQ : ∀ M, allOld w ∈ M → ∃ t, ItR (HM M) [.bool lb, .gh a m c (.ints .u8 bs), .gh a' n' c' (.rows 3 rs)] t ∧ cntI t ≤ 10000 ∧ isz t ≤ 100000 := fun M hin => ⟨t, hI.mono (H0.hm hin), by omega, by omega⟩
    have hR : ∀ M, allOld w ∈ M → ∃ t, ItR (HM M) [.bool lb, .gh a m c (.ints .u8 bs), .gh a' n' c' (.rows 3 rs)] t ∧ isz t ≤ 1000000 := fun M hin => ⟨t, hI.mono (H0.hm hin), by omega⟩
    have d1 : decide ((1000 : Int) < mu t 0) = false := decide_eq_false (by omega)
    have u1 : (enc t).take (enc t).length = enc t := List.take_length
    have d2 : decide (enc t = enc t) = true := decide_eq_true rfl
    have e1 : (leB n).reverse = beB n := rfl
    have e2 : (leB n).length = (beB n).length := by unfold beB; rw [List.length_reverse]
    have u2 : (beB n).take (beB n).length = beB n := List.take_length
    have d3 : decide (beB n = beB n) = true := decide_eq_true rfl
    have b3 := beB_len n
    have b4 := beB_all n
    refine Vc.calls T0_ok Try.func3 rfl rfl (args := [.agg [.bool lb, .gh a m c (.ints .u8 bs), .gh a' n' c' (.rows 3 rs)], .int .u64 (n : Int)]) (k := 21) rfl (old_start w) ?_; change Vc _ _ (c8 (.agg [.bool lb, .gh a m c (.ints .u8 bs), .gh a' n' c' (.rows 3 rs)]) (.int .u64 (n : Int)) .undef .undef .undef .undef .undef .undef (c8 .undef .undef .undef .undef .undef .undef .undef .undef ([.undef, .undef, .undef, .undef, .undef, .undef, .undef]))) _ _
    ((repeat (first | (with_reducible refine Vc.seq fun N hN => ?_) | (with_reducible refine Vc.block ?_) | ((first | with_reducible refine Vc.skip ?_ | with_reducible refine Vc.exit ?_); dsimp only [thenK, blockK, Nat.beq]; (first | (refine hN _ _ ?_; clear hN N) | skip)) | (with_reducible intro _) | ((with_reducible refine And.intro ?_ ?_); (focus (first | ((repeat' with_reducible apply And.intro) <;> first | exact sideQ | (exact hP _ List.mem_cons_self) | (exact hQ _ List.mem_cons_self) | (exact hR _ List.mem_cons_self)) | exact sd0))) | ((first | ((with_reducible refine askT_of ?_ (fun hb => ?_)); (focus (first | ((repeat' with_reducible apply And.intro) <;> first | exact sideQ | (exact hP _ List.mem_cons_self) | (exact hQ _ List.mem_cons_self) | (exact hR _ List.mem_cons_self)) | exact sd0)); (try simp only [hb])) | ((with_reducible refine Vc.fin ?_); dsimp only [thenK, blockK, retK, resS, resOne, resAll]) | ((with_reducible refine Vc.hold ?_); first | refine Vc.regiont T0_ok GZ6_ok ?_ | refine Vc.drawt (id := 3) T0_ok GZ6_ok (by kernel_rfl) [0, 1, 2, 4, 3, 5, 6, 7, 8, 9, 11, 10] 12 [] trivial (by kernel_rfl) ?_)); (try simp only [v8X, v8A, v8B, v8C, Nat.beq, Nat.ble, Int.reduceToNat, Int.reduceLE, Int.reduceLT, Nat.reduceLT, Nat.reduceLeDiff, Nat.reduceAdd, Nat.reduceMul, Nat.reduceSub, Int.reduceAdd, Int.reduceSub, Int.reduceMul, eq_self, decide_true, beq_self_eq_true, List.length_cons, List.length_nil, Nat.min_eq_left, IntKind.bits, tabs, GZ6_set, hti, d1]); (try simp (disch := omega) only [v8W])) | ((with_reducible refine hN _ _ ?_); clear hN N; (try simp (disch := omega) only [v8W])))); (try ((with_reducible refine Fin.of ?_); (try with_reducible exact True.intro))))
    (refine Vc.cond T0_ok (t := false) (by rfl) (fun h => Bool.noConfusion h) (fun _ => ?_))
    ((repeat (first | (with_reducible refine Vc.seq fun N hN => ?_) | (with_reducible refine Vc.block ?_) | ((first | with_reducible refine Vc.skip ?_ | with_reducible refine Vc.exit ?_); dsimp only [thenK, blockK, Nat.beq]; (first | (refine hN _ _ ?_; clear hN N) | skip)) | (with_reducible intro _) | ((with_reducible refine And.intro ?_ ?_); (focus (first | ((repeat' with_reducible apply And.intro) <;> first | exact sideQ | (exact hP _ List.mem_cons_self) | (exact hQ _ List.mem_cons_self) | (exact hR _ List.mem_cons_self)) | exact sd0))) | ((first | ((with_reducible refine askT_of ?_ (fun hb => ?_)); (focus (first | ((repeat' with_reducible apply And.intro) <;> first | exact sideQ | (exact hP _ List.mem_cons_self) | (exact hQ _ List.mem_cons_self) | (exact hR _ List.mem_cons_self)) | exact sd0)); (try simp only [hb])) | ((with_reducible refine Vc.fin ?_); dsimp only [thenK, blockK, retK, resS, resOne, resAll]) | ((with_reducible refine Vc.hold ?_); first | refine Vc.regiont T0_ok GZ6_ok ?_ | refine Vc.drawt (id := 3) T0_ok GZ6_ok (by kernel_rfl) [0, 1, 2, 4, 3, 5, 6, 7, 8, 9, 11, 10] 12 [] trivial (by kernel_rfl) ?_)); (try simp only [v8X, v8A, v8B, v8C, Nat.beq, Nat.ble, Int.reduceToNat, Int.reduceLE, Int.reduceLT, Nat.reduceLT, Nat.reduceLeDiff, Nat.reduceAdd, Nat.reduceMul, Nat.reduceSub, Int.reduceAdd, Int.reduceSub, Int.reduceMul, eq_self, decide_true, beq_self_eq_true, List.length_cons, List.length_nil, Nat.min_eq_left, IntKind.bits, tabs, GZ6_set, hti, d2, d3, e1, e2, u1, u2, tnc, List.drop_zero]); (try simp (disch := omega) only [v8W])) | ((with_reducible refine hN _ _ ?_); clear hN N; (try simp (disch := omega) only [v8W])))); (try ((with_reducible refine Fin.of ?_); (try with_reducible exact True.intro))))
    exact ⟨by simp, trivial⟩
  · have d1 : decide ((1000 : Int) < mu t 0) = true := decide_eq_true (by omega)
    refine Vc.calls T0_ok Try.func3 rfl rfl (args := [.agg [.bool lb, .gh a m c (.ints .u8 bs), .gh a' n' c' (.rows 3 rs)], .int .u64 (n : Int)]) (k := 21) rfl (old_start w) ?_; change Vc _ _ (c8 (.agg [.bool lb, .gh a m c (.ints .u8 bs), .gh a' n' c' (.rows 3 rs)]) (.int .u64 (n : Int)) .undef .undef .undef .undef .undef .undef (c8 .undef .undef .undef .undef .undef .undef .undef .undef ([.undef, .undef, .undef, .undef, .undef, .undef, .undef]))) _ _
    ((repeat (first | (with_reducible refine Vc.seq fun N hN => ?_) | (with_reducible refine Vc.block ?_) | ((first | with_reducible refine Vc.skip ?_ | with_reducible refine Vc.exit ?_); dsimp only [thenK, blockK, Nat.beq]; (first | (refine hN _ _ ?_; clear hN N) | skip)) | (with_reducible intro _) | ((with_reducible refine And.intro ?_ ?_); (focus (first | ((repeat' with_reducible apply And.intro) <;> first | exact sideQ | (exact hP _ List.mem_cons_self) | (exact hQ _ List.mem_cons_self) | (exact hR _ List.mem_cons_self)) | exact sd0))) | ((first | ((with_reducible refine askT_of ?_ (fun hb => ?_)); (focus (first | ((repeat' with_reducible apply And.intro) <;> first | exact sideQ | (exact hP _ List.mem_cons_self) | (exact hQ _ List.mem_cons_self) | (exact hR _ List.mem_cons_self)) | exact sd0)); (try simp only [hb])) | ((with_reducible refine Vc.fin ?_); dsimp only [thenK, blockK, retK, resS, resOne, resAll]) | ((with_reducible refine Vc.hold ?_); first | refine Vc.regiont T0_ok GZ6_ok ?_ | refine Vc.drawt (id := 3) T0_ok GZ6_ok (by kernel_rfl) [0, 1, 2, 4, 3, 5, 6, 7, 8, 9, 11, 10] 12 [] trivial (by kernel_rfl) ?_)); (try simp only [v8X, v8A, v8B, v8C, Nat.beq, Nat.ble, Int.reduceToNat, Int.reduceLE, Int.reduceLT, Nat.reduceLT, Nat.reduceLeDiff, Nat.reduceAdd, Nat.reduceMul, Nat.reduceSub, Int.reduceAdd, Int.reduceSub, Int.reduceMul, eq_self, decide_true, beq_self_eq_true, List.length_cons, List.length_nil, Nat.min_eq_left, IntKind.bits, tabs, GZ6_set, hti, d1]); (try simp (disch := omega) only [v8W])) | ((with_reducible refine hN _ _ ?_); clear hN N; (try simp (disch := omega) only [v8W])))); (try ((with_reducible refine Fin.of ?_); (try with_reducible exact True.intro))))
    (refine Vc.cond T0_ok (t := true) (by rfl) (fun _ => ?_) (fun h => Bool.noConfusion h))
    ((repeat (first | (with_reducible refine Vc.seq fun N hN => ?_) | (with_reducible refine Vc.block ?_) | ((first | with_reducible refine Vc.skip ?_ | with_reducible refine Vc.exit ?_); dsimp only [thenK, blockK, Nat.beq]; (first | (refine hN _ _ ?_; clear hN N) | skip)) | (with_reducible intro _) | ((with_reducible refine And.intro ?_ ?_); (focus (first | exact sideQ | exact sd0))) | ((first | ((with_reducible refine askT_of ?_ (fun hb => ?_)); (focus (first | exact sideQ | exact sd0)); (try simp only [hb])) | ((with_reducible refine Vc.fin ?_); dsimp only [thenK, blockK, retK, resS, resOne, resAll]) | ((with_reducible refine Vc.hold ?_); first | refine Vc.regiont T0_ok GZ6_ok ?_ | refine Vc.drawt (id := 3) T0_ok GZ6_ok (by kernel_rfl) [0, 1, 2, 4, 3, 5, 6, 7, 8, 9, 11, 10] 12 [] trivial (by kernel_rfl) ?_)); (try simp only [v8X, v8A, v8B, v8C, Nat.beq, Nat.ble, Int.reduceToNat, Int.reduceLE, Int.reduceLT, Nat.reduceLT, Nat.reduceLeDiff, Nat.reduceAdd, Nat.reduceMul, Nat.reduceSub, Int.reduceAdd, Int.reduceSub, Int.reduceMul, eq_self, decide_true, beq_self_eq_true, List.length_cons, List.length_nil, Nat.min_eq_left, IntKind.bits, tabs, GZ6_set]); (try simp (disch := omega) only [v8W])) | ((with_reducible refine hN _ _ ?_); clear hN N; (try simp (disch := omega) only [v8W])))); (try ((with_reducible refine Fin.of ?_); (try with_reducible exact True.intro))))
    exact ⟨by simp, trivial⟩
set_option maxRecDepth 100000 in
theorem rlpEncodes_lifted (os : Os) (started : os.Started) (H : Type) (enc : TypeId × Value → H) :
    ReturnsInHanded {} Try.checked os 3 .any (Rows.rlpEncodesSpec.pre6 enc Try.prog Try.f3 Rows.rlpEncodesRow.domain false) (Rows.rlpEncodesSpec.post enc Try.prog Try.f3 false true false false) := by
  refine returnsInHanded_of_change (C := Try.checked) Try.own started (by kernel_rfl) Try.func3
    (ChangeSpec.witness6 (enc := enc) (C := Try.checked) false ⟨#[], #[.agg #[.bool false, .slice none 0 0, .slice none 0 0], .int .u64 0], []⟩ 8 (by kernel_rfl) (by kernel_rfl) (by kernel_rfl) (by kernel_rfl)) ?_
  intro W0 base args ds gs before hval0 hW hcnd _
  have hval : ∀ (j : Nat) t v, Try.f3.params[j]? = some t → args[j]? = some v → Value.okWide Try.prog W0 .any base t v := hval0
  have hW' := hW
  obtain ⟨p, q, hA0, hV, rfl, hfz, hnd⟩ := hW
  have hA : DataW.TrodAll enc Try.prog W0 0 (fun _ => true) true Try.f3.params.toList args.toList ds p := hA0
  rw [Try.params3] at hA hval
  obtain ⟨v0, v1, d0, d1, p0, p1, rfl, rfl, rfl, h0, h1⟩ := trodAll_two hA
  obtain ⟨rfl, rfl⟩ := trodVars_none hV
  obtain ⟨l0, t0, rfl, i0⟩ := item_open (hval 0 _ v0 rfl rfl) h0
  obtain ⟨a1, rfl, rfl, rfl, w1, f1⟩ := nat_open 18446744073709551616 wf_u64 Try.underlying26 (hval 1 _ v1 rfl rfl) h1
  refine (calls_args (by simp only [cvs]; try rfl) (rlpEnc_law l0 t0 a1 w1 W0 i0)).mono fun e W' h => ?_
  obtain ⟨he, hw⟩ := Yes.out h
  subst he
  exact ⟨_, rfl, post_any hW' rfl hw (by kernel_rfl) rfl (fun _ _ _ => trodAll_mk1 (shut_bool Try.underlying4 true)) (fun _ => rfl) (ok_one (by kernel_rfl) rfl (okWide_bool_mk Try.underlying4 true))⟩
theorem RlpEncodes_holds : Rows.RlpEncodesSaid :=
  OpenClaim.holds_of_wide 3 Try.f3 rfl rfl rfl rfl rfl rfl rfl ⟨rfl, rfl, rfl, rfl, rfl⟩ rfl rfl rfl rfl rfl (by kernel_rfl) Try.func3 (by kernel_rfl)
    (of_decide_eq_true (by kernel_rfl)) (by unfold Func.isWrapper; first | (rw [if_pos (by decide +kernel)]; kernel_rfl) | (rw [if_neg (by decide +kernel)]; exact ⟨rfl, rfl⟩))
    (fun os started H enc _ => rlpEncodes_lifted os started H enc)
#print axioms RlpEncodes_holds
end Go.Proofs.Ytlogpdjcgbifhaa
