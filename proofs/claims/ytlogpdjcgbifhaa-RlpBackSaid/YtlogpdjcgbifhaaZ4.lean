/-
  RLP: appendItem's recursion closed; Encode of any item; the law of what is decoded and encoded again (RlpOne), walked. No condition.
-/
import Derived.Test.YtlogpdjcgbifhaaZ3
import Derived.Test.YtlogpdjcgbifhaaPT
import Derived.Test.YtlogpdjcgbifhaaFR
namespace Go.Proofs.Ytlogpdjcgbifhaa
set_option linter.unusedSimpArgs false
set_option linter.unusedVariables false
set_option maxHeartbeats 4000000
set_option linter.defProp false
open Go.RowKit
theorem apIt_all : ∀ (d : Nat) (t : Itm), isz t < d → ApIt t
  | 0, _, h => absurd h (Nat.not_lt_zero _)
  | d + 1, .mk true bs ks, h => apItL_vc d (fun t ht => apIt_all d t ht) bs ks (by omega)
  | d + 1, .mk false bs ks, h => by
    intro w B v ys l hI hbd hmx hm
    cases hI with
    | @mk _ a a' n c n' c' _ rs _ h1 h2 h3 h4 h5 h6 h7 h8 h9 h10 h11 h12 h13 h14 =>
      simp only [isz] at hmx
      exact apItO_vc a n c bs ys v _ ks h1 h2 h3 (by omega) (by omega) w B h4 hm
/-- appendItem, of any item, behind nothing. -/
noncomputable def g_apIA (args : List SV) (m : List Blk) : CR :=
  match args with
  | [.nilsl, .agg l] => .own (∃ t, ItR (HM m) l t ∧ cntI t ≤ 10000 ∧ isz t ≤ 100000) 5 1 (enc (tOf l)).length (.ints .u8 (enc (tOf l)).reverse) (fun v => v)
  | _ => .none
theorem g_apIA_ok (w0 : World) (B : List Nat) (args : List SV) (m : List Blk) : CROk Try.prog w0 B 21 args m (g_apIA args m) := by
  unfold g_apIA
  split
  · rename_i l
    intro ⟨t, hI, h1, h2⟩ w hm
    rw [tOf_eq hI]
    have hc : cntI t * cntI t ≤ 10000 * 10000 := Nat.mul_le_mul h1 h1
    have h := apIt_all (isz t + 1) t (Nat.lt_succ_self _) w [] (.slice none 0 0) [] l (hI.mono fun b o h => ⟨hm.hm h, List.not_mem_nil⟩) (by simp only [List.length_nil]; omega) h2 (nil_start w 5 1 .u8)
    refine own_new Try.func21 rfl rfl hm (h.mono fun e w' ⟨u, he, v1, m', hu, hm', s, hv, hs⟩ => ⟨u, he, v1, m', hu, hm', 0, s, ?_, ?_⟩)
    · rw [hv, List.nil_append, List.length_reverse]
    · rw [hs, List.nil_append, List.length_reverse]
  · exact trivial
noncomputable def GZ3 : Ctr := fun f args m => match f with
  | 24 => g_apNum args m
  | 31 => g_apHead args m
  | 36 => g_bare args m
  | 22 => g_Rev args m
  | 21 => g_apIA args m
  | _ => .none
theorem GZ3_ok : GOk Try.prog GZ3 := by
  intro w0 B f args m; unfold GZ3; split
  · exact g_apNum_ok _ _ _ _
  · exact g_apHead_ok _ _ _ _
  · exact g_bare_ok _ _ _ _
  · exact g_Rev_ok _ _ _ _
  · exact g_apIA_ok _ _ _ _
  · exact trivial
theorem GZ3_apNum : GZ3 24 = g_apNum := by funext args m; rfl
theorem GZ3_apHead : GZ3 31 = g_apHead := by funext args m; rfl
theorem GZ3_bare : GZ3 36 = g_bare := by funext args m; rfl
theorem GZ3_Rev : GZ3 22 = g_Rev := by funext args m; rfl
theorem GZ3_apIA : GZ3 21 = g_apIA := by funext args m; rfl
def GZ3_set := And.intro (And.intro (And.intro (@GZ3_apNum) (@g_apNum.eq_def)) (And.intro (@GZ3_apHead) (And.intro (@g_apHead.eq_def) (@GZ3_bare)))) (And.intro (And.intro (@g_bare.eq_def) (@GZ3_Rev)) (And.intro (@g_Rev.eq_def) (And.intro (@GZ3_apIA) (@g_apIA.eq_def))))

theorem it_shape {H : Nat → Obj → Prop} {l : List SV} {t : Itm} (h : ItR H l t) : ∃ lb a n c bs a' n' c' rs, l = [.bool lb, .gh a n c (.ints .u8 bs), .gh a' n' c' (.rows 3 rs)] := by
  cases h with
  | mk => exact ⟨_, _, _, _, _, _, _, _, _, rfl⟩
set_option maxRecDepth 20000 in
theorem encA_vc (l : List SV) (t : Itm) (w : World) (hI : ItR (H0 w) l t) (h1 : cntI t ≤ 10000) (h2 : isz t ≤ 100000) :
    Calls Try.prog 12 (cvs [.agg l]).toArray w (fun en w' => ∃ u, en = .returned u ∧ ∃ v' m', u = cv v' ∧ MemOk w [] m' w' ∧ ∃ i s, v' = .own i s (enc t).length ∧ bget m' i = .own s (enc t).length 5 1 (.ints .u8 (enc t))) := by
  obtain ⟨lb, a, n, c, bs, a', n', c', rs, rfl⟩ := it_shape hI
  have hP : ∀ m, allOld w ∈ m → ∃ t, ItR (HM m) [.bool lb, .gh a n c (.ints .u8 bs), .gh a' n' c' (.rows 3 rs)] t ∧ cntI t ≤ 10000 ∧ isz t ≤ 100000 := fun m hin => ⟨t, hI.mono (H0.hm hin), h1, h2⟩
  have hti := tOf_eq hI
  have hlen := enc_len t
  have hrr : (enc t).reverse.reverse = enc t := List.reverse_reverse _
  have hrl : (enc t).reverse.length = (enc t).length := List.length_reverse
  refine Vc.calls T0_ok Try.func12 rfl rfl (args := [.agg [.bool lb, .gh a n c (.ints .u8 bs), .gh a' n' c' (.rows 3 rs)]]) (k := 8) rfl (old_start w) ?_; change Vc _ _ (c8 (.agg [.bool lb, .gh a n c (.ints .u8 bs), .gh a' n' c' (.rows 3 rs)]) .undef .undef .undef .undef .undef .undef .undef ([.undef])) _ _
  ((repeat (first | (with_reducible refine Vc.seq fun N hN => ?_) | (with_reducible refine Vc.block ?_) | ((first | with_reducible refine Vc.skip ?_ | with_reducible refine Vc.exit ?_); dsimp only [thenK, blockK, Nat.beq]; (first | (refine hN _ _ ?_; clear hN N) | skip)) | (with_reducible intro _) | ((with_reducible refine And.intro ?_ ?_); (focus (first | ((repeat' with_reducible apply And.intro) <;> first | exact sideQ | (exact hP _ List.mem_cons_self)) | exact sd0))) | ((first | ((with_reducible refine askT_of ?_ (fun hb => ?_)); (focus (first | ((repeat' with_reducible apply And.intro) <;> first | exact sideQ | (exact hP _ List.mem_cons_self)) | exact sd0)); (try simp only [hb])) | ((with_reducible refine Vc.fin ?_); dsimp only [thenK, blockK, retK, resS, resOne, resAll]) | ((with_reducible refine Vc.hold ?_); first | refine Vc.regiont T0_ok GZ3_ok ?_)); (try simp only [v8X, v8A, v8B, v8C, Nat.beq, Nat.ble, Int.reduceToNat, Int.reduceLE, Int.reduceLT, Nat.reduceLT, Nat.reduceLeDiff, Nat.reduceAdd, Nat.reduceMul, Nat.reduceSub, Int.reduceAdd, Int.reduceSub, Int.reduceMul, eq_self, decide_true, beq_self_eq_true, List.length_cons, List.length_nil, Nat.min_eq_left, IntKind.bits, tabs, GZ3_set, hti, hrr, hrl, tnc]); (try simp (disch := omega) only [v8W])) | ((with_reducible refine hN _ _ ?_); clear hN N; (try simp (disch := omega) only [v8W])))); (try ((with_reducible refine Fin.of ?_); (try with_reducible exact True.intro))))
  exact ⟨by simp, _, _, rfl, rfl⟩
/-- Encode, of any item. -/
noncomputable def g_EncA (args : List SV) (m : List Blk) : CR :=
  match args with
  | [.agg l] => .own (∃ t, ItR (HM m) l t ∧ cntI t ≤ 10000 ∧ isz t ≤ 100000) 5 1 (enc (tOf l)).length (.ints .u8 (enc (tOf l))) (fun v => v)
  | _ => .none
theorem g_EncA_ok (w0 : World) (B : List Nat) (args : List SV) (m : List Blk) : CROk Try.prog w0 B 12 args m (g_EncA args m) := by
  unfold g_EncA
  split
  · rename_i l
    intro ⟨t, hI, h1, h2⟩ w hm
    rw [tOf_eq hI]
    exact own_new Try.func12 rfl rfl hm (encA_vc l t w (it_old hm hI) h1 h2)
  · exact trivial
noncomputable def GZ4 : Ctr := fun f args m => match f with
  | 12 => g_EncA args m
  | 18 => g_Dec args m
  | 15 => g_Num args m
  | 14 => g_same args m
  | 10 => g_xlKnown args m
  | 17 => g_lent args m
  | 11 => g_sby args m
  | _ => .none
theorem GZ4_ok : GOk Try.prog GZ4 := by
  intro w0 B f args m; unfold GZ4; split
  · exact g_EncA_ok _ _ _ _
  · exact g_Dec_ok _ _ _ _
  · exact g_Num_ok _ _ _ _
  · exact g_same_ok _ _ _ _
  · exact g_xlKnown_ok _ _ _ _
  · exact g_lent_ok _ _ _ _
  · exact g_sby_ok _ _ _ _
  · exact trivial
theorem GZ4_EncA : GZ4 12 = g_EncA := by funext args m; rfl
theorem GZ4_Dec : GZ4 18 = g_Dec := by funext args m; rfl
theorem GZ4_Num : GZ4 15 = g_Num := by funext args m; rfl
theorem GZ4_same : GZ4 14 = g_same := by funext args m; rfl
theorem GZ4_xlKnown : GZ4 10 = g_xlKnown := by funext args m; rfl
theorem GZ4_lent : GZ4 17 = g_lent := by funext args m; rfl
theorem GZ4_sby : GZ4 11 = g_sby := by funext args m; rfl
def GZ4_set := And.intro (And.intro (And.intro (@GZ4_EncA) (And.intro (@g_EncA.eq_def) (@GZ4_Dec))) (And.intro (And.intro (@g_Dec.eq_def) (@GZ4_Num)) (And.intro (@g_Num.eq_def) (@GZ4_same)))) (And.intro (And.intro (@g_same.eq_def) (And.intro (@GZ4_xlKnown) (@g_xlKnown.eq_def))) (And.intro (And.intro (@GZ4_lent) (@g_lent.eq_def)) (And.intro (@GZ4_sby) (@g_sby.eq_def))))

/-! ### Items that were decoded are small -/
theorem okI_isz : ∀ (d : Nat) (t : Itm), okI d t → isz t ≤ 2 * (enc t).length
  | 0, _, h => h.elim
  | d + 1, .mk true bs ks, h => by
    obtain ⟨rfl, hk⟩ := h
    have key : ∀ ks : List Itm, (∀ k ∈ ks, okI d k) → iszL ks ≤ 2 * (encL ks).length := by
      intro ks
      induction ks with
      | nil => intro _; simp [iszL]
      | cons k ks ih =>
        intro hk
        have h1 := okI_isz d k (hk k List.mem_cons_self)
        have h2 := ih (fun x hx => hk x (List.mem_cons_of_mem _ hx))
        simp only [iszL, encL, List.length_append]; omega
    have h1 := key ks hk
    have h2 := hdB_pos 192 (encL ks).length
    rw [enc_list, List.length_append]
    simp only [isz, List.length_nil]; omega
  | d + 1, .mk false bs ks, h => by
    have h' : ks = [] := h
    subst h'
    cases hb : bareB bs with
    | true =>
      rw [enc_bare [] hb]
      unfold bareB at hb
      rw [Bool.and_eq_true, decide_eq_true_eq] at hb
      simp only [isz, iszL]; omega
    | false =>
      have h2 := hdB_pos 128 bs.length
      rw [enc_text [] hb, List.length_append]
      simp only [isz, iszL]; omega
mutual
theorem cnt_isz : ∀ t : Itm, cntI t ≤ isz t
  | .mk l bs ks => by have := cntL_isz ks; simp only [cntI, isz]; omega
theorem cntL_isz : ∀ ks : List Itm, cntL ks ≤ iszL ks
  | [] => Nat.le_refl _
  | k :: ks => by have h1 := cnt_isz k; have h2 := cntL_isz ks; simp only [cntL, iszL]; omega
end
/-! ### How much there is bounds how many nodes there are -/
mutual
theorem mu_ge : ∀ (t : Itm) (w : Int), w ≤ mu t w
  | .mk _ bs ks, w => by have := muL_ge ks (w + (1 + (bs.length : Int) / 16)); simp only [mu]; omega
theorem muL_ge : ∀ (ks : List Itm) (w : Int), w ≤ muL ks w
  | [], w => by simp only [muL]; omega
  | k :: ks, w => by
    have h1 := mu_ge k w
    have h2 := muL_ge ks (mu k w)
    simp only [muL]; split <;> omega
end
mutual
theorem mu_bounds : ∀ (t : Itm) (w : Int), mu t w ≤ 1000 → (isz t : Int) ≤ 16 * (mu t w - w) ∧ (cntI t : Int) ≤ mu t w - w
  | .mk _ bs ks, w, h => by
    simp only [mu] at h ⊢
    obtain ⟨h1, h2⟩ := muL_bounds ks _ h
    simp only [isz, cntI]; omega
theorem muL_bounds : ∀ (ks : List Itm) (w : Int), muL ks w ≤ 1000 → (iszL ks : Int) ≤ 16 * (muL ks w - w) ∧ (cntL ks : Int) ≤ muL ks w - w
  | [], w, _ => by simp only [muL, iszL, cntL]; omega
  | k :: ks, w, h => by
    simp only [muL] at h ⊢
    by_cases hw : w ≤ 1000
    · rw [if_pos hw] at h ⊢
      have h3 := muL_ge ks (mu k w)
      obtain ⟨h1, h2⟩ := muL_bounds ks _ h
      obtain ⟨h4, h5⟩ := mu_bounds k w (by omega)
      simp only [iszL, cntL]; omega
    · rw [if_neg hw] at h; exact absurd h hw
end
set_option maxRecDepth 20000 in
theorem rlpOne_law (xs : List Int) (a : Option Addr) (n cp : Nat) (hl : xs.length = n) (hc : n ≤ cp) (ha : adr a n cp) (hx : allB xs) (w : World) (hm : MemOk w [] [.ro a (.ints .u8 xs)] w) :
    Calls Try.prog 6 (cvs [.sl 0 a 0 0 1 n cp]).toArray w (Yes w) := by
  have t1 : (xs.drop 0).take n = xs := by rw [List.drop_zero, List.take_of_length_le (by omega)]
  have t2 : xs.take n = xs := List.take_of_length_le (by omega)
  by_cases hk : n ≤ 1000
  · have d1 : decide ((1000 : Int) < (n : Int)) = false := decide_eq_false (by omega)
    have d2 : decide (xs = xs) = true := decide_eq_true rfl
    cases hd : deco xs with
    | none =>
      refine Vc.calls T0_ok Try.func6 rfl rfl (args := [.sl 0 a 0 0 1 n cp]) (k := 42) rfl hm ?_; change Vc _ _ (c8 (.sl 0 a 0 0 1 n cp) .undef .undef .undef .undef .undef .undef .undef (c8 .undef .undef .undef .undef .undef .undef .undef .undef (c8 .undef .undef .undef .undef .undef .undef .undef .undef (c8 .undef .undef .undef .undef .undef .undef .undef .undef (c8 .undef .undef .undef .undef .undef .undef .undef .undef ([.undef, .undef, .undef])))))) _ _
      ((repeat (first | (with_reducible refine Vc.seq fun N hN => ?_) | (with_reducible refine Vc.block ?_) | ((first | with_reducible refine Vc.skip ?_ | with_reducible refine Vc.exit ?_); dsimp only [thenK, blockK, Nat.beq]; (first | (refine hN _ _ ?_; clear hN N) | skip)) | (with_reducible intro _) | ((with_reducible refine And.intro ?_ ?_); (focus (first | exact sideQ | exact sd0))) | ((first | ((with_reducible refine askT_of ?_ (fun hb => ?_)); (focus (first | exact sideQ | exact sd0)); (try simp only [hb])) | ((with_reducible refine Vc.fin ?_); dsimp only [thenK, blockK, retK, resS, resOne, resAll]) | ((with_reducible refine Vc.hold ?_); first | refine Vc.regiont T0_ok GZ4_ok ?_)); (try simp only [v8X, v8A, v8B, v8C, Nat.beq, Nat.ble, Int.reduceToNat, Int.reduceLE, Int.reduceLT, Nat.reduceLT, Nat.reduceLeDiff, Nat.reduceAdd, Nat.reduceMul, Nat.reduceSub, Int.reduceAdd, Int.reduceSub, Int.reduceMul, eq_self, decide_true, beq_self_eq_true, List.length_cons, List.length_nil, Nat.min_eq_left, IntKind.bits, tabs, GZ4_set, d1]); (try simp (disch := omega) only [v8W])) | ((with_reducible refine hN _ _ ?_); clear hN N; (try simp (disch := omega) only [v8W])))); (try ((with_reducible refine Fin.of ?_); (try with_reducible exact True.intro))))
      (refine Vc.cond T0_ok (t := false) (by rfl) (fun h => Bool.noConfusion h) (fun _ => ?_))
      ((repeat (first | (with_reducible refine Vc.seq fun N hN => ?_) | (with_reducible refine Vc.block ?_) | ((first | with_reducible refine Vc.skip ?_ | with_reducible refine Vc.exit ?_); dsimp only [thenK, blockK, Nat.beq]; (first | (refine hN _ _ ?_; clear hN N) | skip)) | (with_reducible intro _) | ((with_reducible refine And.intro ?_ ?_); (focus (first | exact sideQ | exact sd0))) | ((first | ((with_reducible refine askT_of ?_ (fun hb => ?_)); (focus (first | exact sideQ | exact sd0)); (try simp only [hb])) | ((with_reducible refine Vc.fin ?_); dsimp only [thenK, blockK, retK, resS, resOne, resAll]) | ((with_reducible refine Vc.hold ?_); first | refine Vc.regiont T0_ok GZ4_ok ?_)); (try simp only [v8X, v8A, v8B, v8C, Nat.beq, Nat.ble, Int.reduceToNat, Int.reduceLE, Int.reduceLT, Nat.reduceLT, Nat.reduceLeDiff, Nat.reduceAdd, Nat.reduceMul, Nat.reduceSub, Int.reduceAdd, Int.reduceSub, Int.reduceMul, eq_self, decide_true, beq_self_eq_true, List.length_cons, List.length_nil, Nat.min_eq_left, IntKind.bits, tabs, GZ4_set, t1, t2, List.drop_zero, hd]); (try simp (disch := omega) only [v8W])) | ((with_reducible refine hN _ _ ?_); clear hN N; (try simp (disch := omega) only [v8W])))); (try ((with_reducible refine Fin.of ?_); (try with_reducible exact True.intro))))
      (refine Vc.cond T0_ok (t := true) (by rfl) (fun _ => ?_) (fun h => Bool.noConfusion h))
      ((repeat (first | (with_reducible refine Vc.seq fun N hN => ?_) | (with_reducible refine Vc.block ?_) | ((first | with_reducible refine Vc.skip ?_ | with_reducible refine Vc.exit ?_); dsimp only [thenK, blockK, Nat.beq]; (first | (refine hN _ _ ?_; clear hN N) | skip)) | (with_reducible intro _) | ((with_reducible refine And.intro ?_ ?_); (focus (first | exact sideQ | exact sd0))) | ((first | ((with_reducible refine askT_of ?_ (fun hb => ?_)); (focus (first | exact sideQ | exact sd0)); (try simp only [hb])) | ((with_reducible refine Vc.fin ?_); dsimp only [thenK, blockK, retK, resS, resOne, resAll]) | ((with_reducible refine Vc.hold ?_); first | refine Vc.regiont T0_ok GZ4_ok ?_)); (try simp only [v8X, v8A, v8B, v8C, Nat.beq, Nat.ble, Int.reduceToNat, Int.reduceLE, Int.reduceLT, Nat.reduceLT, Nat.reduceLeDiff, Nat.reduceAdd, Nat.reduceMul, Nat.reduceSub, Int.reduceAdd, Int.reduceSub, Int.reduceMul, eq_self, decide_true, beq_self_eq_true, List.length_cons, List.length_nil, Nat.min_eq_left, IntKind.bits, tabs, GZ4_set, t1, t2, List.drop_zero]); (try simp (disch := omega) only [v8W])) | ((with_reducible refine hN _ _ ?_); clear hN N; (try simp (disch := omega) only [v8W])))); (try ((with_reducible refine Fin.of ?_); (try with_reducible exact True.intro))))
      exact ⟨by simp, trivial⟩
    | some t =>
      obtain ⟨i1, i2⟩ := deco_inv hx hd
      have i3 := okI_isz 64 t i2
      have i4 := cnt_isz t
      rw [← i1] at i3
      refine Vc.calls T0_ok Try.func6 rfl rfl (args := [.sl 0 a 0 0 1 n cp]) (k := 42) rfl hm ?_; change Vc _ _ (c8 (.sl 0 a 0 0 1 n cp) .undef .undef .undef .undef .undef .undef .undef (c8 .undef .undef .undef .undef .undef .undef .undef .undef (c8 .undef .undef .undef .undef .undef .undef .undef .undef (c8 .undef .undef .undef .undef .undef .undef .undef .undef (c8 .undef .undef .undef .undef .undef .undef .undef .undef ([.undef, .undef, .undef])))))) _ _
      ((repeat (first | (with_reducible refine Vc.seq fun N hN => ?_) | (with_reducible refine Vc.block ?_) | ((first | with_reducible refine Vc.skip ?_ | with_reducible refine Vc.exit ?_); dsimp only [thenK, blockK, Nat.beq]; (first | (refine hN _ _ ?_; clear hN N) | skip)) | (with_reducible intro _) | ((with_reducible refine And.intro ?_ ?_); (focus (first | exact sideQ | exact sd0))) | ((first | ((with_reducible refine askT_of ?_ (fun hb => ?_)); (focus (first | exact sideQ | exact sd0)); (try simp only [hb])) | ((with_reducible refine Vc.fin ?_); dsimp only [thenK, blockK, retK, resS, resOne, resAll]) | ((with_reducible refine Vc.hold ?_); first | refine Vc.regiont T0_ok GZ4_ok ?_)); (try simp only [v8X, v8A, v8B, v8C, Nat.beq, Nat.ble, Int.reduceToNat, Int.reduceLE, Int.reduceLT, Nat.reduceLT, Nat.reduceLeDiff, Nat.reduceAdd, Nat.reduceMul, Nat.reduceSub, Int.reduceAdd, Int.reduceSub, Int.reduceMul, eq_self, decide_true, beq_self_eq_true, List.length_cons, List.length_nil, Nat.min_eq_left, IntKind.bits, tabs, GZ4_set, d1]); (try simp (disch := omega) only [v8W])) | ((with_reducible refine hN _ _ ?_); clear hN N; (try simp (disch := omega) only [v8W])))); (try ((with_reducible refine Fin.of ?_); (try with_reducible exact True.intro))))
      (refine Vc.cond T0_ok (t := false) (by rfl) (fun h => Bool.noConfusion h) (fun _ => ?_))
      (with_reducible refine Vc.skip ?_)
      dsimp only [thenK, blockK, Nat.beq]
      refine hN _ _ ?_
      clear hN N
      ((with_reducible refine Vc.seq fun N hN => ?_); (refine Vc.regiont T0_ok GZ4_ok ?_); simp only [v8X, v8A, v8B, v8C, Nat.beq, Nat.ble, Int.reduceToNat, Int.reduceLE, Int.reduceLT, Nat.reduceLT, Nat.reduceLeDiff, Nat.reduceAdd, Nat.reduceMul, Nat.reduceSub, Int.reduceAdd, Int.reduceSub, Int.reduceMul, eq_self, decide_true, beq_self_eq_true, List.length_cons, List.length_nil, Nat.min_eq_left, IntKind.bits, tabs, GZ4_set, t1, t2, List.drop_zero, hd]; (try simp (disch := omega) only [v8W]); (repeat (first | with_reducible intro _ | ((with_reducible refine And.intro ?_ ?_); (focus (first | exact sideQ | exact sd0))) | ((with_reducible refine askT_of ?_ (fun hb => ?_)); (focus (first | exact sideQ | exact sd0)); simp only [hb, v8X, v8A, v8B, v8C, Nat.beq, Nat.ble, Int.reduceToNat, Int.reduceLE, Int.reduceLT, Nat.reduceLT, Nat.reduceLeDiff, Nat.reduceAdd, Nat.reduceMul, Nat.reduceSub, Int.reduceAdd, Int.reduceSub, Int.reduceMul, eq_self, decide_true, beq_self_eq_true, List.length_cons, List.length_nil, Nat.min_eq_left, IntKind.bits, tabs, GZ4_set, t1, t2, List.drop_zero, hd]; (try simp (disch := omega) only [v8W])))); (first | (refine hN _ _ ?_; clear hN N; (try simp (disch := omega) only [v8W])) | skip))
      rename_i x hq b1
      obtain ⟨lb, ba, bn, bc, bs, ka, kn, kc, rs, hp⟩ := x
      simp only at hq ⊢
      have hti := tOf_eq hq
      have hen : (enc t).take (enc t).length = enc t := List.take_length
      have hel : (enc t).length = n := by rw [← i1]; exact hl
      have hP : ∀ m, Blk.heap hp ∈ m → ∃ t, ItR (HM m) [.bool lb, .gh ba bn bc (.ints .u8 bs), .gh ka kn kc (.rows 3 rs)] t ∧ cntI t ≤ 10000 ∧ isz t ≤ 100000 := fun m h1 => ⟨t, hq.mono fun b o h => ⟨_, h1, h⟩, by omega, by omega⟩
      ((repeat (first | (with_reducible refine Vc.seq fun N hN => ?_) | (with_reducible refine Vc.block ?_) | ((first | with_reducible refine Vc.skip ?_ | with_reducible refine Vc.exit ?_); dsimp only [thenK, blockK, Nat.beq]; (first | (refine hN _ _ ?_; clear hN N) | skip)) | (with_reducible intro _) | ((with_reducible refine And.intro ?_ ?_); (focus (first | exact sideQ | exact sd0))) | ((first | ((with_reducible refine askT_of ?_ (fun hb => ?_)); (focus (first | exact sideQ | exact sd0)); (try simp only [hb])) | ((with_reducible refine Vc.fin ?_); dsimp only [thenK, blockK, retK, resS, resOne, resAll]) | ((with_reducible refine Vc.hold ?_); first | refine Vc.regiont T0_ok GZ4_ok ?_)); (try simp only [v8X, v8A, v8B, v8C, Nat.beq, Nat.ble, Int.reduceToNat, Int.reduceLE, Int.reduceLT, Nat.reduceLT, Nat.reduceLeDiff, Nat.reduceAdd, Nat.reduceMul, Nat.reduceSub, Int.reduceAdd, Int.reduceSub, Int.reduceMul, eq_self, decide_true, beq_self_eq_true, List.length_cons, List.length_nil, Nat.min_eq_left, IntKind.bits, tabs, GZ4_set, t1, t2, List.drop_zero]); (try simp (disch := omega) only [v8W])) | ((with_reducible refine hN _ _ ?_); clear hN N; (try simp (disch := omega) only [v8W])))); (try ((with_reducible refine Fin.of ?_); (try with_reducible exact True.intro))))
      (refine Vc.cond T0_ok (t := false) (by rfl) (fun h => Bool.noConfusion h) (fun _ => ?_))
      ((repeat (first | (with_reducible refine Vc.seq fun N hN => ?_) | (with_reducible refine Vc.block ?_) | ((first | with_reducible refine Vc.skip ?_ | with_reducible refine Vc.exit ?_); dsimp only [thenK, blockK, Nat.beq]; (first | (refine hN _ _ ?_; clear hN N) | skip)) | (with_reducible intro _) | ((with_reducible refine And.intro ?_ ?_); (focus (first | ((repeat' with_reducible apply And.intro) <;> first | exact sideQ | (exact hP _ (by simp))) | exact sd0))) | ((first | ((with_reducible refine askT_of ?_ (fun hb => ?_)); (focus (first | ((repeat' with_reducible apply And.intro) <;> first | exact sideQ | (exact hP _ (by simp))) | exact sd0)); (try simp only [hb])) | ((with_reducible refine Vc.fin ?_); dsimp only [thenK, blockK, retK, resS, resOne, resAll]) | ((with_reducible refine Vc.hold ?_); first | refine Vc.regiont T0_ok GZ4_ok ?_)); (try simp only [v8X, v8A, v8B, v8C, Nat.beq, Nat.ble, Int.reduceToNat, Int.reduceLE, Int.reduceLT, Nat.reduceLT, Nat.reduceLeDiff, Nat.reduceAdd, Nat.reduceMul, Nat.reduceSub, Int.reduceAdd, Int.reduceSub, Int.reduceMul, eq_self, decide_true, beq_self_eq_true, List.length_cons, List.length_nil, Nat.min_eq_left, IntKind.bits, tabs, GZ4_set, hti, ← i1, t1, t2, d2, hl, List.drop_zero]); (try simp (disch := omega) only [v8W])) | ((with_reducible refine hN _ _ ?_); clear hN N; (try simp (disch := omega) only [v8W])))); (try ((with_reducible refine Fin.of ?_); (try with_reducible exact True.intro))))
      exact ⟨by simp, trivial⟩
  · have d1 : decide ((1000 : Int) < (n : Int)) = true := decide_eq_true (by omega)
    refine Vc.calls T0_ok Try.func6 rfl rfl (args := [.sl 0 a 0 0 1 n cp]) (k := 42) rfl hm ?_; change Vc _ _ (c8 (.sl 0 a 0 0 1 n cp) .undef .undef .undef .undef .undef .undef .undef (c8 .undef .undef .undef .undef .undef .undef .undef .undef (c8 .undef .undef .undef .undef .undef .undef .undef .undef (c8 .undef .undef .undef .undef .undef .undef .undef .undef (c8 .undef .undef .undef .undef .undef .undef .undef .undef ([.undef, .undef, .undef])))))) _ _
    ((repeat (first | (with_reducible refine Vc.seq fun N hN => ?_) | (with_reducible refine Vc.block ?_) | ((first | with_reducible refine Vc.skip ?_ | with_reducible refine Vc.exit ?_); dsimp only [thenK, blockK, Nat.beq]; (first | (refine hN _ _ ?_; clear hN N) | skip)) | (with_reducible intro _) | ((with_reducible refine And.intro ?_ ?_); (focus (first | exact sideQ | exact sd0))) | ((first | ((with_reducible refine askT_of ?_ (fun hb => ?_)); (focus (first | exact sideQ | exact sd0)); (try simp only [hb])) | ((with_reducible refine Vc.fin ?_); dsimp only [thenK, blockK, retK, resS, resOne, resAll]) | ((with_reducible refine Vc.hold ?_); first | refine Vc.regiont T0_ok GZ4_ok ?_)); (try simp only [v8X, v8A, v8B, v8C, Nat.beq, Nat.ble, Int.reduceToNat, Int.reduceLE, Int.reduceLT, Nat.reduceLT, Nat.reduceLeDiff, Nat.reduceAdd, Nat.reduceMul, Nat.reduceSub, Int.reduceAdd, Int.reduceSub, Int.reduceMul, eq_self, decide_true, beq_self_eq_true, List.length_cons, List.length_nil, Nat.min_eq_left, IntKind.bits, tabs, GZ4_set, d1]); (try simp (disch := omega) only [v8W])) | ((with_reducible refine hN _ _ ?_); clear hN N; (try simp (disch := omega) only [v8W])))); (try ((with_reducible refine Fin.of ?_); (try with_reducible exact True.intro))))
    (refine Vc.cond T0_ok (t := true) (by rfl) (fun _ => ?_) (fun h => Bool.noConfusion h))
    ((repeat (first | (with_reducible refine Vc.seq fun N hN => ?_) | (with_reducible refine Vc.block ?_) | ((first | with_reducible refine Vc.skip ?_ | with_reducible refine Vc.exit ?_); dsimp only [thenK, blockK, Nat.beq]; (first | (refine hN _ _ ?_; clear hN N) | skip)) | (with_reducible intro _) | ((with_reducible refine And.intro ?_ ?_); (focus (first | exact sideQ | exact sd0))) | ((first | ((with_reducible refine askT_of ?_ (fun hb => ?_)); (focus (first | exact sideQ | exact sd0)); (try simp only [hb])) | ((with_reducible refine Vc.fin ?_); dsimp only [thenK, blockK, retK, resS, resOne, resAll]) | ((with_reducible refine Vc.hold ?_); first | refine Vc.regiont T0_ok GZ4_ok ?_)); (try simp only [v8X, v8A, v8B, v8C, Nat.beq, Nat.ble, Int.reduceToNat, Int.reduceLE, Int.reduceLT, Nat.reduceLT, Nat.reduceLeDiff, Nat.reduceAdd, Nat.reduceMul, Nat.reduceSub, Int.reduceAdd, Int.reduceSub, Int.reduceMul, eq_self, decide_true, beq_self_eq_true, List.length_cons, List.length_nil, Nat.min_eq_left, IntKind.bits, tabs, GZ4_set]); (try simp (disch := omega) only [v8W])) | ((with_reducible refine hN _ _ ?_); clear hN N; (try simp (disch := omega) only [v8W])))); (try ((with_reducible refine Fin.of ?_); (try with_reducible exact True.intro))))
    exact ⟨by simp, trivial⟩
end Go.Proofs.Ytlogpdjcgbifhaa
