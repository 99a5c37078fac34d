/-
  RLP: the document's bytes of an item (quaestorref04.Encode), walked. No condition.
-/
import Derived.Test.YtlogpdjcgbifhaaP8
namespace Go.Proofs.Ytlogpdjcgbifhaa
set_option linter.unusedSimpArgs false
set_option linter.unusedVariables false
set_option maxHeartbeats 4000000
set_option linter.defProp false
open Go.RowKit
mutual
/-- An item's bytes. -/
def enc : Itm → List Int
  | .mk l bs ks => match l with
    | true => hdB 192 (encL ks).length ++ encL ks
    | false => if bareB bs then bs else hdB 128 bs.length ++ bs
def encL : List Itm → List Int
  | [] => []
  | k :: ks => enc k ++ encL ks
end
mutual
theorem enc_len : ∀ t, (enc t).length ≤ 10 * isz t
  | .mk l bs ks => by
    have h1 := encL_len ks
    have h2 := hdB_len 192 (encL ks).length
    have h3 := hdB_len 128 bs.length
    simp only [enc, isz]
    cases l with
    | true => simp only [List.length_append]; omega
    | false => simp only; split <;> (try simp only [List.length_append]) <;> omega
theorem encL_len : ∀ ks, (encL ks).length ≤ 10 * iszL ks
  | [] => by simp only [encL, List.length_nil, iszL]; omega
  | k :: ks => by have := enc_len k; have := encL_len ks; simp only [encL, List.length_append, iszL]; omega
end
theorem encL_app : ∀ (x y : List Itm), encL (x ++ y) = encL x ++ encL y
  | [], y => by simp only [List.nil_append, encL]
  | k :: x, y => by simp only [List.cons_append, encL, encL_app x y, List.append_assoc]
theorem encL_go {ks : List Itm} {i : Nat} {k : Itm} (h : ks[i]? = some k) : encL (ks.drop i) = enc k ++ encL (ks.drop (i + 1)) := by
  obtain ⟨hi, rfl⟩ := List.getElem?_eq_some_iff.1 h
  rw [List.drop_eq_getElem_cons hi]
  simp only [encL]
theorem encL_le {ks : List Itm} (i : Nat) : iszL (ks.drop i) ≤ iszL ks := by
  induction ks generalizing i with
  | nil => simp
  | cons k ks ih =>
    cases i with
    | zero => simp
    | succ i => simp only [List.drop_succ_cons, iszL]; have := ih i; omega
theorem enc_list (bs : List Int) (ks : List Itm) : enc (.mk true bs ks) = hdB 192 (encL ks).length ++ encL ks := by simp only [enc]
theorem enc_bare {bs : List Int} (ks : List Itm) (h : bareB bs = true) : enc (.mk false bs ks) = bs := by simp only [enc]; rw [if_pos h]
theorem enc_text {bs : List Int} (ks : List Itm) (h : bareB bs = false) : enc (.mk false bs ks) = hdB 128 bs.length ++ bs := by simp only [enc]; rw [if_neg (by rw [h]; simp)]
theorem allB_app {xs ys : List Int} (h1 : allB xs) (h2 : allB ys) : allB (xs ++ ys) := fun y hy => (List.mem_append.1 hy).elim (h1 y) (h2 y)
theorem enc_all {H : Nat → Obj → Prop} {l : List SV} {t : Itm} (h : ItR H l t) : allB (enc t) := by
  induction h with
  | @mk l a a' n c n' c' bs rs ks h1 h2 h3 h4 h5 h6 h7 h8 h9 h10 h11 h12 h13 h14 ih =>
    have key : ∀ (j i : Nat), j = ks.length - i → allB (encL (ks.drop i)) := by
      intro j
      induction j with
      | zero => intro i hj; rw [List.drop_of_length_le (by omega)]; simp only [encL]; exact fun x hx => absurd hx List.not_mem_nil
      | succ j ihj =>
        intro i hj
        have hi : i < ks.length := by omega
        rw [encL_go (List.getElem?_eq_getElem hi)]
        exact allB_app (ih i _ _ (List.getElem?_eq_getElem (show i < rs.length by omega)) (List.getElem?_eq_getElem hi)) (ihj (i + 1) (by omega))
    have hk := key ks.length 0 rfl
    rw [List.drop_zero] at hk
    cases l with
    | true => rw [enc_list]; exact allB_app (hdB_all (by decide) _) hk
    | false =>
      cases hb : bareB bs with
      | true => rw [enc_bare ks hb]; exact h5
      | false => rw [enc_text ks hb]; exact allB_app (hdB_all (by decide) _) h5
noncomputable def g_rencD (d : Nat) (args : List SV) (m : List Blk) : CR :=
  match args with
  | [.agg l] => .own (∃ t, ItR (HM m) l t ∧ isz t < d ∧ isz t ≤ 1000000) 5 1 (enc (tOf l)).length (.ints .u8 (enc (tOf l))) (fun v => v)
  | _ => .none
noncomputable def GRe (d : Nat) : Ctr := fun f args m => match f with
  | 13 => g_rencD d args m
  | 25 => g_big args m
  | 23 => g_head args m
  | _ => .none
theorem GRe_mk {d : Nat} (h_rencD : ∀ w0 B args m, CROk Try.prog w0 B 13 args m (g_rencD d args m)) : GOk Try.prog (GRe d) := by
  intro w0 B f args m; unfold GRe; split
  · exact h_rencD _ _ _ _
  · exact g_big_ok _ _ _ _
  · exact g_head_ok _ _ _ _
  · exact trivial
theorem GRe_rencD {d : Nat} : GRe d 13 = g_rencD d := by funext args m; rfl
theorem GRe_big {d : Nat} : GRe d 25 = g_big := by funext args m; rfl
theorem GRe_head {d : Nat} : GRe d 23 = g_head := by funext args m; rfl
def GRe_set := And.intro (And.intro (@GRe_rencD) (And.intro (@g_rencD.eq_def) (@GRe_big))) (And.intro (@g_big.eq_def) (And.intro (@GRe_head) (@g_head.eq_def)))

set_option maxRecDepth 20000 in
theorem renc_vc (d : Nat) (GRe_ok : GOk Try.prog (GRe d)) (t : Itm) (l : List SV) (w : World) (hI : ItR (H0 w) l t) (hd : isz t ≤ d) (hb : isz t ≤ 1000000) :
    Calls Try.prog 13 (cvs [.agg l]).toArray w (fun en w' => ∃ u, en = .returned u ∧ ∃ v m', u = cv v ∧ MemOk w [] m' w' ∧ ∃ k s, v = .own k s (enc t).length ∧ bget m' k = .own s (enc t).length 5 1 (.ints .u8 (enc t))) := by
  cases hI with
  | @mk l a a' n c n' c' bs rs ks h1 h2 h3 h4 h5 h6 h7 h8 h9 h10 h11 h12 h13 h14 =>
    have hisz : 1 + bs.length + iszL ks ≤ 1000000 := by simpa only [isz] using hb
    have hel := encL_len ks
    have hn : (n : Int) ≤ 9223372036854775807 := by unfold maxLen at h13; omega
    have hn' : (n' : Int) ≤ 9223372036854775807 := by unfold maxLen at h14; omega
    have u1 : bs.take n = bs := List.take_of_length_le (by omega)
    have hB : ∀ m, allOld w ∈ m → LiesH (HM m) a (cc (.ints .u8 bs)) := fun m hin => h4.mono (H0.hm hin)
    have hL : ∀ m, allOld w ∈ m → LiesH (HM m) a' (cc (.rows 3 rs)) := fun m hin => h10.mono (H0.hm hin)
    cases l with
    | false =>
      cases hbb : bareB bs with
      | true =>
        have he := enc_bare ks hbb
        unfold bareB at hbb
        simp only [Bool.and_eq_true, decide_eq_true_eq] at hbb
        have d1 : decide ((n : Int) = 1) = true := decide_eq_true (by omega)
        have d2 : decide (bs.getD 0 0 < 128) = true := decide_eq_true hbb.2
        have hbs : bs = [bs.getD 0 0] := by
          match bs, hbb.1 with
          | [x], _ => rfl
        refine Vc.calls T0_ok Try.func13 rfl rfl (args := [.agg [.bool false, .gh a n c (.ints .u8 bs), .gh a' n' c' (.rows 3 rs)]]) (k := 54) rfl (old_start w) ?_; change Vc _ _ (c8 (.agg [.bool false, .gh a n c (.ints .u8 bs), .gh a' n' c' (.rows 3 rs)]) .undef .undef .undef .undef .undef .undef .undef (c8 .undef .undef .undef .undef .undef .undef .undef .undef (c8 .undef .undef .undef .undef .undef .undef .undef .undef (c8 .undef .undef .undef .undef .undef .undef .undef .undef (c8 .undef .undef .undef .undef .undef .undef .undef .undef (c8 .undef .undef .undef .undef .undef .undef .undef .undef ([.undef, .undef, .undef, .undef, .undef, .undef, .undef]))))))) _ _
        ((repeat (first | (with_reducible refine Vc.seq fun N hN => ?_) | (with_reducible refine Vc.block ?_) | ((first | with_reducible refine Vc.skip ?_ | with_reducible refine Vc.exit ?_); dsimp only [thenK, blockK, Nat.beq]; (first | (refine hN _ _ ?_; clear hN N) | skip)) | (with_reducible intro _) | ((with_reducible refine And.intro ?_ ?_); (focus (first | exact sideQ | exact sd0))) | ((first | ((with_reducible refine askT_of ?_ (fun hb => ?_)); (focus (first | exact sideQ | exact sd0)); (try simp only [hb])) | ((with_reducible refine Vc.fin ?_); dsimp only [thenK, blockK, retK, resS, resOne, resAll]) | ((with_reducible refine Vc.hold ?_); first | refine Vc.regiont T0_ok GRe_ok ?_)); (try simp only [v8X, v8A, v8B, v8C, Nat.beq, Nat.ble, Int.reduceToNat, Int.reduceLE, Int.reduceLT, Nat.reduceLT, Nat.reduceLeDiff, Nat.reduceAdd, Nat.reduceMul, Nat.reduceSub, Int.reduceAdd, Int.reduceSub, Int.reduceMul, eq_self, decide_true, beq_self_eq_true, List.length_cons, List.length_nil, Nat.min_eq_left, IntKind.bits, tabs, GRe_set]); (try simp (disch := omega) only [v8W])) | ((with_reducible refine hN _ _ ?_); clear hN N; (try simp (disch := omega) only [v8W])))); (try ((with_reducible refine Fin.of ?_); (try with_reducible exact True.intro))))
        (refine Vc.cond T0_ok (t := true) (by rfl) (fun _ => ?_) (fun h => Bool.noConfusion h))
        ((repeat (first | (with_reducible refine Vc.seq fun N hN => ?_) | (with_reducible refine Vc.block ?_) | ((first | with_reducible refine Vc.skip ?_ | with_reducible refine Vc.exit ?_); dsimp only [thenK, blockK, Nat.beq]; (first | (refine hN _ _ ?_; clear hN N) | skip)) | (with_reducible intro _) | ((with_reducible refine And.intro ?_ ?_); (focus (first | ((repeat' with_reducible apply And.intro) <;> first | exact sideQ | (exact hB _ List.mem_cons_self)) | exact sd0))) | ((first | ((with_reducible refine askT_of ?_ (fun hb => ?_)); (focus (first | ((repeat' with_reducible apply And.intro) <;> first | exact sideQ | (exact hB _ List.mem_cons_self)) | exact sd0)); (try simp only [hb])) | ((with_reducible refine Vc.fin ?_); dsimp only [thenK, blockK, retK, resS, resOne, resAll]) | ((with_reducible refine Vc.hold ?_); first | refine Vc.regiont T0_ok GRe_ok ?_)); (try simp only [v8X, v8A, v8B, v8C, Nat.beq, Nat.ble, Int.reduceToNat, Int.reduceLE, Int.reduceLT, Nat.reduceLT, Nat.reduceLeDiff, Nat.reduceAdd, Nat.reduceMul, Nat.reduceSub, Int.reduceAdd, Int.reduceSub, Int.reduceMul, eq_self, decide_true, beq_self_eq_true, List.length_cons, List.length_nil, Nat.min_eq_left, IntKind.bits, tabs, GRe_set, d1, d2, conEs.eq_def, conN.eq_def]); (try simp (disch := omega) only [v8W])) | ((with_reducible refine hN _ _ ?_); clear hN N; (try simp (disch := omega) only [v8W])))); (try ((with_reducible refine Fin.of ?_); (try with_reducible exact True.intro))))
        (refine Vc.cond T0_ok (t := true) (by rfl) (fun _ => ?_) (fun h => Bool.noConfusion h))
        refine Vc.seq fun N2 hN2 => ?_
        refine Vc.regionOwn2 T0_ok GRe_ok (pre := [_, _, _, _]) rfl ?_
        (simp only [v8X, v8A, v8B, v8C, Nat.beq, Nat.ble, Int.reduceToNat, Int.reduceLE, Int.reduceLT, Nat.reduceLT, Nat.reduceLeDiff, Nat.reduceAdd, Nat.reduceMul, Nat.reduceSub, Int.reduceAdd, Int.reduceSub, Int.reduceMul, eq_self, decide_true, beq_self_eq_true, List.length_cons, List.length_nil, Nat.min_eq_left, IntKind.bits, tabs, conEs.eq_def, conN.eq_def])
        refine ⟨trivial, ⟨⟨trivial, trivial⟩, trivial⟩, ⟨trivial, by omega, h2, h3⟩, ⟨hB _ List.mem_cons_self, by omega⟩, _, _, _, rfl, rfl, by decide, fun vc => ⟨trivial, hN2 _ _ ?_⟩⟩
        clear hN2 N2
        ((repeat (first | (with_reducible refine Vc.seq fun N hN => ?_) | (with_reducible refine Vc.block ?_) | ((first | with_reducible refine Vc.skip ?_ | with_reducible refine Vc.exit ?_); dsimp only [thenK, blockK, Nat.beq]; (first | (refine hN _ _ ?_; clear hN N) | skip)) | (with_reducible intro _) | ((with_reducible refine And.intro ?_ ?_); (focus (first | exact sideQ | exact sd0))) | ((first | ((with_reducible refine askT_of ?_ (fun hb => ?_)); (focus (first | exact sideQ | exact sd0)); (try simp only [hb])) | ((with_reducible refine Vc.fin ?_); dsimp only [thenK, blockK, retK, resS, resOne, resAll]) | ((with_reducible refine Vc.hold ?_); first | refine Vc.regiont T0_ok GRe_ok ?_)); (try simp only [v8X, v8A, v8B, v8C, Nat.beq, Nat.ble, Int.reduceToNat, Int.reduceLE, Int.reduceLT, Nat.reduceLT, Nat.reduceLeDiff, Nat.reduceAdd, Nat.reduceMul, Nat.reduceSub, Int.reduceAdd, Int.reduceSub, Int.reduceMul, eq_self, decide_true, beq_self_eq_true, List.length_cons, List.length_nil, Nat.min_eq_left, IntKind.bits, tabs, GRe_set]); (try simp (disch := omega) only [v8W])) | ((with_reducible refine hN _ _ ?_); clear hN N; (try simp (disch := omega) only [v8W])))); (try ((with_reducible refine Fin.of ?_); (try with_reducible exact True.intro))))
        have hbe : enc (.mk false bs ks) = [bs.getD 0 0] := he.trans hbs
        exact ⟨trivial, _, _, by rw [hbe]; rfl, by rw [hbe]; rfl⟩
      | false =>
        have he := enc_text ks hbb
        have hor : (decide ((n : Int) = 1) = false) ∨ (decide ((n : Int) = 1) = true ∧ decide (bs.getD 0 0 < 128) = false) := by
          unfold bareB at hbb
          rw [Bool.and_eq_false_iff, decide_eq_false_iff_not, decide_eq_false_iff_not] at hbb
          by_cases h0 : n = 1
          · exact .inr ⟨decide_eq_true (by omega), decide_eq_false (hbb.resolve_left (by omega))⟩
          · exact .inl (decide_eq_false (by omega))
        have hl2 : (enc (.mk false bs ks)).length = (hdB 128 n).length + n := by rw [he, List.length_append, h1]
        have h9b := hdB_len 128 n
        rcases hor with d1 | ⟨d1, d2⟩
        · refine Vc.calls T0_ok Try.func13 rfl rfl (args := [.agg [.bool false, .gh a n c (.ints .u8 bs), .gh a' n' c' (.rows 3 rs)]]) (k := 54) rfl (old_start w) ?_; change Vc _ _ (c8 (.agg [.bool false, .gh a n c (.ints .u8 bs), .gh a' n' c' (.rows 3 rs)]) .undef .undef .undef .undef .undef .undef .undef (c8 .undef .undef .undef .undef .undef .undef .undef .undef (c8 .undef .undef .undef .undef .undef .undef .undef .undef (c8 .undef .undef .undef .undef .undef .undef .undef .undef (c8 .undef .undef .undef .undef .undef .undef .undef .undef (c8 .undef .undef .undef .undef .undef .undef .undef .undef ([.undef, .undef, .undef, .undef, .undef, .undef, .undef]))))))) _ _
          ((repeat (first | (with_reducible refine Vc.seq fun N hN => ?_) | (with_reducible refine Vc.block ?_) | ((first | with_reducible refine Vc.skip ?_ | with_reducible refine Vc.exit ?_); dsimp only [thenK, blockK, Nat.beq]; (first | (refine hN _ _ ?_; clear hN N) | skip)) | (with_reducible intro _) | ((with_reducible refine And.intro ?_ ?_); (focus (first | exact sideQ | exact sd0))) | ((first | ((with_reducible refine askT_of ?_ (fun hb => ?_)); (focus (first | exact sideQ | exact sd0)); (try simp only [hb])) | ((with_reducible refine Vc.fin ?_); dsimp only [thenK, blockK, retK, resS, resOne, resAll]) | ((with_reducible refine Vc.hold ?_); first | refine Vc.regiont T0_ok GRe_ok ?_)); (try simp only [v8X, v8A, v8B, v8C, Nat.beq, Nat.ble, Int.reduceToNat, Int.reduceLE, Int.reduceLT, Nat.reduceLT, Nat.reduceLeDiff, Nat.reduceAdd, Nat.reduceMul, Nat.reduceSub, Int.reduceAdd, Int.reduceSub, Int.reduceMul, eq_self, decide_true, beq_self_eq_true, List.length_cons, List.length_nil, Nat.min_eq_left, IntKind.bits, tabs, GRe_set]); (try simp (disch := omega) only [v8W])) | ((with_reducible refine hN _ _ ?_); clear hN N; (try simp (disch := omega) only [v8W])))); (try ((with_reducible refine Fin.of ?_); (try with_reducible exact True.intro))))
          (refine Vc.cond T0_ok (t := true) (by rfl) (fun _ => ?_) (fun h => Bool.noConfusion h))
          ((repeat (first | (with_reducible refine Vc.seq fun N hN => ?_) | (with_reducible refine Vc.block ?_) | ((first | with_reducible refine Vc.skip ?_ | with_reducible refine Vc.exit ?_); dsimp only [thenK, blockK, Nat.beq]; (first | (refine hN _ _ ?_; clear hN N) | skip)) | (with_reducible intro _) | ((with_reducible refine And.intro ?_ ?_); (focus (first | ((repeat' with_reducible apply And.intro) <;> first | exact sideQ | (exact hB _ List.mem_cons_self)) | exact sd0))) | ((first | ((with_reducible refine askT_of ?_ (fun hb => ?_)); (focus (first | ((repeat' with_reducible apply And.intro) <;> first | exact sideQ | (exact hB _ List.mem_cons_self)) | exact sd0)); (try simp only [hb])) | ((with_reducible refine Vc.fin ?_); dsimp only [thenK, blockK, retK, resS, resOne, resAll]) | ((with_reducible refine Vc.hold ?_); first | refine Vc.regiont T0_ok GRe_ok ?_)); (try simp only [v8X, v8A, v8B, v8C, Nat.beq, Nat.ble, Int.reduceToNat, Int.reduceLE, Int.reduceLT, Nat.reduceLT, Nat.reduceLeDiff, Nat.reduceAdd, Nat.reduceMul, Nat.reduceSub, Int.reduceAdd, Int.reduceSub, Int.reduceMul, eq_self, decide_true, beq_self_eq_true, List.length_cons, List.length_nil, Nat.min_eq_left, IntKind.bits, tabs, GRe_set, d1, conEs.eq_def, conN.eq_def]); (try simp (disch := omega) only [v8W])) | ((with_reducible refine hN _ _ ?_); clear hN N; (try simp (disch := omega) only [v8W])))); (try ((with_reducible refine Fin.of ?_); (try with_reducible exact True.intro))))
          (refine Vc.cond T0_ok (t := false) (by rfl) (fun h => Bool.noConfusion h) (fun _ => ?_))
          ((repeat (first | (with_reducible refine Vc.seq fun N hN => ?_) | (with_reducible refine Vc.block ?_) | ((first | with_reducible refine Vc.skip ?_ | with_reducible refine Vc.exit ?_); dsimp only [thenK, blockK, Nat.beq]; (first | (refine hN _ _ ?_; clear hN N) | skip)) | (with_reducible intro _) | ((with_reducible refine And.intro ?_ ?_); (focus (first | ((repeat' with_reducible apply And.intro) <;> first | exact sideQ | (exact hB _ List.mem_cons_self)) | exact sd0))) | ((first | ((with_reducible refine askT_of ?_ (fun hb => ?_)); (focus (first | ((repeat' with_reducible apply And.intro) <;> first | exact sideQ | (exact hB _ List.mem_cons_self)) | exact sd0)); (try simp only [hb])) | ((with_reducible refine Vc.fin ?_); dsimp only [thenK, blockK, retK, resS, resOne, resAll]) | ((with_reducible refine Vc.hold ?_); first | refine Vc.regiont T0_ok GRe_ok ?_)); (try simp only [v8X, v8A, v8B, v8C, Nat.beq, Nat.ble, Int.reduceToNat, Int.reduceLE, Int.reduceLT, Nat.reduceLT, Nat.reduceLeDiff, Nat.reduceAdd, Nat.reduceMul, Nat.reduceSub, Int.reduceAdd, Int.reduceSub, Int.reduceMul, eq_self, decide_true, beq_self_eq_true, List.length_cons, List.length_nil, Nat.min_eq_left, IntKind.bits, tabs, GRe_set, u1, tnc, List.drop_zero, conEs.eq_def, conN.eq_def]); (try simp (disch := omega) only [v8W])) | ((with_reducible refine hN _ _ ?_); clear hN N; (try simp (disch := omega) only [v8W])))); (try ((with_reducible refine Fin.of ?_); (try with_reducible exact True.intro))))
          exact ⟨trivial, _, _, by rw [hl2], by rw [hl2, he, h1]; rfl⟩
        · have hn1 : 0 < n := by have := of_decide_eq_true d1; omega
          refine Vc.calls T0_ok Try.func13 rfl rfl (args := [.agg [.bool false, .gh a n c (.ints .u8 bs), .gh a' n' c' (.rows 3 rs)]]) (k := 54) rfl (old_start w) ?_; change Vc _ _ (c8 (.agg [.bool false, .gh a n c (.ints .u8 bs), .gh a' n' c' (.rows 3 rs)]) .undef .undef .undef .undef .undef .undef .undef (c8 .undef .undef .undef .undef .undef .undef .undef .undef (c8 .undef .undef .undef .undef .undef .undef .undef .undef (c8 .undef .undef .undef .undef .undef .undef .undef .undef (c8 .undef .undef .undef .undef .undef .undef .undef .undef (c8 .undef .undef .undef .undef .undef .undef .undef .undef ([.undef, .undef, .undef, .undef, .undef, .undef, .undef]))))))) _ _
          ((repeat (first | (with_reducible refine Vc.seq fun N hN => ?_) | (with_reducible refine Vc.block ?_) | ((first | with_reducible refine Vc.skip ?_ | with_reducible refine Vc.exit ?_); dsimp only [thenK, blockK, Nat.beq]; (first | (refine hN _ _ ?_; clear hN N) | skip)) | (with_reducible intro _) | ((with_reducible refine And.intro ?_ ?_); (focus (first | exact sideQ | exact sd0))) | ((first | ((with_reducible refine askT_of ?_ (fun hb => ?_)); (focus (first | exact sideQ | exact sd0)); (try simp only [hb])) | ((with_reducible refine Vc.fin ?_); dsimp only [thenK, blockK, retK, resS, resOne, resAll]) | ((with_reducible refine Vc.hold ?_); first | refine Vc.regiont T0_ok GRe_ok ?_)); (try simp only [v8X, v8A, v8B, v8C, Nat.beq, Nat.ble, Int.reduceToNat, Int.reduceLE, Int.reduceLT, Nat.reduceLT, Nat.reduceLeDiff, Nat.reduceAdd, Nat.reduceMul, Nat.reduceSub, Int.reduceAdd, Int.reduceSub, Int.reduceMul, eq_self, decide_true, beq_self_eq_true, List.length_cons, List.length_nil, Nat.min_eq_left, IntKind.bits, tabs, GRe_set]); (try simp (disch := omega) only [v8W])) | ((with_reducible refine hN _ _ ?_); clear hN N; (try simp (disch := omega) only [v8W])))); (try ((with_reducible refine Fin.of ?_); (try with_reducible exact True.intro))))
          (refine Vc.cond T0_ok (t := true) (by rfl) (fun _ => ?_) (fun h => Bool.noConfusion h))
          ((repeat (first | (with_reducible refine Vc.seq fun N hN => ?_) | (with_reducible refine Vc.block ?_) | ((first | with_reducible refine Vc.skip ?_ | with_reducible refine Vc.exit ?_); dsimp only [thenK, blockK, Nat.beq]; (first | (refine hN _ _ ?_; clear hN N) | skip)) | (with_reducible intro _) | ((with_reducible refine And.intro ?_ ?_); (focus (first | ((repeat' with_reducible apply And.intro) <;> first | exact sideQ | (exact hB _ List.mem_cons_self)) | exact sd0))) | ((first | ((with_reducible refine askT_of ?_ (fun hb => ?_)); (focus (first | ((repeat' with_reducible apply And.intro) <;> first | exact sideQ | (exact hB _ List.mem_cons_self)) | exact sd0)); (try simp only [hb])) | ((with_reducible refine Vc.fin ?_); dsimp only [thenK, blockK, retK, resS, resOne, resAll]) | ((with_reducible refine Vc.hold ?_); first | refine Vc.regiont T0_ok GRe_ok ?_)); (try simp only [v8X, v8A, v8B, v8C, Nat.beq, Nat.ble, Int.reduceToNat, Int.reduceLE, Int.reduceLT, Nat.reduceLT, Nat.reduceLeDiff, Nat.reduceAdd, Nat.reduceMul, Nat.reduceSub, Int.reduceAdd, Int.reduceSub, Int.reduceMul, eq_self, decide_true, beq_self_eq_true, List.length_cons, List.length_nil, Nat.min_eq_left, IntKind.bits, tabs, GRe_set, d1, d2, conEs.eq_def, conN.eq_def]); (try simp (disch := omega) only [v8W])) | ((with_reducible refine hN _ _ ?_); clear hN N; (try simp (disch := omega) only [v8W])))); (try ((with_reducible refine Fin.of ?_); (try with_reducible exact True.intro))))
          (refine Vc.cond T0_ok (t := false) (by rfl) (fun h => Bool.noConfusion h) (fun _ => ?_))
          ((repeat (first | (with_reducible refine Vc.seq fun N hN => ?_) | (with_reducible refine Vc.block ?_) | ((first | with_reducible refine Vc.skip ?_ | with_reducible refine Vc.exit ?_); dsimp only [thenK, blockK, Nat.beq]; (first | (refine hN _ _ ?_; clear hN N) | skip)) | (with_reducible intro _) | ((with_reducible refine And.intro ?_ ?_); (focus (first | ((repeat' with_reducible apply And.intro) <;> first | exact sideQ | (exact hB _ List.mem_cons_self)) | exact sd0))) | ((first | ((with_reducible refine askT_of ?_ (fun hb => ?_)); (focus (first | ((repeat' with_reducible apply And.intro) <;> first | exact sideQ | (exact hB _ List.mem_cons_self)) | exact sd0)); (try simp only [hb])) | ((with_reducible refine Vc.fin ?_); dsimp only [thenK, blockK, retK, resS, resOne, resAll]) | ((with_reducible refine Vc.hold ?_); first | refine Vc.regiont T0_ok GRe_ok ?_)); (try simp only [v8X, v8A, v8B, v8C, Nat.beq, Nat.ble, Int.reduceToNat, Int.reduceLE, Int.reduceLT, Nat.reduceLT, Nat.reduceLeDiff, Nat.reduceAdd, Nat.reduceMul, Nat.reduceSub, Int.reduceAdd, Int.reduceSub, Int.reduceMul, eq_self, decide_true, beq_self_eq_true, List.length_cons, List.length_nil, Nat.min_eq_left, IntKind.bits, tabs, GRe_set, u1, tnc, List.drop_zero, conEs.eq_def, conN.eq_def]); (try simp (disch := omega) only [v8W])) | ((with_reducible refine hN _ _ ?_); clear hN N; (try simp (disch := omega) only [v8W])))); (try ((with_reducible refine Fin.of ?_); (try with_reducible exact True.intro))))
          exact ⟨trivial, _, _, by rw [hl2], by rw [hl2, he, h1]; rfl⟩
    | true =>
      have he := enc_list bs ks
      refine Vc.calls T0_ok Try.func13 rfl rfl (args := [.agg [.bool true, .gh a n c (.ints .u8 bs), .gh a' n' c' (.rows 3 rs)]]) (k := 54) rfl (old_start w) ?_; change Vc _ _ (c8 (.agg [.bool true, .gh a n c (.ints .u8 bs), .gh a' n' c' (.rows 3 rs)]) .undef .undef .undef .undef .undef .undef .undef (c8 .undef .undef .undef .undef .undef .undef .undef .undef (c8 .undef .undef .undef .undef .undef .undef .undef .undef (c8 .undef .undef .undef .undef .undef .undef .undef .undef (c8 .undef .undef .undef .undef .undef .undef .undef .undef (c8 .undef .undef .undef .undef .undef .undef .undef .undef ([.undef, .undef, .undef, .undef, .undef, .undef, .undef]))))))) _ _
      ((repeat (first | (with_reducible refine Vc.seq fun N hN => ?_) | (with_reducible refine Vc.block ?_) | ((first | with_reducible refine Vc.skip ?_ | with_reducible refine Vc.exit ?_); dsimp only [thenK, blockK, Nat.beq]; (first | (refine hN _ _ ?_; clear hN N) | skip)) | (with_reducible intro _) | ((with_reducible refine And.intro ?_ ?_); (focus (first | exact sideQ | exact sd0))) | ((first | ((with_reducible refine askT_of ?_ (fun hb => ?_)); (focus (first | exact sideQ | exact sd0)); (try simp only [hb])) | ((with_reducible refine Vc.fin ?_); dsimp only [thenK, blockK, retK, resS, resOne, resAll]) | ((with_reducible refine Vc.hold ?_); first | refine Vc.regiont T0_ok GRe_ok ?_)); (try simp only [v8X, v8A, v8B, v8C, Nat.beq, Nat.ble, Int.reduceToNat, Int.reduceLE, Int.reduceLT, Nat.reduceLT, Nat.reduceLeDiff, Nat.reduceAdd, Nat.reduceMul, Nat.reduceSub, Int.reduceAdd, Int.reduceSub, Int.reduceMul, eq_self, decide_true, beq_self_eq_true, List.length_cons, List.length_nil, Nat.min_eq_left, IntKind.bits, tabs, GRe_set]); (try simp (disch := omega) only [v8W])) | ((with_reducible refine hN _ _ ?_); clear hN N; (try simp (disch := omega) only [v8W])))); (try ((with_reducible refine Fin.of ?_); (try with_reducible exact True.intro))))
      (refine Vc.cond T0_ok (t := false) (by rfl) (fun h => Bool.noConfusion h) (fun _ => ?_))
      ((repeat (first | (with_reducible refine Vc.seq fun N hN => ?_) | (with_reducible refine Vc.block ?_) | ((first | with_reducible refine Vc.skip ?_ | with_reducible refine Vc.exit ?_); dsimp only [thenK, blockK, Nat.beq]; (first | (refine hN _ _ ?_; clear hN N) | skip)) | (with_reducible intro _) | ((with_reducible refine And.intro ?_ ?_); (focus (first | exact sideQ | exact sd0))) | ((first | ((with_reducible refine askT_of ?_ (fun hb => ?_)); (focus (first | exact sideQ | exact sd0)); (try simp only [hb])) | ((with_reducible refine Vc.fin ?_); dsimp only [thenK, blockK, retK, resS, resOne, resAll]) | ((with_reducible refine Vc.hold ?_); first | refine Vc.regiont T0_ok GRe_ok ?_)); (try simp only [v8X, v8A, v8B, v8C, Nat.beq, Nat.ble, Int.reduceToNat, Int.reduceLE, Int.reduceLT, Nat.reduceLT, Nat.reduceLeDiff, Nat.reduceAdd, Nat.reduceMul, Nat.reduceSub, Int.reduceAdd, Int.reduceSub, Int.reduceMul, eq_self, decide_true, beq_self_eq_true, List.length_cons, List.length_nil, Nat.min_eq_left, IntKind.bits, tabs, GRe_set]); (try simp (disch := omega) only [v8W])) | ((with_reducible refine hN _ _ ?_); clear hN N; (try simp (disch := omega) only [v8W])))); (try ((with_reducible refine Fin.of ?_); (try with_reducible exact True.intro))))
      rename_i b1 _
      (revert N; intro N1 hN1)
      refine Vc.nilown 4 5 1 .u8 rfl ?_
      (simp only [v8X, v8A, v8B, v8C, Nat.beq, Nat.ble, Int.reduceToNat, Int.reduceLE, Int.reduceLT, Nat.reduceLT, Nat.reduceLeDiff, Nat.reduceAdd, Nat.reduceMul, Nat.reduceSub, Int.reduceAdd, Int.reduceSub, Int.reduceMul, eq_self, decide_true, beq_self_eq_true, List.length_cons, List.length_nil, Nat.min_eq_left, IntKind.bits, tabs])
      refine Vc.loop 1 55 (fun (x : Nat × List Int × Value) => [(1, .ptr 1 b1 0 0 0 0), (2, .nilsl), (4, .own 2 x.2.2 x.2.1.length), (5, .int .i64 (x.1 : Nat))]) (fun x => [allOld w, .blk b1 25 (.cells [.bool true, .gh a n c (.ints .u8 bs), .gh a' n' c' (.rows 3 rs)]), .own x.2.2 x.2.1.length 5 1 (.ints .u8 x.2.1)]) (fun x => x.1 ≤ n' ∧ encL ks = x.2.1 ++ encL (ks.drop x.1)) (fun x => n' - x.1) (0, [], .slice none 0 0) ⟨⟨Nat.zero_le _, rfl⟩, ?_, ?_⟩ (fun x junk hx2 => ?_)
      · ((try simp only [v8X, v8A, v8B, v8C, Nat.beq, Nat.ble, Int.reduceToNat, Int.reduceLE, Int.reduceLT, Nat.reduceLT, Nat.reduceLeDiff, Nat.reduceAdd, Nat.reduceMul, Nat.reduceSub, Int.reduceAdd, Int.reduceSub, Int.reduceMul, eq_self, decide_true, beq_self_eq_true, List.length_cons, List.length_nil, Nat.min_eq_left, IntKind.bits, tabs]); (repeat' with_reducible apply And.intro) <;> first | with_reducible exact True.intro | rfl | with_reducible rfl | (congr 1 <;> omega) | trivial)
      · ((try simp only [v8X, v8A, v8B, v8C, Nat.beq, Nat.ble, Int.reduceToNat, Int.reduceLE, Int.reduceLT, Nat.reduceLT, Nat.reduceLeDiff, Nat.reduceAdd, Nat.reduceMul, Nat.reduceSub, Int.reduceAdd, Int.reduceSub, Int.reduceMul, eq_self, decide_true, beq_self_eq_true, List.length_cons, List.length_nil, Nat.min_eq_left, IntKind.bits, tabs]); (repeat' with_reducible apply And.intro) <;> first | with_reducible exact True.intro | rfl | with_reducible rfl | (congr 1 <;> omega) | trivial)
      · obtain ⟨k, o, v⟩ := x
        simp only at hx2 ⊢
        obtain ⟨hk1, hm2⟩ := hx2
        have hol : o.length ≤ 10000000 := by have := congrArg List.length hm2; rw [List.length_append] at this; omega
        (simp only [v8X, v8A, v8B, v8C, Nat.beq, Nat.ble, Int.reduceToNat, Int.reduceLE, Int.reduceLT, Nat.reduceLT, Nat.reduceLeDiff, Nat.reduceAdd, Nat.reduceMul, Nat.reduceSub, Int.reduceAdd, Int.reduceSub, Int.reduceMul, eq_self, decide_true, beq_self_eq_true, List.length_cons, List.length_nil, Nat.min_eq_left, IntKind.bits, tabs])
        by_cases hc1 : k < n'
        · have e0 : decide ((k : Int) < (n' : Int)) = true := decide_eq_true (by omega)
          have e1 := List.getElem?_eq_getElem (show k < rs.length by omega)
          have e2 := List.getElem?_eq_getElem (show k < ks.length by omega)
          have hkid := h12 k _ _ e1 e2
          have hsz := iszL_get e2
          have hti := tOf_eq hkid
          have hgo := encL_go e2
          have hkl := enc_len ks[k]
          have hP : ∀ m, allOld w ∈ m → ∃ t, ItR (HM m) rs[k] t ∧ isz t < d ∧ isz t ≤ 1000000 := fun m hin => ⟨_, hkid.mono (H0.hm hin), by simp only [isz] at hd; omega, by omega⟩
          have hgd := getD_of e1
          generalize rs[k] = r at *
          generalize ks[k] = kk at *
          have ut : (enc kk).take (enc kk).length = enc kk := List.take_length
          have hll : (o ++ enc kk).length = o.length + (enc kk).length := List.length_append
          cases hkid with
          | @mk l2 a2 a2' m2 c2 m2' c2' bs2 rs2 ks2 g1 g2 g3 g4 g5 g6 g7 g8 g9 g10 g11 g12 g13 g14 =>
            ((repeat (first | (with_reducible refine Vc.seq fun N hN => ?_) | (with_reducible refine Vc.block ?_) | ((first | with_reducible refine Vc.skip ?_ | with_reducible refine Vc.exit ?_); dsimp only [thenK, blockK, Nat.beq]; (first | (refine hN _ _ ?_; clear hN N) | skip)) | (with_reducible intro _) | ((with_reducible refine And.intro ?_ ?_); (focus (first | exact sideQ | exact sd0))) | ((first | ((with_reducible refine askT_of ?_ (fun hb => ?_)); (focus (first | exact sideQ | exact sd0)); (try simp only [hb])) | ((with_reducible refine Vc.fin ?_); dsimp only [thenK, blockK, retK, resS, resOne, resAll]) | ((with_reducible refine Vc.hold ?_); first | refine Vc.regiont T0_ok GRe_ok ?_)); (try simp only [v8X, v8A, v8B, v8C, Nat.beq, Nat.ble, Int.reduceToNat, Int.reduceLE, Int.reduceLT, Nat.reduceLT, Nat.reduceLeDiff, Nat.reduceAdd, Nat.reduceMul, Nat.reduceSub, Int.reduceAdd, Int.reduceSub, Int.reduceMul, eq_self, decide_true, beq_self_eq_true, List.length_cons, List.length_nil, Nat.min_eq_left, IntKind.bits, tabs, GRe_set, e0]); (try simp (disch := omega) only [v8W])) | ((with_reducible refine hN _ _ ?_); clear hN N; (try simp (disch := omega) only [v8W])))); (try ((with_reducible refine Fin.of ?_); (try with_reducible exact True.intro))))
            (refine Vc.cond T0_ok (t := true) (by rfl) (fun _ => ?_) (fun h => Bool.noConfusion h))
            generalize Itm.mk l2 bs2 ks2 = kk at *
            ((repeat (first | (with_reducible refine Vc.seq fun N hN => ?_) | (with_reducible refine Vc.block ?_) | ((first | with_reducible refine Vc.skip ?_ | with_reducible refine Vc.exit ?_); dsimp only [thenK, blockK, Nat.beq]; (first | (refine hN _ _ ?_; clear hN N) | skip)) | (with_reducible intro _) | ((with_reducible refine And.intro ?_ ?_); (focus (first | ((repeat' with_reducible apply And.intro) <;> first | exact sideQ | (exact hL _ List.mem_cons_self) | (exact hP _ List.mem_cons_self) | (simp [noAlias]; done)) | exact sd0))) | ((first | ((with_reducible refine askT_of ?_ (fun hb => ?_)); (focus (first | ((repeat' with_reducible apply And.intro) <;> first | exact sideQ | (exact hL _ List.mem_cons_self) | (exact hP _ List.mem_cons_self) | (simp [noAlias]; done)) | exact sd0)); (try simp only [hb])) | ((with_reducible refine Vc.fin ?_); dsimp only [thenK, blockK, retK, resS, resOne, resAll]) | ((with_reducible refine Vc.hold ?_); first | refine Vc.regiont T0_ok GRe_ok ?_)); (try simp only [v8X, v8A, v8B, v8C, Nat.beq, Nat.ble, Int.reduceToNat, Int.reduceLE, Int.reduceLT, Nat.reduceLT, Nat.reduceLeDiff, Nat.reduceAdd, Nat.reduceMul, Nat.reduceSub, Int.reduceAdd, Int.reduceSub, Int.reduceMul, eq_self, decide_true, beq_self_eq_true, List.length_cons, List.length_nil, Nat.min_eq_left, IntKind.bits, tabs, GRe_set, hgd, hti, ut, tnc, List.drop_zero, conEs.eq_def, conN.eq_def]); (try simp (disch := omega) only [v8W])) | ((with_reducible refine hN _ _ ?_); clear hN N; (try simp (disch := omega) only [v8W])))); (try ((with_reducible refine Fin.of ?_); (try with_reducible exact True.intro))))
            rename_i v1 v2
            refine ⟨(k + 1, o ++ enc kk, v2), ⟨by simp only; omega, by simp only; rw [hm2, hgo, List.append_assoc]⟩, ?_, ?_, by simp only; omega⟩
            · ((try simp only [v8X, v8A, v8B, v8C, Nat.beq, Nat.ble, Int.reduceToNat, Int.reduceLE, Int.reduceLT, Nat.reduceLT, Nat.reduceLeDiff, Nat.reduceAdd, Nat.reduceMul, Nat.reduceSub, Int.reduceAdd, Int.reduceSub, Int.reduceMul, eq_self, decide_true, beq_self_eq_true, List.length_cons, List.length_nil, Nat.min_eq_left, IntKind.bits, tabs]); (repeat' with_reducible apply And.intro) <;> first | with_reducible exact True.intro | rw [hll] | (congr 1 <;> omega))
            · ((try simp only [v8X, v8A, v8B, v8C, Nat.beq, Nat.ble, Int.reduceToNat, Int.reduceLE, Int.reduceLT, Nat.reduceLT, Nat.reduceLeDiff, Nat.reduceAdd, Nat.reduceMul, Nat.reduceSub, Int.reduceAdd, Int.reduceSub, Int.reduceMul, eq_self, decide_true, beq_self_eq_true, List.length_cons, List.length_nil, Nat.min_eq_left, IntKind.bits, tabs]); (repeat' with_reducible apply And.intro) <;> first | with_reducible exact True.intro | rw [hll] | (congr 1 <;> omega))
        · have e0 : decide ((k : Int) < (n' : Int)) = false := decide_eq_false (by omega)
          have hv : encL ks = o := by rw [hm2, List.drop_of_length_le (by omega)]; simp only [encL, List.append_nil]
          have ut : o.take o.length = o := List.take_length
          have h9b := hdB_len 192 o.length
          have hl2 : (enc (.mk true bs ks)).length = (hdB 192 o.length).length + o.length := by rw [he, hv, List.length_append]
          ((repeat (first | (with_reducible refine Vc.seq fun N hN => ?_) | (with_reducible refine Vc.block ?_) | ((first | with_reducible refine Vc.skip ?_ | with_reducible refine Vc.exit ?_); dsimp only [thenK, blockK, Nat.beq]; (first | (refine hN _ _ ?_; clear hN N) | skip)) | (with_reducible intro _) | ((with_reducible refine And.intro ?_ ?_); (focus (first | exact sideQ | exact sd0))) | ((first | ((with_reducible refine askT_of ?_ (fun hb => ?_)); (focus (first | exact sideQ | exact sd0)); (try simp only [hb])) | ((with_reducible refine Vc.fin ?_); dsimp only [thenK, blockK, retK, resS, resOne, resAll]) | ((with_reducible refine Vc.hold ?_); first | refine Vc.regiont T0_ok GRe_ok ?_)); (try simp only [v8X, v8A, v8B, v8C, Nat.beq, Nat.ble, Int.reduceToNat, Int.reduceLE, Int.reduceLT, Nat.reduceLT, Nat.reduceLeDiff, Nat.reduceAdd, Nat.reduceMul, Nat.reduceSub, Int.reduceAdd, Int.reduceSub, Int.reduceMul, eq_self, decide_true, beq_self_eq_true, List.length_cons, List.length_nil, Nat.min_eq_left, IntKind.bits, tabs, GRe_set, e0]); (try simp (disch := omega) only [v8W])) | ((with_reducible refine hN _ _ ?_); clear hN N; (try simp (disch := omega) only [v8W])))); (try ((with_reducible refine Fin.of ?_); (try with_reducible exact True.intro))))
          (refine Vc.cond T0_ok (t := false) (by rfl) (fun h => Bool.noConfusion h) (fun _ => ?_))
          ((repeat (first | (with_reducible refine Vc.seq fun N hN => ?_) | (with_reducible refine Vc.block ?_) | ((first | with_reducible refine Vc.skip ?_ | with_reducible refine Vc.exit ?_); dsimp only [thenK, blockK, Nat.beq]; (first | (refine hN _ _ ?_; clear hN N) | skip)) | (with_reducible intro _) | ((with_reducible refine And.intro ?_ ?_); (focus (first | exact sideQ | exact sd0))) | ((first | ((with_reducible refine askT_of ?_ (fun hb => ?_)); (focus (first | exact sideQ | exact sd0)); (try simp only [hb])) | ((with_reducible refine Vc.fin ?_); dsimp only [thenK, blockK, retK, resS, resOne, resAll]) | ((with_reducible refine Vc.hold ?_); first | refine Vc.regiont T0_ok GRe_ok ?_)); (try simp only [v8X, v8A, v8B, v8C, Nat.beq, Nat.ble, Int.reduceToNat, Int.reduceLE, Int.reduceLT, Nat.reduceLT, Nat.reduceLeDiff, Nat.reduceAdd, Nat.reduceMul, Nat.reduceSub, Int.reduceAdd, Int.reduceSub, Int.reduceMul, eq_self, decide_true, beq_self_eq_true, List.length_cons, List.length_nil, Nat.min_eq_left, IntKind.bits, tabs, GRe_set]); (try simp (disch := omega) only [v8W])) | ((with_reducible refine hN _ _ ?_); clear hN N; (try simp (disch := omega) only [v8W])))); (try ((with_reducible refine Fin.of ?_); (try with_reducible exact True.intro))))
          (refine hN1 _ _ ?_; (try clear hN N); clear hN1 N1)
          ((repeat (first | (with_reducible refine Vc.seq fun N hN => ?_) | (with_reducible refine Vc.block ?_) | ((first | with_reducible refine Vc.skip ?_ | with_reducible refine Vc.exit ?_); dsimp only [thenK, blockK, Nat.beq]; (first | (refine hN _ _ ?_; clear hN N) | skip)) | (with_reducible intro _) | ((with_reducible refine And.intro ?_ ?_); (focus (first | exact sideQ | exact sd0))) | ((first | ((with_reducible refine askT_of ?_ (fun hb => ?_)); (focus (first | exact sideQ | exact sd0)); (try simp only [hb])) | ((with_reducible refine Vc.fin ?_); dsimp only [thenK, blockK, retK, resS, resOne, resAll]) | ((with_reducible refine Vc.hold ?_); first | refine Vc.regiont T0_ok GRe_ok ?_)); (try simp only [v8X, v8A, v8B, v8C, Nat.beq, Nat.ble, Int.reduceToNat, Int.reduceLE, Int.reduceLT, Nat.reduceLT, Nat.reduceLeDiff, Nat.reduceAdd, Nat.reduceMul, Nat.reduceSub, Int.reduceAdd, Int.reduceSub, Int.reduceMul, eq_self, decide_true, beq_self_eq_true, List.length_cons, List.length_nil, Nat.min_eq_left, IntKind.bits, tabs, GRe_set, ut, tnc, List.drop_zero]); (try simp (disch := omega) only [v8W])) | ((with_reducible refine hN _ _ ?_); clear hN N; (try simp (disch := omega) only [v8W])))); (try ((with_reducible refine Fin.of ?_); (try with_reducible exact True.intro))))
          exact ⟨trivial, _, _, by rw [hl2], by rw [hl2, he, hv]; rfl⟩
theorem g_rencD_ok : ∀ d, ∀ (w0 : World) (B : List Nat) (args : List SV) (m : List Blk), CROk Try.prog w0 B 13 args m (g_rencD d args m) := by
  intro d
  induction d with
  | zero =>
    intro w0 B args m
    unfold g_rencD
    split
    · exact fun ⟨t, _, h, _⟩ => absurd h (Nat.not_lt_zero _)
    · exact trivial
  | succ d ih =>
    intro w0 B args m
    unfold g_rencD
    split
    · rename_i l
      intro ⟨t, hI, hd, hb⟩ w hm
      rw [tOf_eq hI]
      exact own_new Try.func13 rfl rfl hm (renc_vc d (GRe_mk ih) t l w (it_old hm hI) (by omega) hb)
    · exact trivial
noncomputable def g_renc (args : List SV) (m : List Blk) : CR :=
  match args with
  | [.agg l] => .own (∃ t, ItR (HM m) l t ∧ isz t ≤ 1000000) 5 1 (enc (tOf l)).length (.ints .u8 (enc (tOf l))) (fun v => v)
  | _ => .none
theorem g_renc_ok (w0 : World) (B : List Nat) (args : List SV) (m : List Blk) : CROk Try.prog w0 B 13 args m (g_renc args m) := by
  unfold g_renc
  split
  · rename_i l
    intro ⟨t, hI, hb⟩ w hm
    exact g_rencD_ok (isz t + 1) w0 B [.agg l] m ⟨t, hI, Nat.lt_succ_self _, hb⟩ w hm
  · exact trivial
end Go.Proofs.Ytlogpdjcgbifhaa
