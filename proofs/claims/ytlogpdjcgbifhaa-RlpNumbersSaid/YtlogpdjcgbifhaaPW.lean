/-
  RLP: the law of numbers (RlpNumbers), walked. No condition.
-/
import Derived.Test.YtlogpdjcgbifhaaPT
import Derived.Test.YtlogpdjcgbifhaaPX
import Derived.Test.YtlogpdjcgbifhaaFR
namespace Go.Proofs.Ytlogpdjcgbifhaa
set_option linter.unusedSimpArgs false
set_option linter.unusedVariables false
set_option maxHeartbeats 4000000
open Go.RowKit
theorem bget_lt : ∀ {m : List Blk} {i : Nat}, bget m i ≠ .gone → i < m.length
  | [], _, h => absurd rfl h
  | _ :: _, 0, _ => by simp
  | _ :: m, i + 1, h => by have := bget_lt (m := m) (i := i) h; simp; exact this
theorem bget_appL : ∀ {m : List Blk} {i : Nat} (x : List Blk), i < m.length → bget (m ++ x) i = bget m i
  | [], _, _, h => by simp at h
  | _ :: _, 0, _, _ => rfl
  | _ :: m, i + 1, x, h => bget_appL (m := m) x (by simpa using h)
theorem bget_appR : ∀ (m : List Blk) (x : Blk), bget (m ++ [x]) m.length = x
  | [], _ => rfl
  | _ :: m, x => bget_appR m x
theorem bset_appL : ∀ {m : List Blk} {i : Nat} (x : List Blk) (e : Blk), i < m.length → bset (m ++ x) i e = bset m i e ++ x
  | [], _, _, _, h => by simp at h
  | _ :: _, 0, _, _, _ => rfl
  | y :: m, i + 1, x, e, h => by simp only [List.cons_append, bset]; rw [bset_appL (m := m) x e (by simpa using h)]
theorem bset_appR : ∀ (m : List Blk) (x e : Blk), bset (m ++ [x]) m.length e = m ++ [e]
  | [], _, _ => rfl
  | y :: m, x, e => by simp only [List.cons_append, List.length_cons, bset]; rw [bset_appR m x e]
theorem bset_length : ∀ (m : List Blk) (i : Nat) (e : Blk), (bset m i e).length = m.length
  | [], _, _ => rfl
  | _ :: _, 0, _ => rfl
  | _ :: m, i + 1, e => by simp only [bset, List.length_cons]; rw [bset_length m i e]
/-- An own slice kept as it is, in the midst of a walk. -/
theorem Vc.freeze {P : Program} {c : Code} {env : List SV} {m : List Blk} {K : Kont} (i : Nat) {v : Value} {n : Nat} {t : TypeId} {es : Nat} {con : Con} (hb : bget m i = .own v n t es con)
    (h : ∀ (a : Option Addr) (cp : Nat) (l : List (Nat × Obj)), v = .slice a n cp → adr a n cp → n ≤ cp → n ≤ maxLen → (cc con).length = n * es → LiesH (Hl l) a (cc con) → Vc P c env (bpush (bset m i .gone) (.heap l)) K) : Vc P c env m K := by
  intro w0 B ac w hf hd hm
  have hi : i < m.length := bget_lt (by rw [hb]; simp)
  obtain ⟨l, a, cp, h1, h2, h3, h4, h5, h6, h7⟩ := Go.Proofs.Ytlogpdjcgbifhaa.freeze hm.heap0 (i := i) (k := m.length) (by rw [bget_appL _ hi]; exact hb) (bget_appR _ _)
  refine h a cp l h1 h2 h3 h4 h5 h6 w0 B ac w hf hd ?_
  rw [bset_appL _ _ hi, List.nil_append] at h7
  rw [bpush_eq]
  have := bset_appR (bset m i .gone) (.heap []) (.heap l)
  rw [bset_length] at this
  rwa [this] at h7
set_option maxRecDepth 20000 in
theorem rlpNum_law (n : Nat) (hn : n < 18446744073709551616) (w : World) : Calls Try.prog 8 (cvs [.int .u64 (n : Int)]).toArray w (Yes w) := by
  have e1 : (leB n).reverse = beB n := rfl
  have e2 : (leB n).length = (beB n).length := by unfold beB; rw [List.length_reverse]
  have q1 := beB_len n
  have q2 := beB_all n
  have q3 := rdI_beB hn
  have q4 : (beB n).length ≠ 0 → 0 < (beB n).getD 0 0 := fun h => beB_front hn (by rintro rfl; exact h rfl)
  have htx := txR_enc (beB n) []
  have htl := txR_len (beB n)
  have hdc : deco (txR (beB n)).reverse = some (.mk false (beB n) []) := by rw [htx]; exact deco_enc rfl (by rw [← htx, List.length_reverse]; omega)
  have u1 : (txR (beB n)).reverse.take (txR (beB n)).length = (txR (beB n)).reverse := List.take_of_length_le (by rw [List.length_reverse]; exact Nat.le_refl _)
  have hea : allB (txR (beB n)).reverse := by rw [htx]; exact (show allB (enc (.mk false (beB n) [])) by
    cases hb : bareB (beB n) with
    | true => rw [enc_bare [] hb]; exact q2
    | false => rw [enc_text [] hb]; exact allB_app (hdB_all (by omega) _) q2)
  clear htx
  generalize beB n = B at *
  generalize hL : B.length = L at *
  refine Vc.calls T0_ok Try.func8 rfl rfl (args := [.int .u64 (n : Int)]) (k := 68) rfl (MemOk.start _) ?_; change Vc _ _ (c8 (.int .u64 (n : Int)) .undef .undef .undef .undef .undef .undef .undef (c8 .undef .undef .undef .undef .undef .undef .undef .undef (c8 .undef .undef .undef .undef .undef .undef .undef .undef (c8 .undef .undef .undef .undef .undef .undef .undef .undef (c8 .undef .undef .undef .undef .undef .undef .undef .undef (c8 .undef .undef .undef .undef .undef .undef .undef .undef (c8 .undef .undef .undef .undef .undef .undef .undef .undef (c8 .undef .undef .undef .undef .undef .undef .undef .undef ([.undef, .undef, .undef, .undef, .undef]))))))))) _ _
  ((with_reducible refine Vc.seq fun N hN => ?_); (refine Vc.regiont T0_ok GPT_ok ?_); simp only [v8X, v8A, v8B, v8C, Nat.beq, Nat.ble, Int.reduceToNat, Int.reduceLE, Int.reduceLT, Nat.reduceLT, Nat.reduceLeDiff, Nat.reduceAdd, Nat.reduceMul, Nat.reduceSub, Int.reduceAdd, Int.reduceSub, Int.reduceMul, eq_self, decide_true, beq_self_eq_true, List.length_cons, List.length_nil, Nat.min_eq_left, IntKind.bits, tabs, GPT_set]; (try simp (disch := omega) only [v8W]); (repeat (first | with_reducible intro _ | ((with_reducible refine And.intro ?_ ?_); (focus (first | exact sideQ | exact sd0))) | ((with_reducible refine askT_of ?_ (fun hb => ?_)); (focus (first | exact sideQ | exact sd0)); simp only [hb, v8X, v8A, v8B, v8C, Nat.beq, Nat.ble, Int.reduceToNat, Int.reduceLE, Int.reduceLT, Nat.reduceLT, Nat.reduceLeDiff, Nat.reduceAdd, Nat.reduceMul, Nat.reduceSub, Int.reduceAdd, Int.reduceSub, Int.reduceMul, eq_self, decide_true, beq_self_eq_true, List.length_cons, List.length_nil, Nat.min_eq_left, IntKind.bits, tabs, GPT_set]; (try simp (disch := omega) only [v8W])))); (first | (refine hN _ _ ?_; clear hN N; (try simp (disch := omega) only [v8W])) | skip))
  ((with_reducible refine Vc.seq fun N hN => ?_); (refine Vc.regiont T0_ok GPT_ok ?_); simp only [v8X, v8A, v8B, v8C, Nat.beq, Nat.ble, Int.reduceToNat, Int.reduceLE, Int.reduceLT, Nat.reduceLT, Nat.reduceLeDiff, Nat.reduceAdd, Nat.reduceMul, Nat.reduceSub, Int.reduceAdd, Int.reduceSub, Int.reduceMul, eq_self, decide_true, beq_self_eq_true, List.length_cons, List.length_nil, Nat.min_eq_left, IntKind.bits, tabs, GPT_set, e1, e2, tnc]; (try simp (disch := omega) only [v8W]); (repeat (first | with_reducible intro _ | ((with_reducible refine And.intro ?_ ?_); (focus (first | exact sideQ | exact sd0))) | ((with_reducible refine askT_of ?_ (fun hb => ?_)); (focus (first | exact sideQ | exact sd0)); simp only [hb, v8X, v8A, v8B, v8C, Nat.beq, Nat.ble, Int.reduceToNat, Int.reduceLE, Int.reduceLT, Nat.reduceLT, Nat.reduceLeDiff, Nat.reduceAdd, Nat.reduceMul, Nat.reduceSub, Int.reduceAdd, Int.reduceSub, Int.reduceMul, eq_self, decide_true, beq_self_eq_true, List.length_cons, List.length_nil, Nat.min_eq_left, IntKind.bits, tabs, GPT_set, e1, e2, tnc]; (try simp (disch := omega) only [v8W])))); (first | (refine hN _ _ ?_; clear hN N; (try simp (disch := omega) only [v8W])) | skip))
  rename_i v b1
  refine Vc.freeze 0 rfl fun a cp l hv ha hc hmx hcl hLi => ?_
  subst hv
  simp only [bset, bpush]
  refine Vc.recon 1 (.cells [.bool false, .gh a L cp (.ints .u8 B), .gh none 0 0 (.rows 3 [])]) rfl rfl ?_
  simp only [bset]
  have hLx : ∀ m, Blk.heap l ∈ m → LiesH (HM m) a (cc (.ints .u8 B)) := fun m hin => hLi.mono fun b o h => ⟨_, hin, h⟩
  have d1 : decide ((8 : Int) < (L : Int)) = false := decide_eq_false (by omega)
  have hz : (True ∧ decide ((0 : Int) < (L : Int)) = false ∧ True) ∨ (0 < L ∧ decide ((0 : Int) < (L : Int)) = true ∧ decide (B.getD 0 0 = 0) = false) := by
    by_cases h : L = 0
    · exact .inl ⟨trivial, decide_eq_false (by omega), trivial⟩
    · exact .inr ⟨by omega, decide_eq_true (by omega), decide_eq_false (by have := q4 h; omega)⟩
  have hit : ItR (Hl l) [.bool false, .gh a L cp (.ints .u8 B), .gh none 0 0 (.rows 3 [])] (.mk false B []) :=
    .mk hL hc ha hLi q2 rfl (Nat.le_refl _) (.inr ⟨rfl, rfl, rfl⟩) (fun _ h => absurd h List.not_mem_nil) (.inl rfl) rfl (fun i r k h _ => by simp at h) hmx (Nat.zero_le _)
  have d9 : decide (((n : Nat) : Int) = ((n : Nat) : Int)) = true := decide_eq_true rfl
  have d10 : decide ((0 : Int) = 0) = true := rfl
  rcases hz with ⟨h0, d2, d3⟩ | ⟨h0, d2, d3⟩
  all_goals
    ((repeat (first | (with_reducible refine Vc.seq fun N hN => ?_) | (with_reducible refine Vc.block ?_) | ((first | with_reducible refine Vc.skip ?_ | with_reducible refine Vc.exit ?_); dsimp only [thenK, blockK, Nat.beq]; (first | (refine hN _ _ ?_; clear hN N) | skip)) | (with_reducible intro _) | ((with_reducible refine And.intro ?_ ?_); (focus (first | ((repeat' with_reducible apply And.intro) <;> first | exact sideQ | (exact hLx _ (by simp)) | (exact hP _ (by simp) (by simp))) | exact sd0))) | ((first | ((with_reducible refine askT_of ?_ (fun hb => ?_)); (focus (first | ((repeat' with_reducible apply And.intro) <;> first | exact sideQ | (exact hLx _ (by simp)) | (exact hP _ (by simp) (by simp))) | exact sd0)); (try simp only [hb])) | ((with_reducible refine Vc.fin ?_); dsimp only [thenK, blockK, retK, resS, resOne, resAll]) | ((with_reducible refine Vc.hold ?_); first | refine Vc.regiont T0_ok GPT_ok ?_)); (try simp only [v8X, v8A, v8B, v8C, Nat.beq, Nat.ble, Int.reduceToNat, Int.reduceLE, Int.reduceLT, Nat.reduceLT, Nat.reduceLeDiff, Nat.reduceAdd, Nat.reduceMul, Nat.reduceSub, Int.reduceAdd, Int.reduceSub, Int.reduceMul, eq_self, decide_true, beq_self_eq_true, List.length_cons, List.length_nil, Nat.min_eq_left, IntKind.bits, tabs, GPT_set, d1, d2, d3, tnc]); (try simp (disch := omega) only [v8W])) | ((with_reducible refine hN _ _ ?_); clear hN N; (try simp (disch := omega) only [v8W])))); (try ((with_reducible refine Fin.of ?_); (try with_reducible exact True.intro))))
    (refine Vc.cond T0_ok (t := false) (by rfl) (fun h => Bool.noConfusion h) (fun _ => ?_))
    ((repeat (first | (with_reducible refine Vc.seq fun N hN => ?_) | (with_reducible refine Vc.block ?_) | ((first | with_reducible refine Vc.skip ?_ | with_reducible refine Vc.exit ?_); dsimp only [thenK, blockK, Nat.beq]; (first | (refine hN _ _ ?_; clear hN N) | skip)) | (with_reducible intro _) | ((with_reducible refine And.intro ?_ ?_); (focus (first | ((repeat' with_reducible apply And.intro) <;> first | exact sideQ | (exact hLx _ (by simp)) | (exact hP _ (by simp) (by simp))) | exact sd0))) | ((first | ((with_reducible refine askT_of ?_ (fun hb => ?_)); (focus (first | ((repeat' with_reducible apply And.intro) <;> first | exact sideQ | (exact hLx _ (by simp)) | (exact hP _ (by simp) (by simp))) | exact sd0)); (try simp only [hb])) | ((with_reducible refine Vc.fin ?_); dsimp only [thenK, blockK, retK, resS, resOne, resAll]) | ((with_reducible refine Vc.hold ?_); first | refine Vc.regiont T0_ok GPT_ok ?_)); (try simp only [v8X, v8A, v8B, v8C, Nat.beq, Nat.ble, Int.reduceToNat, Int.reduceLE, Int.reduceLT, Nat.reduceLT, Nat.reduceLeDiff, Nat.reduceAdd, Nat.reduceMul, Nat.reduceSub, Int.reduceAdd, Int.reduceSub, Int.reduceMul, eq_self, decide_true, beq_self_eq_true, List.length_cons, List.length_nil, Nat.min_eq_left, IntKind.bits, tabs, GPT_set, d1, d2, d3, tnc]); (try simp (disch := omega) only [v8W])) | ((with_reducible refine hN _ _ ?_); clear hN N; (try simp (disch := omega) only [v8W])))); (try ((with_reducible refine Fin.of ?_); (try with_reducible exact True.intro))))
    (revert N; intro N1 hN1)
    refine Vc.loop 4 68 (fun (i : Nat) => [(4, .int .u64 (rdI (B.take i) : Nat)), (5, .int .i64 (i : Nat))]) (fun _ => [.gone, .blk b1 25 (.cells [.bool false, .gh a L cp (.ints .u8 B), .gh none 0 0 (.rows 3 [])]), .heap l]) (fun i => i ≤ L) (fun i => L - i) 0 ⟨Nat.zero_le _, ?_, ?_⟩ (fun i junk hi => ?_)
    · ((try simp only [v8X, v8A, v8B, v8C, Nat.beq, Nat.ble, Int.reduceToNat, Int.reduceLE, Int.reduceLT, Nat.reduceLT, Nat.reduceLeDiff, Nat.reduceAdd, Nat.reduceMul, Nat.reduceSub, Int.reduceAdd, Int.reduceSub, Int.reduceMul, eq_self, decide_true, beq_self_eq_true, List.length_cons, List.length_nil, Nat.min_eq_left, IntKind.bits, tabs]); (repeat' with_reducible apply And.intro) <;> first | with_reducible exact True.intro | rfl | with_reducible rfl | (congr 1 <;> omega) | trivial)
    · ((try simp only [v8X, v8A, v8B, v8C, Nat.beq, Nat.ble, Int.reduceToNat, Int.reduceLE, Int.reduceLT, Nat.reduceLT, Nat.reduceLeDiff, Nat.reduceAdd, Nat.reduceMul, Nat.reduceSub, Int.reduceAdd, Int.reduceSub, Int.reduceMul, eq_self, decide_true, beq_self_eq_true, List.length_cons, List.length_nil, Nat.min_eq_left, IntKind.bits, tabs]); (repeat' with_reducible apply And.intro) <;> first | with_reducible exact True.intro | rfl | with_reducible rfl | (congr 1 <;> omega) | trivial)
    · (simp only [v8X, v8A, v8B, v8C, Nat.beq, Nat.ble, Int.reduceToNat, Int.reduceLE, Int.reduceLT, Nat.reduceLT, Nat.reduceLeDiff, Nat.reduceAdd, Nat.reduceMul, Nat.reduceSub, Int.reduceAdd, Int.reduceSub, Int.reduceMul, eq_self, decide_true, beq_self_eq_true, List.length_cons, List.length_nil, Nat.min_eq_left, IntKind.bits, tabs])
      by_cases hlt : i < L
      · have d4 : decide ((i : Int) < (L : Int)) = true := decide_eq_true (by omega)
        have hlt2 : i < B.length := by omega
        have hti := take_s hlt2
        have hy := q2 (B.getD i 0) (by rw [List.getD_eq_getElem?_getD, List.getElem?_eq_getElem hlt2]; exact List.getElem_mem _)
        have hv : rdI (B.take i) < 2 ^ 56 := by
          have := rdI_lt (l := B.take i) (fun x hx => q2 x (List.mem_of_mem_take hx))
          have h7 : (256 : Nat) ^ (B.take i).length ≤ 256 ^ 7 := Nat.pow_le_pow_right (by decide) (by rw [List.length_take]; omega)
          exact Nat.lt_of_lt_of_le this h7
        have hor := or_byte hv hy.1 hy.2
        rw [wrap_u64 (by omega) (by omega)] at hor
        have hs : rdI (B.take (i + 1)) = rdI (B.take i) * 256 + (B.getD i 0).toNat := by rw [hti, rdI_put]
        ((repeat (first | (with_reducible refine Vc.seq fun N hN => ?_) | (with_reducible refine Vc.block ?_) | ((first | with_reducible refine Vc.skip ?_ | with_reducible refine Vc.exit ?_); dsimp only [thenK, blockK, Nat.beq]; (first | (refine hN _ _ ?_; clear hN N) | skip)) | (with_reducible intro _) | ((with_reducible refine And.intro ?_ ?_); (focus (first | ((repeat' with_reducible apply And.intro) <;> first | exact sideQ | (exact hLx _ (by simp)) | (exact hP _ (by simp) (by simp))) | exact sd0))) | ((first | ((with_reducible refine askT_of ?_ (fun hb => ?_)); (focus (first | ((repeat' with_reducible apply And.intro) <;> first | exact sideQ | (exact hLx _ (by simp)) | (exact hP _ (by simp) (by simp))) | exact sd0)); (try simp only [hb])) | ((with_reducible refine Vc.fin ?_); dsimp only [thenK, blockK, retK, resS, resOne, resAll]) | ((with_reducible refine Vc.hold ?_); first | refine Vc.regiont T0_ok GPT_ok ?_)); (try simp only [v8X, v8A, v8B, v8C, Nat.beq, Nat.ble, Int.reduceToNat, Int.reduceLE, Int.reduceLT, Nat.reduceLT, Nat.reduceLeDiff, Nat.reduceAdd, Nat.reduceMul, Nat.reduceSub, Int.reduceAdd, Int.reduceSub, Int.reduceMul, eq_self, decide_true, beq_self_eq_true, List.length_cons, List.length_nil, Nat.min_eq_left, IntKind.bits, tabs, GPT_set, d4]); (try simp (disch := omega) only [v8W])) | ((with_reducible refine hN _ _ ?_); clear hN N; (try simp (disch := omega) only [v8W])))); (try ((with_reducible refine Fin.of ?_); (try with_reducible exact True.intro))))
        (refine Vc.cond T0_ok (t := true) (by rfl) (fun _ => ?_) (fun h => Bool.noConfusion h))
        ((repeat (first | (with_reducible refine Vc.seq fun N hN => ?_) | (with_reducible refine Vc.block ?_) | ((first | with_reducible refine Vc.skip ?_ | with_reducible refine Vc.exit ?_); dsimp only [thenK, blockK, Nat.beq]; (first | (refine hN _ _ ?_; clear hN N) | skip)) | (with_reducible intro _) | ((with_reducible refine And.intro ?_ ?_); (focus (first | ((repeat' with_reducible apply And.intro) <;> first | exact sideQ | (exact hLx _ (by simp)) | (exact hP _ (by simp) (by simp))) | exact sd0))) | ((first | ((with_reducible refine askT_of ?_ (fun hb => ?_)); (focus (first | ((repeat' with_reducible apply And.intro) <;> first | exact sideQ | (exact hLx _ (by simp)) | (exact hP _ (by simp) (by simp))) | exact sd0)); (try simp only [hb])) | ((with_reducible refine Vc.fin ?_); dsimp only [thenK, blockK, retK, resS, resOne, resAll]) | ((with_reducible refine Vc.hold ?_); first | refine Vc.regiont T0_ok GPT_ok ?_)); (try simp only [v8X, v8A, v8B, v8C, Nat.beq, Nat.ble, Int.reduceToNat, Int.reduceLE, Int.reduceLT, Nat.reduceLT, Nat.reduceLeDiff, Nat.reduceAdd, Nat.reduceMul, Nat.reduceSub, Int.reduceAdd, Int.reduceSub, Int.reduceMul, eq_self, decide_true, beq_self_eq_true, List.length_cons, List.length_nil, Nat.min_eq_left, IntKind.bits, tabs, GPT_set, tnc, conEs.eq_def, conN.eq_def]); (try simp (disch := omega) only [v8W])) | ((with_reducible refine hN _ _ ?_); clear hN N; (try simp (disch := omega) only [v8W])))); (try ((with_reducible refine Fin.of ?_); (try with_reducible exact True.intro))))
        refine ⟨i + 1, by omega, ?_, ?_, by omega⟩
        · ((try simp only [v8X, v8A, v8B, v8C, Nat.beq, Nat.ble, Int.reduceToNat, Int.reduceLE, Int.reduceLT, Nat.reduceLT, Nat.reduceLeDiff, Nat.reduceAdd, Nat.reduceMul, Nat.reduceSub, Int.reduceAdd, Int.reduceSub, Int.reduceMul, eq_self, decide_true, beq_self_eq_true, List.length_cons, List.length_nil, Nat.min_eq_left, IntKind.bits, tabs]); (repeat' with_reducible apply And.intro) <;> first | with_reducible exact True.intro | rw [hor, hs] | with_reducible rfl | (congr 1 <;> omega) | trivial)
        · ((try simp only [v8X, v8A, v8B, v8C, Nat.beq, Nat.ble, Int.reduceToNat, Int.reduceLE, Int.reduceLT, Nat.reduceLT, Nat.reduceLeDiff, Nat.reduceAdd, Nat.reduceMul, Nat.reduceSub, Int.reduceAdd, Int.reduceSub, Int.reduceMul, eq_self, decide_true, beq_self_eq_true, List.length_cons, List.length_nil, Nat.min_eq_left, IntKind.bits, tabs]); (repeat' with_reducible apply And.intro) <;> first | with_reducible exact True.intro | rfl | with_reducible rfl | (congr 1 <;> omega) | trivial)
      · obtain rfl : i = L := by omega
        have d4 : decide ((i : Int) < (i : Int)) = false := decide_eq_false (by omega)
        ((repeat (first | (with_reducible refine Vc.seq fun N hN => ?_) | (with_reducible refine Vc.block ?_) | ((first | with_reducible refine Vc.skip ?_ | with_reducible refine Vc.exit ?_); dsimp only [thenK, blockK, Nat.beq]; (first | (refine hN _ _ ?_; clear hN N) | skip)) | (with_reducible intro _) | ((with_reducible refine And.intro ?_ ?_); (focus (first | ((repeat' with_reducible apply And.intro) <;> first | exact sideQ | (exact hLx _ (by simp)) | (exact hP _ (by simp) (by simp))) | exact sd0))) | ((first | ((with_reducible refine askT_of ?_ (fun hb => ?_)); (focus (first | ((repeat' with_reducible apply And.intro) <;> first | exact sideQ | (exact hLx _ (by simp)) | (exact hP _ (by simp) (by simp))) | exact sd0)); (try simp only [hb])) | ((with_reducible refine Vc.fin ?_); dsimp only [thenK, blockK, retK, resS, resOne, resAll]) | ((with_reducible refine Vc.hold ?_); first | refine Vc.regiont T0_ok GPT_ok ?_)); (try simp only [v8X, v8A, v8B, v8C, Nat.beq, Nat.ble, Int.reduceToNat, Int.reduceLE, Int.reduceLT, Nat.reduceLT, Nat.reduceLeDiff, Nat.reduceAdd, Nat.reduceMul, Nat.reduceSub, Int.reduceAdd, Int.reduceSub, Int.reduceMul, eq_self, decide_true, beq_self_eq_true, List.length_cons, List.length_nil, Nat.min_eq_left, IntKind.bits, tabs, GPT_set, d4]); (try simp (disch := omega) only [v8W])) | ((with_reducible refine hN _ _ ?_); clear hN N; (try simp (disch := omega) only [v8W])))); (try ((with_reducible refine Fin.of ?_); (try with_reducible exact True.intro))))
        (refine Vc.cond T0_ok (t := false) (by rfl) (fun h => Bool.noConfusion h) (fun _ => ?_))
        ((repeat (first | (with_reducible refine Vc.seq fun N hN => ?_) | (with_reducible refine Vc.block ?_) | ((first | with_reducible refine Vc.skip ?_ | with_reducible refine Vc.exit ?_); dsimp only [thenK, blockK, Nat.beq]; (first | (refine hN _ _ ?_; clear hN N) | skip)) | (with_reducible intro _) | ((with_reducible refine And.intro ?_ ?_); (focus (first | exact sideQ | exact sd0))) | ((first | ((with_reducible refine askT_of ?_ (fun hb => ?_)); (focus (first | exact sideQ | exact sd0)); (try simp only [hb])) | ((with_reducible refine Vc.fin ?_); dsimp only [thenK, blockK, retK, resS, resOne, resAll]) | ((with_reducible refine Vc.hold ?_); first | refine Vc.regiont T0_ok GPT_ok ?_)); (try simp only [v8X, v8A, v8B, v8C, Nat.beq, Nat.ble, Int.reduceToNat, Int.reduceLE, Int.reduceLT, Nat.reduceLT, Nat.reduceLeDiff, Nat.reduceAdd, Nat.reduceMul, Nat.reduceSub, Int.reduceAdd, Int.reduceSub, Int.reduceMul, eq_self, decide_true, beq_self_eq_true, List.length_cons, List.length_nil, Nat.min_eq_left, IntKind.bits, tabs, GPT_set]); (try simp (disch := omega) only [v8W])) | ((with_reducible refine hN _ _ ?_); clear hN N; (try simp (disch := omega) only [v8W])))); (try ((with_reducible refine Fin.of ?_); (try with_reducible exact True.intro))))
        (refine hN1 _ _ ?_; (try clear hN N); clear hN1 N1)
        have hfull : B.take i = B := List.take_of_length_le (by omega)
        rw [hfull, q3]
        ((with_reducible refine Vc.seq fun N hN => ?_); (refine Vc.regiont T0_ok GPT_ok ?_); simp only [v8X, v8A, v8B, v8C, Nat.beq, Nat.ble, Int.reduceToNat, Int.reduceLE, Int.reduceLT, Nat.reduceLT, Nat.reduceLeDiff, Nat.reduceAdd, Nat.reduceMul, Nat.reduceSub, Int.reduceAdd, Int.reduceSub, Int.reduceMul, eq_self, decide_true, beq_self_eq_true, List.length_cons, List.length_nil, Nat.min_eq_left, IntKind.bits, tabs, GPT_set, hfull, u1, hdc, List.drop_zero, conEs.eq_def, conN.eq_def]; (try simp (disch := omega) only [v8W]); (repeat (first | with_reducible intro _ | ((with_reducible refine And.intro ?_ ?_); (focus (first | ((repeat' with_reducible apply And.intro) <;> first | exact sideQ | (exact hLx _ (by simp)) | (exact hP _ (by simp) (by simp))) | exact sd0))) | ((with_reducible refine askT_of ?_ (fun hb => ?_)); (focus (first | ((repeat' with_reducible apply And.intro) <;> first | exact sideQ | (exact hLx _ (by simp)) | (exact hP _ (by simp) (by simp))) | exact sd0)); simp only [hb, v8X, v8A, v8B, v8C, Nat.beq, Nat.ble, Int.reduceToNat, Int.reduceLE, Int.reduceLT, Nat.reduceLT, Nat.reduceLeDiff, Nat.reduceAdd, Nat.reduceMul, Nat.reduceSub, Int.reduceAdd, Int.reduceSub, Int.reduceMul, eq_self, decide_true, beq_self_eq_true, List.length_cons, List.length_nil, Nat.min_eq_left, IntKind.bits, tabs, GPT_set, hfull, u1, hdc, List.drop_zero, conEs.eq_def, conN.eq_def]; (try simp (disch := omega) only [v8W])))); (first | (refine hN _ _ ?_; clear hN N; (try simp (disch := omega) only [v8W])) | skip))
        rename_i v2 x hq b2
        obtain ⟨lb, ba, bn, bc, bs, ka, kn, kc, rs, hp⟩ := x
        simp only at hq ⊢
        have hsm : sameI (tOf [.bool false, .gh a i cp (.ints .u8 B), .gh none 0 0 (.rows 3 [])]) (tOf [.bool lb, .gh ba bn bc (.ints .u8 bs), .gh ka kn kc (.rows 3 rs)]) = true := by rw [tOf_eq hq, tOf_eq hit]; exact sameI_refl _
        have hP : ∀ m, Blk.heap l ∈ m → Blk.heap hp ∈ m → ∃ t t', ItR (HM m) [.bool false, .gh a i cp (.ints .u8 B), .gh none 0 0 (.rows 3 [])] t ∧ ItR (HM m) [.bool lb, .gh ba bn bc (.ints .u8 bs), .gh ka kn kc (.rows 3 rs)] t' :=
          fun m h1 h2 => ⟨_, _, hit.mono fun b o h => ⟨_, h1, h⟩, hq.mono fun b o h => ⟨_, h2, h⟩⟩
        ((repeat (first | (with_reducible refine Vc.seq fun N hN => ?_) | (with_reducible refine Vc.block ?_) | ((first | with_reducible refine Vc.skip ?_ | with_reducible refine Vc.exit ?_); dsimp only [thenK, blockK, Nat.beq]; (first | (refine hN _ _ ?_; clear hN N) | skip)) | (with_reducible intro _) | ((with_reducible refine And.intro ?_ ?_); (focus (first | ((repeat' with_reducible apply And.intro) <;> first | exact sideQ | (exact hLx _ (by simp)) | (exact hP _ (by simp) (by simp))) | exact sd0))) | ((first | ((with_reducible refine askT_of ?_ (fun hb => ?_)); (focus (first | ((repeat' with_reducible apply And.intro) <;> first | exact sideQ | (exact hLx _ (by simp)) | (exact hP _ (by simp) (by simp))) | exact sd0)); (try simp only [hb])) | ((with_reducible refine Vc.fin ?_); dsimp only [thenK, blockK, retK, resS, resOne, resAll]) | ((with_reducible refine Vc.hold ?_); first | refine Vc.regiont T0_ok GPT_ok ?_)); (try simp only [v8X, v8A, v8B, v8C, Nat.beq, Nat.ble, Int.reduceToNat, Int.reduceLE, Int.reduceLT, Nat.reduceLT, Nat.reduceLeDiff, Nat.reduceAdd, Nat.reduceMul, Nat.reduceSub, Int.reduceAdd, Int.reduceSub, Int.reduceMul, eq_self, decide_true, beq_self_eq_true, List.length_cons, List.length_nil, Nat.min_eq_left, IntKind.bits, tabs, GPT_set, d9, hsm]); (try simp (disch := omega) only [v8W])) | ((with_reducible refine hN _ _ ?_); clear hN N; (try simp (disch := omega) only [v8W])))); (try ((with_reducible refine Fin.of ?_); (try with_reducible exact True.intro))))
        exact ⟨by simp, trivial⟩
end Go.Proofs.Ytlogpdjcgbifhaa
