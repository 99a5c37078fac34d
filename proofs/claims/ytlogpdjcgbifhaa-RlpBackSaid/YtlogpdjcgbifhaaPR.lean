/-
  RLP: Encode of what is no list, Number, walked. No condition.
-/
import Derived.Test.YtlogpdjcgbifhaaPJ
import Derived.Test.YtlogpdjcgbifhaaP9
import Derived.Test.YtlogpdjcgbifhaaP3
namespace Go.Proofs.Ytlogpdjcgbifhaa
set_option linter.unusedSimpArgs false
set_option linter.unusedVariables false
set_option maxHeartbeats 4000000
set_option linter.defProp false
open Go.RowKit
noncomputable def GPR : Ctr := fun f args m => match f with
  | 24 => g_apNum args m
  | 31 => g_apHead args m
  | 36 => g_bare args m
  | 22 => g_Rev args m
  | 29 => g_apText args m
  | _ => .none
theorem GPR_ok : GOk Try.prog GPR := by
  intro w0 B f args m; unfold GPR; split
  · exact g_apNum_ok _ _ _ _
  · exact g_apHead_ok _ _ _ _
  · exact g_bare_ok _ _ _ _
  · exact g_Rev_ok _ _ _ _
  · exact g_apText_ok _ _ _ _
  · exact trivial
theorem GPR_apNum : GPR 24 = g_apNum := by funext args m; rfl
theorem GPR_apHead : GPR 31 = g_apHead := by funext args m; rfl
theorem GPR_bare : GPR 36 = g_bare := by funext args m; rfl
theorem GPR_Rev : GPR 22 = g_Rev := by funext args m; rfl
theorem GPR_apText : GPR 29 = g_apText := by funext args m; rfl
def GPR_set := And.intro (And.intro (And.intro (@GPR_apNum) (@g_apNum.eq_def)) (And.intro (@GPR_apHead) (And.intro (@g_apHead.eq_def) (@GPR_bare)))) (And.intro (And.intro (@g_bare.eq_def) (@GPR_Rev)) (And.intro (@g_Rev.eq_def) (And.intro (@GPR_apText) (@g_apText.eq_def))))

theorem txR_enc (ys : List Int) (ks : List Itm) : (txR ys).reverse = enc (.mk false ys ks) := by
  cases hb : bareB ys with
  | true => rw [txR_bare hb, enc_bare ks hb, List.reverse_reverse]
  | false =>
    rw [txR_head hb, enc_text ks hb, List.reverse_append, List.reverse_reverse]
    rfl
set_option maxRecDepth 20000 in
theorem apItT_vc (a : Option Addr) (n c : Nat) (ys : List Int) (k : SV) (hl : ys.length = n) (hn : n ≤ c) (ha : adr a n c) (hb : n ≤ 1000000) (w : World) (hL : LiesH (H0 w) a (cc (.ints .u8 ys))) :
    Calls Try.prog 21 (cvs [.nilsl, .agg [.bool false, .gh a n c (.ints .u8 ys), k]]).toArray w (fun en w' => ∃ u, en = .returned u ∧ ∃ v' m', u = cv v' ∧ MemOk w [] m' w' ∧ ∃ i s, v' = .own i s (txR ys).length ∧ bget m' i = .own s (txR ys).length 5 1 (.ints .u8 (txR ys))) := by
  have hLx : ∀ m, allOld w ∈ m → LiesH (HM m) a (cc (.ints .u8 ys)) := fun m hin => hL.mono (H0.hm hin)
  have utt : ys.take n = ys := List.take_of_length_le (by omega)
  refine Vc.calls T0_ok Try.func21 rfl rfl (args := [.nilsl, .agg [.bool false, .gh a n c (.ints .u8 ys), k]]) (k := 29) rfl (old_start w) ?_; change Vc _ _ (c8 .nilsl (.agg [.bool false, .gh a n c (.ints .u8 ys), k]) .undef .undef .undef .undef .undef .undef (c8 .undef .undef .undef .undef .undef .undef .undef .undef (c8 .undef .undef .undef .undef .undef .undef .undef .undef ([.undef, .undef, .undef, .undef, .undef, .undef, .undef])))) _ _
  ((repeat (first | (with_reducible refine Vc.seq fun N hN => ?_) | (with_reducible refine Vc.block ?_) | ((first | with_reducible refine Vc.skip ?_ | with_reducible refine Vc.exit ?_); dsimp only [thenK, blockK, Nat.beq]; (first | (refine hN _ _ ?_; clear hN N) | skip)) | (with_reducible intro _) | ((with_reducible refine And.intro ?_ ?_); (focus (first | exact sideQ | exact sd0))) | ((first | ((with_reducible refine askT_of ?_ (fun hb => ?_)); (focus (first | exact sideQ | exact sd0)); (try simp only [hb])) | ((with_reducible refine Vc.fin ?_); dsimp only [thenK, blockK, retK, resS, resOne, resAll]) | ((with_reducible refine Vc.hold ?_); first | refine Vc.regiont T0_ok GPR_ok ?_)); (try simp only [v8X, v8A, v8B, v8C, Nat.beq, Nat.ble, Int.reduceToNat, Int.reduceLE, Int.reduceLT, Nat.reduceLT, Nat.reduceLeDiff, Nat.reduceAdd, Nat.reduceMul, Nat.reduceSub, Int.reduceAdd, Int.reduceSub, Int.reduceMul, eq_self, decide_true, beq_self_eq_true, List.length_cons, List.length_nil, Nat.min_eq_left, IntKind.bits, tabs, GPR_set]); (try simp (disch := omega) only [v8W])) | ((with_reducible refine hN _ _ ?_); clear hN N; (try simp (disch := omega) only [v8W])))); (try ((with_reducible refine Fin.of ?_); (try with_reducible exact True.intro))))
  (refine Vc.cond T0_ok (t := true) (by rfl) (fun _ => ?_) (fun h => Bool.noConfusion h))
  ((repeat (first | (with_reducible refine Vc.seq fun N hN => ?_) | (with_reducible refine Vc.block ?_) | ((first | with_reducible refine Vc.skip ?_ | with_reducible refine Vc.exit ?_); dsimp only [thenK, blockK, Nat.beq]; (first | (refine hN _ _ ?_; clear hN N) | skip)) | (with_reducible intro _) | ((with_reducible refine And.intro ?_ ?_); (focus (first | ((repeat' with_reducible apply And.intro) <;> first | exact sideQ | (exact hLx _ List.mem_cons_self) | (simp only [List.length_nil]; omega)) | exact sd0))) | ((first | ((with_reducible refine askT_of ?_ (fun hb => ?_)); (focus (first | ((repeat' with_reducible apply And.intro) <;> first | exact sideQ | (exact hLx _ List.mem_cons_self) | (simp only [List.length_nil]; omega)) | exact sd0)); (try simp only [hb])) | ((with_reducible refine Vc.fin ?_); dsimp only [thenK, blockK, retK, resS, resOne, resAll]) | ((with_reducible refine Vc.hold ?_); first | refine Vc.regiont T0_ok GPR_ok ?_)); (try simp only [v8X, v8A, v8B, v8C, Nat.beq, Nat.ble, Int.reduceToNat, Int.reduceLE, Int.reduceLT, Nat.reduceLT, Nat.reduceLeDiff, Nat.reduceAdd, Nat.reduceMul, Nat.reduceSub, Int.reduceAdd, Int.reduceSub, Int.reduceMul, eq_self, decide_true, beq_self_eq_true, List.length_cons, List.length_nil, Nat.min_eq_left, IntKind.bits, tabs, GPR_set, utt, List.drop_zero, List.nil_append, tnc, conEs.eq_def, conN.eq_def]); (try simp (disch := omega) only [v8W])) | ((with_reducible refine hN _ _ ?_); clear hN N; (try simp (disch := omega) only [v8W])))); (try ((with_reducible refine Fin.of ?_); (try with_reducible exact True.intro))))
  exact ⟨trivial, _, _, rfl, rfl⟩
/-- appendItem, of what is no list, behind nothing. -/
def g_apIt (args : List SV) (m : List Blk) : CR :=
  match args with
  | [.nilsl, .agg [.bool false, .gh a n c (.ints .u8 ys), k]] => .own (ys.length = n ∧ n ≤ c ∧ adr a n c ∧ n ≤ 1000000 ∧ LiesH (HM m) a (cc (.ints .u8 ys))) 5 1 (txR ys).length (.ints .u8 (txR ys)) (fun v => v)
  | _ => .none
theorem g_apIt_ok (w0 : World) (B : List Nat) (args : List SV) (m : List Blk) : CROk Try.prog w0 B 21 args m (g_apIt args m) := by
  unfold g_apIt
  split
  · rename_i a n c ys k
    intro ⟨h1, h2, h3, h4, h5⟩ w hm
    exact own_new Try.func21 rfl rfl hm (apItT_vc a n c ys k h1 h2 h3 h4 w (h5.mono fun b o h => hm.hm h))
  · exact trivial
noncomputable def GPS : Ctr := fun f args m => match f with
  | 24 => g_apNum args m
  | 31 => g_apHead args m
  | 36 => g_bare args m
  | 22 => g_Rev args m
  | 29 => g_apText args m
  | 21 => g_apIt args m
  | _ => .none
theorem GPS_ok : GOk Try.prog GPS := by
  intro w0 B f args m; unfold GPS; split
  · exact g_apNum_ok _ _ _ _
  · exact g_apHead_ok _ _ _ _
  · exact g_bare_ok _ _ _ _
  · exact g_Rev_ok _ _ _ _
  · exact g_apText_ok _ _ _ _
  · exact g_apIt_ok _ _ _ _
  · exact trivial
theorem GPS_apNum : GPS 24 = g_apNum := by funext args m; rfl
theorem GPS_apHead : GPS 31 = g_apHead := by funext args m; rfl
theorem GPS_bare : GPS 36 = g_bare := by funext args m; rfl
theorem GPS_Rev : GPS 22 = g_Rev := by funext args m; rfl
theorem GPS_apText : GPS 29 = g_apText := by funext args m; rfl
theorem GPS_apIt : GPS 21 = g_apIt := by funext args m; rfl
def GPS_set := And.intro (And.intro (And.intro (@GPS_apNum) (And.intro (@g_apNum.eq_def) (@GPS_apHead))) (And.intro (@g_apHead.eq_def) (And.intro (@GPS_bare) (@g_bare.eq_def)))) (And.intro (And.intro (@GPS_Rev) (And.intro (@g_Rev.eq_def) (@GPS_apText))) (And.intro (@g_apText.eq_def) (And.intro (@GPS_apIt) (@g_apIt.eq_def))))

theorem txR_len (ys : List Int) : (txR ys).length ≤ ys.length + 9 := by
  unfold txR
  rw [List.length_append, List.length_reverse]
  split
  · simp
  · have := hdR_len 128 ys.length; omega
set_option maxRecDepth 20000 in
theorem encT_vc (a : Option Addr) (n c : Nat) (ys : List Int) (k : SV) (hl : ys.length = n) (hn : n ≤ c) (ha : adr a n c) (hb : n ≤ 1000000) (w : World) (hL : LiesH (H0 w) a (cc (.ints .u8 ys))) :
    Calls Try.prog 12 (cvs [.agg [.bool false, .gh a n c (.ints .u8 ys), k]]).toArray w (fun en w' => ∃ u, en = .returned u ∧ ∃ v' m', u = cv v' ∧ MemOk w [] m' w' ∧ ∃ i s, v' = .own i s (txR ys).length ∧ bget m' i = .own s (txR ys).length 5 1 (.ints .u8 (txR ys).reverse)) := by
  have hLx : ∀ m, allOld w ∈ m → LiesH (HM m) a (cc (.ints .u8 ys)) := fun m hin => hL.mono (H0.hm hin)
  have hlen := txR_len ys
  refine Vc.calls T0_ok Try.func12 rfl rfl (args := [.agg [.bool false, .gh a n c (.ints .u8 ys), k]]) (k := 8) rfl (old_start w) ?_; change Vc _ _ (c8 (.agg [.bool false, .gh a n c (.ints .u8 ys), k]) .undef .undef .undef .undef .undef .undef .undef ([.undef])) _ _
  ((repeat (first | (with_reducible refine Vc.seq fun N hN => ?_) | (with_reducible refine Vc.block ?_) | ((first | with_reducible refine Vc.skip ?_ | with_reducible refine Vc.exit ?_); dsimp only [thenK, blockK, Nat.beq]; (first | (refine hN _ _ ?_; clear hN N) | skip)) | (with_reducible intro _) | ((with_reducible refine And.intro ?_ ?_); (focus (first | ((repeat' with_reducible apply And.intro) <;> first | exact sideQ | (exact hLx _ List.mem_cons_self) | (simp only [List.length_nil]; omega)) | exact sd0))) | ((first | ((with_reducible refine askT_of ?_ (fun hb => ?_)); (focus (first | ((repeat' with_reducible apply And.intro) <;> first | exact sideQ | (exact hLx _ List.mem_cons_self) | (simp only [List.length_nil]; omega)) | exact sd0)); (try simp only [hb])) | ((with_reducible refine Vc.fin ?_); dsimp only [thenK, blockK, retK, resS, resOne, resAll]) | ((with_reducible refine Vc.hold ?_); first | refine Vc.regiont T0_ok GPS_ok ?_)); (try simp only [v8X, v8A, v8B, v8C, Nat.beq, Nat.ble, Int.reduceToNat, Int.reduceLE, Int.reduceLT, Nat.reduceLT, Nat.reduceLeDiff, Nat.reduceAdd, Nat.reduceMul, Nat.reduceSub, Int.reduceAdd, Int.reduceSub, Int.reduceMul, eq_self, decide_true, beq_self_eq_true, List.length_cons, List.length_nil, Nat.min_eq_left, IntKind.bits, tabs, GPS_set, tnc]); (try simp (disch := omega) only [v8W])) | ((with_reducible refine hN _ _ ?_); clear hN N; (try simp (disch := omega) only [v8W])))); (try ((with_reducible refine Fin.of ?_); (try with_reducible exact True.intro))))
  exact ⟨trivial, _, _, rfl, rfl⟩
/-- Encode, of what is no list. -/
def g_EncT (args : List SV) (m : List Blk) : CR :=
  match args with
  | [.agg [.bool false, s, k]] => match srcC s m with
    | some (q, kk, .ints .u8 ys) => .own (q ∧ kk ≤ 1000000) 5 1 (txR ys).length (.ints .u8 (txR ys).reverse) (fun v => v)
    | _ => .none
  | _ => .none
theorem g_EncT_ok (w0 : World) (B : List Nat) (args : List SV) (m : List Blk) : CROk Try.prog w0 B 12 args m (g_EncT args m) := by
  unfold g_EncT
  split
  · rename_i s k
    split
    · rename_i q kk ys hs
      intro ⟨hq, h5⟩ w hm
      obtain ⟨h1, a, cp, h2, h4, h6, h7⟩ := src_ro hs hq hm
      have hl : ys.length = kk := by simpa [cc, conEs] using h1
      have e : cvs [.agg [.bool false, s, k]] = cvs [.agg [.bool false, .gh a kk cp (.ints .u8 ys), k]] := by simp only [cvs, cv]; rw [h2, cv_sl0]
      rw [e]
      exact own_new Try.func12 rfl rfl hm (encT_vc a kk cp ys k hl h4 h7 h5 w (lies_of_ro h6))
    · exact trivial
  · exact trivial
set_option maxRecDepth 20000 in
theorem num_vc (n : Nat) (hn : n < 18446744073709551616) (w : World) :
    Calls Try.prog 15 (cvs [.int .u64 (n : Int)]).toArray w (fun en w' => ∃ u, en = .returned u ∧ ∃ v' m', u = cv v' ∧ MemOk w [] m' w' ∧ ∃ i s, v' = .agg [.bool false, .own i s (leB n).length, .nilsl] ∧ bget m' i = .own s (leB n).length 5 1 (.ints .u8 (leB n).reverse)) := by
  have hlen := leB_len n
  refine Vc.calls T0_ok Try.func15 rfl rfl (args := [.int .u64 (n : Int)]) (k := 9) rfl (MemOk.start _) ?_; change Vc _ _ (c8 (.int .u64 (n : Int)) .undef .undef .undef .undef .undef .undef .undef ([.undef, .undef])) _ _
  ((repeat (first | (with_reducible refine Vc.seq fun N hN => ?_) | (with_reducible refine Vc.block ?_) | ((first | with_reducible refine Vc.skip ?_ | with_reducible refine Vc.exit ?_); dsimp only [thenK, blockK, Nat.beq]; (first | (refine hN _ _ ?_; clear hN N) | skip)) | (with_reducible intro _) | ((with_reducible refine And.intro ?_ ?_); (focus (first | ((repeat' with_reducible apply And.intro) <;> first | exact sideQ | (simp only [List.length_nil]; omega)) | exact sd0))) | ((first | ((with_reducible refine askT_of ?_ (fun hb => ?_)); (focus (first | ((repeat' with_reducible apply And.intro) <;> first | exact sideQ | (simp only [List.length_nil]; omega)) | exact sd0)); (try simp only [hb])) | ((with_reducible refine Vc.fin ?_); dsimp only [thenK, blockK, retK, resS, resOne, resAll]) | ((with_reducible refine Vc.hold ?_); first | refine Vc.regiont T0_ok GPS_ok ?_)); (try simp only [v8X, v8A, v8B, v8C, Nat.beq, Nat.ble, Int.reduceToNat, Int.reduceLE, Int.reduceLT, Nat.reduceLT, Nat.reduceLeDiff, Nat.reduceAdd, Nat.reduceMul, Nat.reduceSub, Int.reduceAdd, Int.reduceSub, Int.reduceMul, eq_self, decide_true, beq_self_eq_true, List.length_cons, List.length_nil, Nat.min_eq_left, IntKind.bits, tabs, GPS_set, tnc, List.nil_append]); (try simp (disch := omega) only [v8W])) | ((with_reducible refine hN _ _ ?_); clear hN N; (try simp (disch := omega) only [v8W])))); (try ((with_reducible refine Fin.of ?_); (try with_reducible exact True.intro))))
  exact ⟨by simp, _, _, rfl, rfl⟩
def g_Num (args : List SV) (m : List Blk) : CR :=
  match args with
  | [.int .u64 k] => .own (0 ≤ k ∧ k ≤ 18446744073709551615) 5 1 (leB k.toNat).length (.ints .u8 (leB k.toNat).reverse) (fun v => .agg [.bool false, v, .nilsl])
  | _ => .none
theorem g_Num_ok (w0 : World) (B : List Nat) (args : List SV) (m : List Blk) : CROk Try.prog w0 B 15 args m (g_Num args m) := by
  unfold g_Num
  split
  · rename_i k
    intro ⟨h1, h2⟩ w hm
    obtain ⟨n, rfl⟩ := Int.eq_ofNat_of_zero_le h1
    rw [show ((n : Int)).toNat = n from rfl]
    exact .inr ⟨enter_run Try.func15 rfl rfl _ w, (num_vc n (by omega) w).mono fun e w' ⟨u, he, v', m', hu, hm', i, s, hv, hs⟩ => ⟨u, he, s, by rw [hu, hv]; rfl, hm'.grown, own_ok0 (hm'.each _ (bget_mem hs (by simp)))⟩⟩
  · exact trivial
noncomputable def GPK : Ctr := fun f args m => match f with
  | 12 => g_EncT args m
  | 18 => g_Dec args m
  | 15 => g_Num args m
  | _ => .none
theorem GPK_ok : GOk Try.prog GPK := by
  intro w0 B f args m; unfold GPK; split
  · exact g_EncT_ok _ _ _ _
  · exact g_Dec_ok _ _ _ _
  · exact g_Num_ok _ _ _ _
  · exact trivial
theorem GPK_EncT : GPK 12 = g_EncT := by funext args m; rfl
theorem GPK_Dec : GPK 18 = g_Dec := by funext args m; rfl
theorem GPK_Num : GPK 15 = g_Num := by funext args m; rfl
def GPK_set := And.intro (And.intro (@GPK_EncT) (And.intro (@g_EncT.eq_def) (@GPK_Dec))) (And.intro (@g_Dec.eq_def) (And.intro (@GPK_Num) (@g_Num.eq_def)))

theorem kn_e1 : (txR [100, 111, 103]).reverse = [131, 100, 111, 103] := by decide
theorem kn_l1 : (txR [100, 111, 103]).length = 4 := by decide
theorem kn_d1 : deco [129, 5] = none := by rfl
theorem kn_d2 : deco [193, 192] = some (.mk true [] [.mk true [] []]) := by rfl
end Go.Proofs.Ytlogpdjcgbifhaa
