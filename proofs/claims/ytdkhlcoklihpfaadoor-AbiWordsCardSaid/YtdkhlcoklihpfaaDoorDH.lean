/-
  The law AbiWords of package quaestorlaw05 answers true for all words, and leaves them us they were. No condition.
-/
import Derived.Test.YtdkhlcoklihpfaaDoorDF
import Derived.Test.YtdkhlcoklihpfaaDoorRB
import Derived.Test.YtdkhlcoklihpfaaDoorFV
namespace Go.Proofs.YtdkhlcoklihpfaaDoor
set_option linter.unusedSimpArgs false
set_option linter.unusedVariables false
set_option maxHeartbeats 4000000
set_option maxRecDepth 10000
set_option linter.defProp false
open Go.RowKit Go.ChangeShapes Go.WideShapes Go.ChangeAt
/-- A word's cells, us a part of no bytes. -/
def wRow (a : Nat) : List SV := [.bool false, .int .u64 (lm a 0 : Nat), .int .u64 (lm a 1 : Nat), .int .u64 (lm a 2 : Nat), .int .u64 (lm a 3 : Nat), .nilsl]
def wRow' (a : Nat) : List SV := [.bool false, .int .u64 (lm a 0 : Nat), .int .u64 (lm a 1 : Nat), .int .u64 (lm a 2 : Nat), .int .u64 (lm a 3 : Nat), .gh none 0 0 (.ints .u8 [])]
def wOf : List SV → Nat
  | [_, .int _ x0, .int _ x1, .int _ x2, .int _ x3, _] => numI [x0, x1, x2, x3]
  | _ => 0
theorem wOf_row {a : Nat} (h : a < W) : wOf (wRow a) = a := numI_lmI h
theorem wsOf_rows : ∀ {us : List Nat}, (∀ a ∈ us, a < W) → (us.map wRow).map wOf = us
  | [], _ => rfl
  | a :: us, h => by
    simp only [List.map_cons]
    rw [wOf_row (h a List.mem_cons_self), wsOf_rows fun x hx => h x (List.mem_cons_of_mem _ hx)]
def wB (us : List Nat) : List Int := us.flatMap fun a => bytI a 32
theorem wB_len : ∀ us : List Nat, (wB us).length = 32 * us.length
  | [] => rfl
  | a :: us => by show (bytI a 32 ++ wB us).length = _; rw [List.length_append, bytI_len, wB_len us, List.length_cons]; omega
theorem wB_all (us : List Nat) : allB (wB us) := fun y hy => by
  obtain ⟨a, _, ha⟩ := List.mem_flatMap.1 hy
  exact bytI_all a 32 y ha
theorem encS_words (N : Nat) : ∀ (us : List Nat) (s : List Int × List Int), (us.map fun a => (⟨false, a, []⟩ : Prt)).foldl (stE N) s = (s.1 ++ wB us, s.2)
  | [], s => by simp [wB]
  | a :: us, s => by
    simp only [List.map_cons, List.foldl_cons]
    rw [encS_words N us]
    show (s.1 ++ bytI a 32 ++ wB us, s.2) = (s.1 ++ (bytI a 32 ++ wB us), s.2)
    rw [List.append_assoc]
theorem abEnc_words (us : List Nat) : abEnc (us.map fun a => (⟨false, a, []⟩ : Prt)) = wB us := by
  unfold abEnc encS
  rw [encS_words]
  simp
theorem psz_words : ∀ us : List Nat, psz (us.map fun a => (⟨false, a, []⟩ : Prt)) = us.length
  | [] => rfl
  | a :: us => by simp only [List.map_cons, psz, psz_words us, List.length_cons, List.length_nil]; omega
/-- Encode, of words alone, wherever they lie. -/
def g_EncW (args : List SV) (m : List Blk) : CR :=
  match args with
  | [s] => match srcC s m with
    | some (q, k, .rows 6 rs) => .own (q ∧ rs = (rs.map wOf).map wRow ∧ (∀ a ∈ rs.map wOf, a < W) ∧ k ≤ 1000) 5 1 (wB (rs.map wOf)).length (.ints .u8 (wB (rs.map wOf))) (fun v => v)
    | _ => .none
  | _ => .none
theorem rows_cc (us : List Nat) : cc (.rows 6 (us.map wRow)) = cc (.rows 6 (us.map wRow')) := by
  simp only [cc]
  induction us with
  | nil => rfl
  | cons a us ih => simp only [List.map_cons, List.flatMap_cons, ih]; rfl
theorem rows_ccl (us : List Nat) : (cc (.rows 6 (us.map wRow))).length = us.length * 6 := by
  simp only [cc]
  induction us with
  | nil => rfl
  | cons a us ih => simp only [List.map_cons, List.flatMap_cons, List.length_append, ih, List.length_cons]; show 6 + _ = _; omega
theorem g_EncW_ok (w0 : World) (B : List Nat) (args : List SV) (m : List Blk) : CROk Tryd.prog w0 B 12 args m (g_EncW args m) := by
  unfold g_EncW
  split
  · rename_i s
    split
    · rename_i q k rs hs
      intro ⟨g1, g2, g3, g4⟩ w hm
      obtain ⟨h1, a, cp, h2, h4, h6, h7⟩ := src_ro hs g1 hm
      generalize rs.map wOf = us at *
      subst g2
      have hk : us.length = k := by rw [rows_ccl] at h1; simp only [conEs] at h1; omega
      have e : cvs [s] = cvs [.gh a k cp (.rows 6 (us.map wRow'))] := by simp only [cvs]; rw [h2, cv_sl0]; rfl
      have hL := lies_of_ro h6
      rw [rows_cc] at hL
      have hP : PsR (H0 w) (us.map wRow') (us.map fun a => (⟨false, a, []⟩ : Prt)) := by
        refine ⟨by simp, fun r hr => ?_, fun i r p hr hp => ?_⟩
        · obtain ⟨a, _, rfl⟩ := List.mem_map.1 hr; rfl
        · rw [List.getElem?_map] at hr hp
          cases hai : us[i]? with
          | none => rw [hai] at hr; cases hr
          | some a =>
            rw [hai] at hr hp
            cases hr; cases hp
            have haW := g3 a (List.mem_of_getElem? hai)
            exact ⟨_, _, _, _, none, 0, 0, rfl, allU_lmI a, numI_lmI haW, rfl, Nat.le_refl _, .inr ⟨rfl, rfl, rfl⟩, .inl rfl, (fun y hy => absurd hy List.not_mem_nil), Nat.zero_le _⟩
      have := own_new (args := (cvs [.gh a k cp (.rows 6 (us.map wRow'))]).toArray) (f := 12) Tryd.func12 rfl rfl hm (abEnc_vc a k cp (us.map wRow') _ (by rw [List.length_map]; exact hk) h4 h7 (by rw [psz_words]; omega) w hL hP)
      rw [abEnc_words] at this
      rw [e]
      exact this
    · exact trivial
  · exact trivial
noncomputable def GDH : Ctr := fun f args m => match f with
  | 12 => g_EncW args m
  | 17 => g_Dec args m
  | 10 => g_alK args m
  | 20 => g_rBytes args m
  | 11 => g_same args m
  | _ => .none
theorem GDH_ok : GOk Tryd.prog GDH := by
  intro w0 B f args m; unfold GDH; split
  · exact g_EncW_ok _ _ _ _
  · exact g_Dec_ok _ _ _ _
  · exact g_alK_ok _ _ _ _
  · exact g_rBytes_ok _ _ _ _
  · exact g_same_ok _ _ _ _
  · exact trivial
theorem GDH_EncW : GDH 12 = g_EncW := by funext args m; rfl
theorem GDH_Dec : GDH 17 = g_Dec := by funext args m; rfl
theorem GDH_alK : GDH 10 = g_alK := by funext args m; rfl
theorem GDH_rBytes : GDH 20 = g_rBytes := by funext args m; rfl
theorem GDH_same : GDH 11 = g_same := by funext args m; rfl
def GDH_set := And.intro (And.intro (And.intro (@GDH_EncW) (@g_EncW.eq_def)) (And.intro (@GDH_Dec) (And.intro (@g_Dec.eq_def) (@GDH_alK)))) (And.intro (And.intro (@g_alK.eq_def) (@GDH_rBytes)) (And.intro (@g_rBytes.eq_def) (And.intro (@GDH_same) (@g_same.eq_def))))

theorem Vc.nilownC {P : Program} {c : Code} {env : List SV} {m : List Blk} {K : Kont} (i : Nat) (t : TypeId) (h0 : sget env i = .nilsl)
    (h : Vc P c (sset env i (.own (blen m) (.slice none 0 0) 0)) (bpush m (.own (.slice none 0 0) 0 t 1 (.cells []))) K) : Vc P c env m K := by
  intro w0 B a w hf hd hm
  refine h w0 B a w (by unfold Fr at *; rw [cvs_sset_same env i (by rw [h0]; rfl)]; exact hf) hd ?_
  rw [bpush_eq]
  refine hm.push (grown_refl w) ⟨⟨by simp [cc, cvs], .inl ⟨rfl, rfl⟩⟩, fun b hb => by simp [Value.ownBlock] at hb⟩ (fun b hb => ?_)
  simp [Blk.nums, Value.ownBlock] at hb
theorem Vc.nilownS {P : Program} {c : Code} {env : List SV} {m : List Blk} {K : Kont} (i : Nat) (t : TypeId) (es : Nat) (h0 : sget env i = .nilsl)
    (h : Vc P c (sset env i (.own (blen m) (.slice none 0 0) 0)) (bpush m (.own (.slice none 0 0) 0 t es (.rows es []))) K) : Vc P c env m K := by
  intro w0 B a w hf hd hm
  refine h w0 B a w (by unfold Fr at *; rw [cvs_sset_same env i (by rw [h0]; rfl)]; exact hf) hd ?_
  rw [bpush_eq]
  refine hm.push (grown_refl w) ⟨⟨by simp [cc], .inl ⟨rfl, rfl⟩⟩, fun b hb => by simp [Value.ownBlock] at hb⟩ (fun b hb => ?_)
  simp [Blk.nums, Value.ownBlock] at hb
theorem rowsOk_w (us : List Nat) : rowsOk 6 (us.map wRow) = true := by
  induction us with
  | nil => rfl
  | cons a us ih => simp only [List.map_cons, rowsOk, ih]; rfl
set_option maxRecDepth 20000 in
theorem words_law (a : Option Addr) (n c : Nat) (us : List Nat) (hl : us.length = n) (hn : n ≤ c) (hc : c ≤ maxLen) (ha : adr a n c) (hW : ∀ x ∈ us, x < W) (w : World)
    (h1 : MemOk w [] [.ro (some ⟨1, 0, none⟩) (.ints .u64 kKeys)] w) (h2 : MemOk w [] [.ro (some ⟨2, 0, none⟩) (.ints .u8 kPathI)] w) (h3 : MemOk w [] [.ro (some ⟨0, 0, none⟩) (.cells [.raw eTy])] w)
    (h4 : MemOk w [] [.ro a (.words us)] w) :
    Calls Tryd.prog 6 (cvs [.sl 3 a 0 0 4 n c]).toArray w (Yes w) := by
  unfold maxLen at hc
  have hm0 : MemOk w [] [.ro (some ⟨1, 0, none⟩) (.ints .u64 kKeys), .ro (some ⟨2, 0, none⟩) (.ints .u8 kPathI), .ro (some ⟨0, 0, none⟩) (.cells [.raw eTy]), .ro a (.words us)] w := ro_front (ro_front (ro_front h4 h3) h2) h1
  by_cases c1 : n ≤ 50
  · have d1 : decide ((50 : Int) < (n : Int)) = false := decide_eq_false (by omega)
    refine Vc.calls T0_ok Tryd.func6 rfl rfl (args := [.sl 3 a 0 0 4 n c]) (k := 62) rfl hm0 ?_; change Vc _ _ (c8 (.sl 3 a 0 0 4 n c) .undef .undef .undef .undef .undef .undef .undef (c8 .undef .undef .undef .undef .undef .undef .undef .undef (c8 .undef .undef .undef .undef .undef .undef .undef .undef (c8 .undef .undef .undef .undef .undef .undef .undef .undef (c8 .undef .undef .undef .undef .undef .undef .undef .undef (c8 .undef .undef .undef .undef .undef .undef .undef .undef (c8 .undef .undef .undef .undef .undef .undef .undef .undef ([.undef, .undef, .undef, .undef, .undef, .undef, .undef])))))))) _ _
    ((repeat (first | (with_reducible refine Vc.seq fun N hN => ?_) | (with_reducible refine Vc.block ?_) | ((first | with_reducible refine Vc.skip ?_ | with_reducible refine Vc.exit ?_); dsimp only [thenK, blockK, Nat.beq]; (first | (refine hN _ _ ?_; clear hN N) | skip)) | (with_reducible intro _) | ((with_reducible refine And.intro ?_ ?_); (focus (first | exact sideQ | exact sd0))) | ((first | ((with_reducible refine askT_of ?_ (fun hb => ?_)); (focus (first | exact sideQ | exact sd0)); (try simp only [hb])) | ((with_reducible refine Vc.fin ?_); dsimp only [thenK, blockK, retK, resS, resOne, resAll]) | ((with_reducible refine Vc.hold ?_); first | refine Vc.regiont T0_ok GDH_ok ?_)); (try simp only [v8X, v8A, v8B, v8C, Nat.beq, Nat.ble, Int.reduceToNat, Int.reduceLE, Int.reduceLT, Nat.reduceLT, Nat.reduceLeDiff, Nat.reduceAdd, Nat.reduceMul, Nat.reduceSub, Int.reduceAdd, Int.reduceSub, Int.reduceMul, eq_self, decide_true, beq_self_eq_true, List.length_cons, List.length_nil, Nat.min_eq_left, IntKind.bits, tabs, GDH_set, d1]); (try simp (disch := omega) only [v8W])) | ((with_reducible refine hN _ _ ?_); clear hN N; (try simp (disch := omega) only [v8W])))); (try ((with_reducible refine Fin.of ?_); (try with_reducible exact True.intro))))
    (refine Vc.cond T0_ok (t := false) (by rfl) (fun h => Bool.noConfusion h) (fun _ => ?_))
    ((repeat (first | (with_reducible refine Vc.seq fun N hN => ?_) | (with_reducible refine Vc.block ?_) | ((first | with_reducible refine Vc.skip ?_ | with_reducible refine Vc.exit ?_); dsimp only [thenK, blockK, Nat.beq]; (first | (refine hN _ _ ?_; clear hN N) | skip)) | (with_reducible intro _) | ((with_reducible refine And.intro ?_ ?_); (focus (first | exact sideQ | exact sd0))) | ((first | ((with_reducible refine askT_of ?_ (fun hb => ?_)); (focus (first | exact sideQ | exact sd0)); (try simp only [hb])) | ((with_reducible refine Vc.fin ?_); dsimp only [thenK, blockK, retK, resS, resOne, resAll]) | ((with_reducible refine Vc.hold ?_); first | refine Vc.regiont T0_ok GDH_ok ?_)); (try simp only [v8X, v8A, v8B, v8C, Nat.beq, Nat.ble, Int.reduceToNat, Int.reduceLE, Int.reduceLT, Nat.reduceLT, Nat.reduceLeDiff, Nat.reduceAdd, Nat.reduceMul, Nat.reduceSub, Int.reduceAdd, Int.reduceSub, Int.reduceMul, eq_self, decide_true, beq_self_eq_true, List.length_cons, List.length_nil, Nat.min_eq_left, IntKind.bits, tabs, GDH_set, d1]); (try simp (disch := omega) only [v8W])) | ((with_reducible refine hN _ _ ?_); clear hN N; (try simp (disch := omega) only [v8W])))); (try ((with_reducible refine Fin.of ?_); (try with_reducible exact True.intro))))
    (revert N; intro N1 hN1)
    refine Vc.nilownS 3 44 6 rfl ?_
    refine Vc.nilownC 4 4 rfl ?_
    refine Vc.nilown 5 5 1 .u8 rfl ?_
    (simp only [v8X, v8A, v8B, v8C, Nat.beq, Nat.ble, Int.reduceToNat, Int.reduceLE, Int.reduceLT, Nat.reduceLT, Nat.reduceLeDiff, Nat.reduceAdd, Nat.reduceMul, Nat.reduceSub, Int.reduceAdd, Int.reduceSub, Int.reduceMul, eq_self, decide_true, beq_self_eq_true, List.length_cons, List.length_nil, Nat.min_eq_left, IntKind.bits, tabs])
    refine Vc.loop 3 63 (fun (x : Nat × Value × Value × Value) => [(3, .own 4 x.2.1 x.1), (4, .own 5 x.2.2.1 x.1), (5, .own 6 x.2.2.2 (32 * x.1)), (6, .int .i64 (x.1 : Nat))]) (fun x => [.ro (some ⟨1, 0, none⟩) (.ints .u64 kKeys), .ro (some ⟨2, 0, none⟩) (.ints .u8 kPathI), .ro (some ⟨0, 0, none⟩) (.cells [.raw eTy]), .ro a (.words us), .own x.2.1 x.1 44 6 (.rows 6 ((us.take x.1).map wRow)), .own x.2.2.1 x.1 4 1 (.cells ((List.replicate x.1 false).map .bool)), .own x.2.2.2 (32 * x.1) 5 1 (.ints .u8 (wB (us.take x.1)))]) (fun x => x.1 ≤ n) (fun x => n - x.1) (0, .slice none 0 0, .slice none 0 0, .slice none 0 0) ⟨Nat.zero_le _, ?_, ?_⟩ (fun x junk hk1 => ?_)
    · ((try simp only [v8X, v8A, v8B, v8C, Nat.beq, Nat.ble, Int.reduceToNat, Int.reduceLE, Int.reduceLT, Nat.reduceLT, Nat.reduceLeDiff, Nat.reduceAdd, Nat.reduceMul, Nat.reduceSub, Int.reduceAdd, Int.reduceSub, Int.reduceMul, eq_self, decide_true, beq_self_eq_true, List.length_cons, List.length_nil, Nat.min_eq_left, IntKind.bits, tabs]); (repeat' with_reducible apply And.intro) <;> first | with_reducible exact True.intro | rfl | with_reducible rfl | (congr 1 <;> omega) | trivial)
    · ((try simp only [v8X, v8A, v8B, v8C, Nat.beq, Nat.ble, Int.reduceToNat, Int.reduceLE, Int.reduceLT, Nat.reduceLT, Nat.reduceLeDiff, Nat.reduceAdd, Nat.reduceMul, Nat.reduceSub, Int.reduceAdd, Int.reduceSub, Int.reduceMul, eq_self, decide_true, beq_self_eq_true, List.length_cons, List.length_nil, Nat.min_eq_left, IntKind.bits, tabs]); (repeat' with_reducible apply And.intro) <;> first | with_reducible exact True.intro | rfl | with_reducible rfl | (congr 1 <;> omega) | trivial)
    · obtain ⟨k, v3, v4, v5⟩ := x
      simp only at hk1 ⊢
      (simp only [v8X, v8A, v8B, v8C, Nat.beq, Nat.ble, Int.reduceToNat, Int.reduceLE, Int.reduceLT, Nat.reduceLT, Nat.reduceLeDiff, Nat.reduceAdd, Nat.reduceMul, Nat.reduceSub, Int.reduceAdd, Int.reduceSub, Int.reduceMul, eq_self, decide_true, beq_self_eq_true, List.length_cons, List.length_nil, Nat.min_eq_left, IntKind.bits, tabs])
      by_cases hc1 : k < n
      · have e0 : decide ((k : Int) < (n : Int)) = true := decide_eq_true (by omega)
        have tk : ((k : Nat) : Int).toNat = k := by omega
        ((repeat (first | (with_reducible refine Vc.seq fun N hN => ?_) | (with_reducible refine Vc.block ?_) | ((first | with_reducible refine Vc.skip ?_ | with_reducible refine Vc.exit ?_); dsimp only [thenK, blockK, Nat.beq]; (first | (refine hN _ _ ?_; clear hN N) | skip)) | (with_reducible intro _) | ((with_reducible refine And.intro ?_ ?_); (focus (first | exact sideQ | exact sd0))) | ((first | ((with_reducible refine askT_of ?_ (fun hb => ?_)); (focus (first | exact sideQ | exact sd0)); (try simp only [hb])) | ((with_reducible refine Vc.fin ?_); dsimp only [thenK, blockK, retK, resS, resOne, resAll]) | ((with_reducible refine Vc.hold ?_); first | refine Vc.regiont T0_ok GDH_ok ?_)); (try simp only [v8X, v8A, v8B, v8C, Nat.beq, Nat.ble, Int.reduceToNat, Int.reduceLE, Int.reduceLT, Nat.reduceLT, Nat.reduceLeDiff, Nat.reduceAdd, Nat.reduceMul, Nat.reduceSub, Int.reduceAdd, Int.reduceSub, Int.reduceMul, eq_self, decide_true, beq_self_eq_true, List.length_cons, List.length_nil, Nat.min_eq_left, IntKind.bits, tabs, GDH_set, e0]); (try simp (disch := omega) only [v8W])) | ((with_reducible refine hN _ _ ?_); clear hN N; (try simp (disch := omega) only [v8W])))); (try ((with_reducible refine Fin.of ?_); (try with_reducible exact True.intro))))
        (refine Vc.cond T0_ok (t := true) (by rfl) (fun _ => ?_) (fun h => Bool.noConfusion h))
        have e1 := List.getElem?_eq_getElem (show k < us.length by omega)
        have hga := getD_get 0 (show k < us.length by omega)
        rw [e1] at hga
        have hga' : us.getD k 0 = us[k] := (Option.some.inj hga).symm
        generalize us[k] = b at *
        have u4 : (bytI b 32).take 32 = bytI b 32 := List.take_of_length_le (by rw [bytI_len]; exact Nat.le_refl _)
        have z1 : (us.take k).map wRow ++ [wRow b] = (us.take (k + 1)).map wRow := by rw [take_more e1, List.map_append]; rfl
        have z2 : (List.replicate k false).map SV.bool ++ [SV.bool false] = (List.replicate (k + 1) false).map SV.bool := by rw [List.replicate_succ', List.map_append]; rfl
        have z3 : wB (us.take k) ++ bytI b 32 = wB (us.take (k + 1)) := by rw [take_more e1]; unfold wB; rw [List.flatMap_append]; simp
        ((repeat (first | (with_reducible refine Vc.seq fun N hN => ?_) | (with_reducible refine Vc.block ?_) | ((first | with_reducible refine Vc.skip ?_ | with_reducible refine Vc.exit ?_); dsimp only [thenK, blockK, Nat.beq]; (first | (refine hN _ _ ?_; clear hN N) | skip)) | (with_reducible intro _) | ((with_reducible refine And.intro ?_ ?_); (focus (first | exact sideQ | exact sd0))) | ((first | ((with_reducible refine askT_of ?_ (fun hb => ?_)); (focus (first | exact sideQ | exact sd0)); (try simp only [hb])) | ((with_reducible refine Vc.fin ?_); dsimp only [thenK, blockK, retK, resS, resOne, resAll]) | ((with_reducible refine Vc.hold ?_); first | refine Vc.regiont T0_ok GDH_ok ?_)); (try simp only [v8X, v8A, v8B, v8C, Nat.beq, Nat.ble, Int.reduceToNat, Int.reduceLE, Int.reduceLT, Nat.reduceLT, Nat.reduceLeDiff, Nat.reduceAdd, Nat.reduceMul, Nat.reduceSub, Int.reduceAdd, Int.reduceSub, Int.reduceMul, eq_self, decide_true, beq_self_eq_true, List.length_cons, List.length_nil, Nat.min_eq_left, IntKind.bits, tabs, GDH_set, e0, tk, hga', u4, bytI_len, List.drop_zero]); (try simp (disch := omega) only [v8W])) | ((with_reducible refine hN _ _ ?_); clear hN N; (try simp (disch := omega) only [v8W])))); (try ((with_reducible refine Fin.of ?_); (try with_reducible exact True.intro))))
        rename_i _ v3' _ v4' _ v5'
        refine ⟨(k + 1, v3', v4', v5'), by simp only; omega, ?_, ?_, by simp only; omega⟩
        · ((try simp only [v8X, v8A, v8B, v8C, Nat.beq, Nat.ble, Int.reduceToNat, Int.reduceLE, Int.reduceLT, Nat.reduceLT, Nat.reduceLeDiff, Nat.reduceAdd, Nat.reduceMul, Nat.reduceSub, Int.reduceAdd, Int.reduceSub, Int.reduceMul, eq_self, decide_true, beq_self_eq_true, List.length_cons, List.length_nil, Nat.min_eq_left, IntKind.bits, tabs]); (repeat' with_reducible apply And.intro) <;> first | with_reducible exact True.intro | (congr 1 <;> omega) | (congr 1 <;> omega))
        · simp only [List.take_succ_cons, List.take_zero]
          rw [← z1, ← z2, ← z3]
          ((try simp only [v8X, v8A, v8B, v8C, Nat.beq, Nat.ble, Int.reduceToNat, Int.reduceLE, Int.reduceLT, Nat.reduceLT, Nat.reduceLeDiff, Nat.reduceAdd, Nat.reduceMul, Nat.reduceSub, Int.reduceAdd, Int.reduceSub, Int.reduceMul, eq_self, decide_true, beq_self_eq_true, List.length_cons, List.length_nil, Nat.min_eq_left, IntKind.bits, tabs]); (repeat' with_reducible apply And.intro) <;> first | with_reducible exact True.intro | (congr 1 <;> omega) | (congr 1 <;> omega))
      · have e0 : decide ((k : Int) < (n : Int)) = false := decide_eq_false (by omega)
        obtain rfl : k = n := by omega
        ((repeat (first | (with_reducible refine Vc.seq fun N hN => ?_) | (with_reducible refine Vc.block ?_) | ((first | with_reducible refine Vc.skip ?_ | with_reducible refine Vc.exit ?_); dsimp only [thenK, blockK, Nat.beq]; (first | (refine hN _ _ ?_; clear hN N) | skip)) | (with_reducible intro _) | ((with_reducible refine And.intro ?_ ?_); (focus (first | exact sideQ | exact sd0))) | ((first | ((with_reducible refine askT_of ?_ (fun hb => ?_)); (focus (first | exact sideQ | exact sd0)); (try simp only [hb])) | ((with_reducible refine Vc.fin ?_); dsimp only [thenK, blockK, retK, resS, resOne, resAll]) | ((with_reducible refine Vc.hold ?_); first | refine Vc.regiont T0_ok GDH_ok ?_)); (try simp only [v8X, v8A, v8B, v8C, Nat.beq, Nat.ble, Int.reduceToNat, Int.reduceLE, Int.reduceLT, Nat.reduceLT, Nat.reduceLeDiff, Nat.reduceAdd, Nat.reduceMul, Nat.reduceSub, Int.reduceAdd, Int.reduceSub, Int.reduceMul, eq_self, decide_true, beq_self_eq_true, List.length_cons, List.length_nil, Nat.min_eq_left, IntKind.bits, tabs, GDH_set, e0]); (try simp (disch := omega) only [v8W])) | ((with_reducible refine hN _ _ ?_); clear hN N; (try simp (disch := omega) only [v8W])))); (try ((with_reducible refine Fin.of ?_); (try with_reducible exact True.intro))))
        (refine Vc.cond T0_ok (t := false) (by rfl) (fun h => Bool.noConfusion h) (fun _ => ?_))
        ((repeat (first | (with_reducible refine Vc.seq fun N hN => ?_) | (with_reducible refine Vc.block ?_) | ((first | with_reducible refine Vc.skip ?_ | with_reducible refine Vc.exit ?_); dsimp only [thenK, blockK, Nat.beq]; (first | (refine hN _ _ ?_; clear hN N) | skip)) | (with_reducible intro _) | ((with_reducible refine And.intro ?_ ?_); (focus (first | exact sideQ | exact sd0))) | ((first | ((with_reducible refine askT_of ?_ (fun hb => ?_)); (focus (first | exact sideQ | exact sd0)); (try simp only [hb])) | ((with_reducible refine Vc.fin ?_); dsimp only [thenK, blockK, retK, resS, resOne, resAll]) | ((with_reducible refine Vc.hold ?_); first | refine Vc.regiont T0_ok GDH_ok ?_)); (try simp only [v8X, v8A, v8B, v8C, Nat.beq, Nat.ble, Int.reduceToNat, Int.reduceLE, Int.reduceLT, Nat.reduceLT, Nat.reduceLeDiff, Nat.reduceAdd, Nat.reduceMul, Nat.reduceSub, Int.reduceAdd, Int.reduceSub, Int.reduceMul, eq_self, decide_true, beq_self_eq_true, List.length_cons, List.length_nil, Nat.min_eq_left, IntKind.bits, tabs, GDH_set]); (try simp (disch := omega) only [v8W])) | ((with_reducible refine hN _ _ ?_); clear hN N; (try simp (disch := omega) only [v8W])))); (try ((with_reducible refine Fin.of ?_); (try with_reducible exact True.intro))))
        (refine hN1 _ _ ?_; (try clear hN N); clear hN1 N1)
        have tn : us.take k = us := List.take_of_length_le (by omega)
        have hws := wsOf_rows hW
        have hro := rowsOk_w us
        have hao := allOne_map (List.replicate k false)
        have hbm := bools_map (List.replicate k false)
        have tw : (us.map wRow).take k = us.map wRow := List.take_of_length_le (by rw [List.length_map]; omega)
        have tb : ((List.replicate k false).map SV.bool).take k = (List.replicate k false).map SV.bool := List.take_of_length_le (by simp)
        have tB : (wB us).take (32 * k) = wB us := List.take_of_length_le (by rw [wB_len]; omega)
        have hwl : (wB us).length = 32 * k := by rw [wB_len, hl]
        have hlm : (us.map wRow).length = k := by rw [List.length_map]; exact hl
        have d2 : decide (wB us = wB us) = true := decide_eq_true rfl
        have hba := wB_all us
        ((repeat (first | (with_reducible refine Vc.seq fun N hN => ?_) | (with_reducible refine Vc.block ?_) | ((first | with_reducible refine Vc.skip ?_ | with_reducible refine Vc.exit ?_); dsimp only [thenK, blockK, Nat.beq]; (first | (refine hN _ _ ?_; clear hN N) | skip)) | (with_reducible intro _) | ((with_reducible refine And.intro ?_ ?_); (focus (first | ((repeat' with_reducible apply And.intro) <;> first | exact sideQ | (exact wB_all _)) | exact sd0))) | ((first | ((with_reducible refine askT_of ?_ (fun hb => ?_)); (focus (first | ((repeat' with_reducible apply And.intro) <;> first | exact sideQ | (exact wB_all _)) | exact sd0)); (try simp only [hb])) | ((with_reducible refine Vc.fin ?_); dsimp only [thenK, blockK, retK, resS, resOne, resAll]) | ((with_reducible refine Vc.hold ?_); first | refine Vc.regiont T0_ok GDH_ok ?_)); (try simp only [v8X, v8A, v8B, v8C, Nat.beq, Nat.ble, Int.reduceToNat, Int.reduceLE, Int.reduceLT, Nat.reduceLT, Nat.reduceLeDiff, Nat.reduceAdd, Nat.reduceMul, Nat.reduceSub, Int.reduceAdd, Int.reduceSub, Int.reduceMul, eq_self, decide_true, beq_self_eq_true, List.length_cons, List.length_nil, Nat.min_eq_left, IntKind.bits, tabs, GDH_set, tn, hws, hro, hao, hbm, tw, tb, tB, hwl, List.drop_zero, d2]); (try simp (disch := omega) only [v8W])) | ((with_reducible refine hN _ _ ?_); clear hN N; (try simp (disch := omega) only [v8W])))); (try ((with_reducible refine Fin.of ?_); (try with_reducible exact True.intro))))
        (refine Vc.cond T0_ok (t := false) (by rfl) (fun h => Bool.noConfusion h) (fun _ => ?_))
        by_cases hz : k = 0
        · have d3 : decide ((k : Int) = 0) = true := decide_eq_true (by omega)
          ((repeat (first | (with_reducible refine Vc.seq fun N hN => ?_) | (with_reducible refine Vc.block ?_) | ((first | with_reducible refine Vc.skip ?_ | with_reducible refine Vc.exit ?_); dsimp only [thenK, blockK, Nat.beq]; (first | (refine hN _ _ ?_; clear hN N) | skip)) | (with_reducible intro _) | ((with_reducible refine And.intro ?_ ?_); (focus (first | exact sideQ | exact sd0))) | ((first | ((with_reducible refine askT_of ?_ (fun hb => ?_)); (focus (first | exact sideQ | exact sd0)); (try simp only [hb])) | ((with_reducible refine Vc.fin ?_); dsimp only [thenK, blockK, retK, resS, resOne, resAll]) | ((with_reducible refine Vc.hold ?_); first | refine Vc.regiont T0_ok GDH_ok ?_)); (try simp only [v8X, v8A, v8B, v8C, Nat.beq, Nat.ble, Int.reduceToNat, Int.reduceLE, Int.reduceLT, Nat.reduceLT, Nat.reduceLeDiff, Nat.reduceAdd, Nat.reduceMul, Nat.reduceSub, Int.reduceAdd, Int.reduceSub, Int.reduceMul, eq_self, decide_true, beq_self_eq_true, List.length_cons, List.length_nil, Nat.min_eq_left, IntKind.bits, tabs, GDH_set, d3]); (try simp (disch := omega) only [v8W])) | ((with_reducible refine hN _ _ ?_); clear hN N; (try simp (disch := omega) only [v8W])))); (try ((with_reducible refine Fin.of ?_); (try with_reducible exact True.intro))))
          (refine Vc.cond T0_ok (t := true) (by rfl) (fun _ => ?_) (fun h => Bool.noConfusion h))
          ((repeat (first | (with_reducible refine Vc.seq fun N hN => ?_) | (with_reducible refine Vc.block ?_) | ((first | with_reducible refine Vc.skip ?_ | with_reducible refine Vc.exit ?_); dsimp only [thenK, blockK, Nat.beq]; (first | (refine hN _ _ ?_; clear hN N) | skip)) | (with_reducible intro _) | ((with_reducible refine And.intro ?_ ?_); (focus (first | exact sideQ | exact sd0))) | ((first | ((with_reducible refine askT_of ?_ (fun hb => ?_)); (focus (first | exact sideQ | exact sd0)); (try simp only [hb])) | ((with_reducible refine Vc.fin ?_); dsimp only [thenK, blockK, retK, resS, resOne, resAll]) | ((with_reducible refine Vc.hold ?_); first | refine Vc.regiont T0_ok GDH_ok ?_)); (try simp only [v8X, v8A, v8B, v8C, Nat.beq, Nat.ble, Int.reduceToNat, Int.reduceLE, Int.reduceLT, Nat.reduceLT, Nat.reduceLeDiff, Nat.reduceAdd, Nat.reduceMul, Nat.reduceSub, Int.reduceAdd, Int.reduceSub, Int.reduceMul, eq_self, decide_true, beq_self_eq_true, List.length_cons, List.length_nil, Nat.min_eq_left, IntKind.bits, tabs, GDH_set]); (try simp (disch := omega) only [v8W])) | ((with_reducible refine hN _ _ ?_); clear hN N; (try simp (disch := omega) only [v8W])))); (try ((with_reducible refine Fin.of ?_); (try with_reducible exact True.intro))))
          exact ⟨by simp, trivial⟩
        · have d3 : decide ((k : Int) = 0) = false := decide_eq_false (by omega)
          have hno : abDec ((wB us).take (32 * k - 1)) (List.replicate k false) = none := if_pos (by rw [List.length_take, hwl, List.length_replicate]; omega)
          have tm : (((32 * k : Nat) : Int) - 1).toNat - 0 = 32 * k - 1 := by omega
          ((repeat (first | (with_reducible refine Vc.seq fun N hN => ?_) | (with_reducible refine Vc.block ?_) | ((first | with_reducible refine Vc.skip ?_ | with_reducible refine Vc.exit ?_); dsimp only [thenK, blockK, Nat.beq]; (first | (refine hN _ _ ?_; clear hN N) | skip)) | (with_reducible intro _) | ((with_reducible refine And.intro ?_ ?_); (focus (first | exact sideQ | exact sd0))) | ((first | ((with_reducible refine askT_of ?_ (fun hb => ?_)); (focus (first | exact sideQ | exact sd0)); (try simp only [hb])) | ((with_reducible refine Vc.fin ?_); dsimp only [thenK, blockK, retK, resS, resOne, resAll]) | ((with_reducible refine Vc.hold ?_); first | refine Vc.regiont T0_ok GDH_ok ?_)); (try simp only [v8X, v8A, v8B, v8C, Nat.beq, Nat.ble, Int.reduceToNat, Int.reduceLE, Int.reduceLT, Nat.reduceLT, Nat.reduceLeDiff, Nat.reduceAdd, Nat.reduceMul, Nat.reduceSub, Int.reduceAdd, Int.reduceSub, Int.reduceMul, eq_self, decide_true, beq_self_eq_true, List.length_cons, List.length_nil, Nat.min_eq_left, IntKind.bits, tabs, GDH_set, d3]); (try simp (disch := omega) only [v8W])) | ((with_reducible refine hN _ _ ?_); clear hN N; (try simp (disch := omega) only [v8W])))); (try ((with_reducible refine Fin.of ?_); (try with_reducible exact True.intro))))
          (refine Vc.cond T0_ok (t := false) (by rfl) (fun h => Bool.noConfusion h) (fun _ => ?_))
          ((repeat (first | (with_reducible refine Vc.seq fun N hN => ?_) | (with_reducible refine Vc.block ?_) | ((first | with_reducible refine Vc.skip ?_ | with_reducible refine Vc.exit ?_); dsimp only [thenK, blockK, Nat.beq]; (first | (refine hN _ _ ?_; clear hN N) | skip)) | (with_reducible intro _) | ((with_reducible refine And.intro ?_ ?_); (focus (first | ((repeat' with_reducible apply And.intro) <;> first | exact sideQ | (exact wB_all _) | (exact fun y hy => hba y (List.mem_of_mem_take hy)) | (simp; done)) | exact sd0))) | ((first | ((with_reducible refine askT_of ?_ (fun hb => ?_)); (focus (first | ((repeat' with_reducible apply And.intro) <;> first | exact sideQ | (exact wB_all _) | (exact fun y hy => hba y (List.mem_of_mem_take hy)) | (simp; done)) | exact sd0)); (try simp only [hb])) | ((with_reducible refine Vc.fin ?_); dsimp only [thenK, blockK, retK, resS, resOne, resAll]) | ((with_reducible refine Vc.hold ?_); first | refine Vc.regiont T0_ok GDH_ok ?_)); (try simp only [v8X, v8A, v8B, v8C, Nat.beq, Nat.ble, Int.reduceToNat, Int.reduceLE, Int.reduceLT, Nat.reduceLT, Nat.reduceLeDiff, Nat.reduceAdd, Nat.reduceMul, Nat.reduceSub, Int.reduceAdd, Int.reduceSub, Int.reduceMul, eq_self, decide_true, beq_self_eq_true, List.length_cons, List.length_nil, Nat.min_eq_left, IntKind.bits, tabs, GDH_set, tn, hws, hro, hao, hbm, tw, tb, tB, hwl, List.drop_zero, tm, hno]); (try simp (disch := omega) only [v8W])) | ((with_reducible refine hN _ _ ?_); clear hN N; (try simp (disch := omega) only [v8W])))); (try ((with_reducible refine Fin.of ?_); (try with_reducible exact True.intro))))
          exact ⟨by simp, trivial⟩
  · have d1 : decide ((50 : Int) < (n : Int)) = true := decide_eq_true (by omega)
    refine Vc.calls T0_ok Tryd.func6 rfl rfl (args := [.sl 3 a 0 0 4 n c]) (k := 62) rfl hm0 ?_; change Vc _ _ (c8 (.sl 3 a 0 0 4 n c) .undef .undef .undef .undef .undef .undef .undef (c8 .undef .undef .undef .undef .undef .undef .undef .undef (c8 .undef .undef .undef .undef .undef .undef .undef .undef (c8 .undef .undef .undef .undef .undef .undef .undef .undef (c8 .undef .undef .undef .undef .undef .undef .undef .undef (c8 .undef .undef .undef .undef .undef .undef .undef .undef (c8 .undef .undef .undef .undef .undef .undef .undef .undef ([.undef, .undef, .undef, .undef, .undef, .undef, .undef])))))))) _ _
    ((repeat (first | (with_reducible refine Vc.seq fun N hN => ?_) | (with_reducible refine Vc.block ?_) | ((first | with_reducible refine Vc.skip ?_ | with_reducible refine Vc.exit ?_); dsimp only [thenK, blockK, Nat.beq]; (first | (refine hN _ _ ?_; clear hN N) | skip)) | (with_reducible intro _) | ((with_reducible refine And.intro ?_ ?_); (focus (first | exact sideQ | exact sd0))) | ((first | ((with_reducible refine askT_of ?_ (fun hb => ?_)); (focus (first | exact sideQ | exact sd0)); (try simp only [hb])) | ((with_reducible refine Vc.fin ?_); dsimp only [thenK, blockK, retK, resS, resOne, resAll]) | ((with_reducible refine Vc.hold ?_); first | refine Vc.regiont T0_ok GDH_ok ?_)); (try simp only [v8X, v8A, v8B, v8C, Nat.beq, Nat.ble, Int.reduceToNat, Int.reduceLE, Int.reduceLT, Nat.reduceLT, Nat.reduceLeDiff, Nat.reduceAdd, Nat.reduceMul, Nat.reduceSub, Int.reduceAdd, Int.reduceSub, Int.reduceMul, eq_self, decide_true, beq_self_eq_true, List.length_cons, List.length_nil, Nat.min_eq_left, IntKind.bits, tabs, GDH_set, d1]); (try simp (disch := omega) only [v8W])) | ((with_reducible refine hN _ _ ?_); clear hN N; (try simp (disch := omega) only [v8W])))); (try ((with_reducible refine Fin.of ?_); (try with_reducible exact True.intro))))
    (refine Vc.cond T0_ok (t := true) (by rfl) (fun _ => ?_) (fun h => Bool.noConfusion h))
    ((repeat (first | (with_reducible refine Vc.seq fun N hN => ?_) | (with_reducible refine Vc.block ?_) | ((first | with_reducible refine Vc.skip ?_ | with_reducible refine Vc.exit ?_); dsimp only [thenK, blockK, Nat.beq]; (first | (refine hN _ _ ?_; clear hN N) | skip)) | (with_reducible intro _) | ((with_reducible refine And.intro ?_ ?_); (focus (first | exact sideQ | exact sd0))) | ((first | ((with_reducible refine askT_of ?_ (fun hb => ?_)); (focus (first | exact sideQ | exact sd0)); (try simp only [hb])) | ((with_reducible refine Vc.fin ?_); dsimp only [thenK, blockK, retK, resS, resOne, resAll]) | ((with_reducible refine Vc.hold ?_); first | refine Vc.regiont T0_ok GDH_ok ?_)); (try simp only [v8X, v8A, v8B, v8C, Nat.beq, Nat.ble, Int.reduceToNat, Int.reduceLE, Int.reduceLT, Nat.reduceLT, Nat.reduceLeDiff, Nat.reduceAdd, Nat.reduceMul, Nat.reduceSub, Int.reduceAdd, Int.reduceSub, Int.reduceMul, eq_self, decide_true, beq_self_eq_true, List.length_cons, List.length_nil, Nat.min_eq_left, IntKind.bits, tabs, GDH_set]); (try simp (disch := omega) only [v8W])) | ((with_reducible refine hN _ _ ?_); clear hN N; (try simp (disch := omega) only [v8W])))); (try ((with_reducible refine Fin.of ?_); (try with_reducible exact True.intro))))
    exact ⟨by simp, trivial⟩
end Go.Proofs.YtdkhlcoklihpfaaDoor
