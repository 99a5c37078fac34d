/-
  The law AbiBack of package quaestorlaw05 answers true for all parts and all bytes, and leaves them as they were. No condition.
-/
import Derived.Test.YtdkhlcoklihpfaaDoorDM
import Derived.Test.YtdkhlcoklihpfaaDoorFV2
namespace Go.Proofs.YtdkhlcoklihpfaaDoor
set_option linter.unusedSimpArgs false
set_option linter.unusedVariables false
set_option maxHeartbeats 4000000
set_option maxRecDepth 10000
set_option linter.defProp false
open Go.RowKit Go.ChangeShapes Go.WideShapes Go.ChangeAt
noncomputable def GDN : Ctr := fun f args m => match f with
  | 12 => g_abEnc args m
  | 17 => g_Dec args m
  | 10 => g_alK args m
  | 9 => g_much args m
  | 19 => g_SameP args m
  | _ => .none
theorem GDN_ok : GOk Tryd.prog GDN := by
  intro w0 B f args m; unfold GDN; split
  · exact g_abEnc_ok _ _ _ _
  · exact g_Dec_ok _ _ _ _
  · exact g_alK_ok _ _ _ _
  · exact g_much_ok _ _ _ _
  · exact g_SameP_ok _ _ _ _
  · exact trivial
theorem GDN_abEnc : GDN 12 = g_abEnc := by funext args m; rfl
theorem GDN_Dec : GDN 17 = g_Dec := by funext args m; rfl
theorem GDN_alK : GDN 10 = g_alK := by funext args m; rfl
theorem GDN_much : GDN 9 = g_much := by funext args m; rfl
theorem GDN_SameP : GDN 19 = g_SameP := by funext args m; rfl
def GDN_set := And.intro (And.intro (And.intro (@GDN_abEnc) (@g_abEnc.eq_def)) (And.intro (@GDN_Dec) (And.intro (@g_Dec.eq_def) (@GDN_alK)))) (And.intro (And.intro (@g_alK.eq_def) (@GDN_much)) (And.intro (@g_much.eq_def) (And.intro (@GDN_SameP) (@g_SameP.eq_def))))

theorem Vc.nilownC {P : Program} {c : Code} {env : List SV} {m : List Blk} {K : Kont} (i : Nat) (t : TypeId) (h0 : sget env i = .nilsl)
    (h : Vc P c (sset env i (.own (blen m) (.slice none 0 0) 0)) (bpush m (.own (.slice none 0 0) 0 t 1 (.cells []))) K) : Vc P c env m K := by
  intro w0 B a w hf hd hm
  refine h w0 B a w (by unfold Fr at *; rw [cvs_sset_same env i (by rw [h0]; rfl)]; exact hf) hd ?_
  rw [bpush_eq]
  refine hm.push (grown_refl w) ⟨⟨by simp [cc, cvs], .inl ⟨rfl, rfl⟩⟩, fun b hb => by simp [Value.ownBlock] at hb⟩ (fun b hb => ?_)
  simp [Blk.nums, Value.ownBlock] at hb
theorem Vc.nilownS {P : Program} {c : Code} {env : List SV} {m : List Blk} {K : Kont} (i : Nat) (t : TypeId) (es : Nat) (h0 : sget env i = .nilsl)
    (h : Vc P c (sset env i (.own (blen m) (.slice none 0 0) 0)) (bpush m (.own (.slice none 0 0) 0 t es (.rows es []))) K) : Vc P c env m K := by
  intro w0 B a w hf hd hm
  refine h w0 B a w (by unfold Fr at *; rw [cvs_sset_same env i (by rw [h0]; rfl)]; exact hf) hd ?_
  rw [bpush_eq]
  refine hm.push (grown_refl w) ⟨⟨by simp [cc], .inl ⟨rfl, rfl⟩⟩, fun b hb => by simp [Value.ownBlock] at hb⟩ (fun b hb => ?_)
  simp [Blk.nums, Value.ownBlock] at hb
/-- A part's cells, as they are wanted. -/
def wnt (r : List SV) (p : Prt) : List SV :=
  if p.d = true then [.bool true, .int .u64 0, .int .u64 0, .int .u64 0, .int .u64 0, sget r 5] else [.bool false, .int .u64 (lm p.w 0 : Nat), .int .u64 (lm p.w 1 : Nat), .int .u64 (lm p.w 2 : Nat), .int .u64 (lm p.w 3 : Nat), .nilsl]
theorem wnt_6 (r : List SV) (p : Prt) : (wnt r p).length = 6 := by unfold wnt; split <;> rfl
theorem wnt_fix {H : Nat → Obj → Prop} {r : List SV} {p : Prt} (h : PtR H r p) (hw : p.w < W) : PtR H (fixR (wnt r p)) (nrm p) := by
  obtain ⟨x0, x1, x2, x3, a, n, c, rfl, g1, g2, g3, g4, g5, g6, g7, g8⟩ := h
  unfold wnt nrm
  cases hd : p.d with
  | true => rw [if_pos rfl, if_pos rfl]; exact ⟨0, 0, 0, 0, a, n, c, rfl, by simp [allU], rfl, g3, g4, g5, g6, g7, g8⟩
  | false =>
    rw [if_neg (by simp), if_neg (by simp)]
    exact ⟨_, _, _, _, none, 0, 0, rfl, allU_lmI p.w, numI_lmI hw, rfl, Nat.le_refl _, .inr ⟨rfl, rfl, rfl⟩, .inl rfl, (fun y hy => absurd hy List.not_mem_nil), Nat.zero_le _⟩
theorem wnt_all {H : Nat → Obj → Prop} {rs : List (List SV)} {l : List Prt} (h : PsR H rs l) : PsR H ((List.zipWith wnt rs l).map fixR) (l.map nrm) := by
  have hlt := h.lt
  obtain ⟨h1, h2, h3⟩ := h
  refine ⟨by simp [h1], fun r hr => ?_, fun i r p hr hp => ?_⟩
  · obtain ⟨r0, hr0, rfl⟩ := List.mem_map.1 hr
    have := congrArg List.length (cvs_fixR r0)
    obtain ⟨i, hi⟩ := List.getElem?_of_mem hr0
    rw [List.getElem?_zipWith] at hi
    rw [cvs_len, cvs_len] at this
    rw [this]
    split at hi
    · cases hi; exact wnt_6 _ _
    · cases hi
  · rw [List.getElem?_map, List.getElem?_zipWith] at hr
    rw [List.getElem?_map] at hp
    cases hp0 : l[i]? with
    | none => rw [hp0] at hp; cases hp
    | some p0 =>
      cases hr0 : rs[i]? with
      | none => rw [hr0] at hr; simp at hr
      | some r0 =>
        rw [hp0] at hp; rw [hr0, hp0] at hr
        cases hp; cases hr
        exact wnt_fix (h3 i r0 p0 hr0 hp0) (hlt p0 (List.mem_of_getElem? hp0))
theorem oneRow {H : Nat → Obj → Prop} {r : List SV} {p : Prt} (h : PtR H r p) : allOne (wnt r p) = true := by
  obtain ⟨x0, x1, x2, x3, a, n, c, rfl, _⟩ := h
  unfold wnt; split <;> rfl
theorem rowsOk_all : ∀ {L : List (List SV)}, (∀ r ∈ L, r.length = 6 ∧ allOne r = true) → rowsOk 6 L = true
  | [], _ => rfl
  | r :: L, h => by
    have h1 := h r List.mem_cons_self
    simp only [rowsOk, h1.1, h1.2, rowsOk_all fun x hx => h x (List.mem_cons_of_mem _ hx)]
theorem wnt_rows {H : Nat → Obj → Prop} {rs : List (List SV)} {l : List Prt} (h : PsR H rs l) : ∀ r ∈ List.zipWith wnt rs l, r.length = 6 ∧ allOne r = true := fun r hr => by
  obtain ⟨i, hi⟩ := List.getElem?_of_mem hr
  rw [List.getElem?_zipWith] at hi
  split at hi
  · rename_i a b ha hb
    cases hi
    exact ⟨wnt_6 _ _, oneRow (h.2.2 i _ _ ha hb)⟩
  · cases hi
theorem PdsR.ok {H : Nat → Obj → Prop} {rs : List (List SV)} {l : List Prt} (h : PdsR H rs l) : rowsOk 6 rs = true := by
  refine rowsOk_all fun r hr => ?_
  obtain ⟨i, hi⟩ := List.getElem?_of_mem hr
  have hlt := (List.getElem?_eq_some_iff.1 hi).1
  have e2 := List.getElem?_eq_getElem (show i < l.length by rw [← h.1]; exact hlt)
  refine ⟨h.2.1 r hr, ?_⟩
  rcases h.2.2 i r _ hi e2 with ⟨_, _, e⟩ | ⟨_, _, a, c, e, _⟩ <;> (rw [e]; rfl)
theorem enc_bound (l : List Prt) : (abEnc l).length ≤ 32 * l.length + 64 * psz l ∧ (abEnc l).length % 32 = 0 := by
  have := encS_len l.length l
  unfold abEnc; rw [List.length_append]; omega
set_option maxRecDepth 20000 in
theorem back_law (a : Option Addr) (n c : Nat) (rs : List (List SV)) (l : List Prt) (hl : l.length = n) (hn : n ≤ c) (ha : adr a n c) (hm : n ≤ maxLen) (ma : Option Addr) (mn mc : Nat) (ys : List Int) (yl : ys.length = mn) (yn : mn ≤ mc) (ya : adr ma mn mc) (hy : allB ys) (ym : mn ≤ maxLen) (w : World)
    (h1 : MemOk w [] [.ro (some ⟨1, 0, none⟩) (.ints .u64 kKeys)] w) (h2 : MemOk w [] [.ro (some ⟨2, 0, none⟩) (.ints .u8 kPathI)] w) (h3 : MemOk w [] [.ro (some ⟨0, 0, none⟩) (.cells [.raw eTy])] w)
    (hL : LiesH (H0 w) a (cc (.rows 6 rs))) (hR : PsR (H0 w) rs l) (hY : LiesH (H0 w) ma (cc (.ints .u8 ys))) :
    Calls Tryd.prog 5 (cvs [.gh a n c (.rows 6 rs), .gh ma mn mc (.ints .u8 ys)]).toArray w (Yes w) := by
  have hm1 := hm
  unfold maxLen at hm ym
  have hLx : ∀ m, allOld w ∈ m → LiesH (HM m) a (cc (.rows 6 rs)) := fun m hin => hL.mono (H0.hm hin)
  have hLy : ∀ m, allOld w ∈ m → LiesH (HM m) ma (cc (.ints .u8 ys)) := fun m hin => hY.mono (H0.hm hin)
  have hlo := lOf_eq hR
  have hPm : ∀ M, allOld w ∈ M → ∃ l, PsR (HM M) rs l ∧ l.length = n ∧ n ≤ c ∧ adr a n c ∧ n ≤ maxLen ∧ LiesH (HM M) a (cc (.rows 6 rs)) := fun M hin => ⟨l, hR.mono (H0.hm hin), hl, hn, ha, hm1, hLx M hin⟩
  have hm0 : MemOk w [] [.ro (some ⟨1, 0, none⟩) (.ints .u64 kKeys), .ro (some ⟨2, 0, none⟩) (.ints .u8 kPathI), .ro (some ⟨0, 0, none⟩) (.cells [.raw eTy]), allOld w] w := ro_front (ro_front (ro_front (old_start w) h3) h2) h1
  cases hmu : muA l with
  | true =>
    refine Vc.calls T0_ok Tryd.func5 rfl rfl (args := [.gh a n c (.rows 6 rs), .gh ma mn mc (.ints .u8 ys)]) (k := 103) rfl hm0 ?_; change Vc _ _ (c8 (.gh a n c (.rows 6 rs)) (.gh ma mn mc (.ints .u8 ys)) .undef .undef .undef .undef .undef .undef (c8 .undef .undef .undef .undef .undef .undef .undef .undef (c8 .undef .undef .undef .undef .undef .undef .undef .undef (c8 .undef .undef .undef .undef .undef .undef .undef .undef (c8 .undef .undef .undef .undef .undef .undef .undef .undef (c8 .undef .undef .undef .undef .undef .undef .undef .undef (c8 .undef .undef .undef .undef .undef .undef .undef .undef (c8 .undef .undef .undef .undef .undef .undef .undef .undef (c8 .undef .undef .undef .undef .undef .undef .undef .undef (c8 .undef .undef .undef .undef .undef .undef .undef .undef (c8 .undef .undef .undef .undef .undef .undef .undef .undef (c8 .undef .undef .undef .undef .undef .undef .undef .undef (c8 .undef .undef .undef .undef .undef .undef .undef .undef ([.undef])))))))))))))) _ _
    ((repeat (first | (with_reducible refine Vc.seq fun N hN => ?_) | (with_reducible refine Vc.block ?_) | ((first | with_reducible refine Vc.skip ?_ | with_reducible refine Vc.exit ?_); dsimp only [thenK, blockK, Nat.beq]; (first | (refine hN _ _ ?_; clear hN N) | skip)) | (with_reducible intro _) | ((with_reducible refine And.intro ?_ ?_); (focus (first | ((repeat' with_reducible apply And.intro) <;> first | exact sideQ | (exact hPm _ (by simp)) | (exact hLx _ (by simp)) | (exact hLy _ (by simp))) | exact sd0))) | ((first | ((with_reducible refine askT_of ?_ (fun hb => ?_)); (focus (first | ((repeat' with_reducible apply And.intro) <;> first | exact sideQ | (exact hPm _ (by simp)) | (exact hLx _ (by simp)) | (exact hLy _ (by simp))) | exact sd0)); (try simp only [hb])) | ((with_reducible refine Vc.fin ?_); dsimp only [thenK, blockK, retK, resS, resOne, resAll]) | ((with_reducible refine Vc.hold ?_); first | refine Vc.regiont T0_ok GDN_ok ?_)); (try simp only [v8X, v8A, v8B, v8C, Nat.beq, Nat.ble, Int.reduceToNat, Int.reduceLE, Int.reduceLT, Nat.reduceLT, Nat.reduceLeDiff, Nat.reduceAdd, Nat.reduceMul, Nat.reduceSub, Int.reduceAdd, Int.reduceSub, Int.reduceMul, eq_self, decide_true, beq_self_eq_true, List.length_cons, List.length_nil, Nat.min_eq_left, IntKind.bits, tabs, GDN_set, hlo, hmu]); (try simp (disch := omega) only [v8W])) | ((with_reducible refine hN _ _ ?_); clear hN N; (try simp (disch := omega) only [v8W])))); (try ((with_reducible refine Fin.of ?_); (try with_reducible exact True.intro))))
    (refine Vc.cond T0_ok (t := true) (by rfl) (fun _ => ?_) (fun h => Bool.noConfusion h))
    ((repeat (first | (with_reducible refine Vc.seq fun N hN => ?_) | (with_reducible refine Vc.block ?_) | ((first | with_reducible refine Vc.skip ?_ | with_reducible refine Vc.exit ?_); dsimp only [thenK, blockK, Nat.beq]; (first | (refine hN _ _ ?_; clear hN N) | skip)) | (with_reducible intro _) | ((with_reducible refine And.intro ?_ ?_); (focus (first | exact sideQ | exact sd0))) | ((first | ((with_reducible refine askT_of ?_ (fun hb => ?_)); (focus (first | exact sideQ | exact sd0)); (try simp only [hb])) | ((with_reducible refine Vc.fin ?_); dsimp only [thenK, blockK, retK, resS, resOne, resAll]) | ((with_reducible refine Vc.hold ?_); first | refine Vc.regiont T0_ok GDN_ok ?_)); (try simp only [v8X, v8A, v8B, v8C, Nat.beq, Nat.ble, Int.reduceToNat, Int.reduceLE, Int.reduceLT, Nat.reduceLT, Nat.reduceLeDiff, Nat.reduceAdd, Nat.reduceMul, Nat.reduceSub, Int.reduceAdd, Int.reduceSub, Int.reduceMul, eq_self, decide_true, beq_self_eq_true, List.length_cons, List.length_nil, Nat.min_eq_left, IntKind.bits, tabs, GDN_set]); (try simp (disch := omega) only [v8W])) | ((with_reducible refine hN _ _ ?_); clear hN N; (try simp (disch := omega) only [v8W])))); (try ((with_reducible refine Fin.of ?_); (try with_reducible exact True.intro))))
    exact ⟨by simp, trivial⟩
  | false =>
    by_cases c1 : mn ≤ 2000
    · have d1 : decide ((2000 : Int) < (mn : Int)) = false := decide_eq_false (by omega)
      obtain ⟨hz, hl2⟩ := muA_no hmu
      have hR0 := hR
      obtain ⟨r1, r2, r3⟩ := hR
      refine Vc.calls T0_ok Tryd.func5 rfl rfl (args := [.gh a n c (.rows 6 rs), .gh ma mn mc (.ints .u8 ys)]) (k := 103) rfl hm0 ?_; change Vc _ _ (c8 (.gh a n c (.rows 6 rs)) (.gh ma mn mc (.ints .u8 ys)) .undef .undef .undef .undef .undef .undef (c8 .undef .undef .undef .undef .undef .undef .undef .undef (c8 .undef .undef .undef .undef .undef .undef .undef .undef (c8 .undef .undef .undef .undef .undef .undef .undef .undef (c8 .undef .undef .undef .undef .undef .undef .undef .undef (c8 .undef .undef .undef .undef .undef .undef .undef .undef (c8 .undef .undef .undef .undef .undef .undef .undef .undef (c8 .undef .undef .undef .undef .undef .undef .undef .undef (c8 .undef .undef .undef .undef .undef .undef .undef .undef (c8 .undef .undef .undef .undef .undef .undef .undef .undef (c8 .undef .undef .undef .undef .undef .undef .undef .undef (c8 .undef .undef .undef .undef .undef .undef .undef .undef (c8 .undef .undef .undef .undef .undef .undef .undef .undef ([.undef])))))))))))))) _ _
      ((repeat (first | (with_reducible refine Vc.seq fun N hN => ?_) | (with_reducible refine Vc.block ?_) | ((first | with_reducible refine Vc.skip ?_ | with_reducible refine Vc.exit ?_); dsimp only [thenK, blockK, Nat.beq]; (first | (refine hN _ _ ?_; clear hN N) | skip)) | (with_reducible intro _) | ((with_reducible refine And.intro ?_ ?_); (focus (first | ((repeat' with_reducible apply And.intro) <;> first | exact sideQ | (exact hPm _ (by simp)) | (exact hLx _ (by simp)) | (exact hLy _ (by simp))) | exact sd0))) | ((first | ((with_reducible refine askT_of ?_ (fun hb => ?_)); (focus (first | ((repeat' with_reducible apply And.intro) <;> first | exact sideQ | (exact hPm _ (by simp)) | (exact hLx _ (by simp)) | (exact hLy _ (by simp))) | exact sd0)); (try simp only [hb])) | ((with_reducible refine Vc.fin ?_); dsimp only [thenK, blockK, retK, resS, resOne, resAll]) | ((with_reducible refine Vc.hold ?_); first | refine Vc.regiont T0_ok GDN_ok ?_)); (try simp only [v8X, v8A, v8B, v8C, Nat.beq, Nat.ble, Int.reduceToNat, Int.reduceLE, Int.reduceLT, Nat.reduceLT, Nat.reduceLeDiff, Nat.reduceAdd, Nat.reduceMul, Nat.reduceSub, Int.reduceAdd, Int.reduceSub, Int.reduceMul, eq_self, decide_true, beq_self_eq_true, List.length_cons, List.length_nil, Nat.min_eq_left, IntKind.bits, tabs, GDN_set, hlo, hmu, d1]); (try simp (disch := omega) only [v8W])) | ((with_reducible refine hN _ _ ?_); clear hN N; (try simp (disch := omega) only [v8W])))); (try ((with_reducible refine Fin.of ?_); (try with_reducible exact True.intro))))
      (refine Vc.cond T0_ok (t := false) (by rfl) (fun h => Bool.noConfusion h) (fun _ => ?_))
      ((repeat (first | (with_reducible refine Vc.seq fun N hN => ?_) | (with_reducible refine Vc.block ?_) | ((first | with_reducible refine Vc.skip ?_ | with_reducible refine Vc.exit ?_); dsimp only [thenK, blockK, Nat.beq]; (first | (refine hN _ _ ?_; clear hN N) | skip)) | (with_reducible intro _) | ((with_reducible refine And.intro ?_ ?_); (focus (first | exact sideQ | exact sd0))) | ((first | ((with_reducible refine askT_of ?_ (fun hb => ?_)); (focus (first | exact sideQ | exact sd0)); (try simp only [hb])) | ((with_reducible refine Vc.fin ?_); dsimp only [thenK, blockK, retK, resS, resOne, resAll]) | ((with_reducible refine Vc.hold ?_); first | refine Vc.regiont T0_ok GDN_ok ?_)); (try simp only [v8X, v8A, v8B, v8C, Nat.beq, Nat.ble, Int.reduceToNat, Int.reduceLE, Int.reduceLT, Nat.reduceLT, Nat.reduceLeDiff, Nat.reduceAdd, Nat.reduceMul, Nat.reduceSub, Int.reduceAdd, Int.reduceSub, Int.reduceMul, eq_self, decide_true, beq_self_eq_true, List.length_cons, List.length_nil, Nat.min_eq_left, IntKind.bits, tabs, GDN_set, ]); (try simp (disch := omega) only [v8W])) | ((with_reducible refine hN _ _ ?_); clear hN N; (try simp (disch := omega) only [v8W])))); (try ((with_reducible refine Fin.of ?_); (try with_reducible exact True.intro))))
      (revert N; intro N1 hN1)
      refine Vc.nilownC 5 4 rfl ?_
      refine Vc.nilownS 6 44 6 rfl ?_
      (simp only [v8X, v8A, v8B, v8C, Nat.beq, Nat.ble, Int.reduceToNat, Int.reduceLE, Int.reduceLT, Nat.reduceLT, Nat.reduceLeDiff, Nat.reduceAdd, Nat.reduceMul, Nat.reduceSub, Int.reduceAdd, Int.reduceSub, Int.reduceMul, eq_self, decide_true, beq_self_eq_true, List.length_cons, List.length_nil, Nat.min_eq_left, IntKind.bits, tabs])
      refine Vc.loop 5 105 (fun (x : Nat × Value × Value) => [(5, .own 4 x.2.1 x.1), (6, .own 5 x.2.2 x.1), (7, .int .i64 (x.1 : Nat))]) (fun x => [.ro (some ⟨1, 0, none⟩) (.ints .u64 kKeys), .ro (some ⟨2, 0, none⟩) (.ints .u8 kPathI), .ro (some ⟨0, 0, none⟩) (.cells [.raw eTy]), allOld w, .own x.2.1 x.1 4 1 (.cells (((l.take x.1).map fun p => p.d).map .bool)), .own x.2.2 x.1 44 6 (.rows 6 ((List.zipWith wnt rs l).take x.1))]) (fun x => x.1 ≤ n) (fun x => n - x.1) (0, .slice none 0 0, .slice none 0 0) ⟨Nat.zero_le _, ?_, ?_⟩ (fun x junk hk1 => ?_)
      · ((try simp only [v8X, v8A, v8B, v8C, Nat.beq, Nat.ble, Int.reduceToNat, Int.reduceLE, Int.reduceLT, Nat.reduceLT, Nat.reduceLeDiff, Nat.reduceAdd, Nat.reduceMul, Nat.reduceSub, Int.reduceAdd, Int.reduceSub, Int.reduceMul, eq_self, decide_true, beq_self_eq_true, List.length_cons, List.length_nil, Nat.min_eq_left, IntKind.bits, tabs]); (repeat' with_reducible apply And.intro) <;> first | with_reducible exact True.intro | rfl | with_reducible rfl | (congr 1 <;> omega) | trivial)
      · ((try simp only [v8X, v8A, v8B, v8C, Nat.beq, Nat.ble, Int.reduceToNat, Int.reduceLE, Int.reduceLT, Nat.reduceLT, Nat.reduceLeDiff, Nat.reduceAdd, Nat.reduceMul, Nat.reduceSub, Int.reduceAdd, Int.reduceSub, Int.reduceMul, eq_self, decide_true, beq_self_eq_true, List.length_cons, List.length_nil, Nat.min_eq_left, IntKind.bits, tabs]); (repeat' with_reducible apply And.intro) <;> first | with_reducible exact True.intro | rfl | with_reducible rfl | (congr 1 <;> omega) | trivial)
      · obtain ⟨k, v5, v6⟩ := x
        simp only at hk1 ⊢
        (simp only [v8X, v8A, v8B, v8C, Nat.beq, Nat.ble, Int.reduceToNat, Int.reduceLE, Int.reduceLT, Nat.reduceLT, Nat.reduceLeDiff, Nat.reduceAdd, Nat.reduceMul, Nat.reduceSub, Int.reduceAdd, Int.reduceSub, Int.reduceMul, eq_self, decide_true, beq_self_eq_true, List.length_cons, List.length_nil, Nat.min_eq_left, IntKind.bits, tabs])
        by_cases hc1 : k < n
        · have e0 : decide ((k : Int) < (n : Int)) = true := decide_eq_true (by omega)
          have tk : ((k : Nat) : Int).toNat = k := by omega
          have e1 := List.getElem?_eq_getElem (show k < rs.length by omega)
          have e2 := List.getElem?_eq_getElem (show k < l.length by omega)
          have hp := r3 k _ _ e1 e2
          have hgd := getD_of e1
          have hzw : (List.zipWith wnt rs l)[k]? = some (wnt rs[k] l[k]) := by rw [List.getElem?_zipWith, e1, e2]
          generalize rs[k] = r at *
          generalize l[k] = p at *
          have z3 := take_more hzw
          obtain ⟨x0, x1, x2, x3, pa, pn, pc, rfl, g1, g2, g3, g4, g5, g6, g7, g8⟩ := hp
          have hLp : ∀ m, allOld w ∈ m → LiesH (HM m) pa (cc (.ints .u8 p.bs)) := fun m hin => g6.mono (H0.hm hin)
          have z2 : ((l.take k).map fun p => p.d).map SV.bool ++ [SV.bool p.d] = ((l.take (k + 1)).map fun p => p.d).map SV.bool := by rw [take_more e2, List.map_append, List.map_append]; rfl
          cases hd : p.d with
          | true =>
            have hwt : wnt [.bool p.d, .int .u64 x0, .int .u64 x1, .int .u64 x2, .int .u64 x3, .gh pa pn pc (.ints .u8 p.bs)] p = [.bool true, .int .u64 0, .int .u64 0, .int .u64 0, .int .u64 0, .gh pa pn pc (.ints .u8 p.bs)] := if_pos hd
            rw [hwt] at z3
            rw [hd] at z2 hgd
            ((repeat (first | (with_reducible refine Vc.seq fun N hN => ?_) | (with_reducible refine Vc.block ?_) | ((first | with_reducible refine Vc.skip ?_ | with_reducible refine Vc.exit ?_); dsimp only [thenK, blockK, Nat.beq]; (first | (refine hN _ _ ?_; clear hN N) | skip)) | (with_reducible intro _) | ((with_reducible refine And.intro ?_ ?_); (focus (first | exact sideQ | exact sd0))) | ((first | ((with_reducible refine askT_of ?_ (fun hb => ?_)); (focus (first | exact sideQ | exact sd0)); (try simp only [hb])) | ((with_reducible refine Vc.fin ?_); dsimp only [thenK, blockK, retK, resS, resOne, resAll]) | ((with_reducible refine Vc.hold ?_); first | refine Vc.regiont T0_ok GDN_ok ?_)); (try simp only [v8X, v8A, v8B, v8C, Nat.beq, Nat.ble, Int.reduceToNat, Int.reduceLE, Int.reduceLT, Nat.reduceLT, Nat.reduceLeDiff, Nat.reduceAdd, Nat.reduceMul, Nat.reduceSub, Int.reduceAdd, Int.reduceSub, Int.reduceMul, eq_self, decide_true, beq_self_eq_true, List.length_cons, List.length_nil, Nat.min_eq_left, IntKind.bits, tabs, GDN_set, e0]); (try simp (disch := omega) only [v8W])) | ((with_reducible refine hN _ _ ?_); clear hN N; (try simp (disch := omega) only [v8W])))); (try ((with_reducible refine Fin.of ?_); (try with_reducible exact True.intro))))
            (refine Vc.cond T0_ok (t := true) (by rfl) (fun _ => ?_) (fun h => Bool.noConfusion h))
            ((repeat (first | (with_reducible refine Vc.seq fun N hN => ?_) | (with_reducible refine Vc.block ?_) | ((first | with_reducible refine Vc.skip ?_ | with_reducible refine Vc.exit ?_); dsimp only [thenK, blockK, Nat.beq]; (first | (refine hN _ _ ?_; clear hN N) | skip)) | (with_reducible intro _) | ((with_reducible refine And.intro ?_ ?_); (focus (first | ((repeat' with_reducible apply And.intro) <;> first | exact sideQ | (exact hLx _ (by simp)) | (exact hLp _ (by simp))) | exact sd0))) | ((first | ((with_reducible refine askT_of ?_ (fun hb => ?_)); (focus (first | ((repeat' with_reducible apply And.intro) <;> first | exact sideQ | (exact hLx _ (by simp)) | (exact hLp _ (by simp))) | exact sd0)); (try simp only [hb])) | ((with_reducible refine Vc.fin ?_); dsimp only [thenK, blockK, retK, resS, resOne, resAll]) | ((with_reducible refine Vc.hold ?_); first | refine Vc.regiont T0_ok GDN_ok ?_)); (try simp only [v8X, v8A, v8B, v8C, Nat.beq, Nat.ble, Int.reduceToNat, Int.reduceLE, Int.reduceLT, Nat.reduceLT, Nat.reduceLeDiff, Nat.reduceAdd, Nat.reduceMul, Nat.reduceSub, Int.reduceAdd, Int.reduceSub, Int.reduceMul, eq_self, decide_true, beq_self_eq_true, List.length_cons, List.length_nil, Nat.min_eq_left, IntKind.bits, tabs, GDN_set, e0, tk, hgd]); (try simp (disch := omega) only [v8W])) | ((with_reducible refine hN _ _ ?_); clear hN N; (try simp (disch := omega) only [v8W])))); (try ((with_reducible refine Fin.of ?_); (try with_reducible exact True.intro))))
            (refine Vc.cond T0_ok (t := true) (by rfl) (fun _ => ?_) (fun h => Bool.noConfusion h))
            ((repeat (first | (with_reducible refine Vc.seq fun N hN => ?_) | (with_reducible refine Vc.block ?_) | ((first | with_reducible refine Vc.skip ?_ | with_reducible refine Vc.exit ?_); dsimp only [thenK, blockK, Nat.beq]; (first | (refine hN _ _ ?_; clear hN N) | skip)) | (with_reducible intro _) | ((with_reducible refine And.intro ?_ ?_); (focus (first | ((repeat' with_reducible apply And.intro) <;> first | exact sideQ | (exact hLx _ (by simp)) | (exact hLp _ (by simp))) | exact sd0))) | ((first | ((with_reducible refine askT_of ?_ (fun hb => ?_)); (focus (first | ((repeat' with_reducible apply And.intro) <;> first | exact sideQ | (exact hLx _ (by simp)) | (exact hLp _ (by simp))) | exact sd0)); (try simp only [hb])) | ((with_reducible refine Vc.fin ?_); dsimp only [thenK, blockK, retK, resS, resOne, resAll]) | ((with_reducible refine Vc.hold ?_); first | refine Vc.regiont T0_ok GDN_ok ?_)); (try simp only [v8X, v8A, v8B, v8C, Nat.beq, Nat.ble, Int.reduceToNat, Int.reduceLE, Int.reduceLT, Nat.reduceLT, Nat.reduceLeDiff, Nat.reduceAdd, Nat.reduceMul, Nat.reduceSub, Int.reduceAdd, Int.reduceSub, Int.reduceMul, eq_self, decide_true, beq_self_eq_true, List.length_cons, List.length_nil, Nat.min_eq_left, IntKind.bits, tabs, GDN_set, e0, tk, hgd]); (try simp (disch := omega) only [v8W])) | ((with_reducible refine hN _ _ ?_); clear hN N; (try simp (disch := omega) only [v8W])))); (try ((with_reducible refine Fin.of ?_); (try with_reducible exact True.intro))))
            rename_i _ v5' _ _ v6'
            refine ⟨(k + 1, v5', v6'), by simp only; omega, ?_, ?_, by simp only; omega⟩
            · ((try simp only [v8X, v8A, v8B, v8C, Nat.beq, Nat.ble, Int.reduceToNat, Int.reduceLE, Int.reduceLT, Nat.reduceLT, Nat.reduceLeDiff, Nat.reduceAdd, Nat.reduceMul, Nat.reduceSub, Int.reduceAdd, Int.reduceSub, Int.reduceMul, eq_self, decide_true, beq_self_eq_true, List.length_cons, List.length_nil, Nat.min_eq_left, IntKind.bits, tabs]); (repeat' with_reducible apply And.intro) <;> first | with_reducible exact True.intro | rfl | (congr 1 <;> omega))
            · simp only [List.take_succ_cons, List.take_zero, List.drop_zero]
              rw [z3, ← z2]
              ((try simp only [v8X, v8A, v8B, v8C, Nat.beq, Nat.ble, Int.reduceToNat, Int.reduceLE, Int.reduceLT, Nat.reduceLT, Nat.reduceLeDiff, Nat.reduceAdd, Nat.reduceMul, Nat.reduceSub, Int.reduceAdd, Int.reduceSub, Int.reduceMul, eq_self, decide_true, beq_self_eq_true, List.length_cons, List.length_nil, Nat.min_eq_left, IntKind.bits, tabs]); (repeat' with_reducible apply And.intro) <;> first | with_reducible exact True.intro | rfl | (congr 1 <;> omega))
          | false =>
            have hwt : wnt [.bool p.d, .int .u64 x0, .int .u64 x1, .int .u64 x2, .int .u64 x3, .gh pa pn pc (.ints .u8 p.bs)] p = [.bool false, .int .u64 (lm p.w 0 : Nat), .int .u64 (lm p.w 1 : Nat), .int .u64 (lm p.w 2 : Nat), .int .u64 (lm p.w 3 : Nat), .nilsl] := if_neg (by rw [hd]; simp)
            rw [hwt] at z3
            rw [hd] at z2 hgd
            ((repeat (first | (with_reducible refine Vc.seq fun N hN => ?_) | (with_reducible refine Vc.block ?_) | ((first | with_reducible refine Vc.skip ?_ | with_reducible refine Vc.exit ?_); dsimp only [thenK, blockK, Nat.beq]; (first | (refine hN _ _ ?_; clear hN N) | skip)) | (with_reducible intro _) | ((with_reducible refine And.intro ?_ ?_); (focus (first | exact sideQ | exact sd0))) | ((first | ((with_reducible refine askT_of ?_ (fun hb => ?_)); (focus (first | exact sideQ | exact sd0)); (try simp only [hb])) | ((with_reducible refine Vc.fin ?_); dsimp only [thenK, blockK, retK, resS, resOne, resAll]) | ((with_reducible refine Vc.hold ?_); first | refine Vc.regiont T0_ok GDN_ok ?_)); (try simp only [v8X, v8A, v8B, v8C, Nat.beq, Nat.ble, Int.reduceToNat, Int.reduceLE, Int.reduceLT, Nat.reduceLT, Nat.reduceLeDiff, Nat.reduceAdd, Nat.reduceMul, Nat.reduceSub, Int.reduceAdd, Int.reduceSub, Int.reduceMul, eq_self, decide_true, beq_self_eq_true, List.length_cons, List.length_nil, Nat.min_eq_left, IntKind.bits, tabs, GDN_set, e0]); (try simp (disch := omega) only [v8W])) | ((with_reducible refine hN _ _ ?_); clear hN N; (try simp (disch := omega) only [v8W])))); (try ((with_reducible refine Fin.of ?_); (try with_reducible exact True.intro))))
            (refine Vc.cond T0_ok (t := true) (by rfl) (fun _ => ?_) (fun h => Bool.noConfusion h))
            ((repeat (first | (with_reducible refine Vc.seq fun N hN => ?_) | (with_reducible refine Vc.block ?_) | ((first | with_reducible refine Vc.skip ?_ | with_reducible refine Vc.exit ?_); dsimp only [thenK, blockK, Nat.beq]; (first | (refine hN _ _ ?_; clear hN N) | skip)) | (with_reducible intro _) | ((with_reducible refine And.intro ?_ ?_); (focus (first | ((repeat' with_reducible apply And.intro) <;> first | exact sideQ | (exact hLx _ (by simp)) | (exact hLp _ (by simp))) | exact sd0))) | ((first | ((with_reducible refine askT_of ?_ (fun hb => ?_)); (focus (first | ((repeat' with_reducible apply And.intro) <;> first | exact sideQ | (exact hLx _ (by simp)) | (exact hLp _ (by simp))) | exact sd0)); (try simp only [hb])) | ((with_reducible refine Vc.fin ?_); dsimp only [thenK, blockK, retK, resS, resOne, resAll]) | ((with_reducible refine Vc.hold ?_); first | refine Vc.regiont T0_ok GDN_ok ?_)); (try simp only [v8X, v8A, v8B, v8C, Nat.beq, Nat.ble, Int.reduceToNat, Int.reduceLE, Int.reduceLT, Nat.reduceLT, Nat.reduceLeDiff, Nat.reduceAdd, Nat.reduceMul, Nat.reduceSub, Int.reduceAdd, Int.reduceSub, Int.reduceMul, eq_self, decide_true, beq_self_eq_true, List.length_cons, List.length_nil, Nat.min_eq_left, IntKind.bits, tabs, GDN_set, e0, tk, hgd]); (try simp (disch := omega) only [v8W])) | ((with_reducible refine hN _ _ ?_); clear hN N; (try simp (disch := omega) only [v8W])))); (try ((with_reducible refine Fin.of ?_); (try with_reducible exact True.intro))))
            (refine Vc.cond T0_ok (t := false) (by rfl) (fun h => Bool.noConfusion h) (fun _ => ?_))
            ((repeat (first | (with_reducible refine Vc.seq fun N hN => ?_) | (with_reducible refine Vc.block ?_) | ((first | with_reducible refine Vc.skip ?_ | with_reducible refine Vc.exit ?_); dsimp only [thenK, blockK, Nat.beq]; (first | (refine hN _ _ ?_; clear hN N) | skip)) | (with_reducible intro _) | ((with_reducible refine And.intro ?_ ?_); (focus (first | ((repeat' with_reducible apply And.intro) <;> first | exact sideQ | (exact hLx _ (by simp)) | (exact hLp _ (by simp))) | exact sd0))) | ((first | ((with_reducible refine askT_of ?_ (fun hb => ?_)); (focus (first | ((repeat' with_reducible apply And.intro) <;> first | exact sideQ | (exact hLx _ (by simp)) | (exact hLp _ (by simp))) | exact sd0)); (try simp only [hb])) | ((with_reducible refine Vc.fin ?_); dsimp only [thenK, blockK, retK, resS, resOne, resAll]) | ((with_reducible refine Vc.hold ?_); first | refine Vc.regiont T0_ok GDN_ok ?_)); (try simp only [v8X, v8A, v8B, v8C, Nat.beq, Nat.ble, Int.reduceToNat, Int.reduceLE, Int.reduceLT, Nat.reduceLT, Nat.reduceLeDiff, Nat.reduceAdd, Nat.reduceMul, Nat.reduceSub, Int.reduceAdd, Int.reduceSub, Int.reduceMul, eq_self, decide_true, beq_self_eq_true, List.length_cons, List.length_nil, Nat.min_eq_left, IntKind.bits, tabs, GDN_set, e0, tk, hgd, g2]); (try simp (disch := omega) only [v8W])) | ((with_reducible refine hN _ _ ?_); clear hN N; (try simp (disch := omega) only [v8W])))); (try ((with_reducible refine Fin.of ?_); (try with_reducible exact True.intro))))
            rename_i _ v5' _ _ v6'
            refine ⟨(k + 1, v5', v6'), by simp only; omega, ?_, ?_, by simp only; omega⟩
            · ((try simp only [v8X, v8A, v8B, v8C, Nat.beq, Nat.ble, Int.reduceToNat, Int.reduceLE, Int.reduceLT, Nat.reduceLT, Nat.reduceLeDiff, Nat.reduceAdd, Nat.reduceMul, Nat.reduceSub, Int.reduceAdd, Int.reduceSub, Int.reduceMul, eq_self, decide_true, beq_self_eq_true, List.length_cons, List.length_nil, Nat.min_eq_left, IntKind.bits, tabs]); (repeat' with_reducible apply And.intro) <;> first | with_reducible exact True.intro | rfl | (congr 1 <;> omega))
            · simp only [List.take_succ_cons, List.take_zero, List.drop_zero]
              rw [z3, ← z2]
              ((try simp only [v8X, v8A, v8B, v8C, Nat.beq, Nat.ble, Int.reduceToNat, Int.reduceLE, Int.reduceLT, Nat.reduceLT, Nat.reduceLeDiff, Nat.reduceAdd, Nat.reduceMul, Nat.reduceSub, Int.reduceAdd, Int.reduceSub, Int.reduceMul, eq_self, decide_true, beq_self_eq_true, List.length_cons, List.length_nil, Nat.min_eq_left, IntKind.bits, tabs]); (repeat' with_reducible apply And.intro) <;> first | with_reducible exact True.intro | rfl | (congr 1 <;> omega))
        · have e0 : decide ((k : Int) < (n : Int)) = false := decide_eq_false (by omega)
          obtain rfl : k = n := by omega
          ((repeat (first | (with_reducible refine Vc.seq fun N hN => ?_) | (with_reducible refine Vc.block ?_) | ((first | with_reducible refine Vc.skip ?_ | with_reducible refine Vc.exit ?_); dsimp only [thenK, blockK, Nat.beq]; (first | (refine hN _ _ ?_; clear hN N) | skip)) | (with_reducible intro _) | ((with_reducible refine And.intro ?_ ?_); (focus (first | exact sideQ | exact sd0))) | ((first | ((with_reducible refine askT_of ?_ (fun hb => ?_)); (focus (first | exact sideQ | exact sd0)); (try simp only [hb])) | ((with_reducible refine Vc.fin ?_); dsimp only [thenK, blockK, retK, resS, resOne, resAll]) | ((with_reducible refine Vc.hold ?_); first | refine Vc.regiont T0_ok GDN_ok ?_)); (try simp only [v8X, v8A, v8B, v8C, Nat.beq, Nat.ble, Int.reduceToNat, Int.reduceLE, Int.reduceLT, Nat.reduceLT, Nat.reduceLeDiff, Nat.reduceAdd, Nat.reduceMul, Nat.reduceSub, Int.reduceAdd, Int.reduceSub, Int.reduceMul, eq_self, decide_true, beq_self_eq_true, List.length_cons, List.length_nil, Nat.min_eq_left, IntKind.bits, tabs, GDN_set, e0]); (try simp (disch := omega) only [v8W])) | ((with_reducible refine hN _ _ ?_); clear hN N; (try simp (disch := omega) only [v8W])))); (try ((with_reducible refine Fin.of ?_); (try with_reducible exact True.intro))))
          (refine Vc.cond T0_ok (t := false) (by rfl) (fun h => Bool.noConfusion h) (fun _ => ?_))
          ((repeat (first | (with_reducible refine Vc.seq fun N hN => ?_) | (with_reducible refine Vc.block ?_) | ((first | with_reducible refine Vc.skip ?_ | with_reducible refine Vc.exit ?_); dsimp only [thenK, blockK, Nat.beq]; (first | (refine hN _ _ ?_; clear hN N) | skip)) | (with_reducible intro _) | ((with_reducible refine And.intro ?_ ?_); (focus (first | exact sideQ | exact sd0))) | ((first | ((with_reducible refine askT_of ?_ (fun hb => ?_)); (focus (first | exact sideQ | exact sd0)); (try simp only [hb])) | ((with_reducible refine Vc.fin ?_); dsimp only [thenK, blockK, retK, resS, resOne, resAll]) | ((with_reducible refine Vc.hold ?_); first | refine Vc.regiont T0_ok GDN_ok ?_)); (try simp only [v8X, v8A, v8B, v8C, Nat.beq, Nat.ble, Int.reduceToNat, Int.reduceLE, Int.reduceLT, Nat.reduceLT, Nat.reduceLeDiff, Nat.reduceAdd, Nat.reduceMul, Nat.reduceSub, Int.reduceAdd, Int.reduceSub, Int.reduceMul, eq_self, decide_true, beq_self_eq_true, List.length_cons, List.length_nil, Nat.min_eq_left, IntKind.bits, tabs, GDN_set]); (try simp (disch := omega) only [v8W])) | ((with_reducible refine hN _ _ ?_); clear hN N; (try simp (disch := omega) only [v8W])))); (try ((with_reducible refine Fin.of ?_); (try with_reducible exact True.intro))))
          (refine hN1 _ _ ?_; (try clear hN N); clear hN1 N1)
          have hPe : ∀ M, allOld w ∈ M → ∃ l, PsR (HM M) rs l ∧ l.length = k ∧ k ≤ c ∧ adr a k c ∧ psz l ≤ 100000 ∧ LiesH (HM M) a (cc (.rows 6 rs)) := fun M hin => ⟨l, hR0.mono (H0.hm hin), hl, hn, ha, by omega, hLx M hin⟩
          have hdec1 : abDec (abEnc l) (l.map fun p => p.d) = some (l.map nrm) := by
            have := abDec_enc l [] (fun p hp _ => hR0.lt p hp) (by omega)
            rwa [List.append_nil] at this
          have hdec2 : abDec (abEnc l ++ ys) (l.map fun p => p.d) = some (l.map nrm) := abDec_enc l ys (fun p hp _ => hR0.lt p hp) (by omega)
          have hWt := wnt_all hR0
          have hrW := rowsOk_all (wnt_rows hR0)
          have hwl : (List.zipWith wnt rs l).length = k := by rw [List.length_zipWith]; omega
          have tn : l.take k = l := List.take_of_length_le (by omega)
          have tw : (List.zipWith wnt rs l).take k = List.zipWith wnt rs l := List.take_of_length_le (by omega)
          have tD : ((l.map fun p => p.d).map SV.bool).take k = (l.map fun p => p.d).map SV.bool := List.take_of_length_le (by simp; omega)
          have hao := allOne_map (l.map fun p => p.d)
          have hbm := bools_map (l.map fun p => p.d)
          have uE : (abEnc l).take (abEnc l).length = abEnc l := List.take_length
          have uY : ys.take mn = ys := List.take_of_length_le (by omega)
          have uA : (abEnc l ++ ys).take ((abEnc l).length + mn) = abEnc l ++ ys := List.take_of_length_le (by rw [List.length_append]; omega)
          obtain ⟨hEl, hE32⟩ := enc_bound l
          have hEa : allB (abEnc l) := abEnc_all hR0
          have hAa : allB (abEnc l ++ ys) := allB_app hEa hy
          have hnl : (l.map nrm).length = k := by rw [List.length_map, hl]
          have hnb : ∀ p ∈ l.map nrm, p.w < W ∧ p.bs.length ≤ maxLen := fun p hp => by
            obtain ⟨q, hq, rfl⟩ := List.mem_map.1 hp
            have q1 := hR0.lt q hq
            have q2 : q.bs.length + 1 ≤ psz l := by
              obtain ⟨i, hi⟩ := List.getElem?_of_mem hq
              exact psz_get hi
            unfold nrm maxLen
            split
            · exact ⟨by show 0 < W; unfold W; omega, by show q.bs.length ≤ _; omega⟩
            · exact ⟨q1, Nat.zero_le _⟩
          ((with_reducible refine Vc.seq fun N hN => ?_); (refine Vc.regiont T0_ok GDN_ok ?_); simp only [v8X, v8A, v8B, v8C, Nat.beq, Nat.ble, Int.reduceToNat, Int.reduceLE, Int.reduceLT, Nat.reduceLT, Nat.reduceLeDiff, Nat.reduceAdd, Nat.reduceMul, Nat.reduceSub, Int.reduceAdd, Int.reduceSub, Int.reduceMul, eq_self, decide_true, beq_self_eq_true, List.length_cons, List.length_nil, Nat.min_eq_left, IntKind.bits, tabs, GDN_set, hlo]; (try simp (disch := omega) only [v8W]); (repeat (first | with_reducible intro _ | ((with_reducible refine And.intro ?_ ?_); (focus (first | ((repeat' with_reducible apply And.intro) <;> first | exact sideQ | (exact hPe _ (by simp)) | (exact hLy _ (by simp)) | (exact hEa) | (exact hAa) | (simp; omega) | (rw [List.length_append, yl]; omega)) | exact sd0))) | ((with_reducible refine askT_of ?_ (fun hb => ?_)); (focus (first | ((repeat' with_reducible apply And.intro) <;> first | exact sideQ | (exact hPe _ (by simp)) | (exact hLy _ (by simp)) | (exact hEa) | (exact hAa) | (simp; omega) | (rw [List.length_append, yl]; omega)) | exact sd0)); simp only [hb, v8X, v8A, v8B, v8C, Nat.beq, Nat.ble, Int.reduceToNat, Int.reduceLE, Int.reduceLT, Nat.reduceLT, Nat.reduceLeDiff, Nat.reduceAdd, Nat.reduceMul, Nat.reduceSub, Int.reduceAdd, Int.reduceSub, Int.reduceMul, eq_self, decide_true, beq_self_eq_true, List.length_cons, List.length_nil, Nat.min_eq_left, IntKind.bits, tabs, GDN_set, hlo]; (try simp (disch := omega) only [v8W])))); (first | (refine hN _ _ ?_; clear hN N; (try simp (disch := omega) only [v8W])) | skip))
          ((with_reducible refine Vc.seq fun N hN => ?_); (refine Vc.regiont T0_ok GDN_ok ?_); simp only [v8X, v8A, v8B, v8C, Nat.beq, Nat.ble, Int.reduceToNat, Int.reduceLE, Int.reduceLT, Nat.reduceLT, Nat.reduceLeDiff, Nat.reduceAdd, Nat.reduceMul, Nat.reduceSub, Int.reduceAdd, Int.reduceSub, Int.reduceMul, eq_self, decide_true, beq_self_eq_true, List.length_cons, List.length_nil, Nat.min_eq_left, IntKind.bits, tabs, GDN_set]; (try simp (disch := omega) only [v8W]); (repeat (first | with_reducible intro _ | ((with_reducible refine And.intro ?_ ?_); (focus (first | exact sideQ | exact sd0))) | ((with_reducible refine askT_of ?_ (fun hb => ?_)); (focus (first | exact sideQ | exact sd0)); simp only [hb, v8X, v8A, v8B, v8C, Nat.beq, Nat.ble, Int.reduceToNat, Int.reduceLE, Int.reduceLT, Nat.reduceLT, Nat.reduceLeDiff, Nat.reduceAdd, Nat.reduceMul, Nat.reduceSub, Int.reduceAdd, Int.reduceSub, Int.reduceMul, eq_self, decide_true, beq_self_eq_true, List.length_cons, List.length_nil, Nat.min_eq_left, IntKind.bits, tabs, GDN_set]; (try simp (disch := omega) only [v8W])))); (first | (refine hN _ _ ?_; clear hN N; (try simp (disch := omega) only [v8W])) | skip))
          refine Vc.nilown 9 5 1 .u8 rfl ?_
          (simp only [v8X, v8A, v8B, v8C, Nat.beq, Nat.ble, Int.reduceToNat, Int.reduceLE, Int.reduceLT, Nat.reduceLT, Nat.reduceLeDiff, Nat.reduceAdd, Nat.reduceMul, Nat.reduceSub, Int.reduceAdd, Int.reduceSub, Int.reduceMul, eq_self, decide_true, beq_self_eq_true, List.length_cons, List.length_nil, Nat.min_eq_left, IntKind.bits, tabs])
          ((with_reducible refine Vc.seq fun N hN => ?_); (refine Vc.regiont T0_ok GDN_ok ?_); simp only [v8X, v8A, v8B, v8C, Nat.beq, Nat.ble, Int.reduceToNat, Int.reduceLE, Int.reduceLT, Nat.reduceLT, Nat.reduceLeDiff, Nat.reduceAdd, Nat.reduceMul, Nat.reduceSub, Int.reduceAdd, Int.reduceSub, Int.reduceMul, eq_self, decide_true, beq_self_eq_true, List.length_cons, List.length_nil, Nat.min_eq_left, IntKind.bits, tabs, GDN_set, uE, List.drop_zero, List.nil_append]; (try simp (disch := omega) only [v8W]); (repeat (first | with_reducible intro _ | ((with_reducible refine And.intro ?_ ?_); (focus (first | ((repeat' with_reducible apply And.intro) <;> first | exact sideQ | (exact hPe _ (by simp)) | (exact hLy _ (by simp)) | (exact hEa) | (exact hAa) | (simp; omega) | (rw [List.length_append, yl]; omega)) | exact sd0))) | ((with_reducible refine askT_of ?_ (fun hb => ?_)); (focus (first | ((repeat' with_reducible apply And.intro) <;> first | exact sideQ | (exact hPe _ (by simp)) | (exact hLy _ (by simp)) | (exact hEa) | (exact hAa) | (simp; omega) | (rw [List.length_append, yl]; omega)) | exact sd0)); simp only [hb, v8X, v8A, v8B, v8C, Nat.beq, Nat.ble, Int.reduceToNat, Int.reduceLE, Int.reduceLT, Nat.reduceLT, Nat.reduceLeDiff, Nat.reduceAdd, Nat.reduceMul, Nat.reduceSub, Int.reduceAdd, Int.reduceSub, Int.reduceMul, eq_self, decide_true, beq_self_eq_true, List.length_cons, List.length_nil, Nat.min_eq_left, IntKind.bits, tabs, GDN_set, uE, List.drop_zero, List.nil_append]; (try simp (disch := omega) only [v8W])))); (first | (refine hN _ _ ?_; clear hN N; (try simp (disch := omega) only [v8W])) | skip))
          ((with_reducible refine Vc.seq fun N hN => ?_); (refine Vc.regiont T0_ok GDN_ok ?_); simp only [v8X, v8A, v8B, v8C, Nat.beq, Nat.ble, Int.reduceToNat, Int.reduceLE, Int.reduceLT, Nat.reduceLT, Nat.reduceLeDiff, Nat.reduceAdd, Nat.reduceMul, Nat.reduceSub, Int.reduceAdd, Int.reduceSub, Int.reduceMul, eq_self, decide_true, beq_self_eq_true, List.length_cons, List.length_nil, Nat.min_eq_left, IntKind.bits, tabs, GDN_set, uY, List.drop_zero]; (try simp (disch := omega) only [v8W]); (repeat (first | with_reducible intro _ | ((with_reducible refine And.intro ?_ ?_); (focus (first | ((repeat' with_reducible apply And.intro) <;> first | exact sideQ | (exact hPe _ (by simp)) | (exact hLy _ (by simp)) | (exact hEa) | (exact hAa) | (simp; omega) | (rw [List.length_append, yl]; omega)) | exact sd0))) | ((with_reducible refine askT_of ?_ (fun hb => ?_)); (focus (first | ((repeat' with_reducible apply And.intro) <;> first | exact sideQ | (exact hPe _ (by simp)) | (exact hLy _ (by simp)) | (exact hEa) | (exact hAa) | (simp; omega) | (rw [List.length_append, yl]; omega)) | exact sd0)); simp only [hb, v8X, v8A, v8B, v8C, Nat.beq, Nat.ble, Int.reduceToNat, Int.reduceLE, Int.reduceLT, Nat.reduceLT, Nat.reduceLeDiff, Nat.reduceAdd, Nat.reduceMul, Nat.reduceSub, Int.reduceAdd, Int.reduceSub, Int.reduceMul, eq_self, decide_true, beq_self_eq_true, List.length_cons, List.length_nil, Nat.min_eq_left, IntKind.bits, tabs, GDN_set, uY, List.drop_zero]; (try simp (disch := omega) only [v8W])))); (first | (refine hN _ _ ?_; clear hN N; (try simp (disch := omega) only [v8W])) | skip))
          ((with_reducible refine Vc.seq fun N hN => ?_); (refine Vc.regiont T0_ok GDN_ok ?_); simp only [v8X, v8A, v8B, v8C, Nat.beq, Nat.ble, Int.reduceToNat, Int.reduceLE, Int.reduceLT, Nat.reduceLT, Nat.reduceLeDiff, Nat.reduceAdd, Nat.reduceMul, Nat.reduceSub, Int.reduceAdd, Int.reduceSub, Int.reduceMul, eq_self, decide_true, beq_self_eq_true, List.length_cons, List.length_nil, Nat.min_eq_left, IntKind.bits, tabs, GDN_set, tn, tD, hao, hbm, uE, hdec1, List.drop_zero]; (try simp (disch := omega) only [v8W]); (repeat (first | with_reducible intro _ | ((with_reducible refine And.intro ?_ ?_); (focus (first | ((repeat' with_reducible apply And.intro) <;> first | exact sideQ | (exact hPe _ (by simp)) | (exact hLy _ (by simp)) | (exact hEa) | (exact hAa) | (simp; omega) | (rw [List.length_append, yl]; omega)) | exact sd0))) | ((with_reducible refine askT_of ?_ (fun hb => ?_)); (focus (first | ((repeat' with_reducible apply And.intro) <;> first | exact sideQ | (exact hPe _ (by simp)) | (exact hLy _ (by simp)) | (exact hEa) | (exact hAa) | (simp; omega) | (rw [List.length_append, yl]; omega)) | exact sd0)); simp only [hb, v8X, v8A, v8B, v8C, Nat.beq, Nat.ble, Int.reduceToNat, Int.reduceLE, Int.reduceLT, Nat.reduceLT, Nat.reduceLeDiff, Nat.reduceAdd, Nat.reduceMul, Nat.reduceSub, Int.reduceAdd, Int.reduceSub, Int.reduceMul, eq_self, decide_true, beq_self_eq_true, List.length_cons, List.length_nil, Nat.min_eq_left, IntKind.bits, tabs, GDN_set, tn, tD, hao, hbm, uE, hdec1, List.drop_zero]; (try simp (disch := omega) only [v8W])))); (first | (refine hN _ _ ?_; clear hN N; (try simp (disch := omega) only [v8W])) | skip))
          rename_i x hx
          ((with_reducible refine Vc.seq fun N hN => ?_); (refine Vc.regiont T0_ok GDN_ok ?_); simp only [v8X, v8A, v8B, v8C, Nat.beq, Nat.ble, Int.reduceToNat, Int.reduceLE, Int.reduceLT, Nat.reduceLT, Nat.reduceLeDiff, Nat.reduceAdd, Nat.reduceMul, Nat.reduceSub, Int.reduceAdd, Int.reduceSub, Int.reduceMul, eq_self, decide_true, beq_self_eq_true, List.length_cons, List.length_nil, Nat.min_eq_left, IntKind.bits, tabs, GDN_set, tn, tD, hao, hbm, uA, hdec2, List.drop_zero]; (try simp (disch := omega) only [v8W]); (repeat (first | with_reducible intro _ | ((with_reducible refine And.intro ?_ ?_); (focus (first | ((repeat' with_reducible apply And.intro) <;> first | exact sideQ | (exact hPe _ (by simp)) | (exact hLy _ (by simp)) | (exact hEa) | (exact hAa) | (simp; omega) | (rw [List.length_append, yl]; omega)) | exact sd0))) | ((with_reducible refine askT_of ?_ (fun hb => ?_)); (focus (first | ((repeat' with_reducible apply And.intro) <;> first | exact sideQ | (exact hPe _ (by simp)) | (exact hLy _ (by simp)) | (exact hEa) | (exact hAa) | (simp; omega) | (rw [List.length_append, yl]; omega)) | exact sd0)); simp only [hb, v8X, v8A, v8B, v8C, Nat.beq, Nat.ble, Int.reduceToNat, Int.reduceLE, Int.reduceLT, Nat.reduceLT, Nat.reduceLeDiff, Nat.reduceAdd, Nat.reduceMul, Nat.reduceSub, Int.reduceAdd, Int.reduceSub, Int.reduceMul, eq_self, decide_true, beq_self_eq_true, List.length_cons, List.length_nil, Nat.min_eq_left, IntKind.bits, tabs, GDN_set, tn, tD, hao, hbm, uA, hdec2, List.drop_zero]; (try simp (disch := omega) only [v8W])))); (first | (refine hN _ _ ?_; clear hN N; (try simp (disch := omega) only [v8W])) | skip))
          rename_i y hy2
          obtain ⟨a1, a2, a3, a4⟩ := hx
          obtain ⟨b1, b2, b3, b4⟩ := hy2
          rw [hnl] at a1 a2 b1 b2
          have hX1 : ∀ M, Blk.heap x.l ∈ M → LiesH (HM M) x.a (cc (.rows 6 x.R)) := fun M hin => a3.mono (Hl.hm hin fun p h => h)
          have hX2 : ∀ M, Blk.heap y.l ∈ M → LiesH (HM M) y.a (cc (.rows 6 y.R)) := fun M hin => b3.mono (Hl.hm hin fun p h => h)
          have hS1 : ∀ M, allOld w ∈ M → Blk.heap x.l ∈ M → ∃ L, PsR (HM M) (x.R.map fixR) L ∧ PsR (HM M) ((List.zipWith wnt rs l).map fixR) L := fun M h5 h6 => ⟨l.map nrm, (a4.fix hnb).mono (Hl.hm h6 fun p h => h), hWt.mono (H0.hm h5)⟩
          have hS2 : ∀ M, allOld w ∈ M → Blk.heap y.l ∈ M → ∃ L, PsR (HM M) (y.R.map fixR) L ∧ PsR (HM M) ((List.zipWith wnt rs l).map fixR) L := fun M h5 h6 => ⟨l.map nrm, (b4.fix hnb).mono (Hl.hm h6 fun p h => h), hWt.mono (H0.hm h5)⟩
          have hrx : rowsOk 6 x.R = true := PdsR.ok a4
          have hry : rowsOk 6 y.R = true := PdsR.ok b4
          have xl : x.R.length = k := a4.1.trans hnl
          have yl2 : y.R.length = k := b4.1.trans hnl
          have tx : x.R.take k = x.R := List.take_of_length_le (by omega)
          have ty : y.R.take k = y.R := List.take_of_length_le (by omega)
          have d32 : decide ((((abEnc l).length : Nat) : Int) % 32 = 0) = true := decide_eq_true (by omega)
          ((repeat (first | (with_reducible refine Vc.seq fun N hN => ?_) | (with_reducible refine Vc.block ?_) | ((first | with_reducible refine Vc.skip ?_ | with_reducible refine Vc.exit ?_); dsimp only [thenK, blockK, Nat.beq]; (first | (refine hN _ _ ?_; clear hN N) | skip)) | (with_reducible intro _) | ((with_reducible refine And.intro ?_ ?_); (focus (first | ((repeat' with_reducible apply And.intro) <;> first | exact sideQ | (exact hS1 _ (by simp) (by simp)) | (exact hS2 _ (by simp) (by simp)) | (exact hX1 _ (by simp)) | (exact hX2 _ (by simp)) | (rw [hwl]; exact Nat.le_refl _) | (simp; omega)) | exact sd0))) | ((first | ((with_reducible refine askT_of ?_ (fun hb => ?_)); (focus (first | ((repeat' with_reducible apply And.intro) <;> first | exact sideQ | (exact hS1 _ (by simp) (by simp)) | (exact hS2 _ (by simp) (by simp)) | (exact hX1 _ (by simp)) | (exact hX2 _ (by simp)) | (rw [hwl]; exact Nat.le_refl _) | (simp; omega)) | exact sd0)); (try simp only [hb])) | ((with_reducible refine Vc.fin ?_); dsimp only [thenK, blockK, retK, resS, resOne, resAll]) | ((with_reducible refine Vc.hold ?_); first | refine Vc.regiont T0_ok GDN_ok ?_)); (try simp only [v8X, v8A, v8B, v8C, Nat.beq, Nat.ble, Int.reduceToNat, Int.reduceLE, Int.reduceLT, Nat.reduceLT, Nat.reduceLeDiff, Nat.reduceAdd, Nat.reduceMul, Nat.reduceSub, Int.reduceAdd, Int.reduceSub, Int.reduceMul, eq_self, decide_true, beq_self_eq_true, List.length_cons, List.length_nil, Nat.min_eq_left, IntKind.bits, tabs, GDN_set, hnl, hrW, hrx, hry, tw, tx, ty, d32, List.drop_zero]); (try simp (disch := omega) only [v8W])) | ((with_reducible refine hN _ _ ?_); clear hN N; (try simp (disch := omega) only [v8W])))); (try ((with_reducible refine Fin.of ?_); (try with_reducible exact True.intro))))
          exact ⟨trivial, by first | trivial | rfl⟩
    · have d1 : decide ((2000 : Int) < (mn : Int)) = true := decide_eq_true (by omega)
      refine Vc.calls T0_ok Tryd.func5 rfl rfl (args := [.gh a n c (.rows 6 rs), .gh ma mn mc (.ints .u8 ys)]) (k := 103) rfl hm0 ?_; change Vc _ _ (c8 (.gh a n c (.rows 6 rs)) (.gh ma mn mc (.ints .u8 ys)) .undef .undef .undef .undef .undef .undef (c8 .undef .undef .undef .undef .undef .undef .undef .undef (c8 .undef .undef .undef .undef .undef .undef .undef .undef (c8 .undef .undef .undef .undef .undef .undef .undef .undef (c8 .undef .undef .undef .undef .undef .undef .undef .undef (c8 .undef .undef .undef .undef .undef .undef .undef .undef (c8 .undef .undef .undef .undef .undef .undef .undef .undef (c8 .undef .undef .undef .undef .undef .undef .undef .undef (c8 .undef .undef .undef .undef .undef .undef .undef .undef (c8 .undef .undef .undef .undef .undef .undef .undef .undef (c8 .undef .undef .undef .undef .undef .undef .undef .undef (c8 .undef .undef .undef .undef .undef .undef .undef .undef (c8 .undef .undef .undef .undef .undef .undef .undef .undef ([.undef])))))))))))))) _ _
      ((repeat (first | (with_reducible refine Vc.seq fun N hN => ?_) | (with_reducible refine Vc.block ?_) | ((first | with_reducible refine Vc.skip ?_ | with_reducible refine Vc.exit ?_); dsimp only [thenK, blockK, Nat.beq]; (first | (refine hN _ _ ?_; clear hN N) | skip)) | (with_reducible intro _) | ((with_reducible refine And.intro ?_ ?_); (focus (first | ((repeat' with_reducible apply And.intro) <;> first | exact sideQ | (exact hPm _ (by simp)) | (exact hLx _ (by simp)) | (exact hLy _ (by simp))) | exact sd0))) | ((first | ((with_reducible refine askT_of ?_ (fun hb => ?_)); (focus (first | ((repeat' with_reducible apply And.intro) <;> first | exact sideQ | (exact hPm _ (by simp)) | (exact hLx _ (by simp)) | (exact hLy _ (by simp))) | exact sd0)); (try simp only [hb])) | ((with_reducible refine Vc.fin ?_); dsimp only [thenK, blockK, retK, resS, resOne, resAll]) | ((with_reducible refine Vc.hold ?_); first | refine Vc.regiont T0_ok GDN_ok ?_)); (try simp only [v8X, v8A, v8B, v8C, Nat.beq, Nat.ble, Int.reduceToNat, Int.reduceLE, Int.reduceLT, Nat.reduceLT, Nat.reduceLeDiff, Nat.reduceAdd, Nat.reduceMul, Nat.reduceSub, Int.reduceAdd, Int.reduceSub, Int.reduceMul, eq_self, decide_true, beq_self_eq_true, List.length_cons, List.length_nil, Nat.min_eq_left, IntKind.bits, tabs, GDN_set, hlo, hmu, d1]); (try simp (disch := omega) only [v8W])) | ((with_reducible refine hN _ _ ?_); clear hN N; (try simp (disch := omega) only [v8W])))); (try ((with_reducible refine Fin.of ?_); (try with_reducible exact True.intro))))
      (refine Vc.cond T0_ok (t := true) (by rfl) (fun _ => ?_) (fun h => Bool.noConfusion h))
      ((repeat (first | (with_reducible refine Vc.seq fun N hN => ?_) | (with_reducible refine Vc.block ?_) | ((first | with_reducible refine Vc.skip ?_ | with_reducible refine Vc.exit ?_); dsimp only [thenK, blockK, Nat.beq]; (first | (refine hN _ _ ?_; clear hN N) | skip)) | (with_reducible intro _) | ((with_reducible refine And.intro ?_ ?_); (focus (first | exact sideQ | exact sd0))) | ((first | ((with_reducible refine askT_of ?_ (fun hb => ?_)); (focus (first | exact sideQ | exact sd0)); (try simp only [hb])) | ((with_reducible refine Vc.fin ?_); dsimp only [thenK, blockK, retK, resS, resOne, resAll]) | ((with_reducible refine Vc.hold ?_); first | refine Vc.regiont T0_ok GDN_ok ?_)); (try simp only [v8X, v8A, v8B, v8C, Nat.beq, Nat.ble, Int.reduceToNat, Int.reduceLE, Int.reduceLT, Nat.reduceLT, Nat.reduceLeDiff, Nat.reduceAdd, Nat.reduceMul, Nat.reduceSub, Int.reduceAdd, Int.reduceSub, Int.reduceMul, eq_self, decide_true, beq_self_eq_true, List.length_cons, List.length_nil, Nat.min_eq_left, IntKind.bits, tabs, GDN_set]); (try simp (disch := omega) only [v8W])) | ((with_reducible refine hN _ _ ?_); clear hN N; (try simp (disch := omega) only [v8W])))); (try ((with_reducible refine Fin.of ?_); (try with_reducible exact True.intro))))
      exact ⟨by simp, trivial⟩
theorem back_core (a : Option Addr) (n c : Nat) (rs : List (List SV)) (l : List Prt) (ma : Option Addr) (mn mc : Nat) (ys : List Int) (w : World) (i0 : l.length = n ∧ n ≤ c ∧ adr a n c ∧ n ≤ maxLen ∧ LiesH (H0 w) a (cc (.rows 6 rs)) ∧ PsR (H0 w) rs l) (i1 : ys.length = mn ∧ mn ≤ mc ∧ adr ma mn mc ∧ LiesH (H0 w) ma (cc (.ints .u8 ys)) ∧ allB ys ∧ mn ≤ maxLen) (h : laidMetH Tryd.prog Rows.abiBackRow.laid w) :
    Calls Tryd.prog 5 (cvs [.gh a n c (.rows 6 rs), .gh ma mn mc (.ints .u8 ys)]).toArray w (Yes w) := by
  obtain ⟨h1, h2, h3⟩ := ab_laid h
  obtain ⟨b1, b2, b3, b4, b5, b6⟩ := i0
  obtain ⟨e1, e2, e3, e4, e5, e6⟩ := i1
  exact back_law a n c rs l b1 b2 b3 b4 ma mn mc ys e1 e2 e3 e5 e6 w h1 h2 h3 b5 b6 e4
def abiBack_lay0 : Obj → Obj
  | .cells _ t frozen => .cells #[.iface 98 (.agg #[.pointer (some ⟨3, 55, none⟩)])] t frozen
  | o => o
def abiBack_lay1 : Obj → Obj
  | .cells _ t frozen => .cells #[.int .u64 1, .int .u64 32898, .int .u64 9223372036854808714, .int .u64 9223372039002292224, .int .u64 32907, .int .u64 2147483649, .int .u64 9223372039002292353, .int .u64 9223372036854808585, .int .u64 138, .int .u64 136, .int .u64 2147516425, .int .u64 2147483658, .int .u64 2147516555, .int .u64 9223372036854775947, .int .u64 9223372036854808713, .int .u64 9223372036854808579, .int .u64 9223372036854808578, .int .u64 9223372036854775936, .int .u64 32778, .int .u64 9223372039002259466, .int .u64 9223372039002292353, .int .u64 9223372036854808704, .int .u64 2147483649, .int .u64 9223372039002292232] t frozen
  | o => o
def abiBack_lay2 : Obj → Obj
  | .cells _ t frozen => .cells #[.int .u8 10, .int .u8 7, .int .u8 11, .int .u8 17, .int .u8 18, .int .u8 3, .int .u8 5, .int .u8 16, .int .u8 8, .int .u8 21, .int .u8 24, .int .u8 4, .int .u8 15, .int .u8 23, .int .u8 19, .int .u8 13, .int .u8 12, .int .u8 2, .int .u8 20, .int .u8 14, .int .u8 22, .int .u8 9, .int .u8 6, .int .u8 1] t frozen
  | o => o
/-- A world for the witness: the settled one, the listed variables holding what the row lists. -/
noncomputable def abiBack_world (os : Os) : World :=
  { World.holding Tryd.prog os ⟨#[], #[], []⟩ with heap := ((((World.holding Tryd.prog os ⟨#[], #[], []⟩).heap).modify 0 abiBack_lay0).modify 1 abiBack_lay1).modify 2 abiBack_lay2 }
set_option maxRecDepth 100000 in
theorem abiBack_laid (os : Os) : laidMetH Tryd.prog Rows.abiBackRow.laid ((abiBack_world os).forCall (fun _ _ => 0) ⟨#[], #[.slice none 0 0, .slice none 0 0], []⟩).memory :=
  laidMetH_of_parts (laidMet_of_run' 8 (by kernel_rfl) (by kernel_rfl)) (by kernel_rfl)
set_option maxRecDepth 100000 in
theorem abiBack_reads (os : Os) {H : Type} (enc : TypeId × Value → H) : ∃ places, DataW.whole enc Tryd.prog ((abiBack_world os).forCall (fun _ _ => 0) ⟨#[], #[.slice none 0 0, .slice none 0 0], []⟩).memory Tryd.f5.params.toList Rows.abiBackSpec.vars false (#[.slice none 0 0, .slice none 0 0] : Array Value).toList 8 = some ([.nil, .nil], [], places) :=
  ⟨[], by kernel_rfl⟩
set_option maxRecDepth 100000 in
theorem abiBack_lifted (os : Os) (started : os.Started) (H : Type) (enc : TypeId × Value → H) (F : Stop.Interp) :
    ReturnsInHanded {} Tryd.checked os 5 .any ((OpenSpec.ofChange Rows.abiBackSpec).preRow enc Tryd.prog Tryd.f5 Rows.abiBackRow.domain false Rows.abiBackRow.laid) (((OpenSpec.ofChange Rows.abiBackSpec).at F).post enc Tryd.prog Tryd.f5 false true false false) := by
  obtain ⟨places, hx⟩ := abiBack_reads os enc
  refine returnsInHanded_of_row (C := Tryd.checked) (s := OpenSpec.ofChange Rows.abiBackSpec) Tryd.own started (by kernel_rfl) Tryd.func5
    (witness_row_at (enc := enc) (C := Tryd.checked) false (abiBack_world os) #[.slice none 0 0, .slice none 0 0] rfl (by kernel_rfl) (by kernel_rfl) (by kernel_rfl)
      (OpenSpec.preRow_of_cond 8 hx (by kernel_rfl) (fun k hk => by cases hk) (by kernel_rfl) (abiBack_laid os))) ?_
  intro W0 base args ds gs before hval0 hW _ _ _ hlaid _ _
  have hval : ∀ (j : Nat) t v, Tryd.f5.params[j]? = some t → args[j]? = some v → Value.okWide Tryd.prog W0 .any base t v := hval0
  have hW' := hW
  obtain ⟨p, q, hA0, hV, rfl, hfz, hnd⟩ := hW
  have hA : DataW.TrodAll enc Tryd.prog W0 0 (fun _ => true) true Tryd.f5.params.toList args.toList ds p := hA0
  rw [Tryd.params5] at hA hval
  obtain ⟨v0, v1, d0, d1, p0, p1, rfl, rfl, rfl, h0, h1⟩ := trodAll_two hA
  obtain ⟨rfl, rfl⟩ := trodVars_none hV
  obtain ⟨a0, n0, c0, y0, z0, rfl, i0⟩ := parts_open (hval 0 _ v0 rfl rfl) h0
  obtain ⟨a1, n1, c1, y1, rfl, i1⟩ := byt_open (hval 1 _ v1 rfl rfl) h1
  refine (calls_args (by simp only [cvs]; try rfl) (back_core a0 n0 c0 y0 z0 a1 n1 c1 y1 W0 i0 i1 hlaid)).mono fun e W' h => ?_
  obtain ⟨he, hw⟩ := Yes.out h
  subst he
  exact ⟨_, rfl, post_any hW' rfl hw (by kernel_rfl) rfl (fun _ _ _ => trodAll_mk1 (shut_bool Tryd.underlying4 true)) (fun _ => rfl) (ok_one (by kernel_rfl) rfl (okWide_bool_mk Tryd.underlying4 true))⟩
theorem abiBack_said : Rows.AbiBackSaid :=
  OpenClaim.holds_of_cond 5 Tryd.f5 rfl rfl rfl rfl rfl rfl rfl ⟨rfl, rfl, rfl, rfl, rfl⟩ rfl rfl rfl rfl rfl (by kernel_rfl) Tryd.func5 (by kernel_rfl)
    (of_decide_eq_true (by kernel_rfl)) (by unfold Func.isWrapper; first | (rw [if_pos (by decide +kernel)]; kernel_rfl) | (rw [if_neg (by decide +kernel)]; exact ⟨rfl, rfl⟩))
    (fun os started H enc _ F => by rw [OpenClaim.pre_eq_preRow]; exact abiBack_lifted os started H enc F)
theorem abiBack_plain (f : FuncId) (fn : Func) (hf : Tryd.pinned.checked.prog.funcNamed "quaestor/quaestorlaw05.AbiBack" = some f) (hfn : Tryd.pinned.checked.prog.funcs[f]? = some fn) :
    true = Tryd.pinned.checked.prog.looks [] ∧ ∀ (j : Nat) t, fn.params[j]? = some t → Tryd.pinned.checked.prog.wantsStandIn t = false := by
  obtain rfl : f = 5 := Option.some.inj ((show Tryd.prog.funcNamed "quaestor/quaestorlaw05.AbiBack" = some 5 by kernel_rfl).symm.trans hf) |>.symm
  obtain rfl : fn = Tryd.f5 := (Option.some.inj (Tryd.func5.symm.trans hfn)).symm
  refine ⟨by kernel_rfl, fun j t ht => ?_⟩
  rw [Tryd.params5] at ht
  have ht2 := Array.mem_of_getElem? ht
  simp only [List.mem_toArray, List.mem_cons, List.not_mem_nil, or_false] at ht2
  rcases ht2 with rfl | rfl
  · exact (show Tryd.prog.wantsStandIn 22 = false by kernel_rfl)
  · exact (show Tryd.prog.wantsStandIn 26 = false by kernel_rfl)
theorem AbiBack_holds : Rows.AbiBackCardSaid :=
  Claim7.holds_tied_plain_at .later [] _ _ _ _ abiBack_said (fun _ h => by cases h) (by kernel_rfl) (fun _ h => by cases h) abiBack_row_tie rfl ⟨rfl, rfl⟩ (by kernel_rfl) rfl abiBack_plain (by kernel_rfl)
#print axioms AbiBack_holds
end Go.Proofs.YtdkhlcoklihpfaaDoor
