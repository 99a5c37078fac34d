/-
  The law AbiEncodes of package quaestorlaw05 answers true for all parts and all names, and leaves them as they were. No condition.
-/
import Derived.Test.YtdkhlcoklihpfaaDoorDE
import Derived.Test.YtdkhlcoklihpfaaDoorFJ
import Derived.Test.YtdkhlcoklihpfaaDoorDQ
import Derived.Test.YtdkhlcoklihpfaaDoorKB
import Derived.Test.YtdkhlcoklihpfaaDoorKV
import Derived.Test.YtdkhlcoklihpfaaDoorCards
import Derived.Test.YtdkhlcoklihpfaaDoorTie
import Derived.Deep.DeepHandedRow
import Derived.Lib.LaidTab
import Derived.LaidHandle
import Derived.OpenShut
namespace Go.Proofs.YtdkhlcoklihpfaaDoor
set_option linter.unusedSimpArgs false
set_option linter.unusedVariables false
set_option maxHeartbeats 4000000
set_option maxRecDepth 10000
set_option linter.defProp false
open Go.RowKit Go.ChangeShapes Go.WideShapes Go.ChangeAt
def g_qSum (args : List SV) (m : List Blk) : CR :=
  match args with
  | [x] => match srcC x m with
    | some (q, k, .ints .u8 xs) => .pure (q ∧ k ≤ 1000000 ∧ allB xs) (.word (kSum xs))
    | _ => .none
  | _ => .none
theorem g_qSum_ok (w0 : World) (B : List Nat) (args : List SV) (m : List Blk) : CROk Tryd.prog w0 B 26 args m (g_qSum args m) := by
  unfold g_qSum
  split
  · rename_i x
    split
    · rename_i q k xs hs
      intro ⟨hq, hk, hx⟩ w hm
      obtain ⟨l1, a, cp, e1, b1, m1, d1⟩ := src_ro hs hq hm
      have hl : xs.length = k := by simpa [cc, conEs] using l1
      have e : cvs [x] = cvs [.sl 0 a 0 0 1 k cp] := by simp only [cvs]; rw [e1]; rfl
      rw [e, ← qSum_eq]
      exact calls_pure Tryd.func26 rfl rfl (qsum_vc xs a k cp hl b1 hk hx d1 w m1)
    · exact trivial
  · exact trivial
noncomputable def GDT : Ctr := fun f args m => match f with
  | 26 => g_qSum args m
  | 20 => g_rBytes args m
  | _ => .none
theorem GDT_ok : GOk Tryd.prog GDT := by
  intro w0 B f args m; unfold GDT; split
  · exact g_qSum_ok _ _ _ _
  · exact g_rBytes_ok _ _ _ _
  · exact trivial
theorem GDT_qSum : GDT 26 = g_qSum := by funext args m; rfl
theorem GDT_rBytes : GDT 20 = g_rBytes := by funext args m; rfl
def GDT_set := And.intro (And.intro (@GDT_qSum) (@g_qSum.eq_def)) (And.intro (@GDT_rBytes) (@g_rBytes.eq_def))

theorem rsel_vc (xs : List Int) (hx : allB xs) (hl : xs.length ≤ 1000000) (w : World) (hm : MemOk w [] [.ro (some ⟨1, 0, none⟩) (.ints .u64 kKeys), .ro (some ⟨2, 0, none⟩) (.ints .u8 kPathI)] w) :
    Calls Tryd.prog 15 (cvs [.str xs]).toArray w (fun en w' => ∃ u, en = .returned u ∧ ∃ v' m', u = cv v' ∧ MemOk w [] m' w' ∧ ∃ k s, v' = .sl k (some ⟨blkOf s, 0, none⟩) 0 0 1 4 (max 32 (capOf s)) ∧ bget m' k = .own s 32 5 1 (.ints .u8 (bytI (kSum xs) 32))) := by
  have u1 : xs.take xs.length = xs := List.take_length
  refine Vc.calls T0_ok Tryd.func15 rfl rfl (args := [.str xs]) (k := 7) rfl hm ?_; change Vc _ _ (c8 (.str xs) .undef .undef .undef .undef .undef .undef .undef ([])) _ _
  ((with_reducible refine Vc.seq fun N hN => ?_); (refine Vc.regiont T0_ok GDT_ok ?_); simp only [v8X, v8A, v8B, v8C, Nat.beq, Nat.ble, Int.reduceToNat, Int.reduceLE, Int.reduceLT, Nat.reduceLT, Nat.reduceLeDiff, Nat.reduceAdd, Nat.reduceMul, Nat.reduceSub, Int.reduceAdd, Int.reduceSub, Int.reduceMul, eq_self, decide_true, beq_self_eq_true, List.length_cons, List.length_nil, Nat.min_eq_left, IntKind.bits, tabs, GDT_set]; (try simp (disch := omega) only [v8W]); (repeat (first | with_reducible intro _ | ((with_reducible refine And.intro ?_ ?_); (focus (first | exact sideQ | exact sd0))) | ((with_reducible refine askT_of ?_ (fun hb => ?_)); (focus (first | exact sideQ | exact sd0)); simp only [hb, v8X, v8A, v8B, v8C, Nat.beq, Nat.ble, Int.reduceToNat, Int.reduceLE, Int.reduceLT, Nat.reduceLT, Nat.reduceLeDiff, Nat.reduceAdd, Nat.reduceMul, Nat.reduceSub, Int.reduceAdd, Int.reduceSub, Int.reduceMul, eq_self, decide_true, beq_self_eq_true, List.length_cons, List.length_nil, Nat.min_eq_left, IntKind.bits, tabs, GDT_set]; (try simp (disch := omega) only [v8W])))); (first | (refine hN _ _ ?_; clear hN N; (try simp (disch := omega) only [v8W])) | skip))
  refine Vc.seq fun N hN => ?_
  refine Vc.regionCnv T0_ok GDT_ok (pre := [⟨some 3, .move (.tmp 0), _, _, _, none⟩]) rfl rfl rfl rfl ?_
  (simp only [v8X, v8A, v8B, v8C, Nat.beq, Nat.ble, Int.reduceToNat, Int.reduceLE, Int.reduceLT, Nat.reduceLT, Nat.reduceLeDiff, Nat.reduceAdd, Nat.reduceMul, Nat.reduceSub, Int.reduceAdd, Int.reduceSub, Int.reduceMul, eq_self, decide_true, beq_self_eq_true, List.length_cons, List.length_nil, Nat.min_eq_left, IntKind.bits, tabs])
  refine ⟨trivial, xs, rfl, hx, fun b cap o hcp hLi => ?_⟩
  have hLb : ∀ M, Blk.heap [(b, o)] ∈ M → LiesH (HM M) (some ⟨b, 0, none⟩) (cc (.ints .u8 xs)) := hLi
  (simp only [v8X, v8A, v8B, v8C, Nat.beq, Nat.ble, Int.reduceToNat, Int.reduceLE, Int.reduceLT, Nat.reduceLT, Nat.reduceLeDiff, Nat.reduceAdd, Nat.reduceMul, Nat.reduceSub, Int.reduceAdd, Int.reduceSub, Int.reduceMul, eq_self, decide_true, beq_self_eq_true, List.length_cons, List.length_nil, Nat.min_eq_left, IntKind.bits, tabs, GDT_set, u1, List.drop_zero]; (try simp (disch := omega) only [v8W]); (repeat (first | with_reducible intro _ | ((with_reducible refine And.intro ?_ ?_); (focus (first | ((repeat' with_reducible apply And.intro) <;> first | exact sideQ | (exact hLb _ (by simp)) | (exact .inl rfl) | (exact kSum_lt _)) | exact sd0))) | ((with_reducible refine askT_of ?_ (fun hb => ?_)); (focus (first | ((repeat' with_reducible apply And.intro) <;> first | exact sideQ | (exact hLb _ (by simp)) | (exact .inl rfl) | (exact kSum_lt _)) | exact sd0)); simp only [hb, v8X, v8A, v8B, v8C, Nat.beq, Nat.ble, Int.reduceToNat, Int.reduceLE, Int.reduceLT, Nat.reduceLT, Nat.reduceLeDiff, Nat.reduceAdd, Nat.reduceMul, Nat.reduceSub, Int.reduceAdd, Int.reduceSub, Int.reduceMul, eq_self, decide_true, beq_self_eq_true, List.length_cons, List.length_nil, Nat.min_eq_left, IntKind.bits, tabs, GDT_set, u1, List.drop_zero]; (try simp (disch := omega) only [v8W])))); (first | (refine hN _ _ ?_; clear hN N; (try simp (disch := omega) only [v8W])) | skip))
  rename_i v
  ((repeat (first | (with_reducible refine Vc.seq fun N hN => ?_) | (with_reducible refine Vc.block ?_) | ((first | with_reducible refine Vc.skip ?_ | with_reducible refine Vc.exit ?_); dsimp only [thenK, blockK, Nat.beq]; (first | (refine hN _ _ ?_; clear hN N) | skip)) | (with_reducible intro _) | ((with_reducible refine And.intro ?_ ?_); (focus (first | exact sideQ | exact sd0))) | ((first | ((with_reducible refine askT_of ?_ (fun hb => ?_)); (focus (first | exact sideQ | exact sd0)); (try simp only [hb])) | ((with_reducible refine Vc.fin ?_); dsimp only [thenK, blockK, retK, resS, resOne, resAll]) | ((with_reducible refine Vc.hold ?_); first | refine Vc.regiont T0_ok GDT_ok ?_)); (try simp only [v8X, v8A, v8B, v8C, Nat.beq, Nat.ble, Int.reduceToNat, Int.reduceLE, Int.reduceLT, Nat.reduceLT, Nat.reduceLeDiff, Nat.reduceAdd, Nat.reduceMul, Nat.reduceSub, Int.reduceAdd, Int.reduceSub, Int.reduceMul, eq_self, decide_true, beq_self_eq_true, List.length_cons, List.length_nil, Nat.min_eq_left, IntKind.bits, tabs, GDT_set]); (try simp (disch := omega) only [v8W])) | ((with_reducible refine hN _ _ ?_); clear hN N; (try simp (disch := omega) only [v8W])))); (try ((with_reducible refine Fin.of ?_); (try with_reducible exact True.intro))))
  exact ⟨trivial, 3, v, rfl, rfl⟩
def g_rSel (args : List SV) (m : List Blk) : CR :=
  match args with
  | [.str xs] => match bget m 0, bget m 1 with
    | .ro a0 c0, .ro a1 c1 => .own (allB xs ∧ xs.length ≤ 1000000 ∧ a0 = some ⟨1, 0, none⟩ ∧ c0 = .ints .u64 kKeys ∧ a1 = some ⟨2, 0, none⟩ ∧ c1 = .ints .u8 kPathI) 5 1 4 (.ints .u8 (selB xs)) (fun v => v)
    | _, _ => .none
  | _ => .none
theorem g_rSel_ok (w0 : World) (B : List Nat) (args : List SV) (m : List Blk) : CROk Tryd.prog w0 B 15 args m (g_rSel args m) := by
  unfold g_rSel
  split
  · rename_i xs
    split
    · rename_i a0 c0 a1 c1 h0 h1
      intro ⟨hx, hl, r0, r1, r2, r3⟩ w hm
      subst r0 r1 r2 r3
      refine .inr ⟨enter_run Tryd.func15 rfl rfl _ w, (rsel_vc xs hx hl w (ro_front (ro_ro hm h1) (ro_ro hm h0))).mono fun e w' ⟨u, he, v', m', hu, hm', k, s, hv, hs⟩ => ?_⟩
      have hok := own_ok0 (hm'.each _ (bget_mem hs (by simp)))
      obtain ⟨h2, h3⟩ := hok
      rcases h3 with ⟨_, h4⟩ | ⟨g, cap, cur, rfl, k1, k2, k3, k4, k5, k6⟩
      · exact absurd h4 (by decide)
      refine ⟨u, he, .slice (some ⟨g, 0, none⟩) 4 cap, ?_, hm'.grown, ?_, .inr ⟨g, cap, cur, rfl, k1, k2, by omega, k4, k5, ?_⟩⟩
      · rw [hu, hv]
        have e0 : max 32 (capOf (.slice (some ⟨g, 0, none⟩) 32 cap)) = cap := Nat.max_eq_right k3
        rw [e0]
        simp [cv, slV, blkOf, blkO, addr_add]
      · unfold selB; simp [cc, bytI_len]
      · have e1 : cur.toList.take (4 * 1) = (cur.toList.take (32 * 1)).take 4 := by rw [List.take_take]; rfl
        rw [e1, k6]
        unfold selB
        simp [cc]
    · exact trivial
  · exact trivial
theorem selB_all2 (xs : List Int) : allB (selB xs) := fun y hy => bytI_all _ _ y (List.mem_of_mem_take hy)
noncomputable def GDU : Ctr := fun f args m => match f with
  | 12 => g_abEnc args m
  | 14 => g_Sel args m
  | 13 => g_rEnc args m
  | 15 => g_rSel args m
  | 10 => g_alK args m
  | 9 => g_much args m
  | 11 => g_same args m
  | _ => .none
theorem GDU_ok : GOk Tryd.prog GDU := by
  intro w0 B f args m; unfold GDU; split
  · exact g_abEnc_ok _ _ _ _
  · exact g_Sel_ok _ _ _ _
  · exact g_rEnc_ok _ _ _ _
  · exact g_rSel_ok _ _ _ _
  · exact g_alK_ok _ _ _ _
  · exact g_much_ok _ _ _ _
  · exact g_same_ok _ _ _ _
  · exact trivial
theorem GDU_abEnc : GDU 12 = g_abEnc := by funext args m; rfl
theorem GDU_Sel : GDU 14 = g_Sel := by funext args m; rfl
theorem GDU_rEnc : GDU 13 = g_rEnc := by funext args m; rfl
theorem GDU_rSel : GDU 15 = g_rSel := by funext args m; rfl
theorem GDU_alK : GDU 10 = g_alK := by funext args m; rfl
theorem GDU_much : GDU 9 = g_much := by funext args m; rfl
theorem GDU_same : GDU 11 = g_same := by funext args m; rfl
def GDU_set := And.intro (And.intro (And.intro (@GDU_abEnc) (And.intro (@g_abEnc.eq_def) (@GDU_Sel))) (And.intro (And.intro (@g_Sel.eq_def) (@GDU_rEnc)) (And.intro (@g_rEnc.eq_def) (@GDU_rSel)))) (And.intro (And.intro (@g_rSel.eq_def) (And.intro (@GDU_alK) (@g_alK.eq_def))) (And.intro (And.intro (@GDU_much) (@g_much.eq_def)) (And.intro (@GDU_same) (@g_same.eq_def))))

set_option maxRecDepth 20000 in
theorem encs_law (a : Option Addr) (n c : Nat) (rs : List (List SV)) (l : List Prt) (hl : l.length = n) (hn : n ≤ c) (ha : adr a n c) (hm : n ≤ maxLen) (xs : List Int) (hx : allB xs) (hxl : xs.length ≤ maxLen) (w : World)
    (h1 : MemOk w [] [.ro (some ⟨1, 0, none⟩) (.ints .u64 kKeys)] w) (h2 : MemOk w [] [.ro (some ⟨2, 0, none⟩) (.ints .u8 kPathI)] w)
    (hL : LiesH (H0 w) a (cc (.rows 6 rs))) (hR : PsR (H0 w) rs l) :
    Calls Tryd.prog 3 (cvs [.gh a n c (.rows 6 rs), .str xs]).toArray w (Yes w) := by
  have hm1 := hm
  unfold maxLen at hm hxl
  have hLx : ∀ m, allOld w ∈ m → LiesH (HM m) a (cc (.rows 6 rs)) := fun m hin => hL.mono (H0.hm hin)
  have hlo := lOf_eq hR
  have hPm : ∀ M, allOld w ∈ M → ∃ l, PsR (HM M) rs l ∧ l.length = n ∧ n ≤ c ∧ adr a n c ∧ n ≤ maxLen ∧ LiesH (HM M) a (cc (.rows 6 rs)) := fun M hin => ⟨l, hR.mono (H0.hm hin), hl, hn, ha, hm1, hLx M hin⟩
  have hm0 : MemOk w [] [.ro (some ⟨1, 0, none⟩) (.ints .u64 kKeys), .ro (some ⟨2, 0, none⟩) (.ints .u8 kPathI), allOld w] w := ro_front (ro_front (old_start w) h2) h1
  cases hmu : muA l with
  | true =>
    refine Vc.calls T0_ok Tryd.func3 rfl rfl (args := [.gh a n c (.rows 6 rs), .str xs]) (k := 25) rfl hm0 ?_; change Vc _ _ (c8 (.gh a n c (.rows 6 rs)) (.str xs) .undef .undef .undef .undef .undef .undef (c8 .undef .undef .undef .undef .undef .undef .undef .undef (c8 .undef .undef .undef .undef .undef .undef .undef .undef ([.undef, .undef, .undef])))) _ _
    ((repeat (first | (with_reducible refine Vc.seq fun N hN => ?_) | (with_reducible refine Vc.block ?_) | ((first | with_reducible refine Vc.skip ?_ | with_reducible refine Vc.exit ?_); dsimp only [thenK, blockK, Nat.beq]; (first | (refine hN _ _ ?_; clear hN N) | skip)) | (with_reducible intro _) | ((with_reducible refine And.intro ?_ ?_); (focus (first | ((repeat' with_reducible apply And.intro) <;> first | exact sideQ | (exact hPm _ (by simp))) | exact sd0))) | ((first | ((with_reducible refine askT_of ?_ (fun hb => ?_)); (focus (first | ((repeat' with_reducible apply And.intro) <;> first | exact sideQ | (exact hPm _ (by simp))) | exact sd0)); (try simp only [hb])) | ((with_reducible refine Vc.fin ?_); dsimp only [thenK, blockK, retK, resS, resOne, resAll]) | ((with_reducible refine Vc.hold ?_); first | refine Vc.regiont T0_ok GDU_ok ?_)); (try simp only [v8X, v8A, v8B, v8C, Nat.beq, Nat.ble, Int.reduceToNat, Int.reduceLE, Int.reduceLT, Nat.reduceLT, Nat.reduceLeDiff, Nat.reduceAdd, Nat.reduceMul, Nat.reduceSub, Int.reduceAdd, Int.reduceSub, Int.reduceMul, eq_self, decide_true, beq_self_eq_true, List.length_cons, List.length_nil, Nat.min_eq_left, IntKind.bits, tabs, GDU_set, hlo, hmu]); (try simp (disch := omega) only [v8W])) | ((with_reducible refine hN _ _ ?_); clear hN N; (try simp (disch := omega) only [v8W])))); (try ((with_reducible refine Fin.of ?_); (try with_reducible exact True.intro))))
    (refine Vc.cond T0_ok (t := true) (by rfl) (fun _ => ?_) (fun h => Bool.noConfusion h))
    ((repeat (first | (with_reducible refine Vc.seq fun N hN => ?_) | (with_reducible refine Vc.block ?_) | ((first | with_reducible refine Vc.skip ?_ | with_reducible refine Vc.exit ?_); dsimp only [thenK, blockK, Nat.beq]; (first | (refine hN _ _ ?_; clear hN N) | skip)) | (with_reducible intro _) | ((with_reducible refine And.intro ?_ ?_); (focus (first | exact sideQ | exact sd0))) | ((first | ((with_reducible refine askT_of ?_ (fun hb => ?_)); (focus (first | exact sideQ | exact sd0)); (try simp only [hb])) | ((with_reducible refine Vc.fin ?_); dsimp only [thenK, blockK, retK, resS, resOne, resAll]) | ((with_reducible refine Vc.hold ?_); first | refine Vc.regiont T0_ok GDU_ok ?_)); (try simp only [v8X, v8A, v8B, v8C, Nat.beq, Nat.ble, Int.reduceToNat, Int.reduceLE, Int.reduceLT, Nat.reduceLT, Nat.reduceLeDiff, Nat.reduceAdd, Nat.reduceMul, Nat.reduceSub, Int.reduceAdd, Int.reduceSub, Int.reduceMul, eq_self, decide_true, beq_self_eq_true, List.length_cons, List.length_nil, Nat.min_eq_left, IntKind.bits, tabs, GDU_set]); (try simp (disch := omega) only [v8W])) | ((with_reducible refine hN _ _ ?_); clear hN N; (try simp (disch := omega) only [v8W])))); (try ((with_reducible refine Fin.of ?_); (try with_reducible exact True.intro))))
    exact ⟨by simp, trivial⟩
  | false =>
    obtain ⟨hz, hl2⟩ := muA_no hmu
    have hPe : ∀ M, allOld w ∈ M → ∃ l, PsR (HM M) rs l ∧ l.length = n ∧ n ≤ c ∧ adr a n c ∧ psz l ≤ 100000 ∧ LiesH (HM M) a (cc (.rows 6 rs)) := fun M hin => ⟨l, hR.mono (H0.hm hin), hl, hn, ha, by omega, hLx M hin⟩
    have hEa : allB (abEnc l) := abEnc_all hR
    by_cases c1 : xs.length ≤ 2000
    · have d1 : decide ((2000 : Int) < (xs.length : Int)) = false := decide_eq_false (by omega)
      have d2 : decide (abEnc l = abEnc l) = true := decide_eq_true rfl
      have d3 : decide (selB xs = selB xs) = true := decide_eq_true rfl
      have uE : (abEnc l).take (abEnc l).length = abEnc l := List.take_length
      have hsl : (selB xs).length = 4 := by unfold selB; rw [List.length_take, bytI_len]; rfl
      have u4 : (selB xs).take 4 = selB xs := List.take_of_length_le (by omega)
      refine Vc.calls T0_ok Tryd.func3 rfl rfl (args := [.gh a n c (.rows 6 rs), .str xs]) (k := 25) rfl hm0 ?_; change Vc _ _ (c8 (.gh a n c (.rows 6 rs)) (.str xs) .undef .undef .undef .undef .undef .undef (c8 .undef .undef .undef .undef .undef .undef .undef .undef (c8 .undef .undef .undef .undef .undef .undef .undef .undef ([.undef, .undef, .undef])))) _ _
      ((repeat (first | (with_reducible refine Vc.seq fun N hN => ?_) | (with_reducible refine Vc.block ?_) | ((first | with_reducible refine Vc.skip ?_ | with_reducible refine Vc.exit ?_); dsimp only [thenK, blockK, Nat.beq]; (first | (refine hN _ _ ?_; clear hN N) | skip)) | (with_reducible intro _) | ((with_reducible refine And.intro ?_ ?_); (focus (first | ((repeat' with_reducible apply And.intro) <;> first | exact sideQ | (exact hPm _ (by simp)) | (exact hPe _ (by simp)) | (exact selB_all2 _) | (exact hEa)) | exact sd0))) | ((first | ((with_reducible refine askT_of ?_ (fun hb => ?_)); (focus (first | ((repeat' with_reducible apply And.intro) <;> first | exact sideQ | (exact hPm _ (by simp)) | (exact hPe _ (by simp)) | (exact selB_all2 _) | (exact hEa)) | exact sd0)); (try simp only [hb])) | ((with_reducible refine Vc.fin ?_); dsimp only [thenK, blockK, retK, resS, resOne, resAll]) | ((with_reducible refine Vc.hold ?_); first | refine Vc.regiont T0_ok GDU_ok ?_)); (try simp only [v8X, v8A, v8B, v8C, Nat.beq, Nat.ble, Int.reduceToNat, Int.reduceLE, Int.reduceLT, Nat.reduceLT, Nat.reduceLeDiff, Nat.reduceAdd, Nat.reduceMul, Nat.reduceSub, Int.reduceAdd, Int.reduceSub, Int.reduceMul, eq_self, decide_true, beq_self_eq_true, List.length_cons, List.length_nil, Nat.min_eq_left, IntKind.bits, tabs, GDU_set, hlo, hmu, d1]); (try simp (disch := omega) only [v8W])) | ((with_reducible refine hN _ _ ?_); clear hN N; (try simp (disch := omega) only [v8W])))); (try ((with_reducible refine Fin.of ?_); (try with_reducible exact True.intro))))
      (refine Vc.cond T0_ok (t := false) (by rfl) (fun h => Bool.noConfusion h) (fun _ => ?_))
      ((repeat (first | (with_reducible refine Vc.seq fun N hN => ?_) | (with_reducible refine Vc.block ?_) | ((first | with_reducible refine Vc.skip ?_ | with_reducible refine Vc.exit ?_); dsimp only [thenK, blockK, Nat.beq]; (first | (refine hN _ _ ?_; clear hN N) | skip)) | (with_reducible intro _) | ((with_reducible refine And.intro ?_ ?_); (focus (first | ((repeat' with_reducible apply And.intro) <;> first | exact sideQ | (exact hPm _ (by simp)) | (exact hPe _ (by simp)) | (exact selB_all2 _) | (exact hEa)) | exact sd0))) | ((first | ((with_reducible refine askT_of ?_ (fun hb => ?_)); (focus (first | ((repeat' with_reducible apply And.intro) <;> first | exact sideQ | (exact hPm _ (by simp)) | (exact hPe _ (by simp)) | (exact selB_all2 _) | (exact hEa)) | exact sd0)); (try simp only [hb])) | ((with_reducible refine Vc.fin ?_); dsimp only [thenK, blockK, retK, resS, resOne, resAll]) | ((with_reducible refine Vc.hold ?_); first | refine Vc.regiont T0_ok GDU_ok ?_)); (try simp only [v8X, v8A, v8B, v8C, Nat.beq, Nat.ble, Int.reduceToNat, Int.reduceLE, Int.reduceLT, Nat.reduceLT, Nat.reduceLeDiff, Nat.reduceAdd, Nat.reduceMul, Nat.reduceSub, Int.reduceAdd, Int.reduceSub, Int.reduceMul, eq_self, decide_true, beq_self_eq_true, List.length_cons, List.length_nil, Nat.min_eq_left, IntKind.bits, tabs, GDU_set, hlo, uE, u4, d2, d3, List.drop_zero]); (try simp (disch := omega) only [v8W])) | ((with_reducible refine hN _ _ ?_); clear hN N; (try simp (disch := omega) only [v8W])))); (try ((with_reducible refine Fin.of ?_); (try with_reducible exact True.intro))))
      exact ⟨by simp, by first | trivial | rfl⟩
    · have d1 : decide ((2000 : Int) < (xs.length : Int)) = true := decide_eq_true (by omega)
      refine Vc.calls T0_ok Tryd.func3 rfl rfl (args := [.gh a n c (.rows 6 rs), .str xs]) (k := 25) rfl hm0 ?_; change Vc _ _ (c8 (.gh a n c (.rows 6 rs)) (.str xs) .undef .undef .undef .undef .undef .undef (c8 .undef .undef .undef .undef .undef .undef .undef .undef (c8 .undef .undef .undef .undef .undef .undef .undef .undef ([.undef, .undef, .undef])))) _ _
      ((repeat (first | (with_reducible refine Vc.seq fun N hN => ?_) | (with_reducible refine Vc.block ?_) | ((first | with_reducible refine Vc.skip ?_ | with_reducible refine Vc.exit ?_); dsimp only [thenK, blockK, Nat.beq]; (first | (refine hN _ _ ?_; clear hN N) | skip)) | (with_reducible intro _) | ((with_reducible refine And.intro ?_ ?_); (focus (first | ((repeat' with_reducible apply And.intro) <;> first | exact sideQ | (exact hPm _ (by simp)) | (exact hPe _ (by simp)) | (exact selB_all2 _) | (exact hEa)) | exact sd0))) | ((first | ((with_reducible refine askT_of ?_ (fun hb => ?_)); (focus (first | ((repeat' with_reducible apply And.intro) <;> first | exact sideQ | (exact hPm _ (by simp)) | (exact hPe _ (by simp)) | (exact selB_all2 _) | (exact hEa)) | exact sd0)); (try simp only [hb])) | ((with_reducible refine Vc.fin ?_); dsimp only [thenK, blockK, retK, resS, resOne, resAll]) | ((with_reducible refine Vc.hold ?_); first | refine Vc.regiont T0_ok GDU_ok ?_)); (try simp only [v8X, v8A, v8B, v8C, Nat.beq, Nat.ble, Int.reduceToNat, Int.reduceLE, Int.reduceLT, Nat.reduceLT, Nat.reduceLeDiff, Nat.reduceAdd, Nat.reduceMul, Nat.reduceSub, Int.reduceAdd, Int.reduceSub, Int.reduceMul, eq_self, decide_true, beq_self_eq_true, List.length_cons, List.length_nil, Nat.min_eq_left, IntKind.bits, tabs, GDU_set, hlo, hmu, d1]); (try simp (disch := omega) only [v8W])) | ((with_reducible refine hN _ _ ?_); clear hN N; (try simp (disch := omega) only [v8W])))); (try ((with_reducible refine Fin.of ?_); (try with_reducible exact True.intro))))
      (refine Vc.cond T0_ok (t := true) (by rfl) (fun _ => ?_) (fun h => Bool.noConfusion h))
      ((repeat (first | (with_reducible refine Vc.seq fun N hN => ?_) | (with_reducible refine Vc.block ?_) | ((first | with_reducible refine Vc.skip ?_ | with_reducible refine Vc.exit ?_); dsimp only [thenK, blockK, Nat.beq]; (first | (refine hN _ _ ?_; clear hN N) | skip)) | (with_reducible intro _) | ((with_reducible refine And.intro ?_ ?_); (focus (first | exact sideQ | exact sd0))) | ((first | ((with_reducible refine askT_of ?_ (fun hb => ?_)); (focus (first | exact sideQ | exact sd0)); (try simp only [hb])) | ((with_reducible refine Vc.fin ?_); dsimp only [thenK, blockK, retK, resS, resOne, resAll]) | ((with_reducible refine Vc.hold ?_); first | refine Vc.regiont T0_ok GDU_ok ?_)); (try simp only [v8X, v8A, v8B, v8C, Nat.beq, Nat.ble, Int.reduceToNat, Int.reduceLE, Int.reduceLT, Nat.reduceLT, Nat.reduceLeDiff, Nat.reduceAdd, Nat.reduceMul, Nat.reduceSub, Int.reduceAdd, Int.reduceSub, Int.reduceMul, eq_self, decide_true, beq_self_eq_true, List.length_cons, List.length_nil, Nat.min_eq_left, IntKind.bits, tabs, GDU_set]); (try simp (disch := omega) only [v8W])) | ((with_reducible refine hN _ _ ?_); clear hN N; (try simp (disch := omega) only [v8W])))); (try ((with_reducible refine Fin.of ?_); (try with_reducible exact True.intro))))
      exact ⟨by simp, trivial⟩
theorem allB_strI2 (s : ByteArray) : allB (strI s) := by
  intro y hy
  unfold strI at hy
  obtain ⟨b, _, rfl⟩ := List.mem_map.1 hy
  have := b.toNat_lt
  omega
theorem encs_core (a : Option Addr) (n c : Nat) (rs : List (List SV)) (l : List Prt) (s : ByteArray) (hs : s.size ≤ maxLen) (w : World) (i0 : l.length = n ∧ n ≤ c ∧ adr a n c ∧ n ≤ maxLen ∧ LiesH (H0 w) a (cc (.rows 6 rs)) ∧ PsR (H0 w) rs l) (h : laidMetH Tryd.prog Rows.abiEncodesRow.laid w) :
    Calls Tryd.prog 3 (cvs [.gh a n c (.rows 6 rs), .str (strI s)]).toArray w (Yes w) := by
  have hh : RoOk w (some ⟨1, 0, none⟩) (.ints .u64 kKeys) ∧ RoOk w (some ⟨2, 0, none⟩) (.ints .u8 kPathI) :=
    laid_two (n1 := "quaestor/keccak.keys") (n2 := "quaestor/keccak.path") h (by kernel_rfl) (by kernel_rfl) (by kernel_rfl) (by kernel_rfl) (by kernel_rfl) (by kernel_rfl)
  obtain ⟨b1, b2, b3, b4, b5, b6⟩ := i0
  exact encs_law a n c rs l b1 b2 b3 b4 (strI s) (allB_strI2 s) (by rw [← bytesOf_size, bytesOf_strI]; exact hs) w (ro_cons (ro_nil w) hh.1) (ro_cons (ro_nil w) hh.2) b5 b6
def abiEncodes_lay1 : Obj → Obj
  | .cells _ t frozen => .cells #[.int .u64 1, .int .u64 32898, .int .u64 9223372036854808714, .int .u64 9223372039002292224, .int .u64 32907, .int .u64 2147483649, .int .u64 9223372039002292353, .int .u64 9223372036854808585, .int .u64 138, .int .u64 136, .int .u64 2147516425, .int .u64 2147483658, .int .u64 2147516555, .int .u64 9223372036854775947, .int .u64 9223372036854808713, .int .u64 9223372036854808579, .int .u64 9223372036854808578, .int .u64 9223372036854775936, .int .u64 32778, .int .u64 9223372039002259466, .int .u64 9223372039002292353, .int .u64 9223372036854808704, .int .u64 2147483649, .int .u64 9223372039002292232] t frozen
  | o => o
def abiEncodes_lay2 : Obj → Obj
  | .cells _ t frozen => .cells #[.int .u8 10, .int .u8 7, .int .u8 11, .int .u8 17, .int .u8 18, .int .u8 3, .int .u8 5, .int .u8 16, .int .u8 8, .int .u8 21, .int .u8 24, .int .u8 4, .int .u8 15, .int .u8 23, .int .u8 19, .int .u8 13, .int .u8 12, .int .u8 2, .int .u8 20, .int .u8 14, .int .u8 22, .int .u8 9, .int .u8 6, .int .u8 1] t frozen
  | o => o
/-- A world for the witness: the settled one, the listed variables holding what the row lists. -/
noncomputable def abiEncodes_world (os : Os) : World :=
  { World.holding Tryd.prog os ⟨#[], #[], []⟩ with heap := (((World.holding Tryd.prog os ⟨#[], #[], []⟩).heap).modify 1 abiEncodes_lay1).modify 2 abiEncodes_lay2 }
set_option maxRecDepth 100000 in
theorem abiEncodes_laid (os : Os) : laidMetH Tryd.prog Rows.abiEncodesRow.laid ((abiEncodes_world os).forCall (fun _ _ => 0) ⟨#[], #[.slice none 0 0, .string ⟨#[]⟩], []⟩).memory :=
  laidMetH_of_parts (laidMet_of_run' 8 (by kernel_rfl) (by kernel_rfl)) (by kernel_rfl)
set_option maxRecDepth 100000 in
theorem abiEncodes_reads (os : Os) {H : Type} (enc : TypeId × Value → H) : ∃ places, DataW.whole enc Tryd.prog ((abiEncodes_world os).forCall (fun _ _ => 0) ⟨#[], #[.slice none 0 0, .string ⟨#[]⟩], []⟩).memory Tryd.f3.params.toList Rows.abiEncodesSpec.vars false (#[.slice none 0 0, .string ⟨#[]⟩] : Array Value).toList 8 = some ([.nil, .lit (.string [])], [], places) :=
  ⟨[], by kernel_rfl⟩
set_option maxRecDepth 100000 in
theorem abiEncodes_lifted (os : Os) (started : os.Started) (H : Type) (enc : TypeId × Value → H) (F : Stop.Interp) :
    ReturnsInHanded {} Tryd.checked os 3 .any ((OpenSpec.ofChange Rows.abiEncodesSpec).preRow enc Tryd.prog Tryd.f3 Rows.abiEncodesRow.domain false Rows.abiEncodesRow.laid) (((OpenSpec.ofChange Rows.abiEncodesSpec).at F).post enc Tryd.prog Tryd.f3 false true false false) := by
  obtain ⟨places, hx⟩ := abiEncodes_reads os enc
  refine returnsInHanded_of_row (C := Tryd.checked) (s := OpenSpec.ofChange Rows.abiEncodesSpec) Tryd.own started (by kernel_rfl) Tryd.func3
    (witness_row_at (enc := enc) (C := Tryd.checked) false (abiEncodes_world os) #[.slice none 0 0, .string ⟨#[]⟩] rfl (by kernel_rfl) (by kernel_rfl) (by kernel_rfl)
      (OpenSpec.preRow_of_cond 8 hx (by kernel_rfl) (fun k hk => by cases hk) (by kernel_rfl) (abiEncodes_laid os))) ?_
  intro W0 base args ds gs before hval0 hW _ _ _ hlaid _ _
  have hval : ∀ (j : Nat) t v, Tryd.f3.params[j]? = some t → args[j]? = some v → Value.okWide Tryd.prog W0 .any base t v := hval0
  have hW' := hW
  obtain ⟨p, q, hA0, hV, rfl, hfz, hnd⟩ := hW
  have hA : DataW.TrodAll enc Tryd.prog W0 0 (fun _ => true) true Tryd.f3.params.toList args.toList ds p := hA0
  rw [Tryd.params3] at hA hval
  obtain ⟨v0, v1, d0, d1, p0, p1, rfl, rfl, rfl, h0, h1⟩ := trodAll_two hA
  obtain ⟨rfl, rfl⟩ := trodVars_none hV
  obtain ⟨a0, n0, c0, y0, z0, rfl, i0⟩ := parts_open (hval 0 _ v0 rfl rfl) h0
  obtain ⟨a1, rfl, rfl, rfl, z1⟩ := Go.ChangeMaps.open_string Tryd.underlying9 (hval 1 _ v1 rfl rfl) h1
  refine (calls_args (by simp only [cvs, cv, bytesOf_strI]) (encs_core a0 n0 c0 y0 z0 a1 z1 W0 i0 hlaid)).mono fun e W' h => ?_
  obtain ⟨he, hw⟩ := Yes.out h
  subst he
  exact ⟨_, rfl, post_any hW' rfl hw (by kernel_rfl) rfl (fun _ _ _ => trodAll_mk1 (shut_bool Tryd.underlying4 true)) (fun _ => rfl) (ok_one (by kernel_rfl) rfl (okWide_bool_mk Tryd.underlying4 true))⟩
theorem abiEncodes_said : Rows.AbiEncodesSaid :=
  OpenClaim.holds_of_cond 3 Tryd.f3 rfl rfl rfl rfl rfl rfl rfl ⟨rfl, rfl, rfl, rfl, rfl⟩ rfl rfl rfl rfl rfl (by kernel_rfl) Tryd.func3 (by kernel_rfl)
    (of_decide_eq_true (by kernel_rfl)) (by unfold Func.isWrapper; first | (rw [if_pos (by decide +kernel)]; kernel_rfl) | (rw [if_neg (by decide +kernel)]; exact ⟨rfl, rfl⟩))
    (fun os started H enc _ F => by rw [OpenClaim.pre_eq_preRow]; exact abiEncodes_lifted os started H enc F)
theorem abiEncodes_plain (f : FuncId) (fn : Func) (hf : Tryd.pinned.checked.prog.funcNamed "quaestor/quaestorlaw05.AbiEncodes" = some f) (hfn : Tryd.pinned.checked.prog.funcs[f]? = some fn) :
    true = Tryd.pinned.checked.prog.looks [] ∧ ∀ (j : Nat) t, fn.params[j]? = some t → Tryd.pinned.checked.prog.wantsStandIn t = false := by
  obtain rfl : f = 3 := Option.some.inj ((show Tryd.prog.funcNamed "quaestor/quaestorlaw05.AbiEncodes" = some 3 by kernel_rfl).symm.trans hf) |>.symm
  obtain rfl : fn = Tryd.f3 := (Option.some.inj (Tryd.func3.symm.trans hfn)).symm
  refine ⟨by kernel_rfl, fun j t ht => ?_⟩
  rw [Tryd.params3] at ht
  have ht2 := Array.mem_of_getElem? ht
  simp only [List.mem_toArray, List.mem_cons, List.not_mem_nil, or_false] at ht2
  rcases ht2 with rfl | rfl
  · exact (show Tryd.prog.wantsStandIn 22 = false by kernel_rfl)
  · exact (show Tryd.prog.wantsStandIn 9 = false by kernel_rfl)
theorem AbiEncodes_holds : Rows.AbiEncodesCardSaid :=
  Claim7.holds_tied_plain_at .later [] _ _ _ _ abiEncodes_said (fun _ h => by cases h) (by kernel_rfl) (fun _ h => by cases h) abiEncodes_row_tie rfl ⟨rfl, rfl⟩ (by kernel_rfl) rfl abiEncodes_plain (by kernel_rfl)
#print axioms AbiEncodes_holds
end Go.Proofs.YtdkhlcoklihpfaaDoor
