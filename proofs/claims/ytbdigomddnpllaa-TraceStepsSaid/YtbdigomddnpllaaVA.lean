/-
  Law TraceSteps, walked. No condition.
-/
import Derived.Test.YtbdigomddnpllaaV9
import Derived.Test.YtbdigomddnpllaaU5
namespace Go.Proofs.Ytbdigomddnpllaa
set_option linter.unusedSimpArgs false
set_option linter.unusedVariables false
set_option maxHeartbeats 4000000
set_option linter.defProp false
open Go.RowKit
theorem SetL.same {f : List Int → Option SV} {l k : List (List Int)} (h1 : SetL f l) (h2 : SetL f k) : l = k :=
  rises_eq h1.rises h2.rises fun x => ⟨fun hx => (h2.mem x (h1.ok x hx)).2 ((h1.mem x (h1.ok x hx)).1 hx), fun hx => (h1.mem x (h2.ok x hx)).2 ((h2.mem x (h2.ok x hx)).1 hx)⟩
theorem FtQ.src1 {R Wr : List (List Int)} {x : FtX} {m : List Blk} (h : FtQ R Wr x) (hin : Blk.heap x.h ∈ m) : LiesH (HM m) x.a1 (cc (.rows 25 (x.l1.map plL))) := h.p1.lies.mono (Hl.hm hin fun _ h => h)
theorem FtQ.src2 {R Wr : List (List Int)} {x : FtX} {m : List Blk} (h : FtQ R Wr x) (hin : Blk.heap x.h ∈ m) : LiesH (HM m) x.a2 (cc (.rows 25 (x.l2.map plL))) := h.p2.lies.mono (Hl.hm hin fun _ h => h)
theorem FtQ.wit1 {R Wr : List (List Int)} {x : FtX} (h : FtQ R Wr x) : ∃ l : List (List Int), x.l1.map plL = l.map plL ∧ ∀ y ∈ l, okP y := ⟨_, rfl, h.p1.ok⟩
theorem FtQ.wit2 {R Wr : List (List Int)} {x : FtX} (h : FtQ R Wr x) : ∃ l : List (List Int), x.l2.map plL = l.map plL ∧ ∀ y ∈ l, okP y := ⟨_, rfl, h.p2.ok⟩
theorem FtQ.few1 {R Wr : List (List Int)} {x : FtX} (h : FtQ R Wr x) : x.l1.length ≤ 1000000 := h.s1.few
theorem FtQ.few2 {R Wr : List (List Int)} {x : FtX} (h : FtQ R Wr x) : x.l2.length ≤ 1000000 := h.s2.few
theorem FtQ.le1 {R Wr : List (List Int)} {x : FtX} (h : FtQ R Wr x) : x.l1.length ≤ x.c1 := h.p1.le
theorem FtQ.le2 {R Wr : List (List Int)} {x : FtX} (h : FtQ R Wr x) : x.l2.length ≤ x.c2 := h.p2.le
theorem FtQ.adr1 {R Wr : List (List Int)} {x : FtX} (h : FtQ R Wr x) : adr x.a1 x.l1.length x.c1 := h.p1.adr
theorem FtQ.adr2 {R Wr : List (List Int)} {x : FtX} (h : FtQ R Wr x) : adr x.a2 x.l2.length x.c2 := h.p2.adr
noncomputable def GVA : Ctr := fun f args m => match f with
  | 9 => g_tlK args m
  | 18 => g_tSteps args m
  | 19 => g_rSteps args m
  | 8 => g_Events args m
  | 17 => g_sameFt args m
  | _ => .none
theorem GVA_ok : GOk Try.prog GVA := by
  intro w0 B f args m; unfold GVA; split
  · exact g_tlK_ok _ _ _ _
  · exact g_tSteps_ok _ _ _ _
  · exact g_rSteps_ok _ _ _ _
  · exact g_Events_ok _ _ _ _
  · exact g_sameFt_ok _ _ _ _
  · exact trivial
theorem GVA_tlK : GVA 9 = g_tlK := by funext args m; rfl
theorem GVA_tSteps : GVA 18 = g_tSteps := by funext args m; rfl
theorem GVA_rSteps : GVA 19 = g_rSteps := by funext args m; rfl
theorem GVA_Events : GVA 8 = g_Events := by funext args m; rfl
theorem GVA_sameFt : GVA 17 = g_sameFt := by funext args m; rfl
def GVA_set := And.intro (And.intro (And.intro (@GVA_tlK) (@g_tlK.eq_def)) (And.intro (@GVA_tSteps) (And.intro (@g_tSteps.eq_def) (@GVA_rSteps)))) (And.intro (And.intro (@g_rSteps.eq_def) (@GVA_Events)) (And.intro (@g_Events.eq_def) (And.intro (@GVA_sameFt) (@g_sameFt.eq_def))))

theorem traceSteps_law (la : Option Addr) (n c : Nat) (rs : List (List SV)) (l : List Evt) (w : World) (hE : EvL (H0 w) la n c rs l) :
    Calls Try.prog 5 (cvs [.gh la n c (.rows 32 rs)]).toArray w (Yes w) := by
  have hEx : ∀ m, allOld w ∈ m → EvL (HM m) la n c rs l := fun m hin => hE.mono (H0.hm hin)
  have hev := evOf_eq hE.rows
  have hlen := hE.len
  by_cases c1 : evW 500 l 0 ≤ 500
  · have d1 : decide ((500 : Int) < evW 500 l 0) = false := decide_eq_false (by omega)
    have hn : n ≤ 100000 := by have := (evW_len l 0 c1).1; omega
    refine Vc.calls T0_ok Try.func5 rfl rfl (args := [.gh la n c (.rows 32 rs)]) (k := 13) rfl (old_start w) ?_; change Vc _ _ (c8 (.gh la n c (.rows 32 rs)) .undef .undef .undef .undef .undef .undef .undef ([.undef, .undef, .undef, .undef, .undef, .undef])) _ _
    ((repeat (first | (with_reducible refine Vc.seq fun N hN => ?_) | (with_reducible refine Vc.block ?_) | ((first | with_reducible refine Vc.skip ?_ | with_reducible refine Vc.exit ?_); dsimp only [thenK, blockK, Nat.beq]; (first | (refine hN _ _ ?_; clear hN N) | skip)) | (with_reducible intro _) | ((with_reducible refine And.intro ?_ ?_); (focus (first | ((repeat' with_reducible apply And.intro) <;> first | exact sideQ | (exact ⟨_, hEx _ (by simp)⟩)) | exact sd0))) | ((first | ((with_reducible refine askT_of ?_ (fun hb => ?_)); (focus (first | ((repeat' with_reducible apply And.intro) <;> first | exact sideQ | (exact ⟨_, hEx _ (by simp)⟩)) | exact sd0)); (try simp only [hb])) | ((with_reducible refine Vc.fin ?_); dsimp only [thenK, blockK, retK, resS, resOne, resAll]) | ((with_reducible refine Vc.hold ?_); first | refine Vc.regiont T0_ok GVA_ok ?_)); (try simp only [v8X, v8A, v8B, v8C, Nat.beq, Nat.ble, Int.reduceToNat, Int.reduceLE, Int.reduceLT, Nat.reduceLT, Nat.reduceLeDiff, Nat.reduceAdd, Nat.reduceMul, Nat.reduceSub, Int.reduceAdd, Int.reduceSub, Int.reduceMul, eq_self, decide_true, beq_self_eq_true, List.length_cons, List.length_nil, Nat.min_eq_left, IntKind.bits, tabs, GVA_set, d1, hev]); (try simp (disch := omega) only [v8W])) | ((with_reducible refine hN _ _ ?_); clear hN N; (try simp (disch := omega) only [v8W])))); (try ((with_reducible refine Fin.of ?_); (try with_reducible exact True.intro))))
    (refine Vc.cond T0_ok (t := false) (by rfl) (fun h => Bool.noConfusion h) (fun _ => ?_))
    ((repeat (first | (with_reducible refine Vc.seq fun N hN => ?_) | (with_reducible refine Vc.block ?_) | ((first | with_reducible refine Vc.skip ?_ | with_reducible refine Vc.exit ?_); dsimp only [thenK, blockK, Nat.beq]; (first | (refine hN _ _ ?_; clear hN N) | skip)) | (with_reducible intro _) | ((with_reducible refine And.intro ?_ ?_); (focus (first | ((repeat' with_reducible apply And.intro) <;> first | exact sideQ | (exact ⟨_, hEx _ (by simp)⟩)) | exact sd0))) | ((first | ((with_reducible refine askT_of ?_ (fun hb => ?_)); (focus (first | ((repeat' with_reducible apply And.intro) <;> first | exact sideQ | (exact ⟨_, hEx _ (by simp)⟩)) | exact sd0)); (try simp only [hb])) | ((with_reducible refine Vc.fin ?_); dsimp only [thenK, blockK, retK, resS, resOne, resAll]) | ((with_reducible refine Vc.hold ?_); first | refine Vc.regiont T0_ok GVA_ok ?_)); (try simp only [v8X, v8A, v8B, v8C, Nat.beq, Nat.ble, Int.reduceToNat, Int.reduceLE, Int.reduceLT, Nat.reduceLT, Nat.reduceLeDiff, Nat.reduceAdd, Nat.reduceMul, Nat.reduceSub, Int.reduceAdd, Int.reduceSub, Int.reduceMul, eq_self, decide_true, beq_self_eq_true, List.length_cons, List.length_nil, Nat.min_eq_left, IntKind.bits, tabs, GVA_set, hev, FtF]); (try simp (disch := omega) only [v8W])) | ((with_reducible refine hN _ _ ?_); clear hN N; (try simp (disch := omega) only [v8W])))); (try ((with_reducible refine Fin.of ?_); (try with_reducible exact True.intro))))
    rename_i x hx y hy
    have rx1 := rowsOk_pl hx.p1.ok
    have rx2 := rowsOk_pl hx.p2.ok
    have ry1 := rowsOk_pl hy.p1.ok
    have ry2 := rowsOk_pl hy.p2.ok
    have tx1 : (x.l1.map plL).take x.l1.length = x.l1.map plL := List.take_of_length_le (by rw [List.length_map]; exact Nat.le_refl _)
    have tx2 : (x.l2.map plL).take x.l2.length = x.l2.map plL := List.take_of_length_le (by rw [List.length_map]; exact Nat.le_refl _)
    have ty1 : (y.l1.map plL).take y.l1.length = y.l1.map plL := List.take_of_length_le (by rw [List.length_map]; exact Nat.le_refl _)
    have ty2 : (y.l2.map plL).take y.l2.length = y.l2.map plL := List.take_of_length_le (by rw [List.length_map]; exact Nat.le_refl _)
    have px1 := plsOf_eq hx.p1.ok
    have px2 := plsOf_eq hx.p2.ok
    have py1 := plsOf_eq hy.p1.ok
    have py2 := plsOf_eq hy.p2.ok
    have ee1 : decide (x.l1 = y.l1) = true := decide_eq_true (hx.s1.same hy.s1)
    have ee2 : decide (x.l2 = y.l2) = true := decide_eq_true (hx.s2.same hy.s2)
    (simp only [v8X, v8A, v8B, v8C, Nat.beq, Nat.ble, Int.reduceToNat, Int.reduceLE, Int.reduceLT, Nat.reduceLT, Nat.reduceLeDiff, Nat.reduceAdd, Nat.reduceMul, Nat.reduceSub, Int.reduceAdd, Int.reduceSub, Int.reduceMul, eq_self, decide_true, beq_self_eq_true, List.length_cons, List.length_nil, Nat.min_eq_left, IntKind.bits, tabs, GVA_set, rx1, rx2, ry1, ry2, tx1, tx2, ty1, ty2, px1, px2, py1, py2, ee1, ee2, List.drop_zero, List.length_map, Bool.and_true]; (try simp (disch := omega) only [v8W]); (repeat (first | with_reducible intro _ | ((with_reducible refine And.intro ?_ ?_); (focus (first | ((repeat' with_reducible apply And.intro) <;> first | exact sideQ | (exact ⟨_, hEx _ (by simp)⟩) | (exact FtQ.src1 (by assumption) (by simp)) | (exact FtQ.src2 (by assumption) (by simp)) | (exact FtQ.wit1 (by assumption)) | (exact FtQ.wit2 (by assumption)) | (exact FtQ.few1 (by assumption)) | (exact FtQ.few2 (by assumption)) | (exact FtQ.le1 (by assumption)) | (exact FtQ.le2 (by assumption)) | (exact FtQ.adr1 (by assumption)) | (exact FtQ.adr2 (by assumption))) | exact sd0))) | ((with_reducible refine askT_of ?_ (fun hb => ?_)); (focus (first | ((repeat' with_reducible apply And.intro) <;> first | exact sideQ | (exact ⟨_, hEx _ (by simp)⟩) | (exact FtQ.src1 (by assumption) (by simp)) | (exact FtQ.src2 (by assumption) (by simp)) | (exact FtQ.wit1 (by assumption)) | (exact FtQ.wit2 (by assumption)) | (exact FtQ.few1 (by assumption)) | (exact FtQ.few2 (by assumption)) | (exact FtQ.le1 (by assumption)) | (exact FtQ.le2 (by assumption)) | (exact FtQ.adr1 (by assumption)) | (exact FtQ.adr2 (by assumption))) | exact sd0)); simp only [hb, v8X, v8A, v8B, v8C, Nat.beq, Nat.ble, Int.reduceToNat, Int.reduceLE, Int.reduceLT, Nat.reduceLT, Nat.reduceLeDiff, Nat.reduceAdd, Nat.reduceMul, Nat.reduceSub, Int.reduceAdd, Int.reduceSub, Int.reduceMul, eq_self, decide_true, beq_self_eq_true, List.length_cons, List.length_nil, Nat.min_eq_left, IntKind.bits, tabs, GVA_set, rx1, rx2, ry1, ry2, tx1, tx2, ty1, ty2, px1, px2, py1, py2, ee1, ee2, List.drop_zero, List.length_map, Bool.and_true]; (try simp (disch := omega) only [v8W])))); (first | (refine hN _ _ ?_; clear hN N; (try simp (disch := omega) only [v8W])) | skip))
    ((repeat (first | (with_reducible refine Vc.seq fun N hN => ?_) | (with_reducible refine Vc.block ?_) | ((first | with_reducible refine Vc.skip ?_ | with_reducible refine Vc.exit ?_); dsimp only [thenK, blockK, Nat.beq]; (first | (refine hN _ _ ?_; clear hN N) | skip)) | (with_reducible intro _) | ((with_reducible refine And.intro ?_ ?_); (focus (first | ((repeat' with_reducible apply And.intro) <;> first | exact sideQ | (exact ⟨_, hEx _ (by simp)⟩)) | exact sd0))) | ((first | ((with_reducible refine askT_of ?_ (fun hb => ?_)); (focus (first | ((repeat' with_reducible apply And.intro) <;> first | exact sideQ | (exact ⟨_, hEx _ (by simp)⟩)) | exact sd0)); (try simp only [hb])) | ((with_reducible refine Vc.fin ?_); dsimp only [thenK, blockK, retK, resS, resOne, resAll]) | ((with_reducible refine Vc.hold ?_); first | refine Vc.regiont T0_ok GVA_ok ?_)); (try simp only [v8X, v8A, v8B, v8C, Nat.beq, Nat.ble, Int.reduceToNat, Int.reduceLE, Int.reduceLT, Nat.reduceLT, Nat.reduceLeDiff, Nat.reduceAdd, Nat.reduceMul, Nat.reduceSub, Int.reduceAdd, Int.reduceSub, Int.reduceMul, eq_self, decide_true, beq_self_eq_true, List.length_cons, List.length_nil, Nat.min_eq_left, IntKind.bits, tabs, GVA_set]); (try simp (disch := omega) only [v8W])) | ((with_reducible refine hN _ _ ?_); clear hN N; (try simp (disch := omega) only [v8W])))); (try ((with_reducible refine Fin.of ?_); (try with_reducible exact True.intro))))
    exact ⟨by simp, trivial⟩
  · have d1 : decide ((500 : Int) < evW 500 l 0) = true := decide_eq_true (by omega)
    refine Vc.calls T0_ok Try.func5 rfl rfl (args := [.gh la n c (.rows 32 rs)]) (k := 13) rfl (old_start w) ?_; change Vc _ _ (c8 (.gh la n c (.rows 32 rs)) .undef .undef .undef .undef .undef .undef .undef ([.undef, .undef, .undef, .undef, .undef, .undef])) _ _
    ((repeat (first | (with_reducible refine Vc.seq fun N hN => ?_) | (with_reducible refine Vc.block ?_) | ((first | with_reducible refine Vc.skip ?_ | with_reducible refine Vc.exit ?_); dsimp only [thenK, blockK, Nat.beq]; (first | (refine hN _ _ ?_; clear hN N) | skip)) | (with_reducible intro _) | ((with_reducible refine And.intro ?_ ?_); (focus (first | ((repeat' with_reducible apply And.intro) <;> first | exact sideQ | (exact ⟨_, hEx _ (by simp)⟩)) | exact sd0))) | ((first | ((with_reducible refine askT_of ?_ (fun hb => ?_)); (focus (first | ((repeat' with_reducible apply And.intro) <;> first | exact sideQ | (exact ⟨_, hEx _ (by simp)⟩)) | exact sd0)); (try simp only [hb])) | ((with_reducible refine Vc.fin ?_); dsimp only [thenK, blockK, retK, resS, resOne, resAll]) | ((with_reducible refine Vc.hold ?_); first | refine Vc.regiont T0_ok GVA_ok ?_)); (try simp only [v8X, v8A, v8B, v8C, Nat.beq, Nat.ble, Int.reduceToNat, Int.reduceLE, Int.reduceLT, Nat.reduceLT, Nat.reduceLeDiff, Nat.reduceAdd, Nat.reduceMul, Nat.reduceSub, Int.reduceAdd, Int.reduceSub, Int.reduceMul, eq_self, decide_true, beq_self_eq_true, List.length_cons, List.length_nil, Nat.min_eq_left, IntKind.bits, tabs, GVA_set, d1, hev]); (try simp (disch := omega) only [v8W])) | ((with_reducible refine hN _ _ ?_); clear hN N; (try simp (disch := omega) only [v8W])))); (try ((with_reducible refine Fin.of ?_); (try with_reducible exact True.intro))))
    (refine Vc.cond T0_ok (t := true) (by rfl) (fun _ => ?_) (fun h => Bool.noConfusion h))
    ((repeat (first | (with_reducible refine Vc.seq fun N hN => ?_) | (with_reducible refine Vc.block ?_) | ((first | with_reducible refine Vc.skip ?_ | with_reducible refine Vc.exit ?_); dsimp only [thenK, blockK, Nat.beq]; (first | (refine hN _ _ ?_; clear hN N) | skip)) | (with_reducible intro _) | ((with_reducible refine And.intro ?_ ?_); (focus (first | ((repeat' with_reducible apply And.intro) <;> first | exact sideQ | (exact ⟨_, hEx _ (by simp)⟩)) | exact sd0))) | ((first | ((with_reducible refine askT_of ?_ (fun hb => ?_)); (focus (first | ((repeat' with_reducible apply And.intro) <;> first | exact sideQ | (exact ⟨_, hEx _ (by simp)⟩)) | exact sd0)); (try simp only [hb])) | ((with_reducible refine Vc.fin ?_); dsimp only [thenK, blockK, retK, resS, resOne, resAll]) | ((with_reducible refine Vc.hold ?_); first | refine Vc.regiont T0_ok GVA_ok ?_)); (try simp only [v8X, v8A, v8B, v8C, Nat.beq, Nat.ble, Int.reduceToNat, Int.reduceLE, Int.reduceLT, Nat.reduceLT, Nat.reduceLeDiff, Nat.reduceAdd, Nat.reduceMul, Nat.reduceSub, Int.reduceAdd, Int.reduceSub, Int.reduceMul, eq_self, decide_true, beq_self_eq_true, List.length_cons, List.length_nil, Nat.min_eq_left, IntKind.bits, tabs, GVA_set]); (try simp (disch := omega) only [v8W])) | ((with_reducible refine hN _ _ ?_); clear hN N; (try simp (disch := omega) only [v8W])))); (try ((with_reducible refine Fin.of ?_); (try with_reducible exact True.intro))))
    exact ⟨by simp, trivial⟩
end Go.Proofs.Ytbdigomddnpllaa
