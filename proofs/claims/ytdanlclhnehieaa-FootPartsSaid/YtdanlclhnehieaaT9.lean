/-
  SameFoot (quaestorref00), walked. No condition.
-/
import Derived.Test.YtdanlclhnehieaaT7
namespace Go.Proofs.Ytdanlclhnehieaa
set_option linter.unusedSimpArgs false
set_option linter.unusedVariables false
set_option maxHeartbeats 4000000
set_option linter.defProp false
open Go.RowKit
noncomputable def GT9 : Ctr := fun f args m => match f with
  | 28 => g_Cmp args m
  | 35 => g_Sub args m
  | 14 => g_samePl args m
  | _ => .none
theorem GT9_ok : GOk Try.prog GT9 := by
  intro w0 B f args m; unfold GT9; split
  · exact g_Cmp_ok _ _ _ _
  · exact g_Sub_ok _ _ _ _
  · exact g_samePl_ok _ _ _ _
  · exact trivial
theorem GT9_Cmp : GT9 28 = g_Cmp := by funext args m; rfl
theorem GT9_Sub : GT9 35 = g_Sub := by funext args m; rfl
theorem GT9_samePl : GT9 14 = g_samePl := by funext args m; rfl
def GT9_set := And.intro (And.intro (@GT9_Cmp) (And.intro (@g_Cmp.eq_def) (@GT9_Sub))) (And.intro (@g_Sub.eq_def) (And.intro (@GT9_samePl) (@g_samePl.eq_def)))

theorem rowsOk_pl {l : List (List Int)} (h : ∀ x ∈ l, okP x) : rowsOk 25 (l.map plL) = true := by
  induction l with
  | nil => rfl
  | cons x l ih =>
    have h1 := plL_len (h x List.mem_cons_self)
    have h2 := ih (fun y hy => h y (List.mem_cons_of_mem _ hy))
    obtain ⟨x0, x1, x2, x3, x4, x5, x6, x7, x8, x9, x10, x11, x12, x13, x14, x15, x16, x17, x18, x19, bx, k0, k1, k2, k3, rfl, _⟩ := okP_forms (h x List.mem_cons_self)
    rw [List.map_cons]
    unfold rowsOk
    rw [h1, h2]
    rfl
theorem sameFt_vc (l1 l2 l3 l4 : List (List Int)) (o1 o2 o3 o4 : Option Addr) (n1 n2 n3 n4 c1 c2 c3 c4 : Nat) (e1 : l1.length = n1) (e2 : l2.length = n2) (e3 : l3.length = n3) (e4 : l4.length = n4) (k1 : ∀ x ∈ l1, okP x) (k2 : ∀ x ∈ l2, okP x) (k3 : ∀ x ∈ l3, okP x) (k4 : ∀ x ∈ l4, okP x)
    (h1 : n1 ≤ c1) (h2 : n2 ≤ c2) (h3 : n3 ≤ c3) (h4 : n4 ≤ c4) (q1 : adr o1 n1 c1) (q2 : adr o2 n2 c2) (q3 : adr o3 n3 c3) (q4 : adr o4 n4 c4) (b1 : n1 ≤ 1000000) (b2 : n2 ≤ 1000000) (b3 : n3 ≤ 1000000) (b4 : n4 ≤ 1000000)
    (w : World) (hm : MemOk w [] [.ro o1 (.rows 25 (l1.map plL)), .ro o2 (.rows 25 (l2.map plL)), .ro o3 (.rows 25 (l3.map plL)), .ro o4 (.rows 25 (l4.map plL))] w) :
    Calls Try.prog 9 (cvs [.agg [.sl 0 o1 0 0 25 n1 c1, .sl 1 o2 0 0 25 n2 c2], .agg [.sl 2 o3 0 0 25 n3 c3, .sl 3 o4 0 0 25 n4 c4]]).toArray w (fun en w' => ∃ u, en = .returned u ∧ ∃ v m', u = cv v ∧ MemOk w [] m' w' ∧ v = .bool (decide (l1 = l3) && decide (l2 = l4))) := by
  have p1 := plsOf_eq k1
  have p2 := plsOf_eq k2
  have p3 := plsOf_eq k3
  have p4 := plsOf_eq k4
  have t1 : (l1.map plL).length = n1 := by rw [List.length_map, e1]
  have t2 : (l2.map plL).length = n2 := by rw [List.length_map, e2]
  have t3 : (l3.map plL).length = n3 := by rw [List.length_map, e3]
  have t4 : (l4.map plL).length = n4 := by rw [List.length_map, e4]
  have z1 : ((l1.map plL).drop 0).take n1 = l1.map plL := by rw [List.drop_zero, List.take_of_length_le (by omega)]
  have z2 : ((l2.map plL).drop 0).take n2 = l2.map plL := by rw [List.drop_zero, List.take_of_length_le (by omega)]
  have z3 : ((l3.map plL).drop 0).take n3 = l3.map plL := by rw [List.drop_zero, List.take_of_length_le (by omega)]
  have z4 : ((l4.map plL).drop 0).take n4 = l4.map plL := by rw [List.drop_zero, List.take_of_length_le (by omega)]
  have y1 := List.take_of_length_le (show (l1.map plL).length ≤ n1 by omega)
  have y2 := List.take_of_length_le (show (l2.map plL).length ≤ n2 by omega)
  have y3 := List.take_of_length_le (show (l3.map plL).length ≤ n3 by omega)
  have y4 := List.take_of_length_le (show (l4.map plL).length ≤ n4 by omega)
  have r1 := rowsOk_pl k1
  have r2 := rowsOk_pl k2
  have r3 := rowsOk_pl k3
  have r4 := rowsOk_pl k4
  generalize hd1 : decide (l1 = l3) = d1
  generalize hd2 : decide (l2 = l4) = d2
  refine Vc.calls T0_ok Try.func9 rfl rfl (args := [.agg [.sl 0 o1 0 0 25 n1 c1, .sl 1 o2 0 0 25 n2 c2], .agg [.sl 2 o3 0 0 25 n3 c3, .sl 3 o4 0 0 25 n4 c4]]) (k := 15) rfl hm ?_; change Vc _ _ (c8 (.agg [.sl 0 o1 0 0 25 n1 c1, .sl 1 o2 0 0 25 n2 c2]) (.agg [.sl 2 o3 0 0 25 n3 c3, .sl 3 o4 0 0 25 n4 c4]) .undef .undef .undef .undef .undef .undef (c8 .undef .undef .undef .undef .undef .undef .undef .undef ([.undef]))) _ _
  cases d1
  · ((repeat (first | (with_reducible refine Vc.seq fun N hN => ?_) | (with_reducible refine Vc.block ?_) | ((first | with_reducible refine Vc.skip ?_ | with_reducible refine Vc.exit ?_); dsimp only [thenK, blockK, Nat.beq]; (first | (refine hN _ _ ?_; clear hN N) | skip)) | (with_reducible intro _) | ((with_reducible refine And.intro ?_ ?_); (focus (first | ((repeat' with_reducible apply And.intro) <;> first | exact sideQ | (exact ⟨l1, rfl, k1⟩) | (exact ⟨l2, rfl, k2⟩) | (exact ⟨l3, rfl, k3⟩) | (exact ⟨l4, rfl, k4⟩)) | exact sd0))) | ((first | ((with_reducible refine askT_of ?_ (fun hb => ?_)); (focus (first | ((repeat' with_reducible apply And.intro) <;> first | exact sideQ | (exact ⟨l1, rfl, k1⟩) | (exact ⟨l2, rfl, k2⟩) | (exact ⟨l3, rfl, k3⟩) | (exact ⟨l4, rfl, k4⟩)) | exact sd0)); (try simp only [hb])) | ((with_reducible refine Vc.fin ?_); dsimp only [thenK, blockK, retK, resS, resOne, resAll]) | ((with_reducible refine Vc.hold ?_); first | refine Vc.regiont T0_ok GT9_ok ?_)); (try simp only [v8X, v8A, v8B, v8C, Nat.beq, Nat.ble, Int.reduceToNat, Int.reduceLE, Int.reduceLT, Nat.reduceLT, Nat.reduceLeDiff, Nat.reduceAdd, Nat.reduceMul, Nat.reduceSub, Int.reduceAdd, Int.reduceSub, Int.reduceMul, eq_self, decide_true, beq_self_eq_true, List.length_cons, List.length_nil, Nat.min_eq_left, IntKind.bits, tabs, GT9_set, p1, p2, p3, p4, hd1, r1, r2, r3, r4, List.drop_zero, y1, y2, y3, y4]); (try simp (disch := omega) only [v8W])) | ((with_reducible refine hN _ _ ?_); clear hN N; (try simp (disch := omega) only [v8W])))); (try ((with_reducible refine Fin.of ?_); (try with_reducible exact True.intro))))
    exact ⟨trivial, rfl⟩
  · ((repeat (first | (with_reducible refine Vc.seq fun N hN => ?_) | (with_reducible refine Vc.block ?_) | ((first | with_reducible refine Vc.skip ?_ | with_reducible refine Vc.exit ?_); dsimp only [thenK, blockK, Nat.beq]; (first | (refine hN _ _ ?_; clear hN N) | skip)) | (with_reducible intro _) | ((with_reducible refine And.intro ?_ ?_); (focus (first | ((repeat' with_reducible apply And.intro) <;> first | exact sideQ | (exact ⟨l1, rfl, k1⟩) | (exact ⟨l2, rfl, k2⟩) | (exact ⟨l3, rfl, k3⟩) | (exact ⟨l4, rfl, k4⟩)) | exact sd0))) | ((first | ((with_reducible refine askT_of ?_ (fun hb => ?_)); (focus (first | ((repeat' with_reducible apply And.intro) <;> first | exact sideQ | (exact ⟨l1, rfl, k1⟩) | (exact ⟨l2, rfl, k2⟩) | (exact ⟨l3, rfl, k3⟩) | (exact ⟨l4, rfl, k4⟩)) | exact sd0)); (try simp only [hb])) | ((with_reducible refine Vc.fin ?_); dsimp only [thenK, blockK, retK, resS, resOne, resAll]) | ((with_reducible refine Vc.hold ?_); first | refine Vc.regiont T0_ok GT9_ok ?_)); (try simp only [v8X, v8A, v8B, v8C, Nat.beq, Nat.ble, Int.reduceToNat, Int.reduceLE, Int.reduceLT, Nat.reduceLT, Nat.reduceLeDiff, Nat.reduceAdd, Nat.reduceMul, Nat.reduceSub, Int.reduceAdd, Int.reduceSub, Int.reduceMul, eq_self, decide_true, beq_self_eq_true, List.length_cons, List.length_nil, Nat.min_eq_left, IntKind.bits, tabs, GT9_set, p1, p2, p3, p4, hd1, hd2, r1, r2, r3, r4, List.drop_zero, y1, y2, y3, y4]); (try simp (disch := omega) only [v8W])) | ((with_reducible refine hN _ _ ?_); clear hN N; (try simp (disch := omega) only [v8W])))); (try ((with_reducible refine Fin.of ?_); (try with_reducible exact True.intro))))
    exact ⟨trivial, rfl⟩
def g_sameFt (args : List SV) (m : List Blk) : CR :=
  match args with
  | [.agg [x1, x2], .agg [x3, x4]] => match srcC x1 m, srcC x2 m, srcC x3 m, srcC x4 m with
    | some (g1, n1, .rows 25 r1), some (g2, n2, .rows 25 r2), some (g3, n3, .rows 25 r3), some (g4, n4, .rows 25 r4) => .pure (g1 ∧ g2 ∧ g3 ∧ g4 ∧ n1 ≤ 1000000 ∧ n2 ≤ 1000000 ∧ n3 ≤ 1000000 ∧ n4 ≤ 1000000 ∧
        (∃ l : List (List Int), r1 = l.map plL ∧ ∀ x ∈ l, okP x) ∧ (∃ l : List (List Int), r2 = l.map plL ∧ ∀ x ∈ l, okP x) ∧ (∃ l : List (List Int), r3 = l.map plL ∧ ∀ x ∈ l, okP x) ∧ (∃ l : List (List Int), r4 = l.map plL ∧ ∀ x ∈ l, okP x)) (.bool (decide (plsOf r1 = plsOf r3) && decide (plsOf r2 = plsOf r4)))
    | _, _, _, _ => .none
  | _ => .none
theorem g_sameFt_ok (w0 : World) (B : List Nat) (args : List SV) (m : List Blk) : CROk Try.prog w0 B 9 args m (g_sameFt args m) := by
  unfold g_sameFt
  split
  · rename_i x1 x2 x3 x4
    split
    · rename_i g1 n1 r1 g2 n2 r2 g3 n3 r3 g4 n4 r4 s1 s2 s3 s4
      rintro ⟨p1, p2, p3, p4, b1, b2, b3, b4, ⟨l1, rfl, k1⟩, ⟨l2, rfl, k2⟩, ⟨l3, rfl, k3⟩, ⟨l4, rfl, k4⟩⟩ w hm
      obtain ⟨e1, a1, c1, h1, d1, m1, q1⟩ := src_ro s1 p1 hm
      obtain ⟨e2, a2, c2, h2, d2, m2, q2⟩ := src_ro s2 p2 hm
      obtain ⟨e3, a3, c3, h3, d3, m3, q3⟩ := src_ro s3 p3 hm
      obtain ⟨e4, a4, c4, h4, d4, m4, q4⟩ := src_ro s4 p4 hm
      have e : cvs [.agg [x1, x2], .agg [x3, x4]] = cvs [.agg [.sl 0 a1 0 0 25 n1 c1, .sl 1 a2 0 0 25 n2 c2], .agg [.sl 2 a3 0 0 25 n3 c3, .sl 3 a4 0 0 25 n4 c4]] := by simp only [cvs, cv, h1, h2, h3, h4]; rfl
      rw [e, plsOf_eq k1, plsOf_eq k2, plsOf_eq k3, plsOf_eq k4]
      rw [rows25 k1] at e1
      rw [rows25 k2] at e2
      rw [rows25 k3] at e3
      rw [rows25 k4] at e4
      simp only [conEs] at e1 e2 e3 e4
      exact calls_pure Try.func9 rfl rfl (sameFt_vc l1 l2 l3 l4 a1 a2 a3 a4 n1 n2 n3 n4 c1 c2 c3 c4 (by omega) (by omega) (by omega) (by omega) k1 k2 k3 k4 d1 d2 d3 d4 q1 q2 q3 q4 b1 b2 b3 b4 w (ro_front (ro_front (ro_two m3 m4) m2) m1))
    · exact trivial
  · exact trivial
end Go.Proofs.Ytdanlclhnehieaa
