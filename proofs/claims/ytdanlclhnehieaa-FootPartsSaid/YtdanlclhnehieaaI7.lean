/-
  Package foot: Union, walked; what it hands out. No condition.
-/
import Derived.Test.YtdanlclhnehieaaI3
import Derived.Test.YtdanlclhnehieaaFR
import Derived.Test.YtdanlclhnehieaaI5
namespace Go.Proofs.Ytdanlclhnehieaa
set_option linter.unusedSimpArgs false
set_option linter.unusedVariables false
set_option maxHeartbeats 4000000
set_option linter.defProp false
open Go.RowKit
theorem bget_bset : ∀ {m : List Blk} {i : Nat} (e : Blk), i < m.length → bget (bset m i e) i = e
  | [], _, _, h => absurd h (Nat.not_lt_zero _)
  | _ :: _, 0, _, _ => rfl
  | _ :: l, i + 1, e, h => bget_bset (m := l) (i := i) e (by simpa using h)
structure FtX where
  l1 : List (List Int)
  l2 : List (List Int)
  a1 : Option Addr
  a2 : Option Addr
  c1 : Nat
  c2 : Nat
  h : List (Nat × Obj)
structure FtQ (R Wr : List (List Int)) (x : FtX) : Prop where
  s1 : SetL (addF noF R) x.l1
  s2 : SetL (addF noF Wr) x.l2
  p1 : PlL (Hl x.h) x.a1 x.l1.length x.c1 x.l1
  p2 : PlL (Hl x.h) x.a2 x.l2.length x.c2 x.l2
def FtF (x : FtX) : SV := .agg [.gh x.a1 x.l1.length x.c1 (.rows 25 (x.l1.map plL)), .gh x.a2 x.l2.length x.c2 (.rows 25 (x.l2.map plL))]
theorem grw_foot {P : Program} {f : FuncId} {fn : Func} {args : Array Value} {w0 w : World} {B : List Nat} {m : List Blk} {R Wr : List (List Int)} (hf : P.funcs[f]? = some fn) (hn : (fn.name == "runtime.NumGoroutine") = false) (hb : fn.body.isNone = false) (hm : MemOk w0 B m w)
    (h : Calls P f args w (fun en w' => ∃ u, en = .returned u ∧ ∃ v' m', u = cv v' ∧ MemOk w [] m' w' ∧ ∃ (s1 : Value) (l1 : List (List Int)) (s2 : Value) (l2 : List (List Int)) (i j : Nat), SetL (addF noF R) l1 ∧ SetL (addF noF Wr) l2 ∧ v' = .agg [.own i s1 l1.length, .own j s2 l2.length] ∧ i ≠ j ∧
      bget m' i = .own s1 l1.length 38 25 (.rows 25 (l1.map plL)) ∧ bget m' j = .own s2 l2.length 38 25 (.rows 25 (l2.map plL)))) :
    Enters P f args w fun u w' => ∃ a : FtX, FtQ R Wr a ∧ u = cv (FtF a) ∧ w.grownBy w' .none ∧ (Blk.heap a.h).ok w0 B w' ∧ (∀ b ∈ (Blk.heap a.h).nums, w.heap.size ≤ b) ∧ (Blk.heap a.h).nums.Nodup := by
  refine .inr ⟨enter_run hf hn hb _ w, h.mono fun e w' ⟨u, he, v', m', hu, hm', s1, l1, s2, l2, i, j, hS1, hS2, hv, hij, hi, hj⟩ => ?_⟩
  have h0 := hm'.heap0
  have li : i < m'.length := bget_lt (by rw [hi]; simp)
  have lj : j < m'.length := bget_lt (by rw [hj]; simp)
  have hi0 : bget (m' ++ [.heap []]) i = _ := (bget_appL _ li).trans hi
  have hk0 : bget (m' ++ [.heap []]) m'.length = .heap [] := bget_appR _ _
  obtain ⟨q1, a1, c1, e1, d1, n1, x1, z1, L1, hm1⟩ := freeze h0 hi0 hk0
  have hj1 : bget (bset (bset (m' ++ [.heap []]) i .gone) m'.length (.heap ([] ++ q1))) j = .own s2 l2.length 38 25 (.rows 25 (l2.map plL)) := by
    rw [bget_set_ne _ _ (by omega), bget_set_ne _ _ (Ne.symm hij), bget_appL _ lj]; exact hj
  have hlen1 : (bset (m' ++ [Blk.heap []]) i .gone).length = m'.length + 1 := by rw [bset_length, List.length_append]; rfl
  have hk1 : bget (bset (bset (m' ++ [.heap []]) i .gone) m'.length (.heap ([] ++ q1))) m'.length = .heap ([] ++ q1) := bget_bset _ (by omega)
  obtain ⟨q2, a2, c2, e2, d2, n2, x2, z2, L2, hm2⟩ := freeze hm1 hj1 hk1
  have hk2 : bget (bset (bset (bset (bset (m' ++ [.heap []]) i .gone) m'.length (.heap ([] ++ q1))) j .gone) m'.length (.heap (([] ++ q1) ++ q2))) m'.length = .heap (([] ++ q1) ++ q2) := bget_bset _ (by rw [bset_length, bset_length]; omega)
  have hl := hm2.each _ (bget_mem hk2 (by simp))
  have hfresh : ∀ p ∈ ([] ++ q1) ++ q2, w.heap.size ≤ p.1 := fun p hp => (hl p hp).2.resolve_right List.not_mem_nil
  rw [List.nil_append] at hl hfresh hk2
  refine ⟨u, he, ⟨l1, l2, a1, a2, c1, c2, q1 ++ q2⟩, ⟨hS1, hS2, ⟨rfl, n1, d1, L1.mono fun b o hbo => List.mem_append_left _ hbo, hS1.ok⟩, ⟨rfl, n2, d2, L2.mono fun b o hbo => List.mem_append_right _ hbo, hS2.ok⟩⟩, ?_, hm'.grown, fun p hp => ⟨(hl p hp).1, .inl (Nat.le_trans hm.size (hfresh p hp))⟩, fun b hb => ?_, ?_⟩
  · rw [hu, hv, e1, e2]; rfl
  · obtain ⟨p, hp, rfl⟩ := List.mem_map.1 hb
    exact hfresh p hp
  · have := nums_nodup (i := m'.length) hm2.nodup
    rw [List.nil_append, hk2] at this
    exact this
theorem SetL.same {f : List Int → Option SV} {l k : List (List Int)} (h1 : SetL f l) (h2 : SetL f k) : l = k :=
  rises_eq h1.rises h2.rises fun x => ⟨fun hx => (h2.mem x (h1.ok x hx)).2 ((h1.mem x (h1.ok x hx)).1 hx), fun hx => (h1.mem x (h2.ok x hx)).2 ((h2.mem x (h2.ok x hx)).1 hx)⟩
theorem FtQ.src1 {R Wr : List (List Int)} {x : FtX} {m : List Blk} (h : FtQ R Wr x) (hin : Blk.heap x.h ∈ m) : LiesH (HM m) x.a1 (cc (.rows 25 (x.l1.map plL))) := h.p1.lies.mono (Hl.hm hin fun _ h => h)
theorem FtQ.src2 {R Wr : List (List Int)} {x : FtX} {m : List Blk} (h : FtQ R Wr x) (hin : Blk.heap x.h ∈ m) : LiesH (HM m) x.a2 (cc (.rows 25 (x.l2.map plL))) := h.p2.lies.mono (Hl.hm hin fun _ h => h)
theorem FtQ.wit1 {R Wr : List (List Int)} {x : FtX} (h : FtQ R Wr x) : ∃ l : List (List Int), x.l1.map plL = l.map plL ∧ ∀ y ∈ l, okP y := ⟨_, rfl, h.p1.ok⟩
theorem FtQ.wit2 {R Wr : List (List Int)} {x : FtX} (h : FtQ R Wr x) : ∃ l : List (List Int), x.l2.map plL = l.map plL ∧ ∀ y ∈ l, okP y := ⟨_, rfl, h.p2.ok⟩
theorem FtQ.few1 {R Wr : List (List Int)} {x : FtX} (h : FtQ R Wr x) : x.l1.length ≤ 1000000 := h.s1.few
theorem FtQ.few2 {R Wr : List (List Int)} {x : FtX} (h : FtQ R Wr x) : x.l2.length ≤ 1000000 := h.s2.few
theorem FtQ.le1 {R Wr : List (List Int)} {x : FtX} (h : FtQ R Wr x) : x.l1.length ≤ x.c1 := h.p1.le
theorem FtQ.le2 {R Wr : List (List Int)} {x : FtX} (h : FtQ R Wr x) : x.l2.length ≤ x.c2 := h.p2.le
theorem FtQ.adr1 {R Wr : List (List Int)} {x : FtX} (h : FtQ R Wr x) : adr x.a1 x.l1.length x.c1 := h.p1.adr
theorem FtQ.adr2 {R Wr : List (List Int)} {x : FtX} (h : FtQ R Wr x) : adr x.a2 x.l2.length x.c2 := h.p2.adr

theorem flat_take7 {f : FtD → List (List Int)} {l : List FtD} {k : Nat} {e : FtD} (h : l[k]? = some e) : (l.take (k + 1)).flatMap f = (l.take k).flatMap f ++ f e := by
  rw [List.take_add_one, h, List.flatMap_append]
  simp
theorem flat_len7 {f : FtD → List (List Int)} {l : List FtD} {c : Nat} (h : ∀ x ∈ l, (f x).length ≤ c) : (l.flatMap f).length ≤ l.length * c := by
  induction l with
  | nil => simp
  | cons x l ih =>
    have h1 := h x List.mem_cons_self
    have h2 := ih fun y hy => h y (List.mem_cons_of_mem _ hy)
    rw [List.flatMap_cons, List.length_append, List.length_cons, Nat.add_mul]; omega
def rdU (fs : List FtD) : List (List Int) := fs.flatMap fun f => f.l1
def wrU (fs : List FtD) : List (List Int) := fs.flatMap fun f => f.l2
theorem ftRow_gd {fs : List FtD} {k : Nat} {f : FtD} (h : fs[k]? = some f) : (fs.map ftRow).getD k [] = [.gh f.a1 f.n1 f.c1 (.rows 25 (f.l1.map plL)), .gh f.a2 f.n2 f.c2 (.rows 25 (f.l2.map plL))] := by
  rw [List.getD_eq_getElem?_getD, List.getElem?_map, h]; rfl
noncomputable def GI8 : Ctr := fun f args m => match f with
  | 11 => g_setAdd args m
  | 12 => g_Sorted args m
  | _ => .none
theorem GI8_ok : GOk Try.prog GI8 := by
  intro w0 B f args m; unfold GI8; split
  · exact g_setAdd_ok _ _ _ _
  · exact g_Sorted_ok _ _ _ _
  · exact trivial
theorem GI8_setAdd : GI8 11 = g_setAdd := by funext args m; rfl
theorem GI8_Sorted : GI8 12 = g_Sorted := by funext args m; rfl
def GI8_set := And.intro (And.intro (@GI8_setAdd) (@g_setAdd.eq_def)) (And.intro (@GI8_Sorted) (@g_Sorted.eq_def))

def FtB (H : Nat → Obj → Prop) (f : FtD) : Prop := FtOk H f ∧ f.n1 ≤ 10000 ∧ f.n2 ≤ 10000
set_option maxRecDepth 20000 in
theorem union_vc (a : Option Addr) (n c : Nat) (fs : List FtD) (hl : fs.length = n) (hn : n ≤ c) (ha : adr a n c) (hM : n ≤ 100) (w : World) (hF : ∀ f ∈ fs, FtB (H0 w) f) (hm : MemOk w [] [.ro a (.rows 2 (fs.map ftRow)), allOld w] w) :
    Calls Try.prog 7 (cvs [.sl 0 a 0 0 2 n c]).toArray w (fun en w' => ∃ u, en = .returned u ∧ ∃ v' m', u = cv v' ∧ MemOk w [] m' w' ∧ ∃ (s1 : Value) (l1 : List (List Int)) (s2 : Value) (l2 : List (List Int)) (i j : Nat), SetL (addF noF (rdU fs)) l1 ∧ SetL (addF noF (wrU fs)) l2 ∧ v' = .agg [.own i s1 l1.length, .own j s2 l2.length] ∧ i ≠ j ∧
      bget m' i = .own s1 l1.length 38 25 (.rows 25 (l1.map plL)) ∧ bget m' j = .own s2 l2.length 38 25 (.rows 25 (l2.map plL))) := by
  have hr2 : ∀ r ∈ fs.map ftRow, r.length = 2 := fun r hr => by obtain ⟨f, _, rfl⟩ := List.mem_map.1 hr; rfl
  have hrl : (fs.map ftRow).length = n := by rw [List.length_map, hl]
  have hq1 : (rdU fs).length ≤ n * 10000 := by rw [← hl]; exact flat_len7 fun x hx => by have := hF x hx; rw [this.1.p1.len]; exact this.2.1
  have hq2 : (wrU fs).length ≤ n * 10000 := by rw [← hl]; exact flat_len7 fun x hx => by have := hF x hx; rw [this.1.p2.len]; exact this.2.2
  have hfr : Few (addF noF (rdU fs)) := few_add (fun c hc => by obtain ⟨f, h1, h2⟩ := List.mem_flatMap.1 hc; exact (hF f h1).1.p1.ok c h2) (by omega)
  have hfw : Few (addF noF (wrU fs)) := few_add (fun c hc => by obtain ⟨f, h1, h2⟩ := List.mem_flatMap.1 hc; exact (hF f h1).1.p2.ok c h2) (by omega)
  refine Vc.calls T0_ok Try.func7 rfl rfl (args := [.sl 0 a 0 0 2 n c]) (k := 28) rfl hm ?_; change Vc _ _ (c8 (.sl 0 a 0 0 2 n c) .undef .undef .undef .undef .undef .undef .undef (c8 .undef .undef .undef .undef .undef .undef .undef .undef (c8 .undef .undef .undef .undef .undef .undef .undef .undef ([.undef, .undef, .undef, .undef, .undef])))) _ _
  ((repeat (first | (with_reducible refine Vc.seq fun N hN => ?_) | (with_reducible refine Vc.block ?_) | ((first | with_reducible refine Vc.skip ?_ | with_reducible refine Vc.exit ?_); dsimp only [thenK, blockK, Nat.beq]; (first | (refine hN _ _ ?_; clear hN N) | skip)) | (with_reducible intro _) | ((with_reducible refine And.intro ?_ ?_); (focus (first | ((repeat' with_reducible apply And.intro) <;> first | exact sideQ) | exact sd0))) | ((first | ((with_reducible refine askT_of ?_ (fun hb => ?_)); (focus (first | ((repeat' with_reducible apply And.intro) <;> first | exact sideQ) | exact sd0)); (try simp only [hb])) | ((with_reducible refine Vc.fin ?_); dsimp only [thenK, blockK, retK, resS, resOne, resAll]) | ((with_reducible refine Vc.hold ?_); first | refine Vc.regiont T0_ok GI8_ok ?_)); (try simp only [v8X, v8A, v8B, v8C, Nat.beq, Nat.ble, Int.reduceToNat, Int.reduceLE, Int.reduceLT, Nat.reduceLT, Nat.reduceLeDiff, Nat.reduceAdd, Nat.reduceMul, Nat.reduceSub, Int.reduceAdd, Int.reduceSub, Int.reduceMul, eq_self, decide_true, beq_self_eq_true, List.length_cons, List.length_nil, Nat.min_eq_left, IntKind.bits, tabs, GI8_set, ]); (try simp (disch := omega) only [v8W])) | ((with_reducible refine hN _ _ ?_); clear hN N; (try simp (disch := omega) only [v8W])))); (try ((with_reducible refine Fin.of ?_); (try with_reducible exact True.intro))))
  (revert N; intro N1 hN1)
  rename_i b2 ba bb
  refine Vc.loop 6 29 (fun (k : Nat) => [(9, .sl 0 a 0 0 2 n c), (10, .int .i64 (n : Nat)), (11, .int .i64 (k : Nat)), (7, .mpv 3 ba), (8, .mpv 4 bb)]) (fun k => [.ro a (.rows 2 (fs.map ftRow)), allOld w, .blk b2 24 (.cells [.nilsl, .nilsl]), .mp ba ck_38 (addF noF (rdU (fs.take k))), .mp bb ck_38 (addF noF (wrU (fs.take k)))]) (fun k => k ≤ n) (fun k => n - k) 0 ⟨Nat.zero_le _, ?_, ?_⟩ (fun k junk hk => ?_)
  · ((try simp only [v8X, v8A, v8B, v8C, Nat.beq, Nat.ble, Int.reduceToNat, Int.reduceLE, Int.reduceLT, Nat.reduceLT, Nat.reduceLeDiff, Nat.reduceAdd, Nat.reduceMul, Nat.reduceSub, Int.reduceAdd, Int.reduceSub, Int.reduceMul, eq_self, decide_true, beq_self_eq_true, List.length_cons, List.length_nil, Nat.min_eq_left, IntKind.bits, tabs]); (repeat' with_reducible apply And.intro) <;> first | with_reducible exact True.intro | rfl | with_reducible rfl | (congr 1 <;> omega) | trivial)
  · ((try simp only [v8X, v8A, v8B, v8C, Nat.beq, Nat.ble, Int.reduceToNat, Int.reduceLE, Int.reduceLT, Nat.reduceLT, Nat.reduceLeDiff, Nat.reduceAdd, Nat.reduceMul, Nat.reduceSub, Int.reduceAdd, Int.reduceSub, Int.reduceMul, eq_self, decide_true, beq_self_eq_true, List.length_cons, List.length_nil, Nat.min_eq_left, IntKind.bits, tabs]); (repeat' with_reducible apply And.intro) <;> first | with_reducible exact True.intro | (rw [List.take_zero, rdU, wrU, List.flatMap_nil, addF_nil]) | with_reducible rfl | (congr 1 <;> omega) | trivial)
  · (simp only [v8X, v8A, v8B, v8C, Nat.beq, Nat.ble, Int.reduceToNat, Int.reduceLE, Int.reduceLT, Nat.reduceLT, Nat.reduceLeDiff, Nat.reduceAdd, Nat.reduceMul, Nat.reduceSub, Int.reduceAdd, Int.reduceSub, Int.reduceMul, eq_self, decide_true, beq_self_eq_true, List.length_cons, List.length_nil, Nat.min_eq_left, IntKind.bits, tabs])
    by_cases hc1 : k < n
    · have d1 : decide ((k : Int) < (n : Int)) = true := decide_eq_true (by omega)
      have tk : ((k : Nat) : Int).toNat = k := by omega
      have e2 := List.getElem?_eq_getElem (show k < fs.length by omega)
      have hgd := ftRow_gd e2
      have tR : rdU (fs.take (k + 1)) = rdU (fs.take k) ++ fs[k].l1 := flat_take7 (f := fun f => f.l1) e2
      have tW : wrU (fs.take (k + 1)) = wrU (fs.take k) ++ fs[k].l2 := flat_take7 (f := fun f => f.l2) e2
      have hFk := hF fs[k] (List.getElem_mem _)
      generalize fs[k] = f at *
      obtain ⟨⟨⟨q1, q2, q3, q4, q5⟩, ⟨g1, g2, g3, g4, g5⟩, _, _⟩, m1, m2⟩ := hFk
      have hX1 : ∀ m, allOld w ∈ m → LiesH (HM m) f.a1 (cc (.rows 25 (f.l1.map plL))) := fun m hin => q4.mono (H0.hm hin)
      have hX2 : ∀ m, allOld w ∈ m → LiesH (HM m) f.a2 (cc (.rows 25 (f.l2.map plL))) := fun m hin => g4.mono (H0.hm hin)
      have o1 := q5
      have o2 := g5
      have p1 := plsOf_eq q5
      have p2 := plsOf_eq g5
      have r1 := rowsOk_pl q5
      have r2 := rowsOk_pl g5
      have t1 : (f.l1.map plL).length = f.n1 := by rw [List.length_map, q1]
      have t2 : (f.l2.map plL).length = f.n2 := by rw [List.length_map, g1]
      have y1 := List.take_of_length_le (show (f.l1.map plL).length ≤ f.n1 by omega)
      have y2 := List.take_of_length_le (show (f.l2.map plL).length ≤ f.n2 by omega)
      ((repeat (first | (with_reducible refine Vc.seq fun N hN => ?_) | (with_reducible refine Vc.block ?_) | ((first | with_reducible refine Vc.skip ?_ | with_reducible refine Vc.exit ?_); dsimp only [thenK, blockK, Nat.beq]; (first | (refine hN _ _ ?_; clear hN N) | skip)) | (with_reducible intro _) | ((with_reducible refine And.intro ?_ ?_); (focus (first | ((repeat' with_reducible apply And.intro) <;> first | exact sideQ | (exact hX1 _ (by simp)) | (exact hX2 _ (by simp)) | (exact ⟨_, rfl, o1⟩) | (exact ⟨_, rfl, o2⟩) | (exact hr2)) | exact sd0))) | ((first | ((with_reducible refine askT_of ?_ (fun hb => ?_)); (focus (first | ((repeat' with_reducible apply And.intro) <;> first | exact sideQ | (exact hX1 _ (by simp)) | (exact hX2 _ (by simp)) | (exact ⟨_, rfl, o1⟩) | (exact ⟨_, rfl, o2⟩) | (exact hr2)) | exact sd0)); (try simp only [hb])) | ((with_reducible refine Vc.fin ?_); dsimp only [thenK, blockK, retK, resS, resOne, resAll]) | ((with_reducible refine Vc.hold ?_); first | refine Vc.regiont T0_ok GI8_ok ?_)); (try simp only [v8X, v8A, v8B, v8C, Nat.beq, Nat.ble, Int.reduceToNat, Int.reduceLE, Int.reduceLT, Nat.reduceLT, Nat.reduceLeDiff, Nat.reduceAdd, Nat.reduceMul, Nat.reduceSub, Int.reduceAdd, Int.reduceSub, Int.reduceMul, eq_self, decide_true, beq_self_eq_true, List.length_cons, List.length_nil, Nat.min_eq_left, IntKind.bits, tabs, GI8_set, d1]); (try simp (disch := omega) only [v8W])) | ((with_reducible refine hN _ _ ?_); clear hN N; (try simp (disch := omega) only [v8W])))); (try ((with_reducible refine Fin.of ?_); (try with_reducible exact True.intro))))
      (refine Vc.cond T0_ok (t := true) (by rfl) (fun _ => ?_) (fun h => Bool.noConfusion h))
      ((repeat (first | (with_reducible refine Vc.seq fun N hN => ?_) | (with_reducible refine Vc.block ?_) | ((first | with_reducible refine Vc.skip ?_ | with_reducible refine Vc.exit ?_); dsimp only [thenK, blockK, Nat.beq]; (first | (refine hN _ _ ?_; clear hN N) | skip)) | (with_reducible intro _) | ((with_reducible refine And.intro ?_ ?_); (focus (first | ((repeat' with_reducible apply And.intro) <;> first | exact sideQ | (exact hX1 _ (by simp)) | (exact hX2 _ (by simp)) | (exact ⟨_, rfl, o1⟩) | (exact ⟨_, rfl, o2⟩) | (exact hr2)) | exact sd0))) | ((first | ((with_reducible refine askT_of ?_ (fun hb => ?_)); (focus (first | ((repeat' with_reducible apply And.intro) <;> first | exact sideQ | (exact hX1 _ (by simp)) | (exact hX2 _ (by simp)) | (exact ⟨_, rfl, o1⟩) | (exact ⟨_, rfl, o2⟩) | (exact hr2)) | exact sd0)); (try simp only [hb])) | ((with_reducible refine Vc.fin ?_); dsimp only [thenK, blockK, retK, resS, resOne, resAll]) | ((with_reducible refine Vc.hold ?_); first | refine Vc.regiont T0_ok GI8_ok ?_)); (try simp only [v8X, v8A, v8B, v8C, Nat.beq, Nat.ble, Int.reduceToNat, Int.reduceLE, Int.reduceLT, Nat.reduceLT, Nat.reduceLeDiff, Nat.reduceAdd, Nat.reduceMul, Nat.reduceSub, Int.reduceAdd, Int.reduceSub, Int.reduceMul, eq_self, decide_true, beq_self_eq_true, List.length_cons, List.length_nil, Nat.min_eq_left, IntKind.bits, tabs, GI8_set, tk, hgd, p1, p2, r1, r2, y1, y2, addF_add, ← tR, ← tW, List.drop_zero, Nat.zero_add]); (try simp (disch := omega) only [v8W])) | ((with_reducible refine hN _ _ ?_); clear hN N; (try simp (disch := omega) only [v8W])))); (try ((with_reducible refine Fin.of ?_); (try with_reducible exact True.intro))))
      refine ⟨k + 1, by omega, ?_, ?_, by omega⟩
      · ((try simp only [v8X, v8A, v8B, v8C, Nat.beq, Nat.ble, Int.reduceToNat, Int.reduceLE, Int.reduceLT, Nat.reduceLT, Nat.reduceLeDiff, Nat.reduceAdd, Nat.reduceMul, Nat.reduceSub, Int.reduceAdd, Int.reduceSub, Int.reduceMul, eq_self, decide_true, beq_self_eq_true, List.length_cons, List.length_nil, Nat.min_eq_left, IntKind.bits, tabs]); (repeat' with_reducible apply And.intro) <;> first | with_reducible exact True.intro | rfl | (congr 1 <;> omega))
      · ((try simp only [v8X, v8A, v8B, v8C, Nat.beq, Nat.ble, Int.reduceToNat, Int.reduceLE, Int.reduceLT, Nat.reduceLT, Nat.reduceLeDiff, Nat.reduceAdd, Nat.reduceMul, Nat.reduceSub, Int.reduceAdd, Int.reduceSub, Int.reduceMul, eq_self, decide_true, beq_self_eq_true, List.length_cons, List.length_nil, Nat.min_eq_left, IntKind.bits, tabs]); (repeat' with_reducible apply And.intro) <;> first | with_reducible exact True.intro | rfl | (congr 1 <;> omega))
    · have d1 : decide ((k : Int) < (n : Int)) = false := decide_eq_false (by omega)
      obtain rfl : k = n := by omega
      have eR : fs.take k = fs := List.take_of_length_le (by omega)
      rw [eR]
      ((repeat (first | (with_reducible refine Vc.seq fun N hN => ?_) | (with_reducible refine Vc.block ?_) | ((first | with_reducible refine Vc.skip ?_ | with_reducible refine Vc.exit ?_); dsimp only [thenK, blockK, Nat.beq]; (first | (refine hN _ _ ?_; clear hN N) | skip)) | (with_reducible intro _) | ((with_reducible refine And.intro ?_ ?_); (focus (first | ((repeat' with_reducible apply And.intro) <;> first | exact sideQ | (exact hX1 _ (by simp)) | (exact hX2 _ (by simp)) | (exact ⟨_, rfl, o1⟩) | (exact ⟨_, rfl, o2⟩) | (exact hr2)) | exact sd0))) | ((first | ((with_reducible refine askT_of ?_ (fun hb => ?_)); (focus (first | ((repeat' with_reducible apply And.intro) <;> first | exact sideQ | (exact hX1 _ (by simp)) | (exact hX2 _ (by simp)) | (exact ⟨_, rfl, o1⟩) | (exact ⟨_, rfl, o2⟩) | (exact hr2)) | exact sd0)); (try simp only [hb])) | ((with_reducible refine Vc.fin ?_); dsimp only [thenK, blockK, retK, resS, resOne, resAll]) | ((with_reducible refine Vc.hold ?_); first | refine Vc.regiont T0_ok GI8_ok ?_)); (try simp only [v8X, v8A, v8B, v8C, Nat.beq, Nat.ble, Int.reduceToNat, Int.reduceLE, Int.reduceLT, Nat.reduceLT, Nat.reduceLeDiff, Nat.reduceAdd, Nat.reduceMul, Nat.reduceSub, Int.reduceAdd, Int.reduceSub, Int.reduceMul, eq_self, decide_true, beq_self_eq_true, List.length_cons, List.length_nil, Nat.min_eq_left, IntKind.bits, tabs, GI8_set, d1]); (try simp (disch := omega) only [v8W])) | ((with_reducible refine hN _ _ ?_); clear hN N; (try simp (disch := omega) only [v8W])))); (try ((with_reducible refine Fin.of ?_); (try with_reducible exact True.intro))))
      (refine Vc.cond T0_ok (t := false) (by rfl) (fun h => Bool.noConfusion h) (fun _ => ?_))
      ((repeat (first | (with_reducible refine Vc.seq fun N hN => ?_) | (with_reducible refine Vc.block ?_) | ((first | with_reducible refine Vc.skip ?_ | with_reducible refine Vc.exit ?_); dsimp only [thenK, blockK, Nat.beq]; (first | (refine hN _ _ ?_; clear hN N) | skip)) | (with_reducible intro _) | ((with_reducible refine And.intro ?_ ?_); (focus (first | ((repeat' with_reducible apply And.intro) <;> first | exact sideQ | (exact hX1 _ (by simp)) | (exact hX2 _ (by simp)) | (exact ⟨_, rfl, o1⟩) | (exact ⟨_, rfl, o2⟩) | (exact hr2)) | exact sd0))) | ((first | ((with_reducible refine askT_of ?_ (fun hb => ?_)); (focus (first | ((repeat' with_reducible apply And.intro) <;> first | exact sideQ | (exact hX1 _ (by simp)) | (exact hX2 _ (by simp)) | (exact ⟨_, rfl, o1⟩) | (exact ⟨_, rfl, o2⟩) | (exact hr2)) | exact sd0)); (try simp only [hb])) | ((with_reducible refine Vc.fin ?_); dsimp only [thenK, blockK, retK, resS, resOne, resAll]) | ((with_reducible refine Vc.hold ?_); first | refine Vc.regiont T0_ok GI8_ok ?_)); (try simp only [v8X, v8A, v8B, v8C, Nat.beq, Nat.ble, Int.reduceToNat, Int.reduceLE, Int.reduceLT, Nat.reduceLT, Nat.reduceLeDiff, Nat.reduceAdd, Nat.reduceMul, Nat.reduceSub, Int.reduceAdd, Int.reduceSub, Int.reduceMul, eq_self, decide_true, beq_self_eq_true, List.length_cons, List.length_nil, Nat.min_eq_left, IntKind.bits, tabs, GI8_set]); (try simp (disch := omega) only [v8W])) | ((with_reducible refine hN _ _ ?_); clear hN N; (try simp (disch := omega) only [v8W])))); (try ((with_reducible refine Fin.of ?_); (try with_reducible exact True.intro))))
      (refine hN1 _ _ ?_; (try clear hN N); clear hN1 N1)
      ((repeat (first | (with_reducible refine Vc.seq fun N hN => ?_) | (with_reducible refine Vc.block ?_) | ((first | with_reducible refine Vc.skip ?_ | with_reducible refine Vc.exit ?_); dsimp only [thenK, blockK, Nat.beq]; (first | (refine hN _ _ ?_; clear hN N) | skip)) | (with_reducible intro _) | ((with_reducible refine And.intro ?_ ?_); (focus (first | ((repeat' with_reducible apply And.intro) <;> first | exact sideQ | (exact hX1 _ (by simp)) | (exact hX2 _ (by simp)) | (exact ⟨_, rfl, o1⟩) | (exact ⟨_, rfl, o2⟩) | (exact hr2)) | exact sd0))) | ((first | ((with_reducible refine askT_of ?_ (fun hb => ?_)); (focus (first | ((repeat' with_reducible apply And.intro) <;> first | exact sideQ | (exact hX1 _ (by simp)) | (exact hX2 _ (by simp)) | (exact ⟨_, rfl, o1⟩) | (exact ⟨_, rfl, o2⟩) | (exact hr2)) | exact sd0)); (try simp only [hb])) | ((with_reducible refine Vc.fin ?_); dsimp only [thenK, blockK, retK, resS, resOne, resAll]) | ((with_reducible refine Vc.hold ?_); first | refine Vc.regiont T0_ok GI8_ok ?_)); (try simp only [v8X, v8A, v8B, v8C, Nat.beq, Nat.ble, Int.reduceToNat, Int.reduceLE, Int.reduceLT, Nat.reduceLT, Nat.reduceLeDiff, Nat.reduceAdd, Nat.reduceMul, Nat.reduceSub, Int.reduceAdd, Int.reduceSub, Int.reduceMul, eq_self, decide_true, beq_self_eq_true, List.length_cons, List.length_nil, Nat.min_eq_left, IntKind.bits, tabs, GI8_set, ]); (try simp (disch := omega) only [v8W])) | ((with_reducible refine hN _ _ ?_); clear hN N; (try simp (disch := omega) only [v8W])))); (try ((with_reducible refine Fin.of ?_); (try with_reducible exact True.intro))))
      rename_i x1 hx1 x2 hx2
      exact ⟨by simp, x1.1, x1.2, x2.1, x2.2, _, _, hx1, hx2, rfl, by decide, rfl, rfl⟩
def rdR (rs : List (List SV)) : List (List Int) := rs.flatMap fun r => match r with
  | [.gh _ _ _ (.rows 25 x), .gh _ _ _ (.rows 25 _)] => plsOf x
  | _ => []
def wrR (rs : List (List SV)) : List (List Int) := rs.flatMap fun r => match r with
  | [.gh _ _ _ (.rows 25 _), .gh _ _ _ (.rows 25 y)] => plsOf y
  | _ => []
theorem rdR_eq : ∀ {fs : List FtD}, (∀ f ∈ fs, ∀ x ∈ f.l1, okP x) → rdR (fs.map ftRow) = rdU fs
  | [], _ => rfl
  | f :: fs, h => by
    have h1 := plsOf_eq (h f List.mem_cons_self)
    have h2 := rdR_eq (fs := fs) fun x hx => h x (List.mem_cons_of_mem _ hx)
    unfold rdR at h2 ⊢
    unfold rdU at h2 ⊢
    rw [List.map_cons, List.flatMap_cons, List.flatMap_cons, h2, ← h1]
    simp only [ftRow, h1]
theorem wrR_eq : ∀ {fs : List FtD}, (∀ f ∈ fs, ∀ x ∈ f.l2, okP x) → wrR (fs.map ftRow) = wrU fs
  | [], _ => rfl
  | f :: fs, h => by
    have h1 := plsOf_eq (h f List.mem_cons_self)
    have h2 := wrR_eq (fs := fs) fun x hx => h x (List.mem_cons_of_mem _ hx)
    unfold wrR at h2 ⊢
    unfold wrU at h2 ⊢
    rw [List.map_cons, List.flatMap_cons, List.flatMap_cons, h2, ← h1]
    simp only [ftRow, h1]
theorem FtB.mono {H H' : Nat → Obj → Prop} {f : FtD} (h : FtB H f) (hH : ∀ b o, H b o → H' b o) : FtB H' f := ⟨h.1.mono hH, h.2⟩
noncomputable def g_union (args : List SV) (m : List Blk) : CR :=
  match args with
  | [x] => match srcC x m with
    | some (q, k, .rows 2 rs) => .grw (q ∧ k ≤ 100 ∧ ∃ fs : List FtD, rs = fs.map ftRow ∧ ∀ f ∈ fs, FtB (HM m) f) FtX (FtQ (rdR rs) (wrR rs)) FtF (fun x => .heap x.h)
    | _ => .none
  | _ => .none
theorem g_union_ok (w0 : World) (B : List Nat) (args : List SV) (m : List Blk) : CROk Try.prog w0 B 7 args m (g_union args m) := by
  unfold g_union
  split
  · rename_i x
    split
    · rename_i q k rs hs
      rintro ⟨hq, hk, fs, rfl, hF⟩ w hm
      obtain ⟨l1, a, cp, ex, b1, m1, d1⟩ := src_ro hs hq hm
      have hr2 : ∀ r ∈ fs.map ftRow, r.length = 2 := fun r hr => by obtain ⟨f, _, rfl⟩ := List.mem_map.1 hr; rfl
      have e : cvs [x] = cvs [.sl 0 a 0 0 2 k cp] := by simp only [cvs]; rw [ex]; rfl
      rw [rows2_len hr2] at l1
      simp only [conEs, List.length_map] at l1
      rw [e, rdR_eq fun f hf => (hF f hf).1.p1.ok, wrR_eq fun f hf => (hF f hf).1.p2.ok]
      exact grw_foot Try.func7 rfl rfl hm (union_vc a k cp fs (by omega) b1 d1 hk w (fun f hf => (hF f hf).mono fun b o h => hm.hm h) (ro_front (old_start w) m1))
    · exact trivial
  · exact trivial
end Go.Proofs.Ytdanlclhnehieaa
