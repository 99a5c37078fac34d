/-
  maps.Keys at a set of places: its iterator, walked. No condition.
-/
import Derived.Test.YtdanlclhnehieaaV1
import Derived.Test.YtdanlclhnehieaaT8
namespace Go.Proofs.Ytdanlclhnehieaa
set_option linter.unusedSimpArgs false
set_option linter.unusedVariables false
open Go.RowKit Go.Shelf
theorem RngIs.of_walks {w w' : World} {b r : Nat} {ks : List CK} {f : List Int → Option Value} {left : List Int → Bool} {cnt : Nat} {last : Option (List Int × Value)} (h : RngIs w b r ks f left cnt last) (hk : KeepsWalks w w') : RngIs w' b r ks f left cnt last := by
  obtain ⟨es, clock, since, seen, c0, hb, hs, hR, hr, rest⟩ := h
  exact ⟨es, clock, since, seen, c0, hk.same b _ hb rfl, hs, hR, hk.same r _ hr rfl, rest⟩
theorem RngIs.iter {w : World} {b r : Nat} {ks : List CK} {f : List Int → Option Value} {left : List Int → Bool} {cnt : Nat} {last : Option (List Int × Value)} (h : RngIs w b r ks f left cnt last) : ∃ o : Obj, w.heap[r]? = some o ∧ o.isWalk = true := by
  obtain ⟨es, clock, since, seen, c0, hb, hs, hR, hr, rest⟩ := h
  exact ⟨_, hr, rfl⟩
theorem RngIs.left_eq {w : World} {b r : Nat} {ks : List CK} {f : List Int → Option Value} {left : List Int → Bool} {cnt : Nat} {last : Option (List Int × Value)} (h : RngIs w b r ks f left cnt last) : w.rangeLeft b r = cnt := by
  obtain ⟨es, clock, since, seen, c0, hb, hs, hR, hr, _, hc, _⟩ := h
  simp only [World.rangeLeft, hb, hr]
  exact hc
theorem keeps_none {w w' : World} (h : w.grownBy w' none) : KeepsWalks w w' := KeepsWalks.of_grownBy h (fun j o e => by cases e)
section
variable {F : Fence} {n : Nat} {P : Program} (w : World) {ops : Array Oper} {rest : List Oper} {o : Oper} {a : Act} {Q : Exit → Act → World → Prop}
theorem range_pl (hg : o.guard = none) (m : Operand) (t : TypeId) (hop : o.op = Op.range t m) (k e : TypeId) (ht : P.underlying t = some (.map k e)) (b : Nat) (ks : List CK) (f : List Int → Option Value)
    (hm : a.eval m = .map (some b)) (hM : MapIs w b ks f)
    (hK : ∀ w' cnt, RngIs w' b w.heap.size ks f (fun c => (f c).isSome) cnt none → w.grownBy w' none → wpListIn F n P ops Q rest (a.put o.dst (.pointer (some ⟨w.heap.size, 0, none⟩))) w') :
    wpListIn F n P ops Q (o :: rest) a w := by
  refine wpListIn_plain hg fun K' hK' => ?_
  obtain ⟨cnt, hrun, hr⟩ := map_range (P := P) ht hM
  unfold Oper.wpIn
  refine ⟨by simp [Oper.about, hop], ?_⟩
  rw [Oper.semAt_plain F _ _ (by rw [hop]; intro c hc'; cases hc')]
  simp [execOp, hop, hm, hrun, Result.andThen]
  exact hK' _ _ (hK _ _ hr (World.grownBy_alloc w _ none))
theorem next_pl (hg : o.guard = none) (it : Operand) (hop : o.op = Op.next it false) (b r : Nat) (ks : List CK) (f : List Int → Option Value) (left : List Int → Bool) (cnt : Nat) (last : Option (List Int × Value))
    (hit : a.eval it = .pointer (some ⟨r, 0, none⟩)) (h : RngIs w b r ks f left cnt last)
    (hDone : (∀ c, left c = false) → wpListIn F n P ops Q rest (a.put o.dst (.tuple #[.bool false])) w)
    (hMore : ∀ c v w' cnt', left c = true → f c = some v → inCs ks c → cnt' < cnt → RngIs w' b r ks f (fun x => left x && !decide (x = c)) cnt' (some (c, v)) → w.grownBy w' (some r) →
      (Instr.entry (.pointer (some ⟨r, 0, none⟩))).run P w' = .ok (.tuple #[kv ks c, v]) w' → wpListIn F n P ops Q rest (a.put o.dst (.tuple #[.bool true, kv ks c, v])) w') :
    wpListIn F n P ops Q (o :: rest) a w := by
  refine wpListIn_plain hg fun K' hK' => ?_
  unfold Oper.wpIn
  refine ⟨by simp [Oper.about, hop], ?_⟩
  rw [Oper.semAt_plain F _ _ (by rw [hop]; intro c hc'; cases hc')]
  rcases map_next (P := P) h o.type with ⟨h0, hrun⟩ | ⟨c, v, w', cnt', h1, h2, h3, h4, hrun, h5, h6⟩
  · simp [execOp, hop, hit, hrun, Result.andThen]
    exact hK' _ _ (hDone h0)
  · simp [execOp, hop, hit, hrun, Result.andThen]
    exact hK' _ _ (hMore c v w' cnt' h1 h2 h3 h4 h5 h6 (map_entry h5))
end
theorem kv_pl {c : List Int} (h : okP c) : kv ck_38 c = cv (.agg (plL c)) := by
  obtain ⟨x0, x1, x2, x3, x4, x5, x6, x7, x8, x9, x10, x11, x12, x13, x14, x15, x16, x17, x18, x19, bx, k0, k1, k2, k3, rfl, p1, p2, p3⟩ := okP_forms h
  simp only [kv, cv, plL, ck_38, cellsC, cellC, cvs]
set_option maxRecDepth 100000 in
set_option maxHeartbeats 4000000 in
theorem pk1_in (n : Nat) (l Bm b : Nat) (f : List Int → Option SV) (N : Nat)
    (hN : ∀ (pre : List PlT) (x : PlT), (pre ++ [x]).Nodup → (∀ c ∈ pre ++ [x], (f c.1).isSome = true) → pre.length < N) (J Jx : List PlT → World → Prop)
    (hY : ∀ pre x W, J pre W → pre.length < N → YieldAt Fence.wide (n - 1) Try.prog l #[cv (.agg (plL x.1))] W fun e W' => (e = .returned (.bool true) ∧ J (pre ++ [x]) W' ∧ KeepsWalks W W') ∨ (e = .returned (.bool false) ∧ Jx (pre ++ [x]) W'))
    (W : World) (hJ : AbidesFrom W.heap.size J) (hBm : Boxed W Bm 40 (.map (some b))) (hM : MapIs W b ck_38 (fun c => (f c).map cv)) (h0 : J [] W) :
    CallsIn Fence.wide n Try.prog 23 #[.func (.yield l) #[] #[], .pointer (some ⟨Bm, 0, none⟩)] W fun e W' => (∃ v, e = .returned v) ∧ ((∃ ss : List PlT, (ss.Nodup ∧ ∀ x : PlT, x ∈ ss ↔ (f x.1).isSome = true) ∧ J ss W') ∨ (∃ pre : List PlT, True ∧ Jx pre W')) := by
  have hro : Fence.wide.round = none := rfl
  refine callsIn_of_wp Try.func23 rfl trivial ?_ hro
  simp only [Try.ntmps23, List.size_toArray, List.length_cons, List.length_nil, Nat.reduceAdd, Nat.reduceSub, Array.replicate_succ, Array.replicate_zero, List.push_toArray, List.append_toArray, List.nil_append, List.cons_append]
  obtain ⟨a0, ha0⟩ : ∃ a0 : Act, a0 = { tmps := #[Value.func (Fn.yield l) #[] #[], Value.pointer (some { block := Bm, off := 0 }), undef, undef, undef, undef, undef, undef, undef, undef, undef, undef, undef, undef], defers := [] } := ⟨_, rfl⟩
  have hf0 : Fr [.raw (.func (.yield l) #[] #[]), .gp (some ⟨Bm, 0, none⟩) (.cells [.mpv 0 b]) 0 0 0, .undef, .undef, .undef, .undef, .undef, .undef, .undef, .undef, .undef, .undef, .undef, .undef] a0 := by rw [ha0]; rfl
  have hd0 : a0.defers = [] := by rw [ha0]
  rw [← ha0]
  clear ha0
  have hP : ∀ m, allOld W ∈ m → LiesH (HM m) (some ⟨Bm, 0, none⟩) (cc (.cells [.mpv 0 b])) := fun m hin => .inr ⟨Bm, 0, _, _, _, rfl, H0.hm hin _ _ hBm, fun j u hj => by rw [Nat.zero_add]; simpa [cc, cvs, cv] using hj⟩
  refine wpIn_seq (wpIn_region_lit ?_)
  refine ops_inN wd_wide T0_ok G1_ok (l := [_]) (l2 := [_]) hf0 hd0 (old_start W) rfl (fun M hM2 => ?_)
  (simp only [v8X, v8A, v8B, v8C, Nat.beq, Nat.ble, Int.reduceToNat, Int.reduceLE, Int.reduceLT, Nat.reduceLT, Nat.reduceLeDiff, Nat.reduceAdd, Nat.reduceMul, Nat.reduceSub, Int.reduceAdd, Int.reduceSub, Int.reduceMul, eq_self, decide_true, beq_self_eq_true, List.length_cons, List.length_nil, Nat.min_eq_left, IntKind.bits, tabs, G1_set]; (try simp (disch := omega) only [v8W]); (repeat (first | with_reducible intro _ | ((with_reducible refine And.intro ?_ ?_); (focus (first | ((repeat' with_reducible apply And.intro) <;> first | with_reducible exact True.intro | with_reducible rfl | (exact hP _ (by simp))) | exact sd0))) | ((with_reducible refine askT_of ?_ (fun hb => ?_)); (focus (first | ((repeat' with_reducible apply And.intro) <;> first | with_reducible exact True.intro | with_reducible rfl | (exact hP _ (by simp))) | exact sd0)); simp only [hb, v8X, v8A, v8B, v8C, Nat.beq, Nat.ble, Int.reduceToNat, Int.reduceLE, Int.reduceLT, Nat.reduceLT, Nat.reduceLeDiff, Nat.reduceAdd, Nat.reduceMul, Nat.reduceSub, Int.reduceAdd, Int.reduceSub, Int.reduceMul, eq_self, decide_true, beq_self_eq_true, List.length_cons, List.length_nil, Nat.min_eq_left, IntKind.bits, tabs, G1_set]; (try simp (disch := omega) only [v8W])))); (first | (refine hN _ _ ?_; clear hN N; (try simp (disch := omega) only [v8W])) | skip))
  refine hM2 _ _ (fun a1 w1 hf1 hd1 hm1 => ?_); clear hM2 M
  have hg1 := hm1.grown
  have hM1 : MapIs w1 b ck_38 (fun c => (f c).map cv) := map_grown hg1 hM (fun k e => by cases e)
  refine range_pl w1 rfl (.tmp 4) 40 rfl 38 46 Try.underlying40 b ck_38 _ (by rw [hf1.ev T0_ok.gl]; rfl) hM1 (fun w2 cnt0 hrg0 hg2 => ?_)
  have hf2 := hf1.put (some 5) (.raw (.pointer (some ⟨w1.heap.size, 0, none⟩)))
  have hJ2 : J [] w2 := hJ [] w1 w2 none (hJ [] W w1 none h0 hg1 (fun r e => by cases e)) hg2 (fun r e => by cases e)
  have hsz1 : W.heap.size ≤ w1.heap.size := hg1.size
  generalize hrr : w1.heap.size = rr at *
  refine wpListIn_nil ?_
  refine wpIn_block (wpIn_loop (fun a w => a.defers = [] ∧ ∃ (j3 j6 j7 j8 j9 j10 j11 j12 j13 : SV) (left : List Int → Bool) (cnt : Nat) (last : Option (List Int × Value)) (ss : List PlT),
      Fr [.raw (.func (.yield l) #[] #[]), .gp (some ⟨Bm, 0, none⟩) (.cells [.mpv 0 b]) 0 0 0, .undef, j3, .mpv 0 b, .raw (.pointer (some ⟨rr, 0, none⟩)), j6, j7, j8, j9, j10, j11, j12, j13] a ∧
      RngIs w b rr ck_38 (fun c => (f c).map cv) left cnt last ∧ ss.Nodup ∧ (∀ x : PlT, left x.1 = true ↔ ((f x.1).isSome = true ∧ x ∉ ss)) ∧ (∀ x ∈ ss, (f x.1).isSome = true) ∧ J ss w)
    (fun _ w => w.rangeLeft b rr) ⟨by rw [← hd1]; rfl, _, _, _, _, _, _, _, _, _, _, cnt0, none, [], hf2, hrg0, List.nodup_nil, fun x => by simp, fun x hx => absurd hx List.not_mem_nil, hJ2⟩ ?_)
  clear hf2 hJ2 hrg0 hg2 hM1 hm1 hf1 hd1 hf0 hd0 a0 cnt0
  rintro a w ⟨hd, j3, j6, j7, j8, j9, j10, j11, j12, j13, left, cnt, last, ss, hf, hrg, hnd, hl1, hl2, hJs⟩
  refine wpIn_seq (wpIn_region_lit ?_)
  refine next_pl w rfl (.tmp 5) rfl b rr ck_38 _ left cnt last (by rw [hf.ev T0_ok.gl]; rfl) hrg ?_ ?_
  · intro hz
    have hf3 := hf.put (some 6) (.tup [.bool false])
    refine val_in wd_wide rfl rfl (u := cv (.bool false)) (w' := w) (dstep_sound T0_ok (m := []) (p := True) (v := .bool false) rfl trivial hf3 (MemOk.start w)) (wpListIn_nil ?_)
    have hf4 := hf3.put (some 7) (.bool false)
    refine wpIn_seq (wpIn_cond_false (by exact (hf4.ev T0_ok.gl (.tmp 7)).trans rfl) (wpIn_exit ?_))
    exact ⟨by rw [← hd]; rfl, _, results_none rfl _ _ _, ⟨_, rfl⟩, .inl ⟨ss, ⟨hnd, fun x => ⟨hl2 x, fun h => by
      rcases Classical.em (x ∈ ss) with h5 | h5
      · exact h5
      · have := (hl1 x).2 ⟨h, h5⟩
        rw [hz x.1] at this; cases this⟩⟩, hJs⟩⟩
  · intro c v w2 cnt2 h1 h2 h3 h4 h5 h6 hen
    obtain ⟨x, hx⟩ : ∃ x : PlT, x.1 = c := ⟨⟨c, h3⟩, rfl⟩
    have hfx : (f x.1).isSome = true := by
      rw [hx]
      cases hfc : f c with
      | none => rw [hfc] at h2; cases h2
      | some y => rfl
    have hxs : x ∉ ss := ((hl1 x).1 (by rw [hx]; exact h1)).2
    rw [kv_pl h3] at hen ⊢
    have hJ2 : J ss w2 := hJ ss w w2 (some rr) hJs h6 (fun r e => by cases e; exact ⟨hsz1, hrg.iter⟩)
    have hf3 := hf.put (some 6) (.tup [.bool true, .agg (plL c), .raw v])
    refine val_in wd_wide rfl rfl (u := cv (.bool true)) (w' := w2) (dstep_sound T0_ok (m := []) (p := True) (v := .bool true) rfl trivial hf3 (MemOk.start w2)) (wpListIn_nil ?_)
    have hf4 := hf3.put (some 7) (.bool true)
    refine wpIn_seq (wpIn_cond_true (by exact (hf4.ev T0_ok.gl (.tmp 7)).trans rfl) (wpIn_skip ?_))
    refine wpIn_block (wpIn_seq (wpIn_region_lit ?_))
    have e5 : (Act.put (Act.put a (some 6) (cv (.tup [.bool true, .agg (plL c), .raw v]))) (some 7) (cv (.bool true))).eval (.tmp 5) = .pointer (some ⟨rr, 0, none⟩) := (hf4.ev T0_ok.gl (.tmp 5)).trans rfl
    refine val_in wd_wide rfl rfl (u := cv (.tup [.agg (plL c), .raw v])) (w' := w2) (by
      simp only [execOp]
      rw [show (Act.put (Act.put a (some 6) (Value.tuple #[Value.bool true, cv (SV.agg (plL c)), v])) (some 7) (cv (SV.bool true))).eval (.tmp 5) = .pointer (some ⟨rr, 0, none⟩) from e5]
      simp only [Sem.run_bind, hen, Result.andThen_ok, Sem.run_pure]
      rfl) ?_
    have hf5 := hf4.put (some 8) (.tup [.agg (plL c), .raw v])
    subst hx
    obtain ⟨x0, x1, x2, x3, x4, x5, x6, x7, x8, x9, x10, x11, x12, x13, x14, x15, x16, x17, x18, x19, bx, k0, k1, k2, k3, hxe, p1, p2, p3⟩ := okP_forms h3
    have hcl : plL x.1 = [.int .u8 x0, .int .u8 x1, .int .u8 x2, .int .u8 x3, .int .u8 x4, .int .u8 x5, .int .u8 x6, .int .u8 x7, .int .u8 x8, .int .u8 x9, .int .u8 x10, .int .u8 x11, .int .u8 x12, .int .u8 x13, .int .u8 x14, .int .u8 x15, .int .u8 x16, .int .u8 x17, .int .u8 x18, .int .u8 x19, .bool (decide (bx = 1)), .int .u64 k0, .int .u64 k1, .int .u64 k2, .int .u64 k3] := by rw [hxe]; rfl
    rw [hcl] at hf5 ⊢
    refine ops_inN wd_wide T0_ok G1_ok (l := [_, _, _]) (l2 := []) (m := []) (ds := []) hf5 (by rw [← hd]; rfl) (MemOk.start w2) rfl (fun M hM2 => ?_)
    (simp only [v8X, v8A, v8B, v8C, Nat.beq, Nat.ble, Int.reduceToNat, Int.reduceLE, Int.reduceLT, Nat.reduceLT, Nat.reduceLeDiff, Nat.reduceAdd, Nat.reduceMul, Nat.reduceSub, Int.reduceAdd, Int.reduceSub, Int.reduceMul, eq_self, decide_true, beq_self_eq_true, List.length_cons, List.length_nil, Nat.min_eq_left, IntKind.bits, tabs, G1_set]; (try simp (disch := omega) only [v8W]); (repeat (first | with_reducible intro _ | ((with_reducible refine And.intro ?_ ?_); (focus (first | ((repeat' with_reducible apply And.intro) <;> first | with_reducible exact True.intro | with_reducible rfl) | exact sd0))) | ((with_reducible refine askT_of ?_ (fun hb => ?_)); (focus (first | ((repeat' with_reducible apply And.intro) <;> first | with_reducible exact True.intro | with_reducible rfl) | exact sd0)); simp only [hb, v8X, v8A, v8B, v8C, Nat.beq, Nat.ble, Int.reduceToNat, Int.reduceLE, Int.reduceLT, Nat.reduceLT, Nat.reduceLeDiff, Nat.reduceAdd, Nat.reduceMul, Nat.reduceSub, Int.reduceAdd, Int.reduceSub, Int.reduceMul, eq_self, decide_true, beq_self_eq_true, List.length_cons, List.length_nil, Nat.min_eq_left, IntKind.bits, tabs, G1_set]; (try simp (disch := omega) only [v8W])))); (first | (refine hN _ _ ?_; clear hN N; (try simp (disch := omega) only [v8W])) | skip))
    refine hM2 _ _ (fun a3 w3 hf6 hd6 hm6 => wpListIn_nil ?_); clear hM2 M
    refine wpIn_seq (wpIn_region_lit ?_)
    refine ops_inN wd_wide T0_ok G1_ok (l := [_, _]) (l2 := [_, _]) hf6 hd6 hm6 rfl (fun M hM2 => ?_)
    (simp only [v8X, v8A, v8B, v8C, Nat.beq, Nat.ble, Int.reduceToNat, Int.reduceLE, Int.reduceLT, Nat.reduceLT, Nat.reduceLeDiff, Nat.reduceAdd, Nat.reduceMul, Nat.reduceSub, Int.reduceAdd, Int.reduceSub, Int.reduceMul, eq_self, decide_true, beq_self_eq_true, List.length_cons, List.length_nil, Nat.min_eq_left, IntKind.bits, tabs, G1_set]; (try simp (disch := omega) only [v8W]); (repeat (first | with_reducible intro _ | ((with_reducible refine And.intro ?_ ?_); (focus (first | ((repeat' with_reducible apply And.intro) <;> first | with_reducible exact True.intro | with_reducible rfl) | exact sd0))) | ((with_reducible refine askT_of ?_ (fun hb => ?_)); (focus (first | ((repeat' with_reducible apply And.intro) <;> first | with_reducible exact True.intro | with_reducible rfl) | exact sd0)); simp only [hb, v8X, v8A, v8B, v8C, Nat.beq, Nat.ble, Int.reduceToNat, Int.reduceLE, Int.reduceLT, Nat.reduceLT, Nat.reduceLeDiff, Nat.reduceAdd, Nat.reduceMul, Nat.reduceSub, Int.reduceAdd, Int.reduceSub, Int.reduceMul, eq_self, decide_true, beq_self_eq_true, List.length_cons, List.length_nil, Nat.min_eq_left, IntKind.bits, tabs, G1_set]; (try simp (disch := omega) only [v8W])))); (first | (refine hN _ _ ?_; clear hN N; (try simp (disch := omega) only [v8W])) | skip))
    refine hM2 _ _ (fun a4 w4 hf7 hd7 hm7 => ?_); clear hM2 M
    have hg4 := hm7.grown
    have hJ4 : J ss w4 := hJ ss w2 w4 none hJ2 hg4 (fun r e => by cases e)
    have hrg4 := h5.of_walks (keeps_none hg4)
    have hlt := hN ss x (by rw [List.nodup_append]; exact ⟨hnd, by simp, fun y hy z hz => by rw [List.mem_singleton] at hz; subst hz; exact fun e => hxs (e ▸ hy)⟩) (fun y hy => by
      rcases List.mem_append.1 hy with hy | hy
      · exact hl2 y hy
      · rw [List.mem_singleton] at hy; subst hy; exact hfx)
    have hYx := hY ss x w4 hJ4 hlt
    rw [hcl] at hYx
    refine yield_in wd_wide ((hf7.ev T0_ok.gl (.tmp 10)).trans rfl) (vs := #[cv (.agg [.int .u8 x0, .int .u8 x1, .int .u8 x2, .int .u8 x3, .int .u8 x4, .int .u8 x5, .int .u8 x6, .int .u8 x7, .int .u8 x8, .int .u8 x9, .int .u8 x10, .int .u8 x11, .int .u8 x12, .int .u8 x13, .int .u8 x14, .int .u8 x15, .int .u8 x16, .int .u8 x17, .int .u8 x18, .int .u8 x19, .bool (decide (bx = 1)), .int .u64 k0, .int .u64 k1, .int .u64 k2, .int .u64 k3])]) (by simp only [List.map_toArray, List.map_cons, List.map_nil, hf7.ev T0_ok.gl]; rfl) hYx (fun e w5 hr => ?_)
    rcases hr with ⟨rfl, hJ5, hk5⟩ | ⟨rfl, hJx⟩
    · have hf8 := hf7.put (some 12) (.bool true)
      have hrg5 := hrg4.of_walks hk5
      refine ⟨_, rfl, val_in wd_wide rfl rfl (u := cv (.bool false)) (w' := w5) (dstep_sound T0_ok (m := []) (p := True) (v := .bool false) rfl trivial hf8 (MemOk.start w5)) (wpListIn_nil ?_)⟩
      have hf9 := hf8.put (some 13) (.bool false)
      refine wpIn_cond_false (by exact (hf9.ev T0_ok.gl (.tmp 13)).trans rfl) (wpIn_skip ?_)
      refine ⟨⟨by rw [← hd7]; rfl, _, _, _, _, _, _, _, _, _, _, cnt2, _, ss ++ [x], hf9, hrg5, ?_, fun y => ?_, fun y hy => ?_, hJ5⟩, ?_⟩
      · rw [List.nodup_append]; exact ⟨hnd, by simp, fun y hy z hz => by rw [List.mem_singleton] at hz; subst hz; exact fun e => hxs (e ▸ hy)⟩
      · rw [Bool.and_eq_true, hl1 y, Bool.not_eq_true', decide_eq_false_iff_not, List.mem_append, List.mem_singleton, not_or]
        exact ⟨fun ⟨⟨q1, q2⟩, q3⟩ => ⟨q1, q2, fun e => q3 (e ▸ rfl)⟩, fun ⟨q1, q2, q3⟩ => ⟨⟨q1, q2⟩, fun e => q3 (Subtype.ext e)⟩⟩
      · rcases List.mem_append.1 hy with hy | hy
        · exact hl2 y hy
        · rw [List.mem_singleton] at hy; subst hy; exact hfx
      · rw [hrg5.left_eq, hrg.left_eq]; exact h4
    · have hf8 := hf7.put (some 12) (.bool false)
      refine ⟨_, rfl, val_in wd_wide rfl rfl (u := cv (.bool true)) (w' := w5) (dstep_sound T0_ok (m := []) (p := True) (v := .bool true) rfl trivial hf8 (MemOk.start w5)) (wpListIn_nil ?_)⟩
      have hf9 := hf8.put (some 13) (.bool true)
      refine wpIn_cond_true (by exact (hf9.ev T0_ok.gl (.tmp 13)).trans rfl) (wpIn_ret ?_)
      exact ⟨by rw [← hd7]; rfl, _, results_none rfl _ _ _, ⟨_, rfl⟩, .inr ⟨ss ++ [x], trivial, hJx⟩⟩
end Go.Proofs.Ytdanlclhnehieaa
