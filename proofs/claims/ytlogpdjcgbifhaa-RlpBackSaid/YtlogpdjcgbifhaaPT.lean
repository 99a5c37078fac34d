/-
  RLP: the chapter's examples (known), walked; own copies; are bytes alike. No condition.
-/
import Derived.Test.YtlogpdjcgbifhaaPR
import Derived.Lib.SlBytesConst
namespace Go.Proofs.Ytlogpdjcgbifhaa
set_option linter.unusedSimpArgs false
set_option linter.unusedVariables false
set_option maxHeartbeats 4000000
set_option linter.defProp false
open Go.RowKit
/-- A region that makes bytes of a constant string: a row of its own, marked. -/
theorem Vc.regionStr {P : Program} {T : Tab} (hT : TabOk P T) {G : Ctr} (hG : GOk P G) {id : Nat} {pre rest all : List Oper} {d d2 : Tmp} {t e : TypeId} {es eb : Nat} {n : Nat} {parts : Array (Nat × Operand)} {ty ty2 : TypeId} {pos pos2 : String} {af af2 : Array Edge} {env : List SV} {m : List Blk} {K : Kont}
    (ha : all = pre ++ (⟨some d, .buildSlice t n parts, ty, pos, af, none⟩ :: ⟨some d2, .convert t t (.tmp d), ty2, pos2, af2, none⟩ :: rest))
    (ht : T.ty t = .sl e es eb) (he : T.ty e = .int .u8)
    (h : vcOpst .go T G all pre env m (fun _ env' m' => ∃ xs, litS T t n (evp T env' parts.toList) = some (e, 1, .ints .u8 xs) ∧ xs.length = n ∧ (∀ v, sget (sset env' d v) d = v) ∧
      ∀ b : Nat, vcOpst .go T G all rest (sset (sset env' d (.gh (some ⟨b, 0, none⟩) n n (.ints .u8 xs))) d2 (.gh (some ⟨b, 0, none⟩) n n (.ints .u8 xs))) (bpush m' (.heap [(b, .cells (cc (.ints .u8 xs)).toArray e (n, n + 1))])) (fun _ => K .normal))) :
    Vc P (.region id all.toArray false) env m K := by
  intro w0 B a w hf hd hm
  refine wp_region_lit ?_
  show wpList P all.toArray _ all a w
  conv => arg 4; rw [ha]
  refine vcOps_pre hT hG (ds := []) (fun env m a w hf hd hm h4 => ?_) pre env m a w h hf hd hm
  obtain ⟨xs, hz, hn, hs, h⟩ := h4
  unfold wpList
  rw [if_pos (by simp [Region.wanted])]
  refine .inl ?_
  have e1 : (parts.map fun (i, x) => (i, a.eval x)) = ((evp T env parts.toList).map fun p => (p.1, cv p.2)).toArray := by
    rw [← evp_map hT.gl hf]
    apply Array.ext'
    simp
  have hr := litS_sound (P := P) hT hz w
  rw [← e1] at hr
  refine wp_of_run (w' := w.alloc (.cells (cc (.ints .u8 xs)).toArray e)) (u := .slice (some ⟨w.heap.size, 0, none⟩) n n) (by simp only [execOp, Sem.run_bind, hr, Result.andThen_ok, Sem.run_pure]) ?_
  have hf2 := hf.put (some d) (.gh (some ⟨w.heap.size, 0, none⟩) n n (.ints .u8 xs))
  have ev2 := hf2.ev hT.gl (.tmp d)
  simp only [Go.Proofs.Ytlogpdjcgbifhaa.ev, upd, hs] at ev2
  have hcs : (cc (.ints .u8 xs)).toArray.size = n := by simp only [cc, List.size_toArray, List.length_map, hn]
  have hc := Lib.run_convert_bytes_const (P := P) w t e (cc (.ints .u8 xs)).toArray n n (by have := hT.ty t; rw [ht] at this; exact this.1) (by have := hT.ty e; rw [he] at this; exact this)
  rw [hcs] at hc
  unfold wpList
  rw [if_pos (by simp [Region.wanted])]
  refine .inl ?_
  refine wp_of_run (w' := w.alloc (.cells (cc (.ints .u8 xs)).toArray e (n, n + 1))) (u := .slice (some ⟨w.heap.size, 0, none⟩) n n) (by
    have e2 : (a.put (some d) (cv (.gh (some ⟨w.heap.size, 0, none⟩) n n (.ints .u8 xs)))).eval (.tmp d) = .slice (some ⟨w.heap.size, 0, none⟩) n n := ev2
    simp only [cv] at e2
    simp only [execOp, e2, Sem.run_bind, hc, Result.andThen_ok, Sem.run_pure]) ?_
  have hm' := hm.push (World.grownBy_alloc w (.cells (cc (.ints .u8 xs)).toArray e (n, n + 1)) none) (e := .heap [(w.heap.size, .cells (cc (.ints .u8 xs)).toArray e (n, n + 1))])
    (fun p hp => by rw [List.mem_singleton] at hp; subst hp; exact ⟨by simp only [World.alloc, Array.getElem?_push_size], .inl hm.size⟩)
    (fun b hb => by simp only [Blk.nums, List.map_cons, List.map_nil, List.mem_singleton] at hb; omega)
    (by simp [Blk.nums])
  rw [← bpush_eq] at hm'
  refine vcOps_sound hT hG (ds := []) (fun e m a w h1 h2 h3 h4 => ⟨e, m, h1, h2, h3, h4⟩) rest _ _ _ _ (h w.heap.size) (hf2.put (some d2) (.gh (some ⟨w.heap.size, 0, none⟩) n n (.ints .u8 xs))) (by rw [← hd]; rfl) hm'
theorem lies_str {m : List Blk} {b : Nat} {fr : Nat × Nat} {e : TypeId} {xs : List Int} (h : Blk.heap [(b, .cells (cc (.ints .u8 xs)).toArray e fr)] ∈ m) : LiesH (HM m) (some ⟨b, 0, none⟩) (cc (.ints .u8 xs)) :=
  .inr ⟨b, 0, _, _, _, rfl, ⟨_, h, List.mem_singleton.2 rfl⟩, fun j u hj => by rw [Nat.zero_add, List.getElem?_toArray]; exact hj⟩
/-- What the chapter's third example comes to. -/
theorem kn_shape {H : Nat → Obj → Prop} {lb : Bool} {ba ka : Option Addr} {bn bc kn kc : Nat} {bs : List Int} {rs : List (List SV)} (h : ItR H [.bool lb, .gh ba bn bc (.ints .u8 bs), .gh ka kn kc (.rows 3 rs)] (.mk true [] [.mk true [] []])) :
    lb = true ∧ kn = 1 ∧ 1 ≤ kc ∧ adr ka 1 kc ∧ LiesH H ka (cc (.rows 3 rs)) ∧ rs.length = 1 ∧ (∀ r ∈ rs, r.length = 3) ∧ ∃ r2 r3, rs.getD 0 [] = [.bool true, r2, r3] := by
  cases h with
  | @mk _ _ _ _ _ _ _ _ _ _ h1 h2 h3 h4 h5 h6 h7 h8 h9 h10 h11 h12 h13 h14 =>
    have hk : kn = 1 := by rw [← h6, h11]; rfl
    subst hk
    have e1 := List.getElem?_eq_getElem (show 0 < rs.length by omega)
    have hi := h12 0 _ _ e1 rfl
    refine ⟨rfl, rfl, h7, h8, h10, h6, h9, ?_⟩
    rw [getD_of e1]
    generalize rs[0] = r at *
    cases hi with
    | mk => exact ⟨_, _, rfl⟩
theorem kn_b : leB 1024 = [0, 4] := by decide +kernel
theorem kn_br : ([0, 4] : List Int).reverse = [4, 0] := rfl
theorem kn_e2 : (txR [4, 0]).reverse = [130, 4, 0] := by decide
theorem kn_t1 : ([131, 100, 111, 103] : List Int).take 4 = [131, 100, 111, 103] := rfl
theorem kn_t2 : ([130, 4, 0] : List Int).take 3 = [130, 4, 0] := rfl
theorem kn_s1 : strI ⟨#[131, 100, 111, 103]⟩ = [131, 100, 111, 103] := by decide
theorem kn_s2 : strI ⟨#[130, 4, 0]⟩ = [130, 4, 0] := by decide
theorem kn_l3 : (txR [4, 0]).length = 3 := by decide
set_option maxRecDepth 20000 in
theorem known_vc (w : World) : Calls Try.prog 10 (cvs []).toArray w (fun en w' => ∃ u, en = .returned u ∧ ∃ v m', u = cv v ∧ MemOk w [] m' w' ∧ v = .bool true) := by
  refine Vc.calls T0_ok Try.func10 rfl rfl (args := []) (k := 54) rfl (MemOk.start _) ?_; change Vc _ _ (c8 .undef .undef .undef .undef .undef .undef .undef .undef (c8 .undef .undef .undef .undef .undef .undef .undef .undef (c8 .undef .undef .undef .undef .undef .undef .undef .undef (c8 .undef .undef .undef .undef .undef .undef .undef .undef (c8 .undef .undef .undef .undef .undef .undef .undef .undef (c8 .undef .undef .undef .undef .undef .undef .undef .undef ([.undef, .undef, .undef, .undef, .undef, .undef]))))))) _ _
  ((with_reducible refine Vc.seq fun N hN => ?_); (refine Vc.regiont T0_ok GPK_ok ?_); simp only [v8X, v8A, v8B, v8C, Nat.beq, Nat.ble, Int.reduceToNat, Int.reduceLE, Int.reduceLT, Nat.reduceLT, Nat.reduceLeDiff, Nat.reduceAdd, Nat.reduceMul, Nat.reduceSub, Int.reduceAdd, Int.reduceSub, Int.reduceMul, eq_self, decide_true, beq_self_eq_true, List.length_cons, List.length_nil, Nat.min_eq_left, IntKind.bits, tabs, GPK_set]; (try simp (disch := omega) only [v8W]); (repeat (first | with_reducible intro _ | ((with_reducible refine And.intro ?_ ?_); (focus (exact sd0))) | ((with_reducible refine askT_of ?_ (fun hb => ?_)); (focus (exact sd0)); simp only [hb, v8X, v8A, v8B, v8C, Nat.beq, Nat.ble, Int.reduceToNat, Int.reduceLE, Int.reduceLT, Nat.reduceLT, Nat.reduceLeDiff, Nat.reduceAdd, Nat.reduceMul, Nat.reduceSub, Int.reduceAdd, Int.reduceSub, Int.reduceMul, eq_self, decide_true, beq_self_eq_true, List.length_cons, List.length_nil, Nat.min_eq_left, IntKind.bits, tabs, GPK_set]; (try simp (disch := omega) only [v8W])))); (first | (refine hN _ _ ?_; clear hN N; (try simp (disch := omega) only [v8W])) | skip))
  refine Vc.seq fun N hN => ?_
  refine Vc.regionStr T0_ok GPK_ok (pre := []) rfl rfl rfl ?_
  (simp only [v8X, v8A, v8B, v8C, Nat.beq, Nat.ble, Int.reduceToNat, Int.reduceLE, Int.reduceLT, Nat.reduceLT, Nat.reduceLeDiff, Nat.reduceAdd, Nat.reduceMul, Nat.reduceSub, Int.reduceAdd, Int.reduceSub, Int.reduceMul, eq_self, decide_true, beq_self_eq_true, List.length_cons, List.length_nil, Nat.min_eq_left, IntKind.bits, tabs])
  refine ⟨_, rfl, rfl, fun _ => trivial, fun b => ?_⟩
  (simp only [v8X, v8A, v8B, v8C, Nat.beq, Nat.ble, Int.reduceToNat, Int.reduceLE, Int.reduceLT, Nat.reduceLT, Nat.reduceLeDiff, Nat.reduceAdd, Nat.reduceMul, Nat.reduceSub, Int.reduceAdd, Int.reduceSub, Int.reduceMul, eq_self, decide_true, beq_self_eq_true, List.length_cons, List.length_nil, Nat.min_eq_left, IntKind.bits, tabs, GPK_set, List.drop_zero, List.take_succ_cons, List.take_zero, kn_e1, kn_l1]; (try simp (disch := omega) only [v8W]); (repeat (first | with_reducible intro _ | ((with_reducible refine And.intro ?_ ?_); (focus (first | ((repeat' with_reducible apply And.intro) <;> first | exact sideQ | (exact lies_str List.mem_cons_self) | (intro y hy; simp only [List.mem_cons, List.not_mem_nil, or_false] at hy; omega)) | exact sd0))) | ((with_reducible refine askT_of ?_ (fun hb => ?_)); (focus (first | ((repeat' with_reducible apply And.intro) <;> first | exact sideQ | (exact lies_str List.mem_cons_self) | (intro y hy; simp only [List.mem_cons, List.not_mem_nil, or_false] at hy; omega)) | exact sd0)); simp only [hb, v8X, v8A, v8B, v8C, Nat.beq, Nat.ble, Int.reduceToNat, Int.reduceLE, Int.reduceLT, Nat.reduceLT, Nat.reduceLeDiff, Nat.reduceAdd, Nat.reduceMul, Nat.reduceSub, Int.reduceAdd, Int.reduceSub, Int.reduceMul, eq_self, decide_true, beq_self_eq_true, List.length_cons, List.length_nil, Nat.min_eq_left, IntKind.bits, tabs, GPK_set, List.drop_zero, List.take_succ_cons, List.take_zero, kn_e1, kn_l1]; (try simp (disch := omega) only [v8W])))); (first | (refine hN _ _ ?_; clear hN N; (try simp (disch := omega) only [v8W])) | skip))
  ((with_reducible refine Vc.seq fun N hN => ?_); (refine Vc.regiont T0_ok GPK_ok ?_); simp only [v8X, v8A, v8B, v8C, Nat.beq, Nat.ble, Int.reduceToNat, Int.reduceLE, Int.reduceLT, Nat.reduceLT, Nat.reduceLeDiff, Nat.reduceAdd, Nat.reduceMul, Nat.reduceSub, Int.reduceAdd, Int.reduceSub, Int.reduceMul, eq_self, decide_true, beq_self_eq_true, List.length_cons, List.length_nil, Nat.min_eq_left, IntKind.bits, tabs, GPK_set, List.drop_zero, List.take_succ_cons, List.take_zero, kn_d1]; (try simp (disch := omega) only [v8W]); (repeat (first | with_reducible intro _ | ((with_reducible refine And.intro ?_ ?_); (focus (first | ((repeat' with_reducible apply And.intro) <;> first | exact sideQ | (exact lies_str List.mem_cons_self) | (intro y hy; simp only [List.mem_cons, List.not_mem_nil, or_false] at hy; omega)) | exact sd0))) | ((with_reducible refine askT_of ?_ (fun hb => ?_)); (focus (first | ((repeat' with_reducible apply And.intro) <;> first | exact sideQ | (exact lies_str List.mem_cons_self) | (intro y hy; simp only [List.mem_cons, List.not_mem_nil, or_false] at hy; omega)) | exact sd0)); simp only [hb, v8X, v8A, v8B, v8C, Nat.beq, Nat.ble, Int.reduceToNat, Int.reduceLE, Int.reduceLT, Nat.reduceLT, Nat.reduceLeDiff, Nat.reduceAdd, Nat.reduceMul, Nat.reduceSub, Int.reduceAdd, Int.reduceSub, Int.reduceMul, eq_self, decide_true, beq_self_eq_true, List.length_cons, List.length_nil, Nat.min_eq_left, IntKind.bits, tabs, GPK_set, List.drop_zero, List.take_succ_cons, List.take_zero, kn_d1]; (try simp (disch := omega) only [v8W])))); (first | (refine hN _ _ ?_; clear hN N; (try simp (disch := omega) only [v8W])) | skip))
  ((with_reducible refine Vc.seq fun N hN => ?_); (refine Vc.regiont T0_ok GPK_ok ?_); simp only [v8X, v8A, v8B, v8C, Nat.beq, Nat.ble, Int.reduceToNat, Int.reduceLE, Int.reduceLT, Nat.reduceLT, Nat.reduceLeDiff, Nat.reduceAdd, Nat.reduceMul, Nat.reduceSub, Int.reduceAdd, Int.reduceSub, Int.reduceMul, eq_self, decide_true, beq_self_eq_true, List.length_cons, List.length_nil, Nat.min_eq_left, IntKind.bits, tabs, GPK_set, List.drop_zero, List.take_succ_cons, List.take_zero, kn_d2]; (try simp (disch := omega) only [v8W]); (repeat (first | with_reducible intro _ | ((with_reducible refine And.intro ?_ ?_); (focus (first | ((repeat' with_reducible apply And.intro) <;> first | exact sideQ | (exact lies_str List.mem_cons_self) | (intro y hy; simp only [List.mem_cons, List.not_mem_nil, or_false] at hy; omega)) | exact sd0))) | ((with_reducible refine askT_of ?_ (fun hb => ?_)); (focus (first | ((repeat' with_reducible apply And.intro) <;> first | exact sideQ | (exact lies_str List.mem_cons_self) | (intro y hy; simp only [List.mem_cons, List.not_mem_nil, or_false] at hy; omega)) | exact sd0)); simp only [hb, v8X, v8A, v8B, v8C, Nat.beq, Nat.ble, Int.reduceToNat, Int.reduceLE, Int.reduceLT, Nat.reduceLT, Nat.reduceLeDiff, Nat.reduceAdd, Nat.reduceMul, Nat.reduceSub, Int.reduceAdd, Int.reduceSub, Int.reduceMul, eq_self, decide_true, beq_self_eq_true, List.length_cons, List.length_nil, Nat.min_eq_left, IntKind.bits, tabs, GPK_set, List.drop_zero, List.take_succ_cons, List.take_zero, kn_d2]; (try simp (disch := omega) only [v8W])))); (first | (refine hN _ _ ?_; clear hN N; (try simp (disch := omega) only [v8W])) | skip))
  rename_i v1 b1 b2 b3 x hq b4
  obtain ⟨lb, ba, bn, bc, bs, ka, kn, kc, rs, hl⟩ := x
  simp only at hq ⊢
  obtain ⟨rfl, rfl, q3, q4, q5, q6, q8, r2, r3, q7⟩ := kn_shape hq
  have hL : ∀ m, Blk.heap hl ∈ m → LiesH (HM m) ka (cc (.rows 3 rs)) := fun m hin => q5.mono (fun b o h => ⟨_, hin, h⟩)
  ((repeat (first | (with_reducible refine Vc.seq fun N hN => ?_) | (with_reducible refine Vc.block ?_) | ((first | with_reducible refine Vc.skip ?_ | with_reducible refine Vc.exit ?_); dsimp only [thenK, blockK, Nat.beq]; (first | (refine hN _ _ ?_; clear hN N) | skip)) | (with_reducible intro _) | ((with_reducible refine And.intro ?_ ?_); (focus (first | ((repeat' with_reducible apply And.intro) <;> first | exact sideQ | (exact hL _ (by simp)) | (intro y hy; simp only [List.mem_cons, List.not_mem_nil, or_false] at hy; omega)) | exact sd0))) | ((first | ((with_reducible refine askT_of ?_ (fun hb => ?_)); (focus (first | ((repeat' with_reducible apply And.intro) <;> first | exact sideQ | (exact hL _ (by simp)) | (intro y hy; simp only [List.mem_cons, List.not_mem_nil, or_false] at hy; omega)) | exact sd0)); (try simp only [hb])) | ((with_reducible refine Vc.fin ?_); dsimp only [thenK, blockK, retK, resS, resOne, resAll]) | ((with_reducible refine Vc.hold ?_); first | refine Vc.regiont T0_ok GPK_ok ?_)); (try simp only [v8X, v8A, v8B, v8C, Nat.beq, Nat.ble, Int.reduceToNat, Int.reduceLE, Int.reduceLT, Nat.reduceLT, Nat.reduceLeDiff, Nat.reduceAdd, Nat.reduceMul, Nat.reduceSub, Int.reduceAdd, Int.reduceSub, Int.reduceMul, eq_self, decide_true, beq_self_eq_true, List.length_cons, List.length_nil, Nat.min_eq_left, IntKind.bits, tabs, GPK_set, List.drop_zero, List.take_succ_cons, List.take_zero, kn_s1, kn_s2, kn_b, kn_br, kn_e2, kn_l3, q7, conEs.eq_def, conN.eq_def]); (try simp (disch := omega) only [v8W])) | ((with_reducible refine hN _ _ ?_); clear hN N; (try simp (disch := omega) only [v8W])))); (try ((with_reducible refine Fin.of ?_); (try with_reducible exact True.intro))))
  exact ⟨by simp, trivial⟩
def g_xlKnown (args : List SV) (_m : List Blk) : CR := match args with | [] => .pure (True) (.bool true) | _ => .none
theorem g_xlKnown_ok (w0 : World) (B : List Nat) (args : List SV) (m : List Blk) : CROk Try.prog w0 B 10 args m (g_xlKnown args m) := by
  unfold g_xlKnown; split
  · exact fun h w _ => calls_pure Try.func10 rfl rfl (known_vc w)
  · exact trivial
/-! ### Own copies; are bytes alike -/
theorem lent_vc (a : Option Addr) (n c : Nat) (xs : List Int) (hl : xs.length = n) (hn : n ≤ c) (ha : adr a n c) (hb : n ≤ 1000000) (w : World) (hL : LiesH (H0 w) a (cc (.ints .u8 xs))) :
    Calls Try.prog 17 (cvs [.gh a n c (.ints .u8 xs)]).toArray w (fun en w' => ∃ u, en = .returned u ∧ ∃ v' m', u = cv v' ∧ MemOk w [] m' w' ∧ ∃ i s, v' = .own i s n ∧ bget m' i = .own s n 5 1 (.ints .u8 xs)) := by
  have hLx : ∀ m, allOld w ∈ m → LiesH (HM m) a (cc (.ints .u8 xs)) := fun m hin => hL.mono (H0.hm hin)
  have u1 : xs.take n = xs := List.take_of_length_le (by omega)
  refine Vc.calls T0_ok Try.func17 rfl rfl (args := [.gh a n c (.ints .u8 xs)]) (k := 6) rfl (old_start w) ?_; change Vc _ _ ([.gh a n c (.ints .u8 xs), .undef, .undef, .undef, .undef, .undef, .undef]) _ _
  ((repeat (first | (with_reducible refine Vc.seq fun N hN => ?_) | (with_reducible refine Vc.block ?_) | ((first | with_reducible refine Vc.skip ?_ | with_reducible refine Vc.exit ?_); dsimp only [thenK, blockK, Nat.beq]; (first | (refine hN _ _ ?_; clear hN N) | skip)) | (with_reducible intro _) | ((with_reducible refine And.intro ?_ ?_); (focus (first | ((repeat' with_reducible apply And.intro) <;> first | exact sideQ | (exact hLx _ List.mem_cons_self) | (simp only [List.length_nil]; omega)) | exact sd0))) | ((first | ((with_reducible refine askT_of ?_ (fun hb => ?_)); (focus (first | ((repeat' with_reducible apply And.intro) <;> first | exact sideQ | (exact hLx _ List.mem_cons_self) | (simp only [List.length_nil]; omega)) | exact sd0)); (try simp only [hb])) | ((with_reducible refine Vc.fin ?_); dsimp only [thenK, blockK, retK, resS, resOne, resAll]) | ((with_reducible refine Vc.hold ?_); first | refine Vc.regiont T0_ok GPK_ok ?_)); (try simp only [v8X, v8A, v8B, v8C, Nat.beq, Nat.ble, Int.reduceToNat, Int.reduceLE, Int.reduceLT, Nat.reduceLT, Nat.reduceLeDiff, Nat.reduceAdd, Nat.reduceMul, Nat.reduceSub, Int.reduceAdd, Int.reduceSub, Int.reduceMul, eq_self, decide_true, beq_self_eq_true, List.length_cons, List.length_nil, Nat.min_eq_left, IntKind.bits, tabs, GPK_set, u1, List.drop_zero, List.nil_append, Nat.zero_add]); (try simp (disch := omega) only [v8W])) | ((with_reducible refine hN _ _ ?_); clear hN N; (try simp (disch := omega) only [v8W])))); (try ((with_reducible refine Fin.of ?_); (try with_reducible exact True.intro))))
  exact ⟨trivial, _, _, rfl, rfl⟩
def g_lent (args : List SV) (m : List Blk) : CR :=
  match args with
  | [s] => match srcC s m with
    | some (q, k, .ints .u8 xs) => .own (q ∧ k ≤ 1000000) 5 1 k (.ints .u8 xs) (fun v => v)
    | _ => .none
  | _ => .none
theorem g_lent_ok (w0 : World) (B : List Nat) (args : List SV) (m : List Blk) : CROk Try.prog w0 B 17 args m (g_lent args m) := by
  unfold g_lent
  split
  · rename_i s
    split
    · rename_i q kk ys hs
      intro ⟨hq, h5⟩ w hm
      obtain ⟨h1, a, cp, h2, h4, h6, h7⟩ := src_ro hs hq hm
      have hl : ys.length = kk := by simpa [cc, conEs] using h1
      have e : cvs [s] = cvs [.gh a kk cp (.ints .u8 ys)] := by simp only [cvs, cv]; rw [h2, cv_sl0]
      rw [e]
      exact own_new Try.func17 rfl rfl hm (lent_vc a kk cp ys hl h4 h7 h5 w (lies_of_ro h6))
    · exact trivial
  · exact trivial
theorem sby_vc (xs ys : List Int) (a1 a2 : Option Addr) (n1 n2 c1 c2 : Nat) (l1 : xs.length = n1) (l2 : ys.length = n2) (hx : allB xs) (hy : allB ys) (h1 : n1 ≤ c1) (h2 : n2 ≤ c2) (q1 : adr a1 n1 c1) (q2 : adr a2 n2 c2)
    (w : World) (hm : MemOk w [] [.ro a1 (.ints .u8 xs), .ro a2 (.ints .u8 ys)] w) :
    Calls Try.prog 11 (cvs [.sl 0 a1 0 0 1 n1 c1, .sl 1 a2 0 0 1 n2 c2]).toArray w (fun en w' => ∃ u, en = .returned u ∧ ∃ v m', u = cv v ∧ MemOk w [] m' w' ∧ v = .bool (decide (xs = ys))) := by
  have t1 : (xs.drop 0).take n1 = xs := by rw [List.drop_zero, List.take_of_length_le (by omega)]
  have t2 : (ys.drop 0).take n2 = ys := by rw [List.drop_zero, List.take_of_length_le (by omega)]
  refine Vc.calls T0_ok Try.func11 rfl rfl (args := [.sl 0 a1 0 0 1 n1 c1, .sl 1 a2 0 0 1 n2 c2]) (k := 8) rfl hm ?_; change Vc _ _ (c8 (.sl 0 a1 0 0 1 n1 c1) (.sl 1 a2 0 0 1 n2 c2) .undef .undef .undef .undef .undef .undef ([.undef, .undef])) _ _
  ((repeat (first | (with_reducible refine Vc.seq fun N hN => ?_) | (with_reducible refine Vc.block ?_) | ((first | with_reducible refine Vc.skip ?_ | with_reducible refine Vc.exit ?_); dsimp only [thenK, blockK, Nat.beq]; (first | (refine hN _ _ ?_; clear hN N) | skip)) | (with_reducible intro _) | ((with_reducible refine And.intro ?_ ?_); (focus (first | ((repeat' with_reducible apply And.intro) <;> first | with_reducible exact True.intro | with_reducible assumption | (rw [t1]; assumption) | (rw [t2]; assumption) | omega) | exact sd0))) | ((first | ((with_reducible refine askT_of ?_ (fun hb => ?_)); (focus (first | ((repeat' with_reducible apply And.intro) <;> first | with_reducible exact True.intro | with_reducible assumption | (rw [t1]; assumption) | (rw [t2]; assumption) | omega) | exact sd0)); (try simp only [hb])) | ((with_reducible refine Vc.fin ?_); dsimp only [thenK, blockK, retK, resS, resOne, resAll]) | ((with_reducible refine Vc.hold ?_); first | refine Vc.regiont T0_ok GPK_ok ?_)); (try simp only [v8X, v8A, v8B, v8C, Nat.beq, Nat.ble, Int.reduceToNat, Int.reduceLE, Int.reduceLT, Nat.reduceLT, Nat.reduceLeDiff, Nat.reduceAdd, Nat.reduceMul, Nat.reduceSub, Int.reduceAdd, Int.reduceSub, Int.reduceMul, eq_self, decide_true, beq_self_eq_true, List.length_cons, List.length_nil, Nat.min_eq_left, IntKind.bits, tabs, GPK_set]); (try simp (disch := omega) only [v8W])) | ((with_reducible refine hN _ _ ?_); clear hN N; (try simp (disch := omega) only [v8W])))); (try ((with_reducible refine Fin.of ?_); (try with_reducible exact True.intro))))
  rw [t1, t2]
  exact ⟨trivial, rfl⟩
def g_sby (args : List SV) (m : List Blk) : CR :=
  match args with
  | [x, y] => match srcC x m, srcC y m with
    | some (q, _, .ints .u8 xs), some (q', _, .ints .u8 ys) => .pure (q ∧ q' ∧ allB xs ∧ allB ys) (.bool (decide (xs = ys)))
    | _, _ => .none
  | _ => .none
theorem g_sby_ok (w0 : World) (B : List Nat) (args : List SV) (m : List Blk) : CROk Try.prog w0 B 11 args m (g_sby args m) := by
  unfold g_sby
  split
  · rename_i x y
    split
    · rename_i q k xs q' k' ys hs hs'
      intro ⟨hq, hq', hx, hy⟩ w hm
      obtain ⟨l1, a1, c1, e1, b1, m1, d1⟩ := src_ro hs hq hm
      obtain ⟨l2, a2, c2, e2, b2, m2, d2⟩ := src_ro hs' hq' hm
      have e : cvs [x, y] = cvs [.sl 0 a1 0 0 1 k c1, .sl 1 a2 0 0 1 k' c2] := by simp only [cvs]; rw [e1, e2]; rfl
      rw [e]
      exact calls_pure Try.func11 rfl rfl (sby_vc xs ys a1 a2 k k' c1 c2 (by simpa [cc, conEs] using l1) (by simpa [cc, conEs] using l2) hx hy b1 b2 d1 d2 w (ro_add m1 (m2.each _ List.mem_cons_self)))
    · exact trivial
  · exact trivial
noncomputable def GPT : Ctr := fun f args m => match f with
  | 12 => g_EncT args m
  | 18 => g_Dec args m
  | 15 => g_Num args m
  | 14 => g_same args m
  | 10 => g_xlKnown args m
  | 17 => g_lent args m
  | 11 => g_sby args m
  | _ => .none
theorem GPT_ok : GOk Try.prog GPT := by
  intro w0 B f args m; unfold GPT; split
  · exact g_EncT_ok _ _ _ _
  · exact g_Dec_ok _ _ _ _
  · exact g_Num_ok _ _ _ _
  · exact g_same_ok _ _ _ _
  · exact g_xlKnown_ok _ _ _ _
  · exact g_lent_ok _ _ _ _
  · exact g_sby_ok _ _ _ _
  · exact trivial
theorem GPT_EncT : GPT 12 = g_EncT := by funext args m; rfl
theorem GPT_Dec : GPT 18 = g_Dec := by funext args m; rfl
theorem GPT_Num : GPT 15 = g_Num := by funext args m; rfl
theorem GPT_same : GPT 14 = g_same := by funext args m; rfl
theorem GPT_xlKnown : GPT 10 = g_xlKnown := by funext args m; rfl
theorem GPT_lent : GPT 17 = g_lent := by funext args m; rfl
theorem GPT_sby : GPT 11 = g_sby := by funext args m; rfl
def GPT_set := And.intro (And.intro (And.intro (@GPT_EncT) (And.intro (@g_EncT.eq_def) (@GPT_Dec))) (And.intro (And.intro (@g_Dec.eq_def) (@GPT_Num)) (And.intro (@g_Num.eq_def) (@GPT_same)))) (And.intro (And.intro (@g_same.eq_def) (And.intro (@GPT_xlKnown) (@g_xlKnown.eq_def))) (And.intro (And.intro (@GPT_lent) (@g_lent.eq_def)) (And.intro (@GPT_sby) (@g_sby.eq_def))))

end Go.Proofs.Ytlogpdjcgbifhaa
