/-
  slices.AppendSeq at places, over maps.Keys' iterator, walked. No condition.
-/
import Derived.Test.YtdanlclhnehieaaV2
namespace Go.Proofs.Ytdanlclhnehieaa
set_option linter.unusedSimpArgs false
set_option linter.unusedVariables false
open Go.RowKit Go.Shelf
theorem nodup_le {α : Type} [DecidableEq α] : ∀ {xs l : List α}, xs.Nodup → (∀ x ∈ xs, x ∈ l) → xs.length ≤ l.length
  | [], _, _, _ => Nat.zero_le _
  | x :: xs, l, hn, hs => by
    have hx := hs x List.mem_cons_self
    rw [List.nodup_cons] at hn
    have h1 := nodup_le (l := l.erase x) hn.2 (fun y hy => (List.mem_erase_of_ne (fun e => hn.1 (by rw [← e]; exact hy))).2 (hs y (List.mem_cons_of_mem _ hy)))
    have h2 := List.length_erase_of_mem hx
    have h3 := List.length_pos_of_mem hx
    simp only [List.length_cons]; omega
instance : DecidableEq PlT := fun x y => decidable_of_iff (x.1 = y.1) ⟨fun h => Subtype.ext h, fun h => congrArg Subtype.val h⟩
theorem pk_stops (n : Nat) (Bm b : Nat) (f : List Int → Option SV) (LL : List PlT) (hLL : ∀ x : PlT, (f x.1).isSome = true → x ∈ LL) (w : World) (hBm : Boxed w Bm 40 (.map (some b))) (hM : MapIs w b ck_38 (fun c => (f c).map cv)) :
    SeqStopsK Fence.wide n Try.prog 23 #[.pointer (some ⟨Bm, 0, none⟩)] (fun x : PlT => #[cv (.agg (plL x.1))]) KeepsWalks (fun ss => ss.Nodup ∧ ∀ x : PlT, x ∈ ss ↔ (f x.1).isSome = true) (fun _ => True) LL.length w := fun l J Jx W hW hJ _ hY h0 => by
  refine pk1_in n l Bm b f LL.length (fun pre x h1 h2 => ?_) J Jx hY W hJ ((hW.block Bm hBm.lt).trans hBm) ?_ h0
  · have := nodup_le h1 (fun y hy => hLL y (h2 y hy))
    simp only [List.length_append, List.length_singleton] at this
    omega
  · have hb := map_lt hM
    obtain ⟨es, clock, h1, h2⟩ := hM
    exact ⟨es, clock, (hW.block b hb).trans h1, h2⟩
theorem nums_cells {w : World} {B : List Nat} {W : World} {e : Blk} (ho : ∃ (b : Nat) (t : TypeId) (con : Con) , e = .blk b t con ∨ ∃ (v : Value) (n es : Nat), e = .own v n t es con) (he : e.ok w B W) {b : Nat} (hb : b ∈ e.nums) : ∃ arr t fr, W.heap[b]? = some (.cells arr t fr) := by
  obtain ⟨b', t, con, rfl | ⟨v, n, es, rfl⟩⟩ := ho
  · simp [Blk.nums] at hb; subst hb; exact ⟨_, _, _, he.1⟩
  · simp [Blk.nums] at hb
    obtain ⟨⟨_, h2⟩, _⟩ := he
    rcases h2 with ⟨h2, _⟩ | ⟨g, cap, cur, h2, _, h3, _⟩
    · rw [h2] at hb; simp [Value.ownBlock] at hb
    · rw [h2] at hb; simp [Value.ownBlock] at hb; subst hb; exact ⟨_, _, _, h3⟩
def bxM (Bs : Nat) (v : Value) (pre : List PlT) : List Blk := [.blk Bs 22 (.cells [.own 1 v pre.length]), .own v pre.length 38 25 (.rows 25 (pre.map fun x => plL x.1))]
theorem bxM_cells {w W : World} {B : List Nat} {Bs : Nat} {v : Value} {pre : List PlT} (h : MemOk w B (bxM Bs v pre) W) {b : Nat} (hb : b ∈ (bxM Bs v pre).flatMap Blk.nums) : ∃ arr t fr, W.heap[b]? = some (.cells arr t fr) := by
  obtain ⟨e, he, hbe⟩ := List.mem_flatMap.1 hb
  have ho := h.each e he
  unfold bxM at he
  simp only [List.mem_cons, List.not_mem_nil, or_false] at he
  rcases he with rfl | rfl
  · exact nums_cells ⟨_, _, _, .inl rfl⟩ ho hbe
  · exact nums_cells ⟨0, _, _, .inr ⟨_, _, _, rfl⟩⟩ ho hbe
theorem bxM_box {w W : World} {B : List Nat} {Bs : Nat} {v : Value} {pre : List PlT} (h : MemOk w B (bxM Bs v pre) W) : Boxed W Bs 22 v := by
  have h1 := (h.each (.blk Bs 22 (.cells [.own 1 v pre.length])) (by simp [bxM])).1
  have h2 := own_slV (h.each (.own v pre.length 38 25 (.rows 25 (pre.map fun x => plL x.1))) (by simp [bxM])).1
  simp only [cc, cvs, cv] at h1
  rw [h2] at h1
  exact h1
set_option maxRecDepth 100000 in
set_option maxHeartbeats 4000000 in
theorem apSeq_vc (Bm b : Nat) (f : List Int → Option SV) (LL : List PlT) (hLL : ∀ x : PlT, (f x.1).isSome = true → x ∈ LL) (hlen : LL.length ≤ 1000000) (w : World) (hBm : Boxed w Bm 40 (.map (some b))) (hM : MapIs w b ck_38 (fun c => (f c).map cv)) :
    Calls Try.prog 30 (cvs [.nilsl, .fn (.func 23) [] [.raw (.pointer (some ⟨Bm, 0, none⟩))]]).toArray w (fun en w' => ∃ u, en = .returned u ∧ ∃ v' m', u = cv v' ∧ MemOk w [] m' w' ∧ ∃ (s : Value) (ss : List PlT), (ss.Nodup ∧ ∀ x : PlT, x ∈ ss ↔ (f x.1).isSome = true) ∧ v' = .own 1 s ss.length ∧ bget m' 1 = .own s ss.length 38 25 (.rows 25 (ss.map fun x => plL x.1))) := by
  refine (callsIn_wide (n := 6)).1 ?_
  have hro : Fence.wide.round = none := rfl
  refine callsIn_of_wp_marks Try.func30 rfl trivial ?_ hro
  simp only [Try.ntmps30, cvs, cv, List.size_toArray, List.length_cons, List.length_nil, Nat.reduceAdd, Nat.reduceSub, Array.replicate_succ, Array.replicate_zero, List.push_toArray, List.append_toArray, List.nil_append, List.cons_append]
  obtain ⟨a0, ha0⟩ : ∃ a0 : Act, a0 = { tmps := (cvs [.nilsl, .fn (.func 23) [] [.raw (.pointer (some ⟨Bm, 0, none⟩))], .undef, .undef, .undef, .undef, .undef, .undef, .undef, .undef, .undef, .undef, .undef]).toArray, defers := [] } := ⟨_, rfl⟩
  have hf0 : Fr [.nilsl, .fn (.func 23) [] [.raw (.pointer (some ⟨Bm, 0, none⟩))], .undef, .undef, .undef, .undef, .undef, .undef, .undef, .undef, .undef, .undef, .undef] a0 := by rw [ha0]; rfl
  have hd0 : a0.defers = [] := by rw [ha0]
  simp only [cvs, cv] at ha0
  rw [← ha0]
  clear ha0
  refine wpIn_seq (region_inN wd_wide T0_ok G1_ok hf0 hd0 (MemOk.start w) rfl (fun M hM2 => ?_))
  (simp only [v8X, v8A, v8B, v8C, Nat.beq, Nat.ble, Int.reduceToNat, Int.reduceLE, Int.reduceLT, Nat.reduceLT, Nat.reduceLeDiff, Nat.reduceAdd, Nat.reduceMul, Nat.reduceSub, Int.reduceAdd, Int.reduceSub, Int.reduceMul, eq_self, decide_true, beq_self_eq_true, List.length_cons, List.length_nil, Nat.min_eq_left, IntKind.bits, tabs, G1_set]; (try simp (disch := omega) only [v8W]); (repeat (first | with_reducible intro _ | ((with_reducible refine And.intro ?_ ?_); (focus (first | ((repeat' with_reducible apply And.intro) <;> first | with_reducible exact True.intro | with_reducible rfl) | exact sd0))) | ((with_reducible refine askT_of ?_ (fun hb => ?_)); (focus (first | ((repeat' with_reducible apply And.intro) <;> first | with_reducible exact True.intro | with_reducible rfl) | exact sd0)); simp only [hb, v8X, v8A, v8B, v8C, Nat.beq, Nat.ble, Int.reduceToNat, Int.reduceLE, Int.reduceLT, Nat.reduceLT, Nat.reduceLeDiff, Nat.reduceAdd, Nat.reduceMul, Nat.reduceSub, Int.reduceAdd, Int.reduceSub, Int.reduceMul, eq_self, decide_true, beq_self_eq_true, List.length_cons, List.length_nil, Nat.min_eq_left, IntKind.bits, tabs, G1_set]; (try simp (disch := omega) only [v8W])))); (first | (refine hN _ _ ?_; clear hN N; (try simp (disch := omega) only [v8W])) | skip))
  rename_i Bs
  refine hM2 _ _ (fun a1 w1 hf1 hd1 hm1 => ?_); clear hM2 M hf0 hd0 a0
  refine wpIn_seq (wpIn_seq (region_inN wd_wide T0_ok G1_ok hf1 hd1 hm1 rfl (fun M hM2 => ?_)))
  (simp only [v8X, v8A, v8B, v8C, Nat.beq, Nat.ble, Int.reduceToNat, Int.reduceLE, Int.reduceLT, Nat.reduceLT, Nat.reduceLeDiff, Nat.reduceAdd, Nat.reduceMul, Nat.reduceSub, Int.reduceAdd, Int.reduceSub, Int.reduceMul, eq_self, decide_true, beq_self_eq_true, List.length_cons, List.length_nil, Nat.min_eq_left, IntKind.bits, tabs, G1_set]; (try simp (disch := omega) only [v8W]); (repeat (first | with_reducible intro _ | ((with_reducible refine And.intro ?_ ?_); (focus (first | ((repeat' with_reducible apply And.intro) <;> first | with_reducible exact True.intro | with_reducible rfl) | exact sd0))) | ((with_reducible refine askT_of ?_ (fun hb => ?_)); (focus (first | ((repeat' with_reducible apply And.intro) <;> first | with_reducible exact True.intro | with_reducible rfl) | exact sd0)); simp only [hb, v8X, v8A, v8B, v8C, Nat.beq, Nat.ble, Int.reduceToNat, Int.reduceLE, Int.reduceLT, Nat.reduceLT, Nat.reduceLeDiff, Nat.reduceAdd, Nat.reduceMul, Nat.reduceSub, Int.reduceAdd, Int.reduceSub, Int.reduceMul, eq_self, decide_true, beq_self_eq_true, List.length_cons, List.length_nil, Nat.min_eq_left, IntKind.bits, tabs, G1_set]; (try simp (disch := omega) only [v8W])))); (first | (refine hN _ _ ?_; clear hN N; (try simp (disch := omega) only [v8W])) | skip))
  refine hM2 _ _ (fun a2 w2 hf2 hd2 hm2 => ?_); clear hM2 M hf1 hd1 hm1 a1 w1
  have hg2 := hm2.grown
  have hsz2 := hg2.size
  have hbs := (hm2.each _ List.mem_cons_self).2.resolve_right List.not_mem_nil
  have hBm2 : Boxed w2 Bm 40 (.map (some b)) := hBm.kept hg2 (by simp)
  have hM3 : MapIs w2 b ck_38 (fun c => (f c).map cv) := map_grown hg2 hM (fun k e => by cases e)
  have hI0 : MemOk w [] (bxM Bs (.slice none 0 0) []) w2 := by
    have := hm2.push (grown_refl w2) (e := .own (.slice none 0 0) 0 38 25 (.rows 25 [])) ⟨⟨by simp [cc], .inl ⟨rfl, rfl⟩⟩, fun b hb => by simp [Value.ownBlock] at hb⟩ (fun b hb => by simp [Blk.nums, Value.ownBlock] at hb)
    exact ⟨this.os, this.tape, this.output, this.size, this.old, fun e he => by
      simp only [bxM, List.mem_cons, List.not_mem_nil, or_false] at he
      rcases he with rfl | rfl
      · exact this.each (.blk Bs 22 (.cells [.nilsl])) (by simp)
      · exact this.each (.own (.slice none 0 0) 0 38 25 (.rows 25 [])) (by simp), this.nodup⟩
  have hBsl : Bs < w2.heap.size := (bxM_box hI0).lt
  refine wpIn_block (wpIn_rangeFunc_ownH hro (by omega) (gf := 23) (lb := #[.pointer (some ⟨Bm, 0, none⟩)]) ((hf2.ev T0_ok.gl (.tmp 6)).trans rfl) trivial (enters_of Try.func23 (by kernel_rfl) rfl)
    (pk_stops 5 Bm b f LL hLL w2 hBm2 hM3) KeepsWalks.trans (fun W l o o' _ h1 _ h3 => KeepsWalks.putObj o' h1 h3) (Below.refl _ _) (fun _ => rfl)
    (fun pre W => ∃ v, MemOk w [] (bxM Bs v pre) W) (fun _ _ _ => False)
    ?hI (fun _ _ _ _ _ hs _ _ => hs) ⟨_, hI0⟩
    (fun x a W => ∃ Bx v0, W.heap[Bx]? = some (.cells (cvs (plL x.1)).toArray 38 (0, 0)) ∧ Bx ≠ Bs ∧ Boxed W Bs 22 v0 ∧ v0.ownBlock ≠ some Bx ∧ a.defers = [] ∧
      Fr [.nilsl, .fn (.func 23) [] [.raw (.pointer (some ⟨Bm, 0, none⟩))], .ptr 0 Bs 0 0 0 0, .undef, .nilsl, .ptr 2 Bx 0 0 0 0, .fn (.func 23) [] [.raw (.pointer (some ⟨Bm, 0, none⟩))], .agg (plL x.1), .undef, .undef, .undef, .undef, .undef] a)
    ?hAx ?assign ?body ?done ?stop)
  case hI =>
    rintro s W W' row ⟨v, hv⟩ hg hr
    refine ⟨v, memok_grow hv hg (fun r e => ⟨by have := (hr r e).1; omega, fun hb => ?_⟩)⟩
    obtain ⟨arr, t, fr, hc⟩ := bxM_cells hv hb
    obtain ⟨_, o, ho, hoc⟩ := hr r e
    rw [ho] at hc; cases hc; cases hoc
  case hAx =>
    rintro x a2 _ W W' row ⟨Bx, v0, b1, b2, b3, b4, b5, b6⟩ hg hr
    have hne : ∀ (k : Nat) (o : Obj), W.heap[k]? = some o → o.isCells = true → W'.heap[k]? = W.heap[k]? := fun k o hk hc => hg.block k (Array.getElem?_eq_some_iff.1 hk).1 (fun e => by
      obtain ⟨_, o2, ho2, hc2⟩ := hr k e.symm
      rw [ho2] at hk; cases hk; rw [hc] at hc2; cases hc2)
    exact ⟨Bx, v0, (hne _ _ b1 rfl).trans b1, b2, (hne _ _ b3 rfl).trans b3, b4, b5, b6⟩
  case assign =>
    rintro l pre x W K ⟨v, hv⟩ hK
    obtain ⟨x0, x1, x2, x3, x4, x5, x6, x7, x8, x9, x10, x11, x12, x13, x14, x15, x16, x17, x18, x19, bx, k0, k1, k2, k3, hxe, p1, p2, p3⟩ := okP_forms x.2
    have hcl : plL x.1 = [.int .u8 x0, .int .u8 x1, .int .u8 x2, .int .u8 x3, .int .u8 x4, .int .u8 x5, .int .u8 x6, .int .u8 x7, .int .u8 x8, .int .u8 x9, .int .u8 x10, .int .u8 x11, .int .u8 x12, .int .u8 x13, .int .u8 x14, .int .u8 x15, .int .u8 x16, .int .u8 x17, .int .u8 x18, .int .u8 x19, .bool (decide (bx = 1)), .int .u64 k0, .int .u64 k1, .int .u64 k2, .int .u64 k3] := by rw [hxe]; rfl
    have key : ∀ aa : Act, Fr [.nilsl, .fn (.func 23) [] [.raw (.pointer (some ⟨Bm, 0, none⟩))], .ptr 0 Bs 0 0 0 0, .undef, .nilsl, .undef, .fn (.func 23) [] [.raw (.pointer (some ⟨Bm, 0, none⟩))], .agg [.int .u8 x0, .int .u8 x1, .int .u8 x2, .int .u8 x3, .int .u8 x4, .int .u8 x5, .int .u8 x6, .int .u8 x7, .int .u8 x8, .int .u8 x9, .int .u8 x10, .int .u8 x11, .int .u8 x12, .int .u8 x13, .int .u8 x14, .int .u8 x15, .int .u8 x16, .int .u8 x17, .int .u8 x18, .int .u8 x19, .bool (decide (bx = 1)), .int .u64 k0, .int .u64 k1, .int .u64 k2, .int .u64 k3], .undef, .undef, .undef, .undef, .undef] aa → aa.defers = [] →
        (Code.region 2 #[{ dst := some 5, op := Op.alloc 38, type := 0, pos := "iter.go:51", after := #[], guard := none }, { dst := none, op := Op.store 38 (Operand.tmp 5) (Operand.tmp 7), type := 0, pos := "iter.go:51", after := #[{ on := 0, ground := Ground.data }, { on := 0, ground := Ground.phase }], guard := none }] false).wpIn (Fence.wide.inRound l) (6 - 1 - 1) Try.prog (Exit.then K fun _ _ _ => False) aa W := by
      intro aa hfa hda
      refine region_inN (wd_round l) T0_ok G1_ok hfa hda (MemOk.start W) rfl (fun M hM2 => ?_)
      (simp only [v8X, v8A, v8B, v8C, Nat.beq, Nat.ble, Int.reduceToNat, Int.reduceLE, Int.reduceLT, Nat.reduceLT, Nat.reduceLeDiff, Nat.reduceAdd, Nat.reduceMul, Nat.reduceSub, Int.reduceAdd, Int.reduceSub, Int.reduceMul, eq_self, decide_true, beq_self_eq_true, List.length_cons, List.length_nil, Nat.min_eq_left, IntKind.bits, tabs, G1_set]; (try simp (disch := omega) only [v8W]); (repeat (first | with_reducible intro _ | ((with_reducible refine And.intro ?_ ?_); (focus (first | ((repeat' with_reducible apply And.intro) <;> first | with_reducible exact True.intro | with_reducible rfl) | exact sd0))) | ((with_reducible refine askT_of ?_ (fun hb => ?_)); (focus (first | ((repeat' with_reducible apply And.intro) <;> first | with_reducible exact True.intro | with_reducible rfl) | exact sd0)); simp only [hb, v8X, v8A, v8B, v8C, Nat.beq, Nat.ble, Int.reduceToNat, Int.reduceLE, Int.reduceLT, Nat.reduceLT, Nat.reduceLeDiff, Nat.reduceAdd, Nat.reduceMul, Nat.reduceSub, Int.reduceAdd, Int.reduceSub, Int.reduceMul, eq_self, decide_true, beq_self_eq_true, List.length_cons, List.length_nil, Nat.min_eq_left, IntKind.bits, tabs, G1_set]; (try simp (disch := omega) only [v8W])))); (first | (refine hN _ _ ?_; clear hN N; (try simp (disch := omega) only [v8W])) | skip))
      rename_i Bx
      refine hM2 _ _ (fun a3 W3 hf4 hd4 hm4 => ?_)
      have hg4 := hm4.grown
      have hBx := hm4.each _ List.mem_cons_self
      have hBx2 := hBx.2.resolve_right List.not_mem_nil
      refine hK a3 W3 ((KeepsOthers.of_grownBy hg4 (fun j o e => by cases e)).from _) (keeps_none hg4) ⟨v, memok_grow hv hg4 (fun r e => by cases e)⟩ ⟨Bx, v, by rw [hcl]; exact hBx.1, fun e => ?_, (bxM_box hv).kept hg4 (by simp), fun e => ?_, hd4, by rw [hcl]; exact hf4⟩
      · have := (bxM_box hv).lt
        omega
      · have := ownb_lt (hv.each (.own v pre.length 38 25 (.rows 25 (pre.map fun x => plL x.1))) (by simp [bxM])).1 e
        omega
    have h7 := hf2.put (some 7) (.agg (plL x.1))
    refine key _ ?_ rfl
    rw [← hcl]
    unfold Fr at h7 ⊢
    refine Eq.trans ?_ h7
    simp [Act.put]
  case body =>
    rintro l pre x a3 W hl _ ⟨v, hv⟩ ⟨Bx, v0, b1, b2, b3, b4, b5, b6⟩ hlt
    obtain rfl : v = v0 := by
      have := (bxM_box hv).symm.trans b3
      cases this; rfl
    obtain ⟨x0, x1, x2, x3, x4, x5, x6, x7, x8, x9, x10, x11, x12, x13, x14, x15, x16, x17, x18, x19, bx, k0, k1, k2, k3, hxe, p1, p2, p3⟩ := okP_forms x.2
    have hcl : plL x.1 = [.int .u8 x0, .int .u8 x1, .int .u8 x2, .int .u8 x3, .int .u8 x4, .int .u8 x5, .int .u8 x6, .int .u8 x7, .int .u8 x8, .int .u8 x9, .int .u8 x10, .int .u8 x11, .int .u8 x12, .int .u8 x13, .int .u8 x14, .int .u8 x15, .int .u8 x16, .int .u8 x17, .int .u8 x18, .int .u8 x19, .bool (decide (bx = 1)), .int .u64 k0, .int .u64 k1, .int .u64 k2, .int .u64 k3] := by rw [hxe]; rfl
    rw [hcl] at b1 b6
    have hoP : ∀ e ∈ bxM Bs v pre, ownP e = true := by intro e he; simp only [bxM, List.mem_cons, List.not_mem_nil, or_false] at he; rcases he with rfl | rfl <;> rfl
    have hs := pre_start (rest := []) (by rw [List.append_nil]; exact hv) hoP
    have hnb : Bx ∉ (bxM Bs v pre).flatMap Blk.nums := by
      simp only [bxM, List.flatMap_cons, List.flatMap_nil, Blk.nums, List.append_nil, List.mem_append, List.mem_singleton, Option.mem_toList, not_or]
      exact ⟨b2, b4⟩
    have hm5 : MemOk W ((bxM Bs v pre).flatMap Blk.nums) (bxM Bs v pre ++ [.ro (some ⟨Bx, 0, none⟩) (.cells [.int .u8 x0, .int .u8 x1, .int .u8 x2, .int .u8 x3, .int .u8 x4, .int .u8 x5, .int .u8 x6, .int .u8 x7, .int .u8 x8, .int .u8 x9, .int .u8 x10, .int .u8 x11, .int .u8 x12, .int .u8 x13, .int .u8 x14, .int .u8 x15, .int .u8 x16, .int .u8 x17, .int .u8 x18, .int .u8 x19, .bool (decide (bx = 1)), .int .u64 k0, .int .u64 k1, .int .u64 k2, .int .u64 k3])]) W := by
      refine ⟨hs.os, hs.tape, hs.output, hs.size, hs.old, fun e he => ?_, by rw [List.flatMap_append]; simpa [Blk.nums] using hs.nodup⟩
      rcases List.mem_append.1 he with he | he
      · exact hs.each e he
      · rw [List.mem_singleton] at he; subst he
        intro j u hj
        refine ⟨Bx, 0, rfl, (Array.getElem?_eq_some_iff.1 b1).1, hnb, ?_⟩
        simp only [World.cell?, b1, Nat.zero_add]
        simpa [cc] using hj
    unfold bxM at hm5
    refine wpIn_block (region_inN (wd_round l) T0_ok G1_ok b6 b5 hm5 rfl (fun M hM2 => ?_))
    simp only [List.cons_append, List.nil_append]
    (simp only [v8X, v8A, v8B, v8C, Nat.beq, Nat.ble, Int.reduceToNat, Int.reduceLE, Int.reduceLT, Nat.reduceLT, Nat.reduceLeDiff, Nat.reduceAdd, Nat.reduceMul, Nat.reduceSub, Int.reduceAdd, Int.reduceSub, Int.reduceMul, eq_self, decide_true, beq_self_eq_true, List.length_cons, List.length_nil, Nat.min_eq_left, IntKind.bits, tabs, G1_set, List.drop_zero, List.take_succ_cons, List.take_zero]; (try simp (disch := omega) only [v8W]); (repeat (first | with_reducible intro _ | ((with_reducible refine And.intro ?_ ?_); (focus (first | ((repeat' with_reducible apply And.intro) <;> first | with_reducible exact True.intro | with_reducible rfl | omega) | exact sd0))) | ((with_reducible refine askT_of ?_ (fun hb => ?_)); (focus (first | ((repeat' with_reducible apply And.intro) <;> first | with_reducible exact True.intro | with_reducible rfl | omega) | exact sd0)); simp only [hb, v8X, v8A, v8B, v8C, Nat.beq, Nat.ble, Int.reduceToNat, Int.reduceLE, Int.reduceLT, Nat.reduceLT, Nat.reduceLeDiff, Nat.reduceAdd, Nat.reduceMul, Nat.reduceSub, Int.reduceAdd, Int.reduceSub, Int.reduceMul, eq_self, decide_true, beq_self_eq_true, List.length_cons, List.length_nil, Nat.min_eq_left, IntKind.bits, tabs, G1_set, List.drop_zero, List.take_succ_cons, List.take_zero]; (try simp (disch := omega) only [v8W])))); (first | (refine hN _ _ ?_; clear hN N; (try simp (disch := omega) only [v8W])) | skip))
    rename_i bb v2
    refine hM2 _ _ (fun a4 W4 hf4 hd4 hm4 => ?_)
    have e : bxM Bs v2 (pre ++ [x]) = [.blk Bs 22 (.cells [.own 1 v2 (pre.length + 1)]), .own v2 (pre.length + 1) 38 25 (.rows 25 ((pre.map fun x => plL x.1) ++ [[.int .u8 x0, .int .u8 x1, .int .u8 x2, .int .u8 x3, .int .u8 x4, .int .u8 x5, .int .u8 x6, .int .u8 x7, .int .u8 x8, .int .u8 x9, .int .u8 x10, .int .u8 x11, .int .u8 x12, .int .u8 x13, .int .u8 x14, .int .u8 x15, .int .u8 x16, .int .u8 x17, .int .u8 x18, .int .u8 x19, .bool (decide (bx = 1)), .int .u64 k0, .int .u64 k1, .int .u64 k2, .int .u64 k3]]))] := by
      simp only [bxM, List.length_append, List.length_singleton, List.map_append, List.map_cons, List.map_nil, hcl]
    have hoP' : ∀ y ∈ bxM Bs v2 (pre ++ [x]), ownP y = true := by intro y hy; simp only [bxM, List.mem_cons, List.not_mem_nil, or_false] at hy; rcases hy with rfl | rfl <;> rfl
    have hm6 := pre_end (pre := bxM Bs v pre) (rest := []) (pre' := bxM Bs v2 (pre ++ [x])) (junk := [.ro (some ⟨Bx, 0, none⟩) (.cells [.int .u8 x0, .int .u8 x1, .int .u8 x2, .int .u8 x3, .int .u8 x4, .int .u8 x5, .int .u8 x6, .int .u8 x7, .int .u8 x8, .int .u8 x9, .int .u8 x10, .int .u8 x11, .int .u8 x12, .int .u8 x13, .int .u8 x14, .int .u8 x15, .int .u8 x16, .int .u8 x17, .int .u8 x18, .int .u8 x19, .bool (decide (bx = 1)), .int .u64 k0, .int .u64 k1, .int .u64 k2, .int .u64 k3]), .blk bb 38 (.rows 25 [[.int .u8 x0, .int .u8 x1, .int .u8 x2, .int .u8 x3, .int .u8 x4, .int .u8 x5, .int .u8 x6, .int .u8 x7, .int .u8 x8, .int .u8 x9, .int .u8 x10, .int .u8 x11, .int .u8 x12, .int .u8 x13, .int .u8 x14, .int .u8 x15, .int .u8 x16, .int .u8 x17, .int .u8 x18, .int .u8 x19, .bool (decide (bx = 1)), .int .u64 k0, .int .u64 k1, .int .u64 k2, .int .u64 k3]])]) (by rw [List.append_nil]; exact hv) hoP (by rw [e]; exact hm4) hoP'
    rw [List.append_nil] at hm6
    have ko : KeepsOthers W W4 := ⟨hm4.size, fun k o hk hc => by
      rw [hm4.old k (Array.getElem?_eq_some_iff.1 hk).1 (fun hb => ?_)]
      · exact hk
      · obtain ⟨arr, t, fr, hcc⟩ := bxM_cells hv hb
        rw [hk] at hcc; cases hcc; cases hc⟩
    exact ⟨ko.from _, ko.walks, v2, hm6⟩
  case done =>
    rintro D xs W hD hS ⟨v, hv⟩ hK
    change Code.wpIn _ _ _ (Code.seq _ _) _ _ _
    have hoP : ∀ e ∈ bxM Bs v xs, ownP e = true := by intro e he; simp only [bxM, List.mem_cons, List.not_mem_nil, or_false] at he; rcases he with rfl | rfl <;> rfl
    have hv2 := pre_start (rest := []) (by rw [List.append_nil]; exact hv) hoP
    have hDn : D ∉ (bxM Bs v xs).flatMap Blk.nums := fun hb => by
      obtain ⟨arr, t, fr, hcc⟩ := bxM_cells hv hb
      rw [hK] at hcc; cases hcc
    have hv3 : MemOk W ((bxM Bs v xs).flatMap Blk.nums) [.blk Bs 22 (.cells [.own 1 v xs.length]), .own v xs.length 38 25 (.rows 25 (xs.map fun x => plL x.1))] W := hv2
    refine wpIn_seq (region_inN wd_wide T0_ok G1_ok (a := { tmps := a2.tmps, defers := { target := .collected D, args := #[] } :: a2.defers }) hf2 rfl hv3 rfl (fun M hM2 => ?_))
    (simp only [v8X, v8A, v8B, v8C, Nat.beq, Nat.ble, Int.reduceToNat, Int.reduceLE, Int.reduceLT, Nat.reduceLT, Nat.reduceLeDiff, Nat.reduceAdd, Nat.reduceMul, Nat.reduceSub, Int.reduceAdd, Int.reduceSub, Int.reduceMul, eq_self, decide_true, beq_self_eq_true, List.length_cons, List.length_nil, Nat.min_eq_left, IntKind.bits, tabs, G1_set]; (try simp (disch := omega) only [v8W]); (repeat (first | with_reducible intro _ | ((with_reducible refine And.intro ?_ ?_); (focus (first | ((repeat' with_reducible apply And.intro) <;> first | with_reducible exact True.intro | with_reducible rfl) | exact sd0))) | ((with_reducible refine askT_of ?_ (fun hb => ?_)); (focus (first | ((repeat' with_reducible apply And.intro) <;> first | with_reducible exact True.intro | with_reducible rfl) | exact sd0)); simp only [hb, v8X, v8A, v8B, v8C, Nat.beq, Nat.ble, Int.reduceToNat, Int.reduceLE, Int.reduceLT, Nat.reduceLT, Nat.reduceLeDiff, Nat.reduceAdd, Nat.reduceMul, Nat.reduceSub, Int.reduceAdd, Int.reduceSub, Int.reduceMul, eq_self, decide_true, beq_self_eq_true, List.length_cons, List.length_nil, Nat.min_eq_left, IntKind.bits, tabs, G1_set]; (try simp (disch := omega) only [v8W])))); (first | (refine hN _ _ ?_; clear hN N; (try simp (disch := omega) only [v8W])) | skip))
    refine hM2 _ _ (fun a4 w4 hf4 hd4 hm4 => ?_)
    refine wpIn_ret ?_
    have hK2 : w4.heap[D]? = some (.deferred (some [])) := (hm4.old D (Array.getElem?_eq_some_iff.1 hK).1 hDn).trans hK
    have hm6 := pre_end (pre := bxM Bs v xs) (rest := []) (pre' := bxM Bs v xs) (junk := []) (by rw [List.append_nil]; exact hv) hoP (by rw [List.append_nil]; exact hm4) hoP
    rw [List.append_nil] at hm6
    rw [hd2] at hd4
    change LeavesInM _ _ _ _ _ _ a4.defers _ _
    rw [hd4]
    refine ⟨by simp, .inl ⟨_, _, rfl, run_takeDeferred hK2, ?_⟩⟩
    have h9 : w.heap.size ≤ D := by omega
    have hDn4 : D ∉ (bxM Bs v xs).flatMap Blk.nums := hDn
    have hm7 := memok_grow hm6 (grownBy_putObj' w4 D (.deferred none)) (fun r e => by cases e; exact ⟨h9, hDn4⟩)
    have hf5 : a4.tmps = _ := hf4
    rw [hf5]
    refine ⟨_, results_tmp rfl _ _ _, ?_⟩
    refine ⟨_, rfl, .own 1 v xs.length, _, rfl, hm7, v, xs, hS, rfl, rfl⟩
  case stop =>
    rintro D c pre W _ _ h _
    exact h.elim
end Go.Proofs.Ytdanlclhnehieaa
