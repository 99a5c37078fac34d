/-
  The document's Steps (quaestorref14), walked. No condition.
-/
import Derived.Test.YtbdigomddnpllaaV8
import Derived.Test.YtbdigomddnpllaaT9
namespace Go.Proofs.Ytbdigomddnpllaa
set_option linter.unusedSimpArgs false
set_option linter.unusedVariables false
set_option maxHeartbeats 4000000
set_option linter.defProp false
open Go.RowKit
structure RL (R l : List (List Int)) : Prop where
  rises : Rises l
  ok : ∀ x ∈ l, okP x
  mem : ∀ c, c ∈ l ↔ c ∈ R
theorem RL.put {R l : List (List Int)} (h : RL R l) {p : List Int} (hp : okP p) : RL (R ++ [p]) (putP p false l) := by
  obtain ⟨h1, h2⟩ := put_rises hp h.ok h.rises
  refine ⟨h1, fun x hx => ?_, fun c => ?_⟩
  · rcases (h2 x).1 hx with rfl | hx
    · exact hp
    · exact h.ok x hx
  · rw [h2 c, h.mem c, List.mem_append, List.mem_singleton]
    exact ⟨fun h => h.symm, fun h => h.symm⟩
theorem RL.of {R R' l : List (List Int)} (h : RL R l) (he : ∀ c, c ∈ R ↔ c ∈ R') : RL R' l := ⟨h.rises, h.ok, fun c => (h.mem c).trans (he c)⟩
theorem RL.le {R l : List (List Int)} (h : RL R l) : l.length ≤ R.length := by
  refine nodup_le ?_ (fun x hx => (h.mem x).1 hx)
  exact h.rises.imp fun {a b} hab e => by rw [e, plLt_irrefl] at hab; cases hab
theorem RL.setL {R l : List (List Int)} (h : RL R l) (hl : R.length ≤ 1000000) : SetL (addF noF R) l :=
  ⟨h.rises, h.ok, fun x _ => by rw [h.mem x, addF_some], Nat.le_trans h.le hl⟩
theorem RL.nil : RL [] [] := ⟨List.Pairwise.nil, fun x hx => absurd hx List.not_mem_nil, fun c => Iff.rfl⟩
def rdP (e : Evt) (l : List (List Int)) : List (List Int) := cond (decide (e.op = 84)) (putP (plS e.self e.arg) false l) (cond (decide (e.op = 71)) (putP (plW e.self) false l) (cond (isSee e.op || isCall e.op) (putP (plW (bytI e.arg 20)) false l) l))
def wrP (e : Evt) (l : List (List Int)) : List (List Int) := cond (decide (e.op = 85)) (putP (plS e.self e.arg) false l) (cond (isMake e.op || (isCall e.op && !eqW e.val 0)) (putP (plW e.self) false (putP (plW (bytI e.arg 20)) false l)) l)
theorem rdP_rl {R l : List (List Int)} (h : RL R l) {e : Evt} (hf : e.flt = 0) (oW : okP (plW e.self)) (oO : okP (plW (bytI e.arg 20))) (oS : okP (plS e.self e.arg)) : RL (R ++ readsE e) (rdP e l) := by
  have e0 : readsE e = rdE e := by unfold readsE; rw [decide_eq_true hf]; rfl
  rw [e0]
  unfold rdE rdP
  cases decide (e.op = 84)
  · cases decide (e.op = 71)
    · cases (isSee e.op || isCall e.op)
      · exact h.of fun c => by simp
      · exact h.put oO
    · exact h.put oW
  · exact h.put oS
theorem wrP_rl {R l : List (List Int)} (h : RL R l) {e : Evt} (hf : e.flt = 0) (oW : okP (plW e.self)) (oO : okP (plW (bytI e.arg 20))) (oS : okP (plS e.self e.arg)) : RL (R ++ writesE e) (wrP e l) := by
  have e0 : writesE e = wrE e := by unfold writesE; rw [decide_eq_true hf]; rfl
  rw [e0]
  unfold wrE wrP
  cases decide (e.op = 85)
  · cases (isMake e.op || (isCall e.op && !eqW e.val 0))
    · exact h.of fun c => by simp
    · refine ((h.put oO).put oW).of fun c => List.Perm.mem_iff ?_
      rw [List.append_assoc]
      exact (List.Perm.swap _ _ []).append_left R
  · exact h.put oS
theorem rdP_cs (e : Evt) (l : List (List Int)) : rdP e l = cond (decide (e.op = 84)) (putP (plS e.self e.arg) false l) (cond (decide (e.op = 71)) (putP (plW e.self) false l) (cond (isSee e.op || isCall e.op) (putP (plW (bytI e.arg 20)) false l) l)) := rfl
theorem wrP_cs (e : Evt) (l : List (List Int)) : wrP e l = cond (decide (e.op = 85)) (putP (plS e.self e.arg) false l) (cond (isMake e.op || (isCall e.op && !eqW e.val 0)) (putP (plW e.self) false (putP (plW (bytI e.arg 20)) false l)) l) := rfl
noncomputable def g_rPut2 (args : List SV) (m : List Blk) : CR :=
  match args with
  | [.own nm v n, .agg r] => match bget m nm, codeC ck_72 r with
    | .own v' n' t 25 (.rows 25 rs), some p => .rel (v' = v ∧ n' = n ∧ t = 72 ∧ n ≤ 1000000 ∧ r = plL p ∧ okP p ∧ ∃ l : List (List Int), rs = l.map plL ∧ ∀ x ∈ l, okP x) Value (fun _ => True) (fun s => .own nm s (putP p false (plsOf rs)).length) (fun s => bset m nm (.own s (putP p false (plsOf rs)).length 72 25 (.rows 25 ((putP p false (plsOf rs)).map plL))))
    | _, _ => .none
  | _ => .none
theorem g_rPut2_ok (w0 : World) (B : List Nat) (args : List SV) (m : List Blk) : CROk Try.prog w0 B 43 args m (g_rPut2 args m) := by
  unfold g_rPut2
  split
  · rename_i nm v n r
    split
    · rename_i v' n' t rs p hb hcp
      rintro ⟨rfl, rfl, rfl, hn, rfl, hp, l, rfl, hok⟩ w hm
      rw [plsOf_eq hok]
      have hown := hm.each _ (bget_mem hb (by simp))
      have hcl : (cc (.rows 25 (l.map plL))).length = n' * 25 := hown.1.1
      have hl : l.length = n' := by rw [rows25 hok] at hcl; omega
      obtain ⟨q1, a1, c1, e1, d1, n1, x1, z1, L1, hm1⟩ := freeze hm.heap0 (i := nm) (k := m.length) ((bget_appL _ (bget_lt (by rw [hb]; simp))).trans hb) (bget_appR _ _)
      have hk2 : bget (bset (bset (m ++ [.heap []]) nm .gone) m.length (.heap ([] ++ q1))) m.length = .heap ([] ++ q1) := bget_bset _ (by rw [bset_length, List.length_append]; simp)
      have hH : ∀ b o, Hl q1 b o → H0 w b o := fun b o h => ((hm1.each _ (bget_mem hk2 (by simp))) (b, o) (by rw [List.nil_append]; exact h)).1
      have hPl : PlL (H0 w) a1 n' c1 l := ⟨hl, n1, d1, L1.mono hH, hok⟩
      have e : cvs [.own nm v' n', .agg (plL p)] = cvs [.gh a1 n' c1 (.rows 25 (l.map plL)), .agg (plL p)] := by simp only [cvs, cv]; rw [e1]; rfl
      rw [e]
      have hpp : p = p := rfl
      obtain ⟨x0, x1', x2, x3, x4, x5, x6, x7, x8, x9, x10, x11, x12, x13, x14, x15, x16, x17, x18, x19, bx, k0, k1, k2, k3, rfl, _⟩ := okP_forms hp
      refine .inr ⟨enter_run Try.func43 rfl rfl _ w, (Put_vc a1 n' c1 l x0 x1' x2 x3 x4 x5 x6 x7 x8 x9 x10 x11 x12 x13 x14 x15 x16 x17 x18 x19 bx k0 k1 k2 k3 w hPl hp hn).mono fun en w' ⟨u, he, v2, m', hu, hm', i, s, hv, hs⟩ => ⟨u, he, s, trivial, by rw [hu, hv]; rfl, ?_⟩⟩
      have h5 := hm'.each _ (bget_mem hs (by simp))
      have h6 := hm.grow hm'.grown
      have hfr : ∀ b, s.ownBlock = some b → w.heap.size ≤ b := fun b hb => (h5.2 b hb).resolve_right List.not_mem_nil
      refine h6.set hb (by simp) ⟨h5.1, fun b hb => .inl (Nat.le_trans hm.size (hfr b hb))⟩ (by simp only [Blk.nums]; cases s.ownBlock <;> simp) (fun b hbn => .inr fun hc => ?_)
      simp only [Blk.nums, Option.mem_toList] at hbn
      obtain ⟨x, hx, hxb⟩ := List.mem_flatMap.1 hc
      have := bnum_lt (hm.each x hx) hxb
      have := hfr b hbn
      omega
    · exact trivial
  · exact trivial
noncomputable def GV9 : Ctr := fun f args m => match f with
  | 42 => g_rAddr args m
  | 43 => g_rPut2 args m
  | _ => .none
theorem GV9_ok : GOk Try.prog GV9 := by
  intro w0 B f args m; unfold GV9; split
  · exact g_rAddr_ok _ _ _ _
  · exact g_rPut2_ok _ _ _ _
  · exact trivial
theorem GV9_rAddr : GV9 42 = g_rAddr := by funext args m; rfl
theorem GV9_rPut2 : GV9 43 = g_rPut2 := by funext args m; rfl
def GV9_set := And.intro (And.intro (@GV9_rAddr) (@g_rAddr.eq_def)) (And.intro (@GV9_rPut2) (@g_rPut2.eq_def))

set_option maxRecDepth 20000 in
theorem rSteps_vc (a : Option Addr) (n c : Nat) (rs : List (List SV)) (l : List Evt) (w : World) (hE : EvL (H0 w) a n c rs l) (hM : n ≤ 100000) :
    Calls Try.prog 19 (cvs [.gh a n c (.rows 32 rs)]).toArray w (fun en w' => ∃ u, en = .returned u ∧ ∃ v' m', u = cv v' ∧ MemOk w [] m' w' ∧ ∃ (s1 : Value) (l1 : List (List Int)) (s2 : Value) (l2 : List (List Int)) (i j : Nat), SetL (addF noF (l.flatMap readsE)) l1 ∧ SetL (addF noF (l.flatMap writesE)) l2 ∧ v' = .agg [.own i s1 l1.length, .own j s2 l2.length] ∧ i ≠ j ∧
      bget m' i = .own s1 l1.length 72 25 (.rows 25 (l1.map plL)) ∧ bget m' j = .own s2 l2.length 72 25 (.rows 25 (l2.map plL))) := by
  obtain ⟨hl, hn, ha, hm, hL, r1, r2, r3⟩ := hE
  have hlr := flat_len2 rdE_len l
  have hlw := flat_len2 wrE_len l
  unfold maxLen at hm
  have hLx : ∀ m, allOld w ∈ m → LiesH (HM m) a (cc (.rows 32 rs)) := fun m hin => hL.mono (H0.hm hin)
  refine Vc.calls T0_ok Try.func19 rfl rfl (args := [.gh a n c (.rows 32 rs)]) (k := 105) rfl (old_start w) ?_; change Vc _ _ (c8 (.gh a n c (.rows 32 rs)) .undef .undef .undef .undef .undef .undef .undef (c8 .undef .undef .undef .undef .undef .undef .undef .undef (c8 .undef .undef .undef .undef .undef .undef .undef .undef (c8 .undef .undef .undef .undef .undef .undef .undef .undef (c8 .undef .undef .undef .undef .undef .undef .undef .undef (c8 .undef .undef .undef .undef .undef .undef .undef .undef (c8 .undef .undef .undef .undef .undef .undef .undef .undef (c8 .undef .undef .undef .undef .undef .undef .undef .undef (c8 .undef .undef .undef .undef .undef .undef .undef .undef (c8 .undef .undef .undef .undef .undef .undef .undef .undef (c8 .undef .undef .undef .undef .undef .undef .undef .undef (c8 .undef .undef .undef .undef .undef .undef .undef .undef (c8 .undef .undef .undef .undef .undef .undef .undef .undef ([.undef, .undef])))))))))))))) _ _
  ((repeat (first | (with_reducible refine Vc.seq fun N hN => ?_) | (with_reducible refine Vc.block ?_) | ((first | with_reducible refine Vc.skip ?_ | with_reducible refine Vc.exit ?_); dsimp only [thenK, blockK, Nat.beq]; (first | (refine hN _ _ ?_; clear hN N) | skip)) | (with_reducible intro _) | ((with_reducible refine And.intro ?_ ?_); (focus (first | ((repeat' with_reducible apply And.intro) <;> first | exact sideQ | (exact hLx _ (by simp))) | exact sd0))) | ((first | ((with_reducible refine askT_of ?_ (fun hb => ?_)); (focus (first | ((repeat' with_reducible apply And.intro) <;> first | exact sideQ | (exact hLx _ (by simp))) | exact sd0)); (try simp only [hb])) | ((with_reducible refine Vc.fin ?_); dsimp only [thenK, blockK, retK, resS, resOne, resAll]) | ((with_reducible refine Vc.hold ?_); first | refine Vc.regiont T0_ok GV9_ok ?_)); (try simp only [v8X, v8A, v8B, v8C, Nat.beq, Nat.ble, Int.reduceToNat, Int.reduceLE, Int.reduceLT, Nat.reduceLT, Nat.reduceLeDiff, Nat.reduceAdd, Nat.reduceMul, Nat.reduceSub, Int.reduceAdd, Int.reduceSub, Int.reduceMul, eq_self, decide_true, beq_self_eq_true, List.length_cons, List.length_nil, Nat.min_eq_left, IntKind.bits, tabs, GV9_set, ]); (try simp (disch := omega) only [v8W])) | ((with_reducible refine hN _ _ ?_); clear hN N; (try simp (disch := omega) only [v8W])))); (try ((with_reducible refine Fin.of ?_); (try with_reducible exact True.intro))))
  (revert N; intro N1 hN1)
  rename_i b2 b3
  refine Vc.remem (α := Unit) (fun _ => True) (fun _ => c8 (.gh a n c (.rows 32 rs)) .undef (.ptr 1 b2 0 0 0 0) (.ptr 2 b3 0 0 0 0) (.int .i64 0) .undef .undef .undef (c8 .undef .undef .undef .undef .undef .undef .undef .undef (c8 .undef .undef .undef .undef .undef .undef .undef .undef (c8 .undef .undef .undef .undef .undef .undef .undef .undef (c8 .undef .undef .undef .undef .undef .undef .undef .undef (c8 .undef .undef .undef .undef .undef .undef .undef .undef (c8 .undef .undef .undef .undef .undef .undef .undef .undef (c8 .undef .undef .undef .undef .undef .undef .undef .undef (c8 .undef .undef .undef .undef .undef .undef .undef .undef (c8 .undef .undef .undef .undef .undef .undef .undef .undef (c8 .undef .undef .undef .undef .undef .undef .undef .undef (c8 .undef .undef .undef .undef .undef .undef .undef .undef (c8 .undef .undef .undef .undef .undef .undef .undef .undef [.undef, .undef]))))))))))))) (fun _ => [allOld w, .blk b2 38 (.cells [.nilsl, .nilsl]), .blk b3 38 (.cells [.own 3 (.slice none 0 0) 0, .own 4 (.slice none 0 0) 0]), .own (.slice none 0 0) 0 72 25 (.rows 25 []), .own (.slice none 0 0) 0 72 25 (.rows 25 [])]) (fun w0 B w2 hm2 => ⟨(), trivial, rfl, ?_⟩) (fun _ _ => ?_)
  · have hnil : (Blk.own (.slice none 0 0) 0 72 25 (.rows 25 [])).ok w0 B w2 := ⟨⟨by simp [cc], .inl ⟨rfl, rfl⟩⟩, fun b hb => by simp [Value.ownBlock] at hb⟩
    have h1 := (hm2.push (grown_refl w2) hnil (fun b hb => by simp [Blk.nums, Value.ownBlock] at hb)).push (grown_refl w2) hnil (fun b hb => by simp [Blk.nums, Value.ownBlock] at hb)
    refine ⟨h1.os, h1.tape, h1.output, h1.size, h1.old, fun e he => ?_, h1.nodup⟩
    simp only [List.mem_cons, List.not_mem_nil, or_false] at he
    rcases he with rfl | rfl | rfl | rfl | rfl
    · exact h1.each (allOld w) (by simp)
    · exact h1.each (.blk b2 38 (.cells [.nilsl, .nilsl])) (by simp)
    · exact h1.each (.blk b3 38 (.cells [.nilsl, .nilsl])) (by simp)
    · exact hnil
    · exact hnil
  refine Vc.loop 4 106 (fun (x : Nat × (Value × List (List Int)) × (Value × List (List Int))) => [(4, .int .i64 (x.1 : Nat))]) (fun x => [allOld w, .blk b2 38 (.cells [.nilsl, .nilsl]), .blk b3 38 (.cells [.own 3 x.2.1.1 x.2.1.2.length, .own 4 x.2.2.1 x.2.2.2.length]), .own x.2.1.1 x.2.1.2.length 72 25 (.rows 25 (x.2.1.2.map plL)), .own x.2.2.1 x.2.2.2.length 72 25 (.rows 25 (x.2.2.2.map plL))]) (fun x => x.1 ≤ n ∧ RL ((l.take x.1).flatMap readsE) x.2.1.2 ∧ RL ((l.take x.1).flatMap writesE) x.2.2.2) (fun x => n - x.1) (0, (.slice none 0 0, []), (.slice none 0 0, [])) ⟨⟨Nat.zero_le _, RL.nil, RL.nil⟩, ?_, ?_⟩ (fun x junk hx => ?_)
  · ((try simp only [v8X, v8A, v8B, v8C, Nat.beq, Nat.ble, Int.reduceToNat, Int.reduceLE, Int.reduceLT, Nat.reduceLT, Nat.reduceLeDiff, Nat.reduceAdd, Nat.reduceMul, Nat.reduceSub, Int.reduceAdd, Int.reduceSub, Int.reduceMul, eq_self, decide_true, beq_self_eq_true, List.length_cons, List.length_nil, Nat.min_eq_left, IntKind.bits, tabs]); (repeat' with_reducible apply And.intro) <;> first | with_reducible exact True.intro | rfl | with_reducible rfl | (congr 1 <;> omega) | trivial)
  · ((try simp only [v8X, v8A, v8B, v8C, Nat.beq, Nat.ble, Int.reduceToNat, Int.reduceLE, Int.reduceLT, Nat.reduceLT, Nat.reduceLeDiff, Nat.reduceAdd, Nat.reduceMul, Nat.reduceSub, Int.reduceAdd, Int.reduceSub, Int.reduceMul, eq_self, decide_true, beq_self_eq_true, List.length_cons, List.length_nil, Nat.min_eq_left, IntKind.bits, tabs]); (repeat' with_reducible apply And.intro) <;> first | with_reducible exact True.intro | rfl | with_reducible rfl | (congr 1 <;> omega) | trivial)
  · obtain ⟨k, ⟨v1, l1⟩, v2, l2⟩ := x
    simp only at hx ⊢
    obtain ⟨hk, h1, h2⟩ := hx
    have q1 : (l.take k).length ≤ n := by rw [List.length_take]; omega
    have hl1 : l1.length ≤ 1000000 := by have := h1.le; have := flat_len2 rdE_len (l.take k); omega
    have hl2 : l2.length ≤ 1000000 := by have := h2.le; have := flat_len2 wrE_len (l.take k); omega
    (simp only [v8X, v8A, v8B, v8C, Nat.beq, Nat.ble, Int.reduceToNat, Int.reduceLE, Int.reduceLT, Nat.reduceLT, Nat.reduceLeDiff, Nat.reduceAdd, Nat.reduceMul, Nat.reduceSub, Int.reduceAdd, Int.reduceSub, Int.reduceMul, eq_self, decide_true, beq_self_eq_true, List.length_cons, List.length_nil, Nat.min_eq_left, IntKind.bits, tabs])
    by_cases hc1 : k < n
    · have d1 : decide ((k : Int) < (n : Int)) = true := decide_eq_true (by omega)
      have tk : ((k : Nat) : Int).toNat = k := by omega
      have e1 := List.getElem?_eq_getElem (show k < rs.length by omega)
      have e2 := List.getElem?_eq_getElem (show k < l.length by omega)
      have hp := r3 k _ _ e1 e2
      have hgd := getD_of e1
      have tR := flat_take (f := readsE) e2
      have tW := flat_take (f := writesE) e2
      generalize rs[k] = r at *
      generalize l[k] = e at *
      obtain ⟨s0, s1, s2, s3, s4, s5, s6, s7, s8, s9, s10, s11, s12, s13, s14, s15, s16, s17, s18, s19, x0, x1, x2, x3, y0, y1, y2, y3, pa, pn, pc, rfl, g1, g2, g3, g4, g5, g6, g7, g8, g9, g10, g11, g12, g13, g14, g15, g16, g17⟩ := hp
      by_cases hf : e.flt = 0
      · have d0 : decide (e.flt = 0) = true := decide_eq_true hf
        have hsl : e.self.length = 20 := by rw [g1]; rfl
        have hzb := bytI_all e.arg 20
        have hzl := bytI_len e.arg 20
        obtain ⟨z0, z1, z2, z3, z4, z5, z6, z7, z8, z9, z10, z11, z12, z13, z14, z15, z16, z17, z18, z19, hz⟩ := list20i hzl
        have oW := okP_W hsl g2
        have oO := okP_W hzl hzb
        have oS := okP_S hsl g2 e.arg
        have cW : plL (plW e.self) = [.int .u8 s0, .int .u8 s1, .int .u8 s2, .int .u8 s3, .int .u8 s4, .int .u8 s5, .int .u8 s6, .int .u8 s7, .int .u8 s8, .int .u8 s9, .int .u8 s10, .int .u8 s11, .int .u8 s12, .int .u8 s13, .int .u8 s14, .int .u8 s15, .int .u8 s16, .int .u8 s17, .int .u8 s18, .int .u8 s19, .bool true, .int .u64 0, .int .u64 0, .int .u64 0, .int .u64 0] := by rw [g1]; rfl
        have cO : plL (plW (bytI e.arg 20)) = [.int .u8 z0, .int .u8 z1, .int .u8 z2, .int .u8 z3, .int .u8 z4, .int .u8 z5, .int .u8 z6, .int .u8 z7, .int .u8 z8, .int .u8 z9, .int .u8 z10, .int .u8 z11, .int .u8 z12, .int .u8 z13, .int .u8 z14, .int .u8 z15, .int .u8 z16, .int .u8 z17, .int .u8 z18, .int .u8 z19, .bool true, .int .u64 0, .int .u64 0, .int .u64 0, .int .u64 0] := by rw [hz]; rfl
        have cS : plL (plS e.self e.arg) = [.int .u8 s0, .int .u8 s1, .int .u8 s2, .int .u8 s3, .int .u8 s4, .int .u8 s5, .int .u8 s6, .int .u8 s7, .int .u8 s8, .int .u8 s9, .int .u8 s10, .int .u8 s11, .int .u8 s12, .int .u8 s13, .int .u8 s14, .int .u8 s15, .int .u8 s16, .int .u8 s17, .int .u8 s18, .int .u8 s19, .bool false, .int .u64 (lm e.arg 0 : Nat), .int .u64 (lm e.arg 1 : Nat), .int .u64 (lm e.arg 2 : Nat), .int .u64 (lm e.arg 3 : Nat)] := by rw [g1]; rfl
        have hcW : codeC ck_72 [.int .u8 s0, .int .u8 s1, .int .u8 s2, .int .u8 s3, .int .u8 s4, .int .u8 s5, .int .u8 s6, .int .u8 s7, .int .u8 s8, .int .u8 s9, .int .u8 s10, .int .u8 s11, .int .u8 s12, .int .u8 s13, .int .u8 s14, .int .u8 s15, .int .u8 s16, .int .u8 s17, .int .u8 s18, .int .u8 s19, .bool true, .int .u64 0, .int .u64 0, .int .u64 0, .int .u64 0] = some (plW e.self) := by rw [← cW]; exact codeC_pl oW
        have hcO : codeC ck_72 [.int .u8 z0, .int .u8 z1, .int .u8 z2, .int .u8 z3, .int .u8 z4, .int .u8 z5, .int .u8 z6, .int .u8 z7, .int .u8 z8, .int .u8 z9, .int .u8 z10, .int .u8 z11, .int .u8 z12, .int .u8 z13, .int .u8 z14, .int .u8 z15, .int .u8 z16, .int .u8 z17, .int .u8 z18, .int .u8 z19, .bool true, .int .u64 0, .int .u64 0, .int .u64 0, .int .u64 0] = some (plW (bytI e.arg 20)) := by rw [← cO]; exact codeC_pl oO
        have hcS : codeC ck_72 [.int .u8 s0, .int .u8 s1, .int .u8 s2, .int .u8 s3, .int .u8 s4, .int .u8 s5, .int .u8 s6, .int .u8 s7, .int .u8 s8, .int .u8 s9, .int .u8 s10, .int .u8 s11, .int .u8 s12, .int .u8 s13, .int .u8 s14, .int .u8 s15, .int .u8 s16, .int .u8 s17, .int .u8 s18, .int .u8 s19, .bool false, .int .u64 (lm e.arg 0 : Nat), .int .u64 (lm e.arg 1 : Nat), .int .u64 (lm e.arg 2 : Nat), .int .u64 (lm e.arg 3 : Nat)] = some (plS e.self e.arg) := by rw [← cS]; exact codeC_pl oS
        have o1 := plsOf_eq h1.ok
        have o2 := plsOf_eq h2.ok
        have o3 := plsOf_eq (h2.put oO).ok
        have hz3 : (putP (plW (bytI e.arg 20)) false l2).length ≤ 1000000 := by have := (h2.put oO).le; have := flat_len2 wrE_len (l.take k); rw [List.length_append, List.length_singleton] at *; omega
        have yW := cW.symm
        have yO := cO.symm
        have yS := cS.symm
        have k1 := h1.ok
        have k2 := h2.ok
        have k3 := (h2.put oO).ok
        have w1 : ∃ y : List (List Int), l1.map plL = y.map plL ∧ ∀ x ∈ y, okP x := ⟨_, rfl, k1⟩
        have w2 : ∃ y : List (List Int), l2.map plL = y.map plL ∧ ∀ x ∈ y, okP x := ⟨_, rfl, k2⟩
        have w3 : ∃ y : List (List Int), (putP (plW (bytI e.arg 20)) false l2).map plL = y.map plL ∧ ∀ x ∈ y, okP x := ⟨_, rfl, k3⟩
        have hvW : e.val < W := by rw [← g6]; exact numI_ltE g5
        have U0 : allU [0, 0, 0, 0] := by simp [allU]
        have hR2 := rdP_rl h1 hf oW oO oS
        have hW2 := wrP_rl h2 hf oW oO oS
        rw [← tR] at hR2
        rw [← tW] at hW2
        rw [hz] at oO cO hcO o3 hz3 yO k3 w3
        generalize hbz : eqW e.val 0 = bz
        rcases op_cases e.op with h | h | h | h | h | h | h | h | h | h | h | h | h | h | h
        all_goals
          (first | have d84 : decide (e.op = 84) = true := decide_eq_true (by omega) | have d84 : decide (e.op = 84) = false := decide_eq_false (by omega))
          (first | have d85 : decide (e.op = 85) = true := decide_eq_true (by omega) | have d85 : decide (e.op = 85) = false := decide_eq_false (by omega))
          (first | have d71 : decide (e.op = 71) = true := decide_eq_true (by omega) | have d71 : decide (e.op = 71) = false := decide_eq_false (by omega))
          (first | have d49 : decide (e.op = 49) = true := decide_eq_true (by omega) | have d49 : decide (e.op = 49) = false := decide_eq_false (by omega))
          (first | have d59 : decide (e.op = 59) = true := decide_eq_true (by omega) | have d59 : decide (e.op = 59) = false := decide_eq_false (by omega))
          (first | have d60 : decide (e.op = 60) = true := decide_eq_true (by omega) | have d60 : decide (e.op = 60) = false := decide_eq_false (by omega))
          (first | have d63 : decide (e.op = 63) = true := decide_eq_true (by omega) | have d63 : decide (e.op = 63) = false := decide_eq_false (by omega))
          (first | have d241 : decide (e.op = 241) = true := decide_eq_true (by omega) | have d241 : decide (e.op = 241) = false := decide_eq_false (by omega))
          (first | have d242 : decide (e.op = 242) = true := decide_eq_true (by omega) | have d242 : decide (e.op = 242) = false := decide_eq_false (by omega))
          (first | have d244 : decide (e.op = 244) = true := decide_eq_true (by omega) | have d244 : decide (e.op = 244) = false := decide_eq_false (by omega))
          (first | have d250 : decide (e.op = 250) = true := decide_eq_true (by omega) | have d250 : decide (e.op = 250) = false := decide_eq_false (by omega))
          (first | have d240 : decide (e.op = 240) = true := decide_eq_true (by omega) | have d240 : decide (e.op = 240) = false := decide_eq_false (by omega))
          (first | have d245 : decide (e.op = 245) = true := decide_eq_true (by omega) | have d245 : decide (e.op = 245) = false := decide_eq_false (by omega))
          (first | have d255 : decide (e.op = 255) = true := decide_eq_true (by omega) | have d255 : decide (e.op = 255) = false := decide_eq_false (by omega))
        all_goals first | (have hnc : isCall e.op = false := (by unfold isCall; rw [d241, d242, d244, d250]; rfl); clear hnc) | cases bz
        all_goals
          have hr0 := rdP_cs e l1
          have hw0 := wrP_cs e l2
          simp only [isSee, isCall, isMake, d84, d85, d71, d49, d59, d60, d63, d241, d242, d244, d250, d240, d245, d255, hbz, Bool.or_false, Bool.or_true, Bool.true_or, Bool.false_or, Bool.not_true, Bool.not_false, Bool.and_true, Bool.and_false, Bool.true_and, Bool.false_and, cond_true, cond_false] at hr0 hw0
          rw [hr0] at hR2
          rw [hw0] at hW2
          try rw [hz] at hR2
          try rw [hz] at hW2
        all_goals
          ((repeat (first | (with_reducible refine Vc.seq fun N hN => ?_) | (with_reducible refine Vc.block ?_) | ((first | with_reducible refine Vc.skip ?_ | with_reducible refine Vc.exit ?_); dsimp only [thenK, blockK, Nat.beq]; (first | (refine hN _ _ ?_; clear hN N) | skip)) | (with_reducible intro _) | ((with_reducible refine And.intro ?_ ?_); (focus (first | ((repeat' with_reducible apply And.intro) <;> first | exact sideQ | (exact hLx _ (by simp))) | exact sd0))) | ((first | ((with_reducible refine askT_of ?_ (fun hb => ?_)); (focus (first | ((repeat' with_reducible apply And.intro) <;> first | exact sideQ | (exact hLx _ (by simp))) | exact sd0)); (try simp only [hb])) | ((with_reducible refine Vc.fin ?_); dsimp only [thenK, blockK, retK, resS, resOne, resAll]) | ((with_reducible refine Vc.hold ?_); first | refine Vc.regiont T0_ok GV9_ok ?_)); (try simp only [v8X, v8A, v8B, v8C, Nat.beq, Nat.ble, Int.reduceToNat, Int.reduceLE, Int.reduceLT, Nat.reduceLT, Nat.reduceLeDiff, Nat.reduceAdd, Nat.reduceMul, Nat.reduceSub, Int.reduceAdd, Int.reduceSub, Int.reduceMul, eq_self, decide_true, beq_self_eq_true, List.length_cons, List.length_nil, Nat.min_eq_left, IntKind.bits, tabs, GV9_set, d1]); (try simp (disch := omega) only [v8W])) | ((with_reducible refine hN _ _ ?_); clear hN N; (try simp (disch := omega) only [v8W])))); (try ((with_reducible refine Fin.of ?_); (try with_reducible exact True.intro))))
          (refine Vc.cond T0_ok (t := true) (by rfl) (fun _ => ?_) (fun h => Bool.noConfusion h))
          ((repeat (first | (with_reducible refine Vc.seq fun N hN => ?_) | (with_reducible refine Vc.block ?_) | ((first | with_reducible refine Vc.skip ?_ | with_reducible refine Vc.exit ?_); dsimp only [thenK, blockK, Nat.beq]; (first | (refine hN _ _ ?_; clear hN N) | skip)) | (with_reducible intro _) | ((with_reducible refine And.intro ?_ ?_); (focus (first | ((repeat' with_reducible apply And.intro) <;> first | exact sideQ | (exact hLx _ (by simp))) | exact sd0))) | ((first | ((with_reducible refine askT_of ?_ (fun hb => ?_)); (focus (first | ((repeat' with_reducible apply And.intro) <;> first | exact sideQ | (exact hLx _ (by simp))) | exact sd0)); (try simp only [hb])) | ((with_reducible refine Vc.fin ?_); dsimp only [thenK, blockK, retK, resS, resOne, resAll]) | ((with_reducible refine Vc.hold ?_); first | refine Vc.regiont T0_ok GV9_ok ?_)); (try simp only [v8X, v8A, v8B, v8C, Nat.beq, Nat.ble, Int.reduceToNat, Int.reduceLE, Int.reduceLT, Nat.reduceLT, Nat.reduceLeDiff, Nat.reduceAdd, Nat.reduceMul, Nat.reduceSub, Int.reduceAdd, Int.reduceSub, Int.reduceMul, eq_self, decide_true, beq_self_eq_true, List.length_cons, List.length_nil, Nat.min_eq_left, IntKind.bits, tabs, GV9_set, tk, hgd, d0, d84, d85, d71, d49, d59, d60, d63, d241, d242, d244, d250, d240, d245, d255, g4, g6, hz, hbz, hcW, hcO, hcS, o1, o2, o3]); (try simp (disch := omega) only [v8W])) | ((with_reducible refine hN _ _ ?_); clear hN N; (try simp (disch := omega) only [v8W])))); (try ((with_reducible refine Fin.of ?_); (try with_reducible exact True.intro))))
          (refine Vc.cond T0_ok (t := false) (by rfl) (fun h => Bool.noConfusion h) (fun _ => ?_))
          ((repeat (first | (with_reducible refine Vc.seq fun N hN => ?_) | (with_reducible refine Vc.block ?_) | ((first | with_reducible refine Vc.skip ?_ | with_reducible refine Vc.exit ?_); dsimp only [thenK, blockK, Nat.beq]; (first | (refine hN _ _ ?_; clear hN N) | skip)) | (with_reducible intro _) | ((with_reducible refine And.intro ?_ ?_); (focus (first | ((repeat' with_reducible apply And.intro) <;> first | exact sideQ | (exact hLx _ (by simp))) | exact sd0))) | ((first | ((with_reducible refine askT_of ?_ (fun hb => ?_)); (focus (first | ((repeat' with_reducible apply And.intro) <;> first | exact sideQ | (exact hLx _ (by simp))) | exact sd0)); (try simp only [hb])) | ((with_reducible refine Vc.fin ?_); dsimp only [thenK, blockK, retK, resS, resOne, resAll]) | ((with_reducible refine Vc.hold ?_); first | refine Vc.regiont T0_ok GV9_ok ?_)); (try simp only [v8X, v8A, v8B, v8C, Nat.beq, Nat.ble, Int.reduceToNat, Int.reduceLE, Int.reduceLT, Nat.reduceLT, Nat.reduceLeDiff, Nat.reduceAdd, Nat.reduceMul, Nat.reduceSub, Int.reduceAdd, Int.reduceSub, Int.reduceMul, eq_self, decide_true, beq_self_eq_true, List.length_cons, List.length_nil, Nat.min_eq_left, IntKind.bits, tabs, GV9_set, d84, d85, d71, d49, d59, d60, d63, d241, d242, d244, d250, d240, d245, d255, g4, g6, hz, hbz, hcW, hcO, hcS, o1, o2, o3]); (try simp (disch := omega) only [v8W])) | ((with_reducible refine hN _ _ ?_); clear hN N; (try simp (disch := omega) only [v8W])))); (try ((with_reducible refine Fin.of ?_); (try with_reducible exact True.intro))))
          (repeat (first | ((refine Vc.cond T0_ok (t := true) (by rfl) (fun _ => ?_) (fun h => Bool.noConfusion h)); ((repeat (first | (with_reducible refine Vc.seq fun N hN => ?_) | (with_reducible refine Vc.block ?_) | ((first | with_reducible refine Vc.skip ?_ | with_reducible refine Vc.exit ?_); dsimp only [thenK, blockK, Nat.beq]; (first | (refine hN _ _ ?_; clear hN N) | skip)) | (with_reducible intro _) | ((with_reducible refine And.intro ?_ ?_); (focus (first | ((repeat' with_reducible apply And.intro) <;> first | exact sideQ | (exact hLx _ (by simp))) | exact sd0))) | ((first | ((with_reducible refine askT_of ?_ (fun hb => ?_)); (focus (first | ((repeat' with_reducible apply And.intro) <;> first | exact sideQ | (exact hLx _ (by simp))) | exact sd0)); (try simp only [hb])) | ((with_reducible refine Vc.fin ?_); dsimp only [thenK, blockK, retK, resS, resOne, resAll]) | ((with_reducible refine Vc.hold ?_); first | refine Vc.regiont T0_ok GV9_ok ?_)); (try simp only [v8X, v8A, v8B, v8C, Nat.beq, Nat.ble, Int.reduceToNat, Int.reduceLE, Int.reduceLT, Nat.reduceLT, Nat.reduceLeDiff, Nat.reduceAdd, Nat.reduceMul, Nat.reduceSub, Int.reduceAdd, Int.reduceSub, Int.reduceMul, eq_self, decide_true, beq_self_eq_true, List.length_cons, List.length_nil, Nat.min_eq_left, IntKind.bits, tabs, GV9_set, d84, d85, d71, d49, d59, d60, d63, d241, d242, d244, d250, d240, d245, d255, g4, g6, hz, hbz, hcW, hcO, hcS, o1, o2, o3]); (try simp (disch := omega) only [v8W])) | ((with_reducible refine hN _ _ ?_); clear hN N; (try simp (disch := omega) only [v8W])))); (try ((with_reducible refine Fin.of ?_); (try with_reducible exact True.intro))))) | ((refine Vc.cond T0_ok (t := false) (by rfl) (fun h => Bool.noConfusion h) (fun _ => ?_)); ((repeat (first | (with_reducible refine Vc.seq fun N hN => ?_) | (with_reducible refine Vc.block ?_) | ((first | with_reducible refine Vc.skip ?_ | with_reducible refine Vc.exit ?_); dsimp only [thenK, blockK, Nat.beq]; (first | (refine hN _ _ ?_; clear hN N) | skip)) | (with_reducible intro _) | ((with_reducible refine And.intro ?_ ?_); (focus (first | ((repeat' with_reducible apply And.intro) <;> first | exact sideQ | (exact hLx _ (by simp))) | exact sd0))) | ((first | ((with_reducible refine askT_of ?_ (fun hb => ?_)); (focus (first | ((repeat' with_reducible apply And.intro) <;> first | exact sideQ | (exact hLx _ (by simp))) | exact sd0)); (try simp only [hb])) | ((with_reducible refine Vc.fin ?_); dsimp only [thenK, blockK, retK, resS, resOne, resAll]) | ((with_reducible refine Vc.hold ?_); first | refine Vc.regiont T0_ok GV9_ok ?_)); (try simp only [v8X, v8A, v8B, v8C, Nat.beq, Nat.ble, Int.reduceToNat, Int.reduceLE, Int.reduceLT, Nat.reduceLT, Nat.reduceLeDiff, Nat.reduceAdd, Nat.reduceMul, Nat.reduceSub, Int.reduceAdd, Int.reduceSub, Int.reduceMul, eq_self, decide_true, beq_self_eq_true, List.length_cons, List.length_nil, Nat.min_eq_left, IntKind.bits, tabs, GV9_set, d84, d85, d71, d49, d59, d60, d63, d241, d242, d244, d250, d240, d245, d255, g4, g6, hz, hbz, hcW, hcO, hcS, o1, o2, o3]); (try simp (disch := omega) only [v8W])) | ((with_reducible refine hN _ _ ?_); clear hN N; (try simp (disch := omega) only [v8W])))); (try ((with_reducible refine Fin.of ?_); (try with_reducible exact True.intro))))) | ((with_reducible refine hN _ _ ?_); (clear hN N); ((repeat (first | (with_reducible refine Vc.seq fun N hN => ?_) | (with_reducible refine Vc.block ?_) | ((first | with_reducible refine Vc.skip ?_ | with_reducible refine Vc.exit ?_); dsimp only [thenK, blockK, Nat.beq]; (first | (refine hN _ _ ?_; clear hN N) | skip)) | (with_reducible intro _) | ((with_reducible refine And.intro ?_ ?_); (focus (first | ((repeat' with_reducible apply And.intro) <;> first | exact sideQ | (exact hLx _ (by simp))) | exact sd0))) | ((first | ((with_reducible refine askT_of ?_ (fun hb => ?_)); (focus (first | ((repeat' with_reducible apply And.intro) <;> first | exact sideQ | (exact hLx _ (by simp))) | exact sd0)); (try simp only [hb])) | ((with_reducible refine Vc.fin ?_); dsimp only [thenK, blockK, retK, resS, resOne, resAll]) | ((with_reducible refine Vc.hold ?_); first | refine Vc.regiont T0_ok GV9_ok ?_)); (try simp only [v8X, v8A, v8B, v8C, Nat.beq, Nat.ble, Int.reduceToNat, Int.reduceLE, Int.reduceLT, Nat.reduceLT, Nat.reduceLeDiff, Nat.reduceAdd, Nat.reduceMul, Nat.reduceSub, Int.reduceAdd, Int.reduceSub, Int.reduceMul, eq_self, decide_true, beq_self_eq_true, List.length_cons, List.length_nil, Nat.min_eq_left, IntKind.bits, tabs, GV9_set, d84, d85, d71, d49, d59, d60, d63, d241, d242, d244, d250, d240, d245, d255, g4, g6, hz, hbz, hcW, hcO, hcS, o1, o2, o3]); (try simp (disch := omega) only [v8W])) | ((with_reducible refine hN _ _ ?_); clear hN N; (try simp (disch := omega) only [v8W])))); (try ((with_reducible refine Fin.of ?_); (try with_reducible exact True.intro))))) | (clear hN N)))
        all_goals first
          | (refine ⟨(k + 1, (v1, _), (v2, _)), ⟨by simp only; omega, hR2, hW2⟩, ?_, ?_, by simp only; omega⟩ <;> ((try simp only [v8X, v8A, v8B, v8C, Nat.beq, Nat.ble, Int.reduceToNat, Int.reduceLE, Int.reduceLT, Nat.reduceLT, Nat.reduceLeDiff, Nat.reduceAdd, Nat.reduceMul, Nat.reduceSub, Int.reduceAdd, Int.reduceSub, Int.reduceMul, eq_self, decide_true, beq_self_eq_true, List.length_cons, List.length_nil, Nat.min_eq_left, IntKind.bits, tabs]); (repeat' with_reducible apply And.intro) <;> first | with_reducible exact True.intro | rfl | (congr 1 <;> omega)))
          | (rename_i y1 _; refine ⟨(k + 1, (y1, _), (v2, _)), ⟨by simp only; omega, hR2, hW2⟩, ?_, ?_, by simp only; omega⟩ <;> ((try simp only [v8X, v8A, v8B, v8C, Nat.beq, Nat.ble, Int.reduceToNat, Int.reduceLE, Int.reduceLT, Nat.reduceLT, Nat.reduceLeDiff, Nat.reduceAdd, Nat.reduceMul, Nat.reduceSub, Int.reduceAdd, Int.reduceSub, Int.reduceMul, eq_self, decide_true, beq_self_eq_true, List.length_cons, List.length_nil, Nat.min_eq_left, IntKind.bits, tabs]); (repeat' with_reducible apply And.intro) <;> first | with_reducible exact True.intro | rfl | (congr 1 <;> omega)))
          | (rename_i y1 _; refine ⟨(k + 1, (v1, _), (y1, _)), ⟨by simp only; omega, hR2, hW2⟩, ?_, ?_, by simp only; omega⟩ <;> ((try simp only [v8X, v8A, v8B, v8C, Nat.beq, Nat.ble, Int.reduceToNat, Int.reduceLE, Int.reduceLT, Nat.reduceLT, Nat.reduceLeDiff, Nat.reduceAdd, Nat.reduceMul, Nat.reduceSub, Int.reduceAdd, Int.reduceSub, Int.reduceMul, eq_self, decide_true, beq_self_eq_true, List.length_cons, List.length_nil, Nat.min_eq_left, IntKind.bits, tabs]); (repeat' with_reducible apply And.intro) <;> first | with_reducible exact True.intro | rfl | (congr 1 <;> omega)))
          | (rename_i y1 _ _ _; refine ⟨(k + 1, (v1, _), (y1, _)), ⟨by simp only; omega, hR2, hW2⟩, ?_, ?_, by simp only; omega⟩ <;> ((try simp only [v8X, v8A, v8B, v8C, Nat.beq, Nat.ble, Int.reduceToNat, Int.reduceLE, Int.reduceLT, Nat.reduceLT, Nat.reduceLeDiff, Nat.reduceAdd, Nat.reduceMul, Nat.reduceSub, Int.reduceAdd, Int.reduceSub, Int.reduceMul, eq_self, decide_true, beq_self_eq_true, List.length_cons, List.length_nil, Nat.min_eq_left, IntKind.bits, tabs]); (repeat' with_reducible apply And.intro) <;> first | with_reducible exact True.intro | rfl | (congr 1 <;> omega)))
          | (rename_i y1 _ _ _; refine ⟨(k + 1, (y1, _), (v2, _)), ⟨by simp only; omega, hR2, hW2⟩, ?_, ?_, by simp only; omega⟩ <;> ((try simp only [v8X, v8A, v8B, v8C, Nat.beq, Nat.ble, Int.reduceToNat, Int.reduceLE, Int.reduceLT, Nat.reduceLT, Nat.reduceLeDiff, Nat.reduceAdd, Nat.reduceMul, Nat.reduceSub, Int.reduceAdd, Int.reduceSub, Int.reduceMul, eq_self, decide_true, beq_self_eq_true, List.length_cons, List.length_nil, Nat.min_eq_left, IntKind.bits, tabs]); (repeat' with_reducible apply And.intro) <;> first | with_reducible exact True.intro | rfl | (congr 1 <;> omega)))
          | (rename_i y1 _ _; refine ⟨(k + 1, (y1, _), (v2, _)), ⟨by simp only; omega, hR2, hW2⟩, ?_, ?_, by simp only; omega⟩ <;> ((try simp only [v8X, v8A, v8B, v8C, Nat.beq, Nat.ble, Int.reduceToNat, Int.reduceLE, Int.reduceLT, Nat.reduceLT, Nat.reduceLeDiff, Nat.reduceAdd, Nat.reduceMul, Nat.reduceSub, Int.reduceAdd, Int.reduceSub, Int.reduceMul, eq_self, decide_true, beq_self_eq_true, List.length_cons, List.length_nil, Nat.min_eq_left, IntKind.bits, tabs]); (repeat' with_reducible apply And.intro) <;> first | with_reducible exact True.intro | rfl | (congr 1 <;> omega)))
          | (rename_i y1 _ _ _ _ y2 _; refine ⟨(k + 1, (y1, _), (y2, _)), ⟨by simp only; omega, hR2, hW2⟩, ?_, ?_, by simp only; omega⟩ <;> ((try simp only [v8X, v8A, v8B, v8C, Nat.beq, Nat.ble, Int.reduceToNat, Int.reduceLE, Int.reduceLT, Nat.reduceLT, Nat.reduceLeDiff, Nat.reduceAdd, Nat.reduceMul, Nat.reduceSub, Int.reduceAdd, Int.reduceSub, Int.reduceMul, eq_self, decide_true, beq_self_eq_true, List.length_cons, List.length_nil, Nat.min_eq_left, IntKind.bits, tabs]); (repeat' with_reducible apply And.intro) <;> first | with_reducible exact True.intro | rfl | (congr 1 <;> omega)))
          | (trace_state; done)
      · have d0 : decide (e.flt = 0) = false := decide_eq_false hf
        have hR0 : readsE e = [] := by unfold readsE; rw [d0]; rfl
        have hW0 : writesE e = [] := by unfold writesE; rw [d0]; rfl
        rw [hR0, List.append_nil] at tR
        rw [hW0, List.append_nil] at tW
        ((repeat (first | (with_reducible refine Vc.seq fun N hN => ?_) | (with_reducible refine Vc.block ?_) | ((first | with_reducible refine Vc.skip ?_ | with_reducible refine Vc.exit ?_); dsimp only [thenK, blockK, Nat.beq]; (first | (refine hN _ _ ?_; clear hN N) | skip)) | (with_reducible intro _) | ((with_reducible refine And.intro ?_ ?_); (focus (first | ((repeat' with_reducible apply And.intro) <;> first | exact sideQ | (exact hLx _ (by simp))) | exact sd0))) | ((first | ((with_reducible refine askT_of ?_ (fun hb => ?_)); (focus (first | ((repeat' with_reducible apply And.intro) <;> first | exact sideQ | (exact hLx _ (by simp))) | exact sd0)); (try simp only [hb])) | ((with_reducible refine Vc.fin ?_); dsimp only [thenK, blockK, retK, resS, resOne, resAll]) | ((with_reducible refine Vc.hold ?_); first | refine Vc.regiont T0_ok GV9_ok ?_)); (try simp only [v8X, v8A, v8B, v8C, Nat.beq, Nat.ble, Int.reduceToNat, Int.reduceLE, Int.reduceLT, Nat.reduceLT, Nat.reduceLeDiff, Nat.reduceAdd, Nat.reduceMul, Nat.reduceSub, Int.reduceAdd, Int.reduceSub, Int.reduceMul, eq_self, decide_true, beq_self_eq_true, List.length_cons, List.length_nil, Nat.min_eq_left, IntKind.bits, tabs, GV9_set, d1]); (try simp (disch := omega) only [v8W])) | ((with_reducible refine hN _ _ ?_); clear hN N; (try simp (disch := omega) only [v8W])))); (try ((with_reducible refine Fin.of ?_); (try with_reducible exact True.intro))))
        (refine Vc.cond T0_ok (t := true) (by rfl) (fun _ => ?_) (fun h => Bool.noConfusion h))
        ((repeat (first | (with_reducible refine Vc.seq fun N hN => ?_) | (with_reducible refine Vc.block ?_) | ((first | with_reducible refine Vc.skip ?_ | with_reducible refine Vc.exit ?_); dsimp only [thenK, blockK, Nat.beq]; (first | (refine hN _ _ ?_; clear hN N) | skip)) | (with_reducible intro _) | ((with_reducible refine And.intro ?_ ?_); (focus (first | ((repeat' with_reducible apply And.intro) <;> first | exact sideQ | (exact hLx _ (by simp))) | exact sd0))) | ((first | ((with_reducible refine askT_of ?_ (fun hb => ?_)); (focus (first | ((repeat' with_reducible apply And.intro) <;> first | exact sideQ | (exact hLx _ (by simp))) | exact sd0)); (try simp only [hb])) | ((with_reducible refine Vc.fin ?_); dsimp only [thenK, blockK, retK, resS, resOne, resAll]) | ((with_reducible refine Vc.hold ?_); first | refine Vc.regiont T0_ok GV9_ok ?_)); (try simp only [v8X, v8A, v8B, v8C, Nat.beq, Nat.ble, Int.reduceToNat, Int.reduceLE, Int.reduceLT, Nat.reduceLT, Nat.reduceLeDiff, Nat.reduceAdd, Nat.reduceMul, Nat.reduceSub, Int.reduceAdd, Int.reduceSub, Int.reduceMul, eq_self, decide_true, beq_self_eq_true, List.length_cons, List.length_nil, Nat.min_eq_left, IntKind.bits, tabs, GV9_set, tk, hgd, d0]); (try simp (disch := omega) only [v8W])) | ((with_reducible refine hN _ _ ?_); clear hN N; (try simp (disch := omega) only [v8W])))); (try ((with_reducible refine Fin.of ?_); (try with_reducible exact True.intro))))
        (refine Vc.cond T0_ok (t := true) (by rfl) (fun _ => ?_) (fun h => Bool.noConfusion h))
        ((repeat (first | (with_reducible refine Vc.seq fun N hN => ?_) | (with_reducible refine Vc.block ?_) | ((first | with_reducible refine Vc.skip ?_ | with_reducible refine Vc.exit ?_); dsimp only [thenK, blockK, Nat.beq]; (first | (refine hN _ _ ?_; clear hN N) | skip)) | (with_reducible intro _) | ((with_reducible refine And.intro ?_ ?_); (focus (first | ((repeat' with_reducible apply And.intro) <;> first | exact sideQ | (exact hLx _ (by simp))) | exact sd0))) | ((first | ((with_reducible refine askT_of ?_ (fun hb => ?_)); (focus (first | ((repeat' with_reducible apply And.intro) <;> first | exact sideQ | (exact hLx _ (by simp))) | exact sd0)); (try simp only [hb])) | ((with_reducible refine Vc.fin ?_); dsimp only [thenK, blockK, retK, resS, resOne, resAll]) | ((with_reducible refine Vc.hold ?_); first | refine Vc.regiont T0_ok GV9_ok ?_)); (try simp only [v8X, v8A, v8B, v8C, Nat.beq, Nat.ble, Int.reduceToNat, Int.reduceLE, Int.reduceLT, Nat.reduceLT, Nat.reduceLeDiff, Nat.reduceAdd, Nat.reduceMul, Nat.reduceSub, Int.reduceAdd, Int.reduceSub, Int.reduceMul, eq_self, decide_true, beq_self_eq_true, List.length_cons, List.length_nil, Nat.min_eq_left, IntKind.bits, tabs, GV9_set, tk, d0]); (try simp (disch := omega) only [v8W])) | ((with_reducible refine hN _ _ ?_); clear hN N; (try simp (disch := omega) only [v8W])))); (try ((with_reducible refine Fin.of ?_); (try with_reducible exact True.intro))))
        (repeat (first | ((refine Vc.cond T0_ok (t := true) (by rfl) (fun _ => ?_) (fun h => Bool.noConfusion h)); ((repeat (first | (with_reducible refine Vc.seq fun N hN => ?_) | (with_reducible refine Vc.block ?_) | ((first | with_reducible refine Vc.skip ?_ | with_reducible refine Vc.exit ?_); dsimp only [thenK, blockK, Nat.beq]; (first | (refine hN _ _ ?_; clear hN N) | skip)) | (with_reducible intro _) | ((with_reducible refine And.intro ?_ ?_); (focus (first | ((repeat' with_reducible apply And.intro) <;> first | exact sideQ | (exact hLx _ (by simp))) | exact sd0))) | ((first | ((with_reducible refine askT_of ?_ (fun hb => ?_)); (focus (first | ((repeat' with_reducible apply And.intro) <;> first | exact sideQ | (exact hLx _ (by simp))) | exact sd0)); (try simp only [hb])) | ((with_reducible refine Vc.fin ?_); dsimp only [thenK, blockK, retK, resS, resOne, resAll]) | ((with_reducible refine Vc.hold ?_); first | refine Vc.regiont T0_ok GV9_ok ?_)); (try simp only [v8X, v8A, v8B, v8C, Nat.beq, Nat.ble, Int.reduceToNat, Int.reduceLE, Int.reduceLT, Nat.reduceLT, Nat.reduceLeDiff, Nat.reduceAdd, Nat.reduceMul, Nat.reduceSub, Int.reduceAdd, Int.reduceSub, Int.reduceMul, eq_self, decide_true, beq_self_eq_true, List.length_cons, List.length_nil, Nat.min_eq_left, IntKind.bits, tabs, GV9_set, tk, d0]); (try simp (disch := omega) only [v8W])) | ((with_reducible refine hN _ _ ?_); clear hN N; (try simp (disch := omega) only [v8W])))); (try ((with_reducible refine Fin.of ?_); (try with_reducible exact True.intro))))) | ((refine Vc.cond T0_ok (t := false) (by rfl) (fun h => Bool.noConfusion h) (fun _ => ?_)); ((repeat (first | (with_reducible refine Vc.seq fun N hN => ?_) | (with_reducible refine Vc.block ?_) | ((first | with_reducible refine Vc.skip ?_ | with_reducible refine Vc.exit ?_); dsimp only [thenK, blockK, Nat.beq]; (first | (refine hN _ _ ?_; clear hN N) | skip)) | (with_reducible intro _) | ((with_reducible refine And.intro ?_ ?_); (focus (first | ((repeat' with_reducible apply And.intro) <;> first | exact sideQ | (exact hLx _ (by simp))) | exact sd0))) | ((first | ((with_reducible refine askT_of ?_ (fun hb => ?_)); (focus (first | ((repeat' with_reducible apply And.intro) <;> first | exact sideQ | (exact hLx _ (by simp))) | exact sd0)); (try simp only [hb])) | ((with_reducible refine Vc.fin ?_); dsimp only [thenK, blockK, retK, resS, resOne, resAll]) | ((with_reducible refine Vc.hold ?_); first | refine Vc.regiont T0_ok GV9_ok ?_)); (try simp only [v8X, v8A, v8B, v8C, Nat.beq, Nat.ble, Int.reduceToNat, Int.reduceLE, Int.reduceLT, Nat.reduceLT, Nat.reduceLeDiff, Nat.reduceAdd, Nat.reduceMul, Nat.reduceSub, Int.reduceAdd, Int.reduceSub, Int.reduceMul, eq_self, decide_true, beq_self_eq_true, List.length_cons, List.length_nil, Nat.min_eq_left, IntKind.bits, tabs, GV9_set, tk, d0]); (try simp (disch := omega) only [v8W])) | ((with_reducible refine hN _ _ ?_); clear hN N; (try simp (disch := omega) only [v8W])))); (try ((with_reducible refine Fin.of ?_); (try with_reducible exact True.intro))))) | ((with_reducible refine hN _ _ ?_); (clear hN N); ((repeat (first | (with_reducible refine Vc.seq fun N hN => ?_) | (with_reducible refine Vc.block ?_) | ((first | with_reducible refine Vc.skip ?_ | with_reducible refine Vc.exit ?_); dsimp only [thenK, blockK, Nat.beq]; (first | (refine hN _ _ ?_; clear hN N) | skip)) | (with_reducible intro _) | ((with_reducible refine And.intro ?_ ?_); (focus (first | ((repeat' with_reducible apply And.intro) <;> first | exact sideQ | (exact hLx _ (by simp))) | exact sd0))) | ((first | ((with_reducible refine askT_of ?_ (fun hb => ?_)); (focus (first | ((repeat' with_reducible apply And.intro) <;> first | exact sideQ | (exact hLx _ (by simp))) | exact sd0)); (try simp only [hb])) | ((with_reducible refine Vc.fin ?_); dsimp only [thenK, blockK, retK, resS, resOne, resAll]) | ((with_reducible refine Vc.hold ?_); first | refine Vc.regiont T0_ok GV9_ok ?_)); (try simp only [v8X, v8A, v8B, v8C, Nat.beq, Nat.ble, Int.reduceToNat, Int.reduceLE, Int.reduceLT, Nat.reduceLT, Nat.reduceLeDiff, Nat.reduceAdd, Nat.reduceMul, Nat.reduceSub, Int.reduceAdd, Int.reduceSub, Int.reduceMul, eq_self, decide_true, beq_self_eq_true, List.length_cons, List.length_nil, Nat.min_eq_left, IntKind.bits, tabs, GV9_set, tk, d0]); (try simp (disch := omega) only [v8W])) | ((with_reducible refine hN _ _ ?_); clear hN N; (try simp (disch := omega) only [v8W])))); (try ((with_reducible refine Fin.of ?_); (try with_reducible exact True.intro))))) | (clear hN N)))
        refine ⟨(k + 1, (v1, l1), (v2, l2)), ⟨by simp only; omega, by rw [tR]; exact h1, by rw [tW]; exact h2⟩, ?_, ?_, by simp only; omega⟩
        · ((try simp only [v8X, v8A, v8B, v8C, Nat.beq, Nat.ble, Int.reduceToNat, Int.reduceLE, Int.reduceLT, Nat.reduceLT, Nat.reduceLeDiff, Nat.reduceAdd, Nat.reduceMul, Nat.reduceSub, Int.reduceAdd, Int.reduceSub, Int.reduceMul, eq_self, decide_true, beq_self_eq_true, List.length_cons, List.length_nil, Nat.min_eq_left, IntKind.bits, tabs]); (repeat' with_reducible apply And.intro) <;> first | with_reducible exact True.intro | rfl | (congr 1 <;> omega))
        · ((try simp only [v8X, v8A, v8B, v8C, Nat.beq, Nat.ble, Int.reduceToNat, Int.reduceLE, Int.reduceLT, Nat.reduceLT, Nat.reduceLeDiff, Nat.reduceAdd, Nat.reduceMul, Nat.reduceSub, Int.reduceAdd, Int.reduceSub, Int.reduceMul, eq_self, decide_true, beq_self_eq_true, List.length_cons, List.length_nil, Nat.min_eq_left, IntKind.bits, tabs]); (repeat' with_reducible apply And.intro) <;> first | with_reducible exact True.intro | rfl | (congr 1 <;> omega))
    · have d1 : decide ((k : Int) < (n : Int)) = false := decide_eq_false (by omega)
      obtain rfl : k = n := by omega
      have eR : l.take k = l := List.take_of_length_le (by omega)
      rw [eR] at h1 h2
      ((repeat (first | (with_reducible refine Vc.seq fun N hN => ?_) | (with_reducible refine Vc.block ?_) | ((first | with_reducible refine Vc.skip ?_ | with_reducible refine Vc.exit ?_); dsimp only [thenK, blockK, Nat.beq]; (first | (refine hN _ _ ?_; clear hN N) | skip)) | (with_reducible intro _) | ((with_reducible refine And.intro ?_ ?_); (focus (first | ((repeat' with_reducible apply And.intro) <;> first | exact sideQ | (exact hLx _ (by simp))) | exact sd0))) | ((first | ((with_reducible refine askT_of ?_ (fun hb => ?_)); (focus (first | ((repeat' with_reducible apply And.intro) <;> first | exact sideQ | (exact hLx _ (by simp))) | exact sd0)); (try simp only [hb])) | ((with_reducible refine Vc.fin ?_); dsimp only [thenK, blockK, retK, resS, resOne, resAll]) | ((with_reducible refine Vc.hold ?_); first | refine Vc.regiont T0_ok GV9_ok ?_)); (try simp only [v8X, v8A, v8B, v8C, Nat.beq, Nat.ble, Int.reduceToNat, Int.reduceLE, Int.reduceLT, Nat.reduceLT, Nat.reduceLeDiff, Nat.reduceAdd, Nat.reduceMul, Nat.reduceSub, Int.reduceAdd, Int.reduceSub, Int.reduceMul, eq_self, decide_true, beq_self_eq_true, List.length_cons, List.length_nil, Nat.min_eq_left, IntKind.bits, tabs, GV9_set, d1]); (try simp (disch := omega) only [v8W])) | ((with_reducible refine hN _ _ ?_); clear hN N; (try simp (disch := omega) only [v8W])))); (try ((with_reducible refine Fin.of ?_); (try with_reducible exact True.intro))))
      (refine Vc.cond T0_ok (t := false) (by rfl) (fun h => Bool.noConfusion h) (fun _ => ?_))
      ((repeat (first | (with_reducible refine Vc.seq fun N hN => ?_) | (with_reducible refine Vc.block ?_) | ((first | with_reducible refine Vc.skip ?_ | with_reducible refine Vc.exit ?_); dsimp only [thenK, blockK, Nat.beq]; (first | (refine hN _ _ ?_; clear hN N) | skip)) | (with_reducible intro _) | ((with_reducible refine And.intro ?_ ?_); (focus (first | ((repeat' with_reducible apply And.intro) <;> first | exact sideQ | (exact hLx _ (by simp))) | exact sd0))) | ((first | ((with_reducible refine askT_of ?_ (fun hb => ?_)); (focus (first | ((repeat' with_reducible apply And.intro) <;> first | exact sideQ | (exact hLx _ (by simp))) | exact sd0)); (try simp only [hb])) | ((with_reducible refine Vc.fin ?_); dsimp only [thenK, blockK, retK, resS, resOne, resAll]) | ((with_reducible refine Vc.hold ?_); first | refine Vc.regiont T0_ok GV9_ok ?_)); (try simp only [v8X, v8A, v8B, v8C, Nat.beq, Nat.ble, Int.reduceToNat, Int.reduceLE, Int.reduceLT, Nat.reduceLT, Nat.reduceLeDiff, Nat.reduceAdd, Nat.reduceMul, Nat.reduceSub, Int.reduceAdd, Int.reduceSub, Int.reduceMul, eq_self, decide_true, beq_self_eq_true, List.length_cons, List.length_nil, Nat.min_eq_left, IntKind.bits, tabs, GV9_set]); (try simp (disch := omega) only [v8W])) | ((with_reducible refine hN _ _ ?_); clear hN N; (try simp (disch := omega) only [v8W])))); (try ((with_reducible refine Fin.of ?_); (try with_reducible exact True.intro))))
      (refine hN1 _ _ ?_; (try clear hN N); clear hN1 N1)
      ((repeat (first | (with_reducible refine Vc.seq fun N hN => ?_) | (with_reducible refine Vc.block ?_) | ((first | with_reducible refine Vc.skip ?_ | with_reducible refine Vc.exit ?_); dsimp only [thenK, blockK, Nat.beq]; (first | (refine hN _ _ ?_; clear hN N) | skip)) | (with_reducible intro _) | ((with_reducible refine And.intro ?_ ?_); (focus (first | ((repeat' with_reducible apply And.intro) <;> first | exact sideQ | (exact hLx _ (by simp))) | exact sd0))) | ((first | ((with_reducible refine askT_of ?_ (fun hb => ?_)); (focus (first | ((repeat' with_reducible apply And.intro) <;> first | exact sideQ | (exact hLx _ (by simp))) | exact sd0)); (try simp only [hb])) | ((with_reducible refine Vc.fin ?_); dsimp only [thenK, blockK, retK, resS, resOne, resAll]) | ((with_reducible refine Vc.hold ?_); first | refine Vc.regiont T0_ok GV9_ok ?_)); (try simp only [v8X, v8A, v8B, v8C, Nat.beq, Nat.ble, Int.reduceToNat, Int.reduceLE, Int.reduceLT, Nat.reduceLT, Nat.reduceLeDiff, Nat.reduceAdd, Nat.reduceMul, Nat.reduceSub, Int.reduceAdd, Int.reduceSub, Int.reduceMul, eq_self, decide_true, beq_self_eq_true, List.length_cons, List.length_nil, Nat.min_eq_left, IntKind.bits, tabs, GV9_set, ]); (try simp (disch := omega) only [v8W])) | ((with_reducible refine hN _ _ ?_); clear hN N; (try simp (disch := omega) only [v8W])))); (try ((with_reducible refine Fin.of ?_); (try with_reducible exact True.intro))))
      exact ⟨⟨⟨trivial, trivial⟩, trivial⟩, v1, l1, v2, l2, 3, 4, h1.setL (by omega), h2.setL (by omega), rfl, by decide, rfl, rfl⟩
noncomputable def g_rSteps (args : List SV) (m : List Blk) : CR :=
  match args with
  | [.gh a n c (.rows 32 rs)] => .grw ((∃ l, EvL (HM m) a n c rs l) ∧ n ≤ 100000) FtX (FtQ ((evOf rs).flatMap readsE) ((evOf rs).flatMap writesE)) FtF (fun x => .heap x.h)
  | _ => .none
theorem g_rSteps_ok (w0 : World) (B : List Nat) (args : List SV) (m : List Blk) : CROk Try.prog w0 B 19 args m (g_rSteps args m) := by
  unfold g_rSteps
  split
  · rename_i a n c rs
    rintro ⟨⟨l, hE⟩, hM⟩ w hm
    rw [evOf_eq hE.rows]
    exact grw_foot Try.func19 rfl rfl hm (rSteps_vc a n c rs l w (hE.mono fun b o h => hm.hm h) hM)
  · exact trivial
end Go.Proofs.Ytbdigomddnpllaa
