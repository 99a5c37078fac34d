/-
 Package trace: Steps, walked. No condition.
-/
import Derived.Test.YtpebhddacbdicaaV7
set_option maxHeartbeats 4000000
set_option linter.defProp false
set_option linter.unusedVariables false
set_option linter.unusedSimpArgs false
namespace Go.Proofs.Ytpebhddacbdicaa
open Go.RowKit
def readsE (e : Evt) : List (List Int) := cond (decide (e.flt = 0)) (rdE e) []
def writesE (e : Evt) : List (List Int) := cond (decide (e.flt = 0)) (wrE e) []
theorem rdE_len (e : Evt) : (readsE e).length ≤ 2 := by
 unfold readsE rdE
 cases decide (e.flt = 0) <;> cases decide (e.op = 84) <;> cases decide (e.op = 71) <;> cases (isSee e.op || isCall e.op) <;> simp
theorem wrE_len (e : Evt) : (writesE e).length ≤ 2 := by
 unfold writesE wrE
 cases decide (e.flt = 0) <;> cases decide (e.op = 85) <;> cases (isMake e.op || (isCall e.op && !eqW e.val 0)) <;> simp
theorem flat_len2 {f : Evt → List (List Int)} (hf : ∀ e, (f e).length ≤ 2) : ∀ l : List Evt, (l.flatMap f).length ≤ 2 * l.length
 | [] => by simp
 | e :: l => by
  have h1 := hf e
  have h2 := flat_len2 hf l
  simp only [List.flatMap_cons, List.length_append, List.length_cons]; omega
theorem evr_ok {H : Nat → Obj → Prop} {r : List SV} {e : Evt} (h : EvR H r e) : (∀ c ∈ readsE e, okP c) ∧ ∀ c ∈ writesE e, okP c := by
 obtain ⟨s0, s1, s2, s3, s4, s5, s6, s7, s8, s9, s10, s11, s12, s13, s14, s15, s16, s17, s18, s19, x0, x1, x2, x3, y0, y1, y2, y3, pa, pn, pc, rfl, g1, g2, g3, g4, g5, g6, g7, g8, g9, g10, g11, g12, g13, g14, g15, g16, g17⟩ := h
 have hsl : e.self.length = 20 := by rw [g1]; rfl
 have oW := okP_W hsl g2
 have oO := okP_W (bytI_len e.arg 20) (bytI_all e.arg 20)
 have oS := okP_S hsl g2 e.arg
 have one : ∀ a : List Int, okP a → ∀ c ∈ [a], okP c := fun a ha c hc => by rw [List.mem_singleton] at hc; rw [hc]; exact ha
 have non : ∀ c ∈ ([] : List (List Int)), okP c := fun c hc => absurd hc List.not_mem_nil
 constructor
 ·unfold readsE rdE
  cases decide (e.flt = 0)
  ·exact non
  ·cases decide (e.op = 84)
   ·cases decide (e.op = 71)
    ·cases (isSee e.op || isCall e.op)
     ·exact non
     ·exact one _ oO
    ·exact one _ oW
   ·exact one _ oS
 ·unfold writesE wrE
  cases decide (e.flt = 0)
  ·exact non
  ·cases decide (e.op = 85)
   ·cases (isMake e.op || (isCall e.op && !eqW e.val 0))
    ·exact non
    ·exact ok_two oW oO
   ·exact one _ oS
theorem evs_ok {H : Nat → Obj → Prop} {rs : List (List SV)} {l : List Evt} (h : EvsR H rs l) : (∀ c ∈ l.flatMap readsE, okP c) ∧ ∀ c ∈ l.flatMap writesE, okP c := by
 have hq : ∀ e ∈ l, ∃ r, EvR H r e := fun e he => by
  obtain ⟨i, hi⟩ := List.getElem?_of_mem he
  have hlt := (List.getElem?_eq_some_iff.1 hi).1
  exact ⟨_, h.2.2 i _ e (List.getElem?_eq_getElem (by have := h.1; omega)) hi⟩
 constructor
 ·intro c hc
  obtain ⟨e, he, hce⟩ := List.mem_flatMap.1 hc
  obtain ⟨r, hr⟩ := hq e he
  exact (evr_ok hr).1 c hce
 ·intro c hc
  obtain ⟨e, he, hce⟩ := List.mem_flatMap.1 hc
  obtain ⟨r, hr⟩ := hq e he
  exact (evr_ok hr).2 c hce
theorem flat_take {f : Evt → List (List Int)} {l : List Evt} {k : Nat} {e : Evt} (h : l[k]? = some e) : (l.take (k + 1)).flatMap f = (l.take k).flatMap f ++ f e := by
 rw [List.take_add_one, h, List.flatMap_append]
 simp
noncomputable def g_take (args : List SV) (m : List Blk) : CR :=
 match args, m with
 | [.agg [.mpv 0 b1, .mpv 1 b2], .agg r], .mp c1 k1 f1 :: .mp c2 k2 f2 :: rest => .rel (c1 = b1 ∧ c2 = b2 ∧ k1 = ck_72 ∧ k2 = ck_72 ∧ ∃ e, EvR (HM (.mp c1 k1 f1 :: .mp c2 k2 f2 :: rest)) r e) Unit (fun _ => True) (fun _ => .tup []) (fun _ => .mp c1 k1 (addF f1 (rdE (evtOf r))) :: .mp c2 k2 (addF f2 (wrE (evtOf r))) :: rest)
 | _, _ => .none
theorem g_take_ok (w0 : World) (B : List Nat) (args : List SV) (m : List Blk) : CROk Try.prog w0 B 40 args m (g_take args m) := by
 unfold g_take
 split
 ·rename_i b1 b2 r c1 k1 f1 c2 k2 f2 rest
  rintro ⟨rfl, rfl, rfl, rfl, e, hR⟩ w hm
  rw [evtOf_eq hR]
  exact calls_pre (A := Unit) (Q := fun _ => True) (Fv := fun _ => .tup []) (pre := [.mp c1 ck_72 f1, .mp c2 ck_72 f2]) (rest := rest) (pre' := fun _ => [.mp c1 ck_72 (addF f1 (rdE e)), .mp c2 ck_72 (addF f2 (wrE e))]) Try.func40 rfl rfl hm
   (fun x hx => by simp only [List.mem_cons, List.not_mem_nil, or_false] at hx; rcases hx with rfl | rfl <;> rfl) (fun _ _ x hx => by simp only [List.mem_cons, List.not_mem_nil, or_false] at hx; rcases hx with rfl | rfl <;> rfl) rfl
   (fun h => (take_vc c1 c2 f1 f2 r e hR w h).mono fun en w' ⟨u, hu, v', m', hv, hm', hvv, hp⟩ => ⟨u, hu, v', m', hv, hm', (), trivial, hvv, hp⟩)
 ·exact trivial
theorem bget_bset : ∀ {m : List Blk} {i : Nat} (e : Blk), i < m.length → bget (bset m i e) i = e
 | [], _, _, h => absurd h (Nat.not_lt_zero _)
 | _ :: _, 0, _, _ => rfl
 | _ :: l, i + 1, e, h => bget_bset (m := l) (i := i) e (by simpa using h)
structure FtX where
 l1 : List (List Int)
 l2 : List (List Int)
 a1 : Option Addr
 a2 : Option Addr
 c1 : Nat
 c2 : Nat
 h : List (Nat × Obj)
structure FtQ (R Wr : List (List Int)) (x : FtX) : Prop where
 s1 : SetL (addF noF R) x.l1
 s2 : SetL (addF noF Wr) x.l2
 p1 : PlL (Hl x.h) x.a1 x.l1.length x.c1 x.l1
 p2 : PlL (Hl x.h) x.a2 x.l2.length x.c2 x.l2
def FtF (x : FtX) : SV := .agg [.gh x.a1 x.l1.length x.c1 (.rows 25 (x.l1.map plL)), .gh x.a2 x.l2.length x.c2 (.rows 25 (x.l2.map plL))]
theorem grw_foot {P : Program} {f : FuncId} {fn : Func} {args : Array Value} {w0 w : World} {B : List Nat} {m : List Blk} {R Wr : List (List Int)} (hf : P.funcs[f]? = some fn) (hn : (fn.name == "runtime.NumGoroutine") = false) (hb : fn.body.isNone = false) (hm : MemOk w0 B m w)
  (h : Calls P f args w (fun en w' => ∃ u, en = .returned u ∧ ∃ v' m', u = cv v' ∧ MemOk w [] m' w' ∧ ∃ (s1 : Value) (l1 : List (List Int)) (s2 : Value) (l2 : List (List Int)) (i j : Nat), SetL (addF noF R) l1 ∧ SetL (addF noF Wr) l2 ∧ v' = .agg [.own i s1 l1.length, .own j s2 l2.length] ∧ i ≠ j ∧
   bget m' i = .own s1 l1.length 72 25 (.rows 25 (l1.map plL)) ∧ bget m' j = .own s2 l2.length 72 25 (.rows 25 (l2.map plL)))) :
  Enters P f args w fun u w' => ∃ a : FtX, FtQ R Wr a ∧ u = cv (FtF a) ∧ w.grownBy w' .none ∧ (Blk.heap a.h).ok w0 B w' ∧ (∀ b ∈ (Blk.heap a.h).nums, w.heap.size ≤ b) ∧ (Blk.heap a.h).nums.Nodup := by
 refine .inr ⟨enter_run hf hn hb _ w, h.mono fun e w' ⟨u, he, v', m', hu, hm', s1, l1, s2, l2, i, j, hS1, hS2, hv, hij, hi, hj⟩ => ?_⟩
 have h0 := hm'.heap0
 have li : i < m'.length := bget_lt (by rw [hi]; simp)
 have lj : j < m'.length := bget_lt (by rw [hj]; simp)
 have hi0 : bget (m' ++ [.heap []]) i = _ := (bget_appL _ li).trans hi
 have hk0 : bget (m' ++ [.heap []]) m'.length = .heap [] := bget_appR _ _
 obtain ⟨q1, a1, c1, e1, d1, n1, x1, z1, L1, hm1⟩ := freeze h0 hi0 hk0
 have hj1 : bget (bset (bset (m' ++ [.heap []]) i .gone) m'.length (.heap ([] ++ q1))) j = .own s2 l2.length 72 25 (.rows 25 (l2.map plL)) := by
  rw [bget_set_ne _ _ (by omega), bget_set_ne _ _ (Ne.symm hij), bget_appL _ lj]; exact hj
 have hlen1 : (bset (m' ++ [Blk.heap []]) i .gone).length = m'.length + 1 := by rw [bset_length, List.length_append]; rfl
 have hk1 : bget (bset (bset (m' ++ [.heap []]) i .gone) m'.length (.heap ([] ++ q1))) m'.length = .heap ([] ++ q1) := bget_bset _ (by omega)
 obtain ⟨q2, a2, c2, e2, d2, n2, x2, z2, L2, hm2⟩ := freeze hm1 hj1 hk1
 have hk2 : bget (bset (bset (bset (bset (m' ++ [.heap []]) i .gone) m'.length (.heap ([] ++ q1))) j .gone) m'.length (.heap (([] ++ q1) ++ q2))) m'.length = .heap (([] ++ q1) ++ q2) := bget_bset _ (by rw [bset_length, bset_length]; omega)
 have hl := hm2.each _ (bget_mem hk2 (by simp))
 have hfresh : ∀ p ∈ ([] ++ q1) ++ q2, w.heap.size ≤ p.1 := fun p hp => (hl p hp).2.resolve_right List.not_mem_nil
 rw [List.nil_append] at hl hfresh hk2
 refine ⟨u, he, ⟨l1, l2, a1, a2, c1, c2, q1 ++ q2⟩, ⟨hS1, hS2, ⟨rfl, n1, d1, L1.mono fun b o hbo => List.mem_append_left _ hbo, hS1.ok⟩, ⟨rfl, n2, d2, L2.mono fun b o hbo => List.mem_append_right _ hbo, hS2.ok⟩⟩, ?_, hm'.grown, fun p hp => ⟨(hl p hp).1, .inl (Nat.le_trans hm.size (hfresh p hp))⟩, fun b hb => ?_, ?_⟩
 ·rw [hu, hv, e1, e2]; rfl
 ·obtain ⟨p, hp, rfl⟩ := List.mem_map.1 hb
  exact hfresh p hp
 ·have := nums_nodup (i := m'.length) hm2.nodup
  rw [List.nil_append, hk2] at this
  exact this
noncomputable def GV8 : Ctr := fun f args m => match f with
 | 29 => g_From args m
 | 63 => g_rFrom args m
 | 45 => g_lowByte args m
 | 28 => g_Cmp args m
 | 27 => g_Sub args m
 | 40 => g_take args m
 | 41 => g_Sorted args m
 | _ => .none
theorem GV8_ok : GOk Try.prog GV8 := by
 intro w0 B f args m; unfold GV8; split
 ·exact g_From_ok _ _ _ _
 ·exact g_rFrom_ok _ _ _ _
 ·exact g_lowByte_ok _ _ _ _
 ·exact g_Cmp_ok _ _ _ _
 ·exact g_Sub_ok _ _ _ _
 ·exact g_take_ok _ _ _ _
 ·exact g_Sorted_ok _ _ _ _
 ·exact trivial
theorem GV8_From : GV8 29 = g_From := by funext args m; rfl
theorem GV8_rFrom : GV8 63 = g_rFrom := by funext args m; rfl
theorem GV8_lowByte : GV8 45 = g_lowByte := by funext args m; rfl
theorem GV8_Cmp : GV8 28 = g_Cmp := by funext args m; rfl
theorem GV8_Sub : GV8 27 = g_Sub := by funext args m; rfl
theorem GV8_take : GV8 40 = g_take := by funext args m; rfl
theorem GV8_Sorted : GV8 41 = g_Sorted := by funext args m; rfl
def GV8_set := And.intro (And.intro (And.intro (@GV8_From) (And.intro (@g_From.eq_def) (@GV8_rFrom))) (And.intro (And.intro (@g_rFrom.eq_def) (@GV8_lowByte)) (And.intro (@g_lowByte.eq_def) (@GV8_Cmp)))) (And.intro (And.intro (@g_Cmp.eq_def) (And.intro (@GV8_Sub) (@g_Sub.eq_def))) (And.intro (And.intro (@GV8_take) (@g_take.eq_def)) (And.intro (@GV8_Sorted) (@g_Sorted.eq_def))))

set_option maxRecDepth 20000 in
theorem tSteps_vc (a : Option Addr) (n c : Nat) (rs : List (List SV)) (l : List Evt) (w : World) (hE : EvL (H0 w) a n c rs l) (hM : n ≤ 100000) :
  Calls Try.prog 18 (cvs [.gh a n c (.rows 32 rs)]).toArray w (fun en w' => ∃ u, en = .returned u ∧ ∃ v' m', u = cv v' ∧ MemOk w [] m' w' ∧ ∃ (s1 : Value) (l1 : List (List Int)) (s2 : Value) (l2 : List (List Int)) (i j : Nat), SetL (addF noF (l.flatMap readsE)) l1 ∧ SetL (addF noF (l.flatMap writesE)) l2 ∧ v' = .agg [.own i s1 l1.length, .own j s2 l2.length] ∧ i ≠ j ∧
   bget m' i = .own s1 l1.length 72 25 (.rows 25 (l1.map plL)) ∧ bget m' j = .own s2 l2.length 72 25 (.rows 25 (l2.map plL))) := by
 obtain ⟨hl, hn, ha, hm, hL, r1, r2, r3⟩ := hE
 have hok := evs_ok ⟨r1, r2, r3⟩
 have hlr := flat_len2 rdE_len l
 have hlw := flat_len2 wrE_len l
 have hfr : Few (addF noF (l.flatMap readsE)) := few_add hok.1 (by omega)
 have hfw : Few (addF noF (l.flatMap writesE)) := few_add hok.2 (by omega)
 unfold maxLen at hm
 have hLx : ∀ m, allOld w ∈ m → LiesH (HM m) a (cc (.rows 32 rs)) := fun m hin => hL.mono (H0.hm hin)
 refine Vc.calls T0_ok Try.func18 rfl rfl (args := [.gh a n c (.rows 32 rs)]) (k := 28) rfl (old_start w) ?_; change Vc _ _ (c8 (.gh a n c (.rows 32 rs)) .undef .undef .undef .undef .undef .undef .undef (c8 .undef .undef .undef .undef .undef .undef .undef .undef (c8 .undef .undef .undef .undef .undef .undef .undef .undef ([.undef, .undef, .undef, .undef, .undef])))) _ _
 ((repeat (first | (with_reducible first | refine Vc.seq fun N hN => ?_ | refine Vc.block ?_) | (with_reducible intro _) | ((with_reducible refine And.intro ?_ ?_); exact sX3) | ((first | ((with_reducible refine Vc.hold ?_); first | refine Vc.regiont T0_ok GV8_ok ?_)); (try simp only [v8Y, Nat.beq, Nat.ble, seval, tabs, GV8_set, ])) | ((with_reducible refine hN _ _ ?_); clear hN N))))
 (revert N; intro N1 hN1)
 rename_i b2 ba bb b3
 refine Vc.remem (α := Unit) (fun _ => True) (fun _ => c8 (.gh a n c (.rows 32 rs)) .undef (.ptr 3 b2 0 0 0 0) (.ptr 4 b3 0 0 0 0) .undef .undef (.mpv 0 ba) (.mpv 1 bb) (c8 (.agg [.mpv 0 ba, .mpv 1 bb]) (.gh a n c (.rows 32 rs)) (.int .i64 (n : Nat)) (.int .i64 0) .undef .undef .undef .undef (c8 .undef .undef .undef .undef .undef .undef .undef .undef [.undef, .undef, .undef, .undef, .undef])))
  (fun _ => [.mp ba ck_72 noF, .mp bb ck_72 noF, allOld w, .blk b2 38 (.cells [.nilsl, .nilsl]), .blk b3 68 (.cells [.mpv 0 ba, .mpv 1 bb])]) (fun w0 B w2 hm2 => ⟨(), trivial, rfl, ?_⟩) (fun _ _ => ?_)
 ·have h1 := hm2.perm ((List.perm_append_comm (l₁ := [_, _]) (l₂ := [_, _])).append_right [_])
  refine ⟨h1.os, h1.tape, h1.output, h1.size, h1.old, fun e he => ?_, h1.nodup⟩
  simp only [List.mem_cons, List.not_mem_nil, or_false] at he
  rcases he with rfl | rfl | rfl | rfl | rfl
  ·exact h1.each (.mp ba ck_72 fun _ => none) (by simp)
  ·exact h1.each (.mp bb ck_72 fun _ => none) (by simp)
  ·exact h1.each (allOld w) (by simp)
  ·exact h1.each (.blk b2 38 (.cells [.nilsl, .nilsl])) (by simp)
  ·exact h1.each (.blk b3 68 (.cells [.mpv 2 ba, .mpv 3 bb])) (by simp)
 refine Vc.loop 5 22 (fun (k : Nat) => [(9, .gh a n c (.rows 32 rs)), (10, .int .i64 (n : Nat)), (11, .int .i64 (k : Nat))]) (fun k => [.mp ba ck_72 (addF noF ((l.take k).flatMap readsE)), .mp bb ck_72 (addF noF ((l.take k).flatMap writesE)), allOld w, .blk b2 38 (.cells [.nilsl, .nilsl]), .blk b3 68 (.cells [.mpv 0 ba, .mpv 1 bb])]) (fun k => k ≤ n) (fun k => n - k) 0 ⟨Nat.zero_le _, ?_, ?_⟩ (fun k junk hk => ?_)
 ·((try simp only [v8Y, Nat.beq, Nat.ble, seval, tabs]); (repeat' with_reducible apply And.intro) <;> first | with_reducible exact True.intro | rfl | with_reducible rfl | (congr 1 <;> omega) | trivial)
 ·((try simp only [v8Y, Nat.beq, Nat.ble, seval, tabs]); (repeat' with_reducible apply And.intro) <;> first | with_reducible exact True.intro | (rw [List.take_zero, List.flatMap_nil, addF_nil]) | with_reducible rfl | (congr 1 <;> omega) | trivial)
 ·(simp only [v8Y, Nat.beq, Nat.ble, seval, tabs])
  by_cases hc1 : k < n
  ·have d1 : decide ((k : Int) < (n : Int)) = true := decide_eq_true (by omega)
   have tk : ((k : Nat) : Int).toNat = k := by omega
   have e1 := List.getElem?_eq_getElem (show k < rs.length by omega)
   have e2 := List.getElem?_eq_getElem (show k < l.length by omega)
   have hp := r3 k _ _ e1 e2
   have hgd := getD_of e1
   have tR := flat_take (f := readsE) e2
   have tW := flat_take (f := writesE) e2
   have hev := evtOf_eq hp
   have hRx : ∀ m, allOld w ∈ m → EvR (HM m) rs[k] l[k] := fun m hin => hp.mono (H0.hm hin)
   generalize rs[k] = r at *
   generalize l[k] = e at *
   have hp2 := hp
   obtain ⟨s0, s1, s2, s3, s4, s5, s6, s7, s8, s9, s10, s11, s12, s13, s14, s15, s16, s17, s18, s19, x0, x1, x2, x3, y0, y1, y2, y3, pa, pn, pc, rfl, g1, g2, g3, g4, g5, g6, g7, g8, g9, g10, g11, g12, g13, g14, g15, g16, g17⟩ := hp2
   by_cases hf : e.flt = 0
   ·have d0 : decide (e.flt = 0) = true := decide_eq_true hf
    have hR0 : readsE e = rdE e := by unfold readsE; rw [d0]; rfl
    have hW0 : writesE e = wrE e := by unfold writesE; rw [d0]; rfl
    rw [hR0] at tR
    rw [hW0] at tW
    ((repeat (first | (with_reducible refine Vc.seq fun N hN => ?_) | ((with_reducible refine And.intro ?_ ?_); exact sX3) | ((first | ((with_reducible refine Vc.hold ?_); first | refine Vc.regiont T0_ok GV8_ok ?_)); (try simp only [v8Y, Nat.beq, Nat.ble, seval, tabs, GV8_set, d1])) | ((with_reducible refine hN _ _ ?_); clear hN N))))
    (refine Vc.cond T0_ok (t := true) (by rfl) (fun _ => ?_) (fun h => Bool.noConfusion h))
    ((repeat (first | (with_reducible first | refine Vc.seq fun N hN => ?_ | refine Vc.block ?_) | ((first | with_reducible refine Vc.skip ?_); dsimp only [thenK, blockK, Nat.beq]; (first | (refine hN _ _ ?_; clear hN N))) | (with_reducible intro _) | ((with_reducible refine And.intro ?_ ?_); exact sX3) | ((first | ((with_reducible refine Vc.hold ?_); first | refine Vc.regiont T0_ok GV8_ok ?_)); (try simp only [v8Y, Nat.beq, Nat.ble, seval, tabs, GV8_set, tk, hgd, d0, hev, addF_add, ← tR, ← tW])) | ((with_reducible refine hN _ _ ?_); clear hN N))))
    (refine Vc.cond T0_ok (t := true) (by rfl) (fun _ => ?_) (fun h => Bool.noConfusion h))
    ((repeat (first | (with_reducible first | refine Vc.seq fun N hN => ?_ | refine Vc.block ?_) | ((first | with_reducible refine Vc.skip ?_); dsimp only [thenK, blockK, Nat.beq]; (first | (refine hN _ _ ?_; clear hN N))) | (with_reducible intro _) | ((with_reducible refine And.intro ?_ ?_); exact sX3) | ((first | ((with_reducible refine Vc.hold ?_); first | refine Vc.regiont T0_ok GV8_ok ?_)); (try simp only [v8Y, Nat.beq, Nat.ble, seval, tabs, GV8_set, tk, hgd, d0, hev, addF_add, ← tR, ← tW])) | ((with_reducible refine hN _ _ ?_); clear hN N))))
    refine ⟨k + 1, by omega, ?_, ?_, by omega⟩
    ·((try simp only [v8Y, Nat.beq, Nat.ble, seval, tabs]); (repeat' with_reducible apply And.intro) <;> first | with_reducible exact True.intro | rfl | (congr 1 <;> omega))
    ·((try simp only [v8Y, Nat.beq, Nat.ble, seval, tabs]); (repeat' with_reducible apply And.intro) <;> first | with_reducible exact True.intro | rfl | (congr 1 <;> omega))
   ·have d0 : decide (e.flt = 0) = false := decide_eq_false hf
    have hR0 : readsE e = [] := by unfold readsE; rw [d0]; rfl
    have hW0 : writesE e = [] := by unfold writesE; rw [d0]; rfl
    rw [hR0, List.append_nil] at tR
    rw [hW0, List.append_nil] at tW
    ((repeat (first | (with_reducible refine Vc.seq fun N hN => ?_) | ((with_reducible refine And.intro ?_ ?_); exact sX3) | ((first | ((with_reducible refine Vc.hold ?_); first | refine Vc.regiont T0_ok GV8_ok ?_)); (try simp only [v8Y, Nat.beq, Nat.ble, seval, tabs, GV8_set, d1])) | ((with_reducible refine hN _ _ ?_); clear hN N))))
    (refine Vc.cond T0_ok (t := true) (by rfl) (fun _ => ?_) (fun h => Bool.noConfusion h))
    ((repeat (first | (with_reducible first | refine Vc.seq fun N hN => ?_ | refine Vc.block ?_) | ((first | with_reducible refine Vc.skip ?_); dsimp only [thenK, blockK, Nat.beq]; (first | (refine hN _ _ ?_; clear hN N))) | (with_reducible intro _) | ((with_reducible refine And.intro ?_ ?_); exact sX3) | ((first | ((with_reducible refine Vc.hold ?_); first | refine Vc.regiont T0_ok GV8_ok ?_)); (try simp only [v8Y, Nat.beq, Nat.ble, seval, tabs, GV8_set, tk, hgd, d0])) | ((with_reducible refine hN _ _ ?_); clear hN N))))
    (refine Vc.cond T0_ok (t := false) (by rfl) (fun h => Bool.noConfusion h) (fun _ => ?_))
    ((repeat (first | (with_reducible first | refine Vc.seq fun N hN => ?_ | refine Vc.block ?_) | ((first | with_reducible refine Vc.skip ?_); dsimp only [thenK, blockK, Nat.beq]; (first | (refine hN _ _ ?_; clear hN N))) | (with_reducible intro _) | ((with_reducible refine And.intro ?_ ?_); exact sX3) | ((first | ((with_reducible refine Vc.hold ?_); first | refine Vc.regiont T0_ok GV8_ok ?_)); (try simp only [v8Y, Nat.beq, Nat.ble, seval, tabs, GV8_set, tk, hgd, d0])) | ((with_reducible refine hN _ _ ?_); clear hN N))))
    refine ⟨k + 1, by omega, ?_, ?_, by omega⟩
    ·((try simp only [v8Y, Nat.beq, Nat.ble, seval, tabs]); (repeat' with_reducible apply And.intro) <;> first | with_reducible exact True.intro | rfl | (congr 1 <;> omega))
    ·rw [tR, tW]
     ((try simp only [v8Y, Nat.beq, Nat.ble, seval, tabs]); (repeat' with_reducible apply And.intro) <;> first | with_reducible exact True.intro | rfl | (congr 1 <;> omega))
  ·have d1 : decide ((k : Int) < (n : Int)) = false := decide_eq_false (by omega)
   obtain rfl : k = n := by omega
   have eR : l.take k = l := List.take_of_length_le (by omega)
   rw [eR]
   ((repeat (first | (with_reducible refine Vc.seq fun N hN => ?_) | ((with_reducible refine And.intro ?_ ?_); exact sX3) | ((first | ((with_reducible refine Vc.hold ?_); first | refine Vc.regiont T0_ok GV8_ok ?_)); (try simp only [v8Y, Nat.beq, Nat.ble, seval, tabs, GV8_set, d1])) | ((with_reducible refine hN _ _ ?_); clear hN N))))
   (refine Vc.cond T0_ok (t := false) (by rfl) (fun h => Bool.noConfusion h) (fun _ => ?_))
   ((repeat (first | ((first | with_reducible refine Vc.exit ?_); dsimp only [thenK, blockK, Nat.beq]; (first | skip)))))
   (refine hN1 _ _ ?_; (try clear hN N); clear hN1 N1)
   ((repeat (first | (with_reducible refine Vc.seq fun N hN => ?_) | (with_reducible intro _) | ((with_reducible refine And.intro ?_ ?_); exact sX3) | ((first | ((with_reducible refine Vc.fin ?_); dsimp only [thenK, blockK, retK, resS, resOne, resAll]) | ((with_reducible refine Vc.hold ?_); first | refine Vc.drawt (id := 8) T0_ok GV8_ok (by kernel_rfl) [0, 1, 3, 4, 2] 5 [] trivial (by kernel_rfl) ?_)); (try simp only [v8Y, Nat.beq, Nat.ble, seval, tabs, GV8_set, ])) | ((with_reducible refine hN _ _ ?_); clear hN N))); (try ((with_reducible refine Fin.of ?_); (try with_reducible exact True.intro))))
   rename_i x1 hx1 x2 hx2
   exact ⟨⟨⟨trivial, trivial⟩, trivial⟩, x1.1, x1.2, x2.1, x2.2, 5, 6, hx1, hx2, rfl, by decide, rfl, rfl⟩
noncomputable def g_tSteps (args : List SV) (m : List Blk) : CR :=
 match args with
 | [.gh a n c (.rows 32 rs)] => .grw ((∃ l, EvL (HM m) a n c rs l) ∧ n ≤ 100000) FtX (FtQ ((evOf rs).flatMap readsE) ((evOf rs).flatMap writesE)) FtF (fun x => .heap x.h)
 | _ => .none
theorem g_tSteps_ok (w0 : World) (B : List Nat) (args : List SV) (m : List Blk) : CROk Try.prog w0 B 18 args m (g_tSteps args m) := by
 unfold g_tSteps
 split
 ·rename_i a n c rs
  rintro ⟨⟨l, hE⟩, hM⟩ w hm
  rw [evOf_eq hE.rows]
  exact grw_foot Try.func18 rfl rfl hm (tSteps_vc a n c rs l w (hE.mono fun b o h => hm.hm h) hM)
 ·exact trivial
end Go.Proofs.Ytpebhddacbdicaa
