/-
 Package store: New, walked. No condition.
-/
import Derived.Test.YtoadeekdgikghaaDoorYb
set_option maxRecDepth 20000
set_option maxHeartbeats 4000000
set_option linter.defProp false
set_option linter.unusedVariables false
set_option linter.unusedSimpArgs false
namespace Go.Proofs.YtoadeekdgikghaaDoor
open Go.RowKit
theorem BegN_vc (ma ms p : Nat) (tk : Int) (q3 q4 q5 q6 q7 q8 q9 : SV) (F1 F2 : List Int → Option SV) (w : World) (hm : MemOk w [ma, ms, p] [.mp ma ck_83 F1, .mp ms ck_83 F2, .blk p 64 (.cells [.mpv 0 ma, .mpv 1 ms, .int .i64 tk, q3, q4, q5, q6, q7, q8, q9])] w) :
  Calls Tryd.prog 13 (cvs [.ptr 2 p 0 0 0 0]).toArray w (fun en w' => ∃ u, en = .returned u ∧ ∃ v' m', u = cv v' ∧ MemOk w [ma, ms, p] m' w' ∧ ∃ x : Nat × Nat × Nat, True ∧ v' = .tup [] ∧ bpre [.mp ma ck_83 F1, .mp ms ck_83 F2, .blk p 64 (.cells [.mpv 0 ma, .mpv 1 ms, .int .i64 tk, .mpv 3 x.1, .mpv 4 x.2.1, .int .i64 0, .nilsl, .mpv 5 x.2.2, .nilsl, .nilsl]), .mp x.1 ck_83 (fun _ => none), .mp x.2.1 ck_83 (fun _ => none), .mp x.2.2 ck_83 (fun _ => none)] m') := by
 refine Vc.calls T0_ok Tryd.func13 rfl rfl (args := [.ptr 2 p 0 0 0 0]) (k := 8) rfl hm ?_; change Vc _ _ (c8 (.ptr 2 p 0 0 0 0) .undef .undef .undef .undef .undef .undef .undef ([.undef])) _ _
 ((repeat (first | (with_reducible intro _) | ((with_reducible refine And.intro ?_ ?_); exact sdB) | ((first | ((with_reducible refine Vc.hold ?_); first | refine Vc.regiont T0_ok GY0_ok ?_)); (try simp only [v8Y, Nat.beq, Nat.ble, seval, tabs, ])))))
 rename_i t1 t2 t3
 refine ⟨⟨t1, t2, t3⟩, ?_⟩
 (repeat' apply And.intro) <;> first | exact trivial | rfl
theorem MemOk.con {w0 : World} {B : List Nat} {l r : List Blk} {p : Nat} {t : TypeId} {con con' : Con} {w : World} (h : MemOk w0 B (l ++ .blk p t con :: r) w) (hc : cc con = cc con') : MemOk w0 B (l ++ .blk p t con' :: r) w := by
 refine ⟨h.os, h.tape, h.output, h.size, h.old, fun e he => ?_, ?_⟩
 ·rcases List.mem_append.1 he with he | he
  ·exact h.each e (List.mem_append_left _ he)
  ·rcases List.mem_cons.1 he with rfl | he
   ·have h1 := h.each (.blk p t con) (by simp)
    exact ⟨by rw [← hc]; exact h1.1, h1.2⟩
   ·exact h.each e (List.mem_append_right _ (List.mem_cons_of_mem _ he))
 ·have hn := h.nodup
  simp only [List.flatMap_append, List.flatMap_cons, Blk.nums] at hn ⊢
  exact hn
def g_BegN (args : List SV) (m : List Blk) : CR := match args with
 | [.ptr 3 p 0 0 0 0] => match m with
  | e0 :: .mp ma k1 F1 :: .mp ms k2 F2 :: .blk p' t (.cells [.mpv 1 a', .mpv 2 s', .int .i64 tk, q3, q4, q5, q6, q7, q8, q9]) :: rest => .rel (p' = p ∧ a' = ma ∧ s' = ms ∧ k1 = ck_83 ∧ k2 = ck_83 ∧ t = 64) (Nat × Nat × Nat) (fun _ => True) (fun _ => .tup []) (fun x => e0 :: .mp ma ck_83 F1 :: .mp ms ck_83 F2 :: .blk p' 64 (.cells [.mpv 1 a', .mpv 2 s', .int .i64 tk, .mpv 4 x.1, .mpv 5 x.2.1, .int .i64 0, .nilsl, .mpv 6 x.2.2, .nilsl, .nilsl]) :: .mp x.1 ck_83 (fun _ => none) :: .mp x.2.1 ck_83 (fun _ => none) :: .mp x.2.2 ck_83 (fun _ => none) :: rest)
  | _ => .none
 | _ => .none
theorem g_BegN_ok (w0 : World) (B : List Nat) (args : List SV) (m : List Blk) : CROk Tryd.prog w0 B 13 args m (g_BegN args m) := by
 unfold g_BegN; split
 ·rename_i p
  split
  ·rename_i e0 ma k1 F1 ms k2 F2 p' t a' s' tk q3 q4 q5 q6 q7 q8 q9 rest
   rintro ⟨rfl, rfl, rfl, rfl, rfl, rfl⟩ w hm
   have hm1 := hm.perm (List.perm_middle (l₁ := [.mp a' ck_83 F1, .mp s' ck_83 F2, .blk p' 64 (.cells [.mpv 1 a', .mpv 2 s', .int .i64 tk, q3, q4, q5, q6, q7, q8, q9])]) (a := e0) (l₂ := rest)).symm
   have hm2 := MemOk.con (l := [.mp a' ck_83 F1, .mp s' ck_83 F2]) (r := e0 :: rest) (con' := .cells [.mpv 0 a', .mpv 1 s', .int .i64 tk, q3, q4, q5, q6, q7, q8, q9]) hm1 rfl
   refine (calls_pre (A := Nat × Nat × Nat) (Q := fun _ => True) (Fv := fun _ => .tup []) (args' := [.ptr 2 p' 0 0 0 0]) (pre := [.mp a' ck_83 F1, .mp s' ck_83 F2, .blk p' 64 (.cells [.mpv 0 a', .mpv 1 s', .int .i64 tk, q3, q4, q5, q6, q7, q8, q9])]) (rest := e0 :: rest) (pre' := fun x => [.mp a' ck_83 F1, .mp s' ck_83 F2, .blk p' 64 (.cells [.mpv 0 a', .mpv 1 s', .int .i64 tk, .mpv 3 x.1, .mpv 4 x.2.1, .int .i64 0, .nilsl, .mpv 5 x.2.2, .nilsl, .nilsl]), .mp x.1 ck_83 (fun _ => none), .mp x.2.1 ck_83 (fun _ => none), .mp x.2.2 ck_83 (fun _ => none)]) Tryd.func13 rfl rfl hm2 ((List.all_eq_true (p := ownP)).1 rfl) (fun _ _ => (List.all_eq_true (p := ownP)).1 rfl) rfl
     (fun hm' => BegN_vc a' s' p' tk q3 q4 q5 q6 q7 q8 q9 F1 F2 w hm')).mono ?_
   rintro u w' ⟨x, h1, h2, h3⟩
   refine ⟨x, h1, h2, ?_⟩
   have h4 := MemOk.con (l := [.mp a' ck_83 F1, .mp s' ck_83 F2]) (con' := .cells [.mpv 1 a', .mpv 2 s', .int .i64 tk, .mpv 4 x.1, .mpv 5 x.2.1, .int .i64 0, .nilsl, .mpv 6 x.2.2, .nilsl, .nilsl]) h3 rfl
   exact h4.perm (List.perm_middle (l₁ := [.mp a' ck_83 F1, .mp s' ck_83 F2, .blk p' 64 (.cells [.mpv 1 a', .mpv 2 s', .int .i64 tk, .mpv 4 x.1, .mpv 5 x.2.1, .int .i64 0, .nilsl, .mpv 6 x.2.2, .nilsl, .nilsl]), .mp x.1 ck_83 (fun _ => none), .mp x.2.1 ck_83 (fun _ => none), .mp x.2.2 ck_83 (fun _ => none)]) (a := e0) (l₂ := rest))
  ·exact trivial
 ·exact trivial
structure EntV where
 a : List Int
 n : Int
 b : Nat
 ca : Option Addr
 cp : Nat
 c : List Int
 sa : Option Addr
 sp : Nat
 s : List (Nat × Nat)
def entL (z : EntV) : List SV := z.a.map (.int .u8 ·) ++ [.int .u64 z.n, .int .u64 (lm (z.b) 0 : Nat), .int .u64 (lm (z.b) 1 : Nat), .int .u64 (lm (z.b) 2 : Nat), .int .u64 (lm (z.b) 3 : Nat), .gh z.ca z.c.length z.cp (.ints .u8 z.c), .gh z.sa z.s.length z.sp (.rows 8 (z.s.map slR))]
def EntOk (z : EntV) : Prop := okA z.a ∧ okAcc ⟨z.n, z.b, z.c⟩ ∧ z.c.length ≤ z.cp ∧ adr z.ca z.c.length z.cp ∧ z.s.length ≤ z.sp ∧ adr z.sa z.s.length z.sp ∧ z.s.length ≤ 1000000 ∧ ∀ y ∈ z.s, y.1 < W ∧ y.2 < W
def EntLies (H : Nat → Obj → Prop) (z : EntV) : Prop := LiesH H z.ca (cc (.ints .u8 z.c)) ∧ LiesH H z.sa (cc (.rows 8 (z.s.map slR)))
theorem entL_len {z : EntV} (h : z.a.length = 20) : (entL z).length = 27 := by simp [entL, h]
def lastQ (es : List EntV) : Nat → List Int → Option Nat
 | 0 => fun _ => none
 | k + 1 => match es[k]? with
  | some z => fun c => if c = z.a then some k else lastQ es k c
  | none => lastQ es k
def lastM (es : List EntV) (k : Nat) : List Int → Option SV := fun c => (lastQ es k c).map fun j => .int .i64 (j : Nat)
theorem lastM_s {es : List EntV} {k : Nat} {z : EntV} (h : es[k]? = some z) : lastM es (k + 1) = putF (lastM es k) z.a (.int .i64 (k : Nat)) := by
 funext c
 simp only [lastM, lastQ, h, putF]
 split <;> rfl
theorem lastM_get (es : List EntV) (k : Nat) (c : List Int) : (lastM es k c).getD (.int .i64 0) = .int .i64 (((lastQ es k c).getD 0 : Nat) : Int) := by
 unfold lastM
 cases lastQ es k c <;> rfl
def newQ (es : List EntV) : Nat → (List Int → Option SV) × (List Int → Option SV)
 | 0 => (fun _ => none, fun _ => none)
 | k + 1 => match es[k]? with
  | some z => match decide ((lastQ es es.length z.a).getD 0 = k) with
   | true => (putAc (newQ es k).1 (whole z.a) ⟨z.n, z.b, z.c⟩, sloQ (newQ es k).2 z.a z.s)
   | false => newQ es k
  | none => newQ es k
theorem newQ_t {es : List EntV} {k : Nat} {z : EntV} (h : es[k]? = some z) (hd : decide ((lastQ es es.length z.a).getD 0 = k) = true) : newQ es (k + 1) = (putAc (newQ es k).1 (whole z.a) ⟨z.n, z.b, z.c⟩, sloQ (newQ es k).2 z.a z.s) := by
 simp only [newQ, h, hd]
theorem newQ_f {es : List EntV} {k : Nat} {z : EntV} (h : es[k]? = some z) (hd : decide ((lastQ es es.length z.a).getD 0 = k) = false) : newQ es (k + 1) = newQ es k := by
 simp only [newQ, h, hd]
theorem one_u8 : ∀ l : List Int, allOne (l.map (SV.int .u8 ·)) = true
 | [] => rfl
 | _ :: l => one_u8 l
theorem one_ent (z : EntV) : allOne (entL z) = true := allOne_app (one_u8 _) rfl
theorem rows27 : ∀ {l : List EntV}, (∀ z ∈ l, EntOk z) → rowsOk 27 (l.map entL) = true
 | [], _ => rfl
 | z :: l, h => by
  simp only [List.map_cons, rowsOk, entL_len (h z List.mem_cons_self).1.1, one_ent, rows27 fun y hy => h y (List.mem_cons_of_mem _ hy)]
theorem in_adr {a : List Int} (h : okA a) : inCs ck_24 a := inCs_u8 h.1 h.2
def newG (es : List EntV) : Nat → (List Int → Acc) × (List Int → Nat)
 | 0 => (fun _ => acc0, fun _ => 0)
 | k + 1 => match es[k]? with
  | some z => match decide ((lastQ es es.length z.a).getD 0 = k) with
   | true => (upd1 (newG es k).1 (whole z.a) ⟨z.n, z.b, z.c⟩, z.s.foldl (fun f p => upd1 f (slotC z.a p.1) p.2) (newG es k).2)
   | false => newG es k
  | none => newG es k
theorem sloQ_F (a : List Int) : ∀ (l : List (Nat × Nat)) (f : List Int → Nat), sloQ (sloF f) a l = sloF (l.foldl (fun f p => upd1 f (slotC a p.1) p.2) f)
 | [], _ => rfl
 | z :: l, f => by
  have h := sloQ_F a l (upd1 f (slotC a z.1) z.2)
  unfold sloQ at h ⊢
  rw [List.foldl_cons, List.foldl_cons, sloF_put]
  exact h
theorem newQ_G (es : List EntV) : ∀ k, newQ es k = (accF (newG es k).1, sloF (newG es k).2)
 | 0 => Prod.ext (funext fun c => by simp [newQ, newG, accF]) (funext fun c => by simp [newQ, newG, sloF])
 | k + 1 => by
  have ih := newQ_G es k
  unfold newQ newG
  cases es[k]? with
  | none => exact ih
  | some z =>
   dsimp only
   cases decide ((lastQ es es.length z.a).getD 0 = k) with
   | false => exact ih
   | true => 
    dsimp only
    rw [ih, accF_put, sloQ_F]
def freshS (g : List Int → Acc) (f : List Int → Nat) : Wst := { acc := g, slo := f, tak := 0, tou := fun _ => false, ori := fun _ => none, ref := 0, dead := fun _ => false, steps := [], marks := [] }
def newS (es : List EntV) : Wst := freshS (newG es es.length).1 (newG es es.length).2
theorem fold_lt {a : List Int} : ∀ {l : List (Nat × Nat)} {f : List Int → Nat}, (∀ c, f c < W) → (∀ z ∈ l, z.1 < W ∧ z.2 < W) → ∀ c, (l.foldl (fun f p => upd1 f (slotC a p.1) p.2) f) c < W
 | [], _, h, _ => h
 | z :: l, f, h, hz => fold_lt (l := l) (fun c => by
   show (if c = slotC a z.1 then z.2 else f c) < W
   split
   ·exact (hz z List.mem_cons_self).2
   ·exact h c) (fun y hy => hz y (List.mem_cons_of_mem _ hy))
theorem newG_ok {es : List EntV} (hE : ∀ z ∈ es, EntOk z) : ∀ k, (∀ c, okAcc ((newG es k).1 c)) ∧ ∀ c, (newG es k).2 c < W
 | 0 => ⟨fun c => ⟨⟨Int.le_refl _, by simp [newG, acc0]⟩, by simp [newG, acc0, W], by simp [newG, acc0, allB], by simp [newG, acc0]⟩, fun c => by simp [newG, W]⟩
 | k + 1 => by
  have ih := newG_ok hE k
  unfold newG
  cases he : es[k]? with
  | none => exact ih
  | some z =>
   have hz := hE z (List.mem_of_getElem? he)
   dsimp only
   cases decide ((lastQ es es.length z.a).getD 0 = k) with
   | false => exact ih
   | true =>
    refine ⟨fun c => ?_, fold_lt ih.2 hz.2.2.2.2.2.2.2⟩
    dsimp only
    unfold upd1
    split
    ·exact hz.2.1
    ·exact ih.1 c
theorem newS_ok {es : List EntV} (hE : ∀ z ∈ es, EntOk z) : WOk (newS es) := ⟨(newG_ok hE _).1, (newG_ok hE _).2, fun c v h => by cases h⟩
theorem new_wd {w w' : World} {o0 : Nat → Option Obj} {g : List Int → Acc} {f : List Int → Nat} {p a s t o d : Nat} {r : List Blk} (h : MemOk w [] ([.old o0, .mp a ck_83 (accF g), .mp s ck_83 (sloF f), .blk p 64 (.cells [.mpv 1 a, .mpv 2 s, .int .i64 0, .mpv 4 t, .mpv 5 o, .int .i64 0, .nilsl, .mpv 6 d, .nilsl, .nilsl]), .mp t ck_83 (fun _ => none), .mp o ck_83 (fun _ => none), .mp d ck_83 (fun _ => none)] ++ r) w') :
  ∃ l, WdOk w' τ0 p (freshS g f) l ∧ (∀ b ∈ l, w.heap.size ≤ b) ∧ l.Nodup := by
 have hp := h.front
 have h1 := hp.each
 simp only [List.mem_cons, List.not_mem_nil, or_false, forall_eq_or_imp, forall_eq] at h1
 obtain ⟨_, g1, g2, g3, g4, g5, g6⟩ := h1
 refine ⟨_, wd_ok (w0 := w) (B := []) (a := a) (s := s) (t := t) (o := o) (d := d) (vs := .slice none 0 0) (vm := .slice none 0 0) fun e he => ?_, ?_, ?_⟩
 ·simp only [wdParts, List.mem_cons, List.not_mem_nil, or_false] at he
  rcases he with rfl | rfl | rfl | rfl | rfl | rfl | rfl | rfl
  ·exact g3
  ·exact g1
  ·exact g2
  ·show Blk.ok w [] w' (.mp t τ0.ck (setF fun _ => false)); rw [setF_0]; exact g4
  ·show Blk.ok w [] w' (.mp o τ0.ck (oriF fun _ => none)); rw [oriF_0]; exact g5
  ·show Blk.ok w [] w' (.mp d τ0.ck (setF fun _ => false)); rw [setF_0]; exact g6
  ·exact ⟨World.ownsRow_nil _ _ _ _, fun b hb => by simp [Value.ownBlock] at hb⟩
  ·exact ⟨World.ownsRow_nil _ _ _ _, fun b hb => by simp [Value.ownBlock] at hb⟩
 ·intro b hb
  rw [wdParts_nums] at hb
  simp only [Value.ownBlock, Option.toList_none, List.append_nil, List.cons_append, List.nil_append, List.mem_cons, List.not_mem_nil, or_false] at hb
  rcases hb with rfl | rfl | rfl | rfl | rfl | rfl
  ·exact g3.2.resolve_right List.not_mem_nil
  ·exact g1.2.resolve_right List.not_mem_nil
  ·exact g2.2.resolve_right List.not_mem_nil
  ·exact g4.2.resolve_right List.not_mem_nil
  ·exact g5.2.resolve_right List.not_mem_nil
  ·exact g6.2.resolve_right List.not_mem_nil
 ·have hn := hp.nodup
  simp only [List.flatMap_cons, List.flatMap_nil, Blk.nums, List.cons_append, List.nil_append, List.append_nil] at hn
  rw [wdParts_nums]
  simp only [Value.ownBlock, Option.toList_none, List.append_nil, List.cons_append, List.nil_append]
  exact (List.perm_middle (l₁ := [a, s]) (a := p) (l₂ := [t, o, d])).nodup_iff.1 hn
noncomputable def GYc : Ctr := fun f args m => match f with
 | 12 => g_add args m
 | 13 => g_BegN args m
 | _ => .none
theorem GYc_ok : GOk Tryd.prog GYc := by
 intro w0 B f args m; unfold GYc; split
 ·exact g_add_ok _ _ _ _
 ·exact g_BegN_ok _ _ _ _
 ·exact trivial
theorem GYc_add : GYc 12 = g_add := by funext args m; rfl
theorem GYc_BegN : GYc 13 = g_BegN := by funext args m; rfl
def GYc_set := And.intro (And.intro (@GYc_add) (@g_add.eq_def)) (And.intro (@GYc_BegN) (@g_BegN.eq_def))

set_option maxRecDepth 20000 in
theorem New_vc (es : List EntV) (ea : Option Addr) (ep : Nat) (o0 : Nat → Option Obj) (hE : ∀ z ∈ es, EntOk z ∧ EntLies (fun b o => o0 b = some o) z) (hep : es.length ≤ ep) (hea : adr ea es.length ep) (hl : es.length ≤ 1000000) (hL : LiesH (fun b o => o0 b = some o) ea (cc (.rows 27 (es.map entL)))) (w : World) (hm : MemOk w [] [.old o0] w) :
  Calls Tryd.prog 8 (cvs [.gh ea es.length ep (.rows 27 (es.map entL))]).toArray w (fun en w' => ∃ u, en = .returned u ∧ ∃ v' m', u = cv v' ∧ MemOk w [] m' w' ∧ ∃ p a s t o d : Nat, v' = .ptr 3 p 0 0 0 0 ∧ bpre [.old o0, .mp a ck_83 (newQ es es.length).1, .mp s ck_83 (newQ es es.length).2, .blk p 64 (.cells [.mpv 1 a, .mpv 2 s, .int .i64 0, .mpv 4 t, .mpv 5 o, .int .i64 0, .nilsl, .mpv 6 d, .nilsl, .nilsl]), .mp t ck_83 (fun _ => none), .mp o ck_83 (fun _ => none), .mp d ck_83 (fun _ => none)] m') := by
 have hLm : ∀ m, Blk.old o0 ∈ m → LiesH (HM m) ea (cc (.rows 27 (es.map entL))) := fun m hin => hL.mono fun b o h => ⟨_, hin, h⟩
 refine Vc.calls T0_ok Tryd.func8 rfl rfl (args := [.gh ea es.length ep (.rows 27 (es.map entL))]) (k := 45) rfl hm ?_; change Vc _ _ (c8 (.gh ea es.length ep (.rows 27 (es.map entL))) .undef .undef .undef .undef .undef .undef .undef (c8 .undef .undef .undef .undef .undef .undef .undef .undef (c8 .undef .undef .undef .undef .undef .undef .undef .undef (c8 .undef .undef .undef .undef .undef .undef .undef .undef (c8 .undef .undef .undef .undef .undef .undef .undef .undef ([.undef, .undef, .undef, .undef, .undef, .undef])))))) _ _
 have hR := rows27 fun z hz => (hE z hz).1
 ((repeat (first | (with_reducible first | refine Vc.seq fun N hN => ?_ | refine Vc.block ?_) | (with_reducible intro _) | ((with_reducible refine And.intro ?_ ?_); exact sX7) | ((first | ((with_reducible refine Vc.hold ?_); first | refine Vc.regiont T0_ok GYc_ok ?_)); (try simp only [v8Y, Nat.beq, Nat.ble, seval, tabs, GYc_set, ])) | ((with_reducible refine hN _ _ ?_); clear hN N))))
 rename_i ma ms p lm1
 (revert N; intro N1 hN1)
 refine Vc.loop 17 26 (fun (x : Nat × SV × SV) => [(5, x.2.1), (6, x.2.2), (16, .int .i64 (x.1 : Nat))]) (fun x => [.old o0, .mp ma ck_83 (fun _ => none), .mp ms ck_83 (fun _ => none), .blk p 64 (.cells [.mpv 1 ma, .mpv 2 ms, .int .i64 0, .raw (.map none), .raw (.map none), .int .i64 0, .nilsl, .raw (.map none), .nilsl, .nilsl]), .mp lm1 ck_24 (lastM es x.1)]) (fun x => x.1 ≤ es.length) (fun x => es.length - x.1) (0, .undef, .undef) ⟨Nat.zero_le _, ?_, ?_⟩ (fun x junk hk => ?_)
 ·((try simp only [v8Y, Nat.beq, Nat.ble, seval, tabs]); (repeat' with_reducible apply And.intro) <;> first | with_reducible exact True.intro | rfl | with_reducible rfl | (congr 1 <;> omega) | trivial)
 ·((try simp only [v8Y, Nat.beq, Nat.ble, seval, tabs]); (repeat' with_reducible apply And.intro) <;> first | with_reducible exact True.intro | rfl | with_reducible rfl | (congr 1 <;> omega) | trivial)
 ·obtain ⟨k, z5, z6⟩ := x
  dsimp only at hk ⊢
  (simp only [v8Y, Nat.beq, Nat.ble, seval, tabs])
  by_cases hlt : k < es.length
  ·have d1 : decide ((k : Int) < (es.length : Int)) = true := decide_eq_true (by omega)
   ((repeat (first | (with_reducible refine Vc.seq fun N hN => ?_) | ((with_reducible refine And.intro ?_ ?_); exact sX7) | ((first | ((with_reducible refine Vc.hold ?_); first | refine Vc.regiont T0_ok GYc_ok ?_)); (try simp only [v8Y, Nat.beq, Nat.ble, seval, tabs, GYc_set, d1])) | ((with_reducible refine hN _ _ ?_); clear hN N))))
   (refine Vc.cond T0_ok (t := true) (by rfl) (fun _ => ?_) (fun h => Bool.noConfusion h))
   have e1 := List.getElem?_eq_getElem hlt
   have hz := hE _ (List.getElem_mem hlt)
   have hls := lastM_s e1
   generalize es[k] = z at *
   obtain ⟨a, n, b, ca, cp, c, sa, sp, sl⟩ := z
   obtain ⟨⟨ha, hz2⟩, hz3⟩ := hz
   obtain ⟨x0, x1, x2, x3, x4, x5, x6, x7, x8, x9, x10, x11, x12, x13, x14, x15, x16, x17, x18, x19, rfl⟩ := okA_lit ha
   have hgd : (es.map entL).getD k [] = [.int .u8 x0, .int .u8 x1, .int .u8 x2, .int .u8 x3, .int .u8 x4, .int .u8 x5, .int .u8 x6, .int .u8 x7, .int .u8 x8, .int .u8 x9, .int .u8 x10, .int .u8 x11, .int .u8 x12, .int .u8 x13, .int .u8 x14, .int .u8 x15, .int .u8 x16, .int .u8 x17, .int .u8 x18, .int .u8 x19, .int .u64 n, .int .u64 (lm (b) 0 : Nat), .int .u64 (lm (b) 1 : Nat), .int .u64 (lm (b) 2 : Nat), .int .u64 (lm (b) 3 : Nat), .gh ca c.length cp (.ints .u8 c), .gh sa sl.length sp (.rows 8 (sl.map slR))] := by rw [List.getD_eq_getElem?_getD, List.getElem?_map, e1]; rfl
   have tk : ((k : Nat) : Int).toNat = k := by omega
   have hin : inCs ck_24 [x0, x1, x2, x3, x4, x5, x6, x7, x8, x9, x10, x11, x12, x13, x14, x15, x16, x17, x18, x19] := in_adr ha
   have hkl : k < (List.map entL es).length := by rw [List.length_map]; omega
   ((repeat (first | (with_reducible first | refine Vc.seq fun N hN => ?_ | refine Vc.block ?_) | ((first | with_reducible refine Vc.skip ?_); dsimp only [thenK, blockK, Nat.beq]; (first | (refine hN _ _ ?_; clear hN N))) | (with_reducible intro _) | ((with_reducible refine And.intro ?_ ?_); exact sX7) | ((first | ((with_reducible refine Vc.hold ?_); first | refine Vc.regiont T0_ok GYc_ok ?_)); (try simp only [v8Y, Nat.beq, Nat.ble, seval, tabs, GYc_set, hgd, tk])) | ((with_reducible refine hN _ _ ?_); clear hN N))))
   rename_i b6
   refine ⟨(k + 1, .int .i64 (k : Nat), .ptr 5 b6 0 0 0 0), by dsimp only; omega, ?_, ?_, by dsimp only; omega⟩
   ·((try simp only [v8Y, Nat.beq, Nat.ble, seval, tabs]); (repeat' with_reducible apply And.intro) <;> first | with_reducible exact True.intro | rfl | (congr 1 <;> omega))
   ·((try simp only [v8Y, Nat.beq, Nat.ble, seval, tabs]); (repeat' with_reducible apply And.intro) <;> first | with_reducible exact True.intro | (rw [hls]) | (congr 1 <;> omega))
  ·have d1 : decide ((k : Int) < (es.length : Int)) = false := decide_eq_false (by omega)
   obtain rfl : k = es.length := by omega
   ((repeat (first | (with_reducible refine Vc.seq fun N hN => ?_) | ((with_reducible refine And.intro ?_ ?_); exact sX7) | ((first | ((with_reducible refine Vc.hold ?_); first | refine Vc.regiont T0_ok GYc_ok ?_)); (try simp only [v8Y, Nat.beq, Nat.ble, seval, tabs, GYc_set, d1])) | ((with_reducible refine hN _ _ ?_); clear hN N))))
   (refine Vc.cond T0_ok (t := false) (by rfl) (fun h => Bool.noConfusion h) (fun _ => ?_))
   ((repeat (first | (with_reducible first | refine Vc.seq fun N hN => ?_ | refine Vc.block ?_) | ((first | with_reducible refine Vc.exit ?_); dsimp only [thenK, blockK, Nat.beq]; (first | skip)) | ((with_reducible refine And.intro ?_ ?_); exact sX7) | ((first | ((with_reducible refine Vc.hold ?_); first | refine Vc.regiont T0_ok GYc_ok ?_)); (try simp only [v8Y, Nat.beq, Nat.ble, seval, tabs, GYc_set, ])) | ((with_reducible refine hN _ _ ?_); clear hN N))))
   (refine hN1 _ _ ?_; (try clear hN N); clear hN1 N1)
   ((repeat (first | (with_reducible first | refine Vc.seq fun N hN => ?_ | refine Vc.block ?_) | ((first | with_reducible refine Vc.exit ?_); dsimp only [thenK, blockK, Nat.beq]; (first | skip)) | ((with_reducible refine And.intro ?_ ?_); exact sX7) | ((first | ((with_reducible refine Vc.hold ?_); first | refine Vc.regiont T0_ok GYc_ok ?_)); (try simp only [v8Y, Nat.beq, Nat.ble, seval, tabs, GYc_set, ])) | ((with_reducible refine hN _ _ ?_); clear hN N))))
   (revert N; intro N2 hN2)
   refine Vc.loop 29 43 (fun (x : Nat × SV × SV) => [(7, x.2.1), (8, x.2.2), (28, .int .i64 (x.1 : Nat))]) (fun x => [.old o0, .mp ma ck_83 (newQ es x.1).1, .mp ms ck_83 (newQ es x.1).2, .blk p 64 (.cells [.mpv 1 ma, .mpv 2 ms, .int .i64 0, .raw (.map none), .raw (.map none), .int .i64 0, .nilsl, .raw (.map none), .nilsl, .nilsl]), .mp lm1 ck_24 (lastM es es.length)]) (fun x => x.1 ≤ es.length) (fun x => es.length - x.1) (0, .undef, .undef) ⟨Nat.zero_le _, ?_, ?_⟩ (fun x junk hk => ?_)
   ·((try simp only [v8Y, Nat.beq, Nat.ble, seval, tabs]); (repeat' with_reducible apply And.intro) <;> first | with_reducible exact True.intro | rfl | with_reducible rfl | (congr 1 <;> omega) | trivial)
   ·((try simp only [v8Y, Nat.beq, Nat.ble, seval, tabs]); (repeat' with_reducible apply And.intro) <;> first | with_reducible exact True.intro | rfl | with_reducible rfl | (congr 1 <;> omega) | trivial)
   ·obtain ⟨k, z7, z8⟩ := x
    dsimp only at hk ⊢
    (simp only [v8Y, Nat.beq, Nat.ble, seval, tabs])
    by_cases hlt : k < es.length
    ·have d1 : decide ((k : Int) < (es.length : Int)) = true := decide_eq_true (by omega)
     ((repeat (first | (with_reducible refine Vc.seq fun N hN => ?_) | ((with_reducible refine And.intro ?_ ?_); exact sX7) | ((first | ((with_reducible refine Vc.hold ?_); first | refine Vc.regiont T0_ok GYc_ok ?_)); (try simp only [v8Y, Nat.beq, Nat.ble, seval, tabs, GYc_set, d1])) | ((with_reducible refine hN _ _ ?_); clear hN N))))
     (refine Vc.cond T0_ok (t := true) (by rfl) (fun _ => ?_) (fun h => Bool.noConfusion h))
     have e1 := List.getElem?_eq_getElem hlt
     have hz := hE _ (List.getElem_mem hlt)
     have hqt := newQ_t e1
     have hqf := newQ_f e1
     have hlg := lastM_get es es.length es[k].a
     generalize es[k] = z at *
     obtain ⟨a, n, b, ca, cp, c, sa, sp, sl⟩ := z
     obtain ⟨⟨ha, hx, hcp, hca, hsp, hsa, hsl, hw⟩, hC1, hC2⟩ := hz
     dsimp only at hqt hqf hlg ha hx hcp hca hsp hsa hsl hw hC1 hC2
     obtain ⟨x0, x1, x2, x3, x4, x5, x6, x7, x8, x9, x10, x11, x12, x13, x14, x15, x16, x17, x18, x19, rfl⟩ := okA_lit ha
     generalize (lastQ es es.length [x0, x1, x2, x3, x4, x5, x6, x7, x8, x9, x10, x11, x12, x13, x14, x15, x16, x17, x18, x19]).getD 0 = j at *
     have hgd : (es.map entL).getD k [] = [.int .u8 x0, .int .u8 x1, .int .u8 x2, .int .u8 x3, .int .u8 x4, .int .u8 x5, .int .u8 x6, .int .u8 x7, .int .u8 x8, .int .u8 x9, .int .u8 x10, .int .u8 x11, .int .u8 x12, .int .u8 x13, .int .u8 x14, .int .u8 x15, .int .u8 x16, .int .u8 x17, .int .u8 x18, .int .u8 x19, .int .u64 n, .int .u64 (lm (b) 0 : Nat), .int .u64 (lm (b) 1 : Nat), .int .u64 (lm (b) 2 : Nat), .int .u64 (lm (b) 3 : Nat), .gh ca c.length cp (.ints .u8 c), .gh sa sl.length sp (.rows 8 (sl.map slR))] := by rw [List.getD_eq_getElem?_getD, List.getElem?_map, e1]; rfl
     have tk : ((k : Nat) : Int).toNat = k := by omega
     have hin : inCs ck_24 [x0, x1, x2, x3, x4, x5, x6, x7, x8, x9, x10, x11, x12, x13, x14, x15, x16, x17, x18, x19] := in_adr ha
     have hkl : k < (List.map entL es).length := by rw [List.length_map]; omega
     have nb : numI [((lm b 0 : Nat) : Int), ((lm b 1 : Nat) : Int), ((lm b 2 : Nat) : Int), ((lm b 3 : Nat) : Int)] = b := numI_lmI hx.2.1
     have hx2 : okAcc ⟨n, numI [((lm b 0 : Nat) : Int), ((lm b 1 : Nat) : Int), ((lm b 2 : Nat) : Int), ((lm b 3 : Nat) : Int)], c⟩ := by rw [nb]; exact hx
     have hl2 : lmI (numI [((lm b 0 : Nat) : Int), ((lm b 1 : Nat) : Int), ((lm b 2 : Nat) : Int), ((lm b 3 : Nat) : Int)]) = [((lm b 0 : Nat) : Int), ((lm b 1 : Nat) : Int), ((lm b 2 : Nat) : Int), ((lm b 3 : Nat) : Int)] := by rw [nb]; rfl
     have hsd := slDs hw
     have hs2 : sl.map slR = ((sl.map slR).map slD).map slR := by rw [hsd]
     have hs3 : ∀ z ∈ (sl.map slR).map slD, z.1 < W ∧ z.2 < W := by rw [hsd]; exact hw
     have hC : ∀ m, Blk.old o0 ∈ m → LiesH (HM m) ca (cc (.ints .u8 c)) := fun m hin => hC1.mono fun b o h => ⟨_, hin, h⟩
     have hSl : ∀ m, Blk.old o0 ∈ m → LiesH (HM m) sa (cc (.rows 8 (sl.map slR))) := fun m hin => hC2.mono fun b o h => ⟨_, hin, h⟩
     have hsn : (sl.map slR).length = sl.length := List.length_map ..
     by_cases hd : j = k
     ·have d2 : decide ((j : Int) = (k : Int)) = true := decide_eq_true (by omega)
      have hq := hqt (decide_eq_true hd)
      ((repeat (first | (with_reducible first | refine Vc.seq fun N hN => ?_ | refine Vc.block ?_) | ((first | with_reducible refine Vc.skip ?_); dsimp only [thenK, blockK, Nat.beq]; (first | (refine hN _ _ ?_; clear hN N))) | (with_reducible intro _) | ((with_reducible refine And.intro ?_ ?_); exact sX15) | ((first | ((with_reducible refine Vc.hold ?_); first | refine Vc.regiont T0_ok GYc_ok ?_)); (try simp only [v8Y, Nat.beq, Nat.ble, seval, tabs, GYc_set, hgd, tk, hlg, d2])) | ((with_reducible refine hN _ _ ?_); clear hN N))))
      (refine Vc.cond T0_ok (t := true) (by rfl) (fun _ => ?_) (fun h => Bool.noConfusion h))
      ((repeat (first | (with_reducible intro _) | ((with_reducible refine And.intro ?_ ?_); exact sX15) | ((first | ((with_reducible refine Vc.hold ?_); first | refine Vc.regiont T0_ok GYc_ok ?_)); (try simp only [v8Y, Nat.beq, Nat.ble, seval, tabs, GYc_set, u8s])) | ((with_reducible refine hN _ _ ?_); clear hN N))))
      rename_i b6 y6 u6 g6
      refine ⟨(k + 1, .int .i64 (k : Nat), .ptr 5 b6 0 0 0 0), by dsimp only; omega, ?_, ?_, by dsimp only; omega⟩
      ·((try simp only [v8Y, Nat.beq, Nat.ble, seval, tabs]); (repeat' with_reducible apply And.intro) <;> first | with_reducible exact True.intro | rfl | (congr 1 <;> omega))
      ·dsimp only
       simp only [hq, nb, hsd]
       ((try simp only [v8Y, Nat.beq, Nat.ble, seval, tabs]); (repeat' with_reducible apply And.intro) <;> first | with_reducible exact True.intro | rfl | (congr 1 <;> omega))
     ·have d2 : decide ((j : Int) = (k : Int)) = false := decide_eq_false (by omega)
      have hq := hqf (decide_eq_false hd)
      ((repeat (first | (with_reducible first | refine Vc.seq fun N hN => ?_ | refine Vc.block ?_) | ((first | with_reducible refine Vc.skip ?_); dsimp only [thenK, blockK, Nat.beq]; (first | (refine hN _ _ ?_; clear hN N))) | (with_reducible intro _) | ((with_reducible refine And.intro ?_ ?_); exact sX15) | ((first | ((with_reducible refine Vc.hold ?_); first | refine Vc.regiont T0_ok GYc_ok ?_)); (try simp only [v8Y, Nat.beq, Nat.ble, seval, tabs, GYc_set, hgd, tk, hlg, d2])) | ((with_reducible refine hN _ _ ?_); clear hN N))))
      (refine Vc.cond T0_ok (t := false) (by rfl) (fun h => Bool.noConfusion h) (fun _ => ?_))
      ((repeat (first | ((first | with_reducible refine Vc.skip ?_); dsimp only [thenK, blockK, Nat.beq]; (first | (refine hN _ _ ?_; clear hN N))) | ((with_reducible refine And.intro ?_ ?_); exact sX15) | ((first | ((with_reducible refine Vc.hold ?_); first | refine Vc.regiont T0_ok GYc_ok ?_)); (try simp only [v8Y, Nat.beq, Nat.ble, seval, tabs, GYc_set, ])))))
      rename_i b6 y6
      refine ⟨(k + 1, .int .i64 (k : Nat), .ptr 5 b6 0 0 0 0), by dsimp only; omega, ?_, ?_, by dsimp only; omega⟩
      ·((try simp only [v8Y, Nat.beq, Nat.ble, seval, tabs]); (repeat' with_reducible apply And.intro) <;> first | with_reducible exact True.intro | rfl | (congr 1 <;> omega))
      ·dsimp only
       simp only [hq]
       ((try simp only [v8Y, Nat.beq, Nat.ble, seval, tabs]); (repeat' with_reducible apply And.intro) <;> first | with_reducible exact True.intro | rfl | (congr 1 <;> omega))
    ·have d1 : decide ((k : Int) < (es.length : Int)) = false := decide_eq_false (by omega)
     obtain rfl : k = es.length := by omega
     ((repeat (first | (with_reducible refine Vc.seq fun N hN => ?_) | ((with_reducible refine And.intro ?_ ?_); exact sX7) | ((first | ((with_reducible refine Vc.hold ?_); first | refine Vc.regiont T0_ok GYc_ok ?_)); (try simp only [v8Y, Nat.beq, Nat.ble, seval, tabs, GYc_set, d1])) | ((with_reducible refine hN _ _ ?_); clear hN N))))
     (refine Vc.cond T0_ok (t := false) (by rfl) (fun h => Bool.noConfusion h) (fun _ => ?_))
     ((repeat (first | (with_reducible refine Vc.seq fun N hN => ?_) | ((first | with_reducible refine Vc.exit ?_); dsimp only [thenK, blockK, Nat.beq]; (first | skip)) | (with_reducible intro _) | ((with_reducible refine And.intro ?_ ?_); exact sX7) | ((first | ((with_reducible refine Vc.fin ?_); dsimp only [thenK, blockK, retK, resS, resOne, resAll]) | ((with_reducible refine Vc.hold ?_); first | refine Vc.regiont T0_ok GYc_ok ?_)); (try simp only [v8Y, Nat.beq, Nat.ble, seval, tabs, GYc_set, ])) | ((with_reducible refine hN _ _ ?_); clear hN N))); (try ((with_reducible refine Fin.of ?_); (try with_reducible exact True.intro))))
     (refine hN2 _ _ ?_; (try clear hN N); clear hN2 N2)
     ((repeat (first | (with_reducible refine Vc.seq fun N hN => ?_) | ((first | with_reducible refine Vc.exit ?_); dsimp only [thenK, blockK, Nat.beq]; (first | skip)) | (with_reducible intro _) | ((with_reducible refine And.intro ?_ ?_); exact sX7) | ((first | ((with_reducible refine Vc.fin ?_); dsimp only [thenK, blockK, retK, resS, resOne, resAll]) | ((with_reducible refine Vc.hold ?_); first | refine Vc.regiont T0_ok GYc_ok ?_)); (try simp only [v8Y, Nat.beq, Nat.ble, seval, tabs, GYc_set, ])) | ((with_reducible refine hN _ _ ?_); clear hN N))); (try ((with_reducible refine Fin.of ?_); (try with_reducible exact True.intro))))
     rename_i bb gg
     refine ⟨trivial, p, ma, ms, bb.1, bb.2.1, bb.2.2, rfl, ?_⟩
     (repeat' apply And.intro) <;> first | exact trivial | rfl
def g_New (args : List SV) (m : List Blk) : CR := match args with
 | [.gh ea n ep (.rows 27 rows)] => .grw (∃ es : List EntV, rows = es.map entL ∧ es.length = n ∧ n ≤ ep ∧ adr ea n ep ∧ n ≤ 1000000 ∧ (∀ z ∈ es, EntOk z ∧ EntLies (HM m) z) ∧ LiesH (HM m) ea (cc (.rows 27 rows))) ((Nat × List Nat) × Wst) (fun x => ∃ es : List EntV, rows = es.map entL ∧ (∀ z ∈ es, EntOk z) ∧ x.2 = newS es) (fun x => .ptr (blen m) x.1.1 0 0 0 0) (fun x => .wd τ0 x.1.1 x.2 x.1.2)
 | _ => .none
theorem g_New_ok (w0 : World) (B : List Nat) (args : List SV) (m : List Blk) : CROk Tryd.prog w0 B 8 args m (g_New args m) := by
 unfold g_New; split
 ·rename_i ea n ep rows
  rintro ⟨es, rfl, rfl, h1, h2, h3, h4, h5⟩ w hm
  have hH : ∀ b o, HM m b o → (fun b => w.heap[b]?) b = some o := fun b o h => hm.hm h
  have hm0 : MemOk w [] [.old fun b => w.heap[b]?] w := ⟨rfl, rfl, rfl, Nat.le_refl _, fun _ _ _ => rfl, fun e he => by
   obtain rfl := List.mem_singleton.1 he
   exact fun b o h => ⟨h, (Array.getElem?_eq_some_iff.1 h).1, List.not_mem_nil⟩, List.nodup_nil⟩
  refine .inr ⟨enter_run Tryd.func8 rfl rfl _ w, (New_vc es ea ep _ (fun z hz => ⟨(h4 z hz).1, (h4 z hz).2.1.mono hH, (h4 z hz).2.2.mono hH⟩) h1 h2 h3 (h5.mono hH) w hm0).mono fun e w' ⟨u, hu, v', m', hv, hm', p, a, s, t, o, d, hvv, hp⟩ => ?_⟩
  obtain ⟨r, rfl⟩ := bpre_mem hp
  rw [newQ_G] at hm'
  obtain ⟨l, g1, g2, g3⟩ := new_wd hm'
  exact ⟨u, hu, ((p, l), newS es), ⟨es, rfl, fun z hz => (h4 z hz).1, rfl⟩, by rw [hv, hvv]; rfl, hm'.grown, ⟨g1, fun b hb => .inl (Nat.le_trans hm.size (g2 b hb))⟩, g2, g3⟩
 ·exact trivial
end Go.Proofs.YtoadeekdgikghaaDoor
