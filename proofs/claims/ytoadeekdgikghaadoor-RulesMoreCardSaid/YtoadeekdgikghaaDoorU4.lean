/-
 Package trace: Loose, Starved, walked. No condition.
-/
import Derived.Test.YtoadeekdgikghaaDoorU3
set_option maxRecDepth 10000
set_option maxHeartbeats 4000000
set_option linter.defProp false
set_option linter.unusedVariables false
set_option linter.unusedSimpArgs false
namespace Go.Proofs.YtoadeekdgikghaaDoor
open Go.RowKit
theorem lies_rows {H : Nat → Obj → Prop} {a : Option Addr} {m : Nat} {rs : List (List SV)} {n c k : Nat} (h : LiesH H a (cc (.rows m rs))) (hr : ∀ r ∈ rs, r.length = m) (hl : rs.length = n) (hn : n ≤ c) : LiesH H (shA a c k m) (cc (.rows m (rs.drop k))) := by
 by_cases hk : n ≤ k
 ·exact .inl (by rw [List.drop_of_length_le (by omega)]; rfl)
 ·rcases h with h | ⟨b, off, arr, t, fr, rfl, h2, h3⟩
  ·refine .inl ?_
   have h4 : ∀ r ∈ rs, cvs r = [] := by
    intro r hr2
    have := List.flatMap_eq_nil_iff.1 h r hr2
    exact this
   simp only [cc]
   exact List.flatMap_eq_nil_iff.2 fun r hr2 => h4 r (List.mem_of_mem_drop hr2)
  ·refine .inr ⟨b, off + k * m, arr, t, fr, ?_, h2, fun j u hj => ?_⟩
   ·unfold shA; rw [if_neg (by omega), Option.map_some, addr_add]
   ·have h4 := flat_cut cvs m rs k rs.length j u (fun r hr2 => by rw [cvs_len]; exact hr r hr2) (by rw [List.take_of_length_le (by rw [List.length_drop]; omega)]; exact hj)
    have := h3 _ u h4
    rw [Nat.add_assoc]; exact this
theorem EvsR.drop {H : Nat → Obj → Prop} {rs : List (List SV)} {l : List Evt} (h : EvsR H rs l) (k : Nat) : EvsR H (rs.drop k) (l.drop k) :=
 ⟨by rw [List.length_drop, List.length_drop, h.1], fun r hr => h.2.1 r (List.mem_of_mem_drop hr), fun i r e h1 h2 => by rw [List.getElem?_drop] at h1 h2; exact h.2.2 _ r e h1 h2⟩
theorem EvL.drop {H : Nat → Obj → Prop} {a : Option Addr} {n c : Nat} {rs : List (List SV)} {l : List Evt} (h : EvL H a n c rs l) {k : Nat} (hk : k ≤ n) : EvL H (shA a c k 32) (n - k) (c - k) (rs.drop k) (l.drop k) := by
 have h1 := h.len; have h2 := h.le; have h3 := h.max; have h4 := h.rows.1
 exact ⟨by rw [List.length_drop]; omega, by omega, adr_shA h.adr hk h2, by omega, lies_rows h.lies h.rows.2.1 (by omega) h2, h.rows.drop k⟩
def selAt (f : Evt → List Evt → Bool) (l : List Evt) (k : Nat) : Bool := match l[k]? with | some e => f e (l.drop (k + 1)) | none => false
theorem selAt_of {f : Evt → List Evt → Bool} {l : List Evt} {k : Nat} {e : Evt} (h : l[k]? = some e) : selAt f l k = f e (l.drop (k + 1)) := by unfold selAt; rw [h]
theorem evSel_at {f : Evt → List Evt → Bool} {l : List Evt} {k : Nat} (h : k < l.length) : evSel f k (l.drop k) = if selAt f l k = true then (k : Int) :: evSel f (k + 1) (l.drop (k + 1)) else evSel f (k + 1) (l.drop (k + 1)) := by
 have h1 := List.getElem?_eq_getElem h
 rw [evSel_step h1, selAt_of h1]
set_option maxRecDepth 20000 in
theorem lz1_vc (i : Nat) (a1 : Option Addr) (la : Option Addr) (n c : Nat) (rs : List (List SV)) (l : List Evt) (w : World) (hE : EvL (H0 w) la n c rs l) (hQ1 : LiesH (H0 w) a1 (cc (.cells [.gh la n c (.rows 32 rs)]))) (hi : i < n) (hM : n ≤ 1000000) :
  Calls Tryd.prog 26 (cvs [.int .i64 (i : Nat), .gp a1 (.cells [.gh la n c (.rows 32 rs)]) 0 0 0]).toArray w (fun en w' => ∃ u, en = .returned u ∧ ∃ v' m', u = cv v' ∧ MemOk w [] m' w' ∧ v' = .bool (selAt looseE l i)) := by
 have hD := hE.drop (k := i + 1) (by omega)
 have hEd : ∀ m, allOld w ∈ m → EvL (HM m) (shA la c (i + 1) 32) (n - (i + 1)) (c - (i + 1)) (rs.drop (i + 1)) (l.drop (i + 1)) := fun m hin => hD.mono (H0.hm hin)
 have hev2 := evOf_eq hD.rows
 obtain ⟨hl, hn, ha, hm, hL, r1, r2, r3⟩ := hE
 unfold maxLen at hm
 have hLx : ∀ m, allOld w ∈ m → LiesH (HM m) la (cc (.rows 32 rs)) := fun m hin => hL.mono (H0.hm hin)
 have hP1 : ∀ m, allOld w ∈ m → LiesH (HM m) a1 (cc (.cells [.gh la n c (.rows 32 rs)])) := fun m hin => hQ1.mono (H0.hm hin)
 have e1 := List.getElem?_eq_getElem (show i < rs.length by omega)
 have e2 := List.getElem?_eq_getElem (show i < l.length by omega)
 have hp := r3 i _ _ e1 e2
 have hgd := getD_of e1
 have hev := evtOf_eq hp
 have hRx : ∀ m, allOld w ∈ m → EvR (HM m) rs[i] l[i] := fun m hin => hp.mono (H0.hm hin)
 have tk : ((i : Nat) : Int).toNat = i := by omega
 have tk1 : ((i : Nat) + 1 : Int).toNat = i + 1 := by omega
 have tkd : (rs.drop (i + 1)).take (n - (i + 1)) = rs.drop (i + 1) := List.take_of_length_le (by rw [List.length_drop]; omega)
 rw [selAt_of e2]
 generalize rs[i] = r at *
 generalize l[i] = e at *
 rw [looseE_called]
 obtain ⟨s0, s1, s2, s3, s4, s5, s6, s7, s8, s9, s10, s11, s12, s13, s14, s15, s16, s17, s18, s19, x0, x1, x2, x3, y0, y1, y2, y3, pa, pn, pc, rfl, g1, g2, g3, g4, g5, g6, g7, g8, g9, g10, g11, g12, g13, g14, g15, g16, g17⟩ := hp
 generalize h1 : decide (e.flt = 0) = b1
 generalize h2 : decide (e.op = 90) = b2
 have h2' : hasI [90] e.op = b2 := by rw [hasI_one]; exact h2
 have hbs : ∀ x : Bool, (b2 && b1 && !x) = (b1 && b2 && !x) := by intro x; cases b1 <;> cases b2 <;> rfl
 rw [hbs]
 generalize h3 : (b1 && b2) = b3
 cases b3
 all_goals
  refine Vc.calls T0_ok Tryd.func26 rfl rfl (args := [.int .i64 (i : Nat), .gp a1 (.cells [.gh la n c (.rows 32 rs)]) 0 0 0]) (k := 20) rfl (old_start w) ?_; change Vc _ _ (c8 (.int .i64 (i : Nat)) (.gp a1 (.cells [.gh la n c (.rows 32 rs)]) 0 0 0) .undef .undef .undef .undef .undef .undef (c8 .undef .undef .undef .undef .undef .undef .undef .undef ([.undef, .undef, .undef, .undef, .undef, .undef]))) _ _
  ((repeat (first | (with_reducible refine Vc.seq fun N hN => ?_) | (with_reducible intro _) | ((with_reducible refine And.intro ?_ ?_); exact sX3) | ((first | ((with_reducible refine Vc.fin ?_); dsimp only [thenK, blockK, retK, resS, resOne, resAll]) | ((with_reducible refine Vc.hold ?_); first | refine Vc.regiont T0_ok GU4_ok ?_ | refine Vc.drawt (id := 1) T0_ok GU4_ok (by kernel_rfl) [0, 1, 2, 3, 4, 5, 6, 7, 8, 9, 10, 11, 12, 13, 14] 15 [] trivial (by kernel_rfl) ?_)); (try simp only [v8Y, Nat.beq, Nat.ble, seval, tabs, GU4_set, h1, h2', h3, tk, tk1, tkd, hgd, hev, hev2, List.drop_zero, List.take_succ_cons, List.take_zero, Bool.and_false, Bool.false_and, Bool.and_true, Bool.true_and, conSub])) | ((with_reducible refine hN _ _ ?_); clear hN N))); (try ((with_reducible refine Fin.of ?_); (try with_reducible exact True.intro))))
  exact ⟨trivial, by first | exact trivial | rfl⟩
noncomputable def g_lz1 (args : List SV) (m : List Blk) : CR :=
 match args with
 | [.int .i64 i, .gp a1 (.cells [.gh la n c (.rows 32 rs)]) 0 0 0] => .pure ((∃ l, EvL (HM m) la n c rs l) ∧ LiesH (HM m) a1 (cc (.cells [.gh la n c (.rows 32 rs)])) ∧ 0 ≤ i ∧ i < (n : Int) ∧ n ≤ 1000000) (.bool (selAt looseE (evOf rs) i.toNat))
 | _ => .none
theorem g_lz1_ok (w0 : World) (B : List Nat) (args : List SV) (m : List Blk) : CROk Tryd.prog w0 B 26 args m (g_lz1 args m) := by
 unfold g_lz1
 split
 ·rename_i i a1 la n c rs
  intro ⟨⟨l, hE⟩, hP, h0, h1, h2⟩ w hm
  rw [evOf_eq hE.rows]
  obtain ⟨j, rfl⟩ := Int.eq_ofNat_of_zero_le h0
  exact calls_pure Tryd.func26 rfl rfl (lz1_vc j a1 la n c rs l w (hE.mono fun b o h => hm.hm h) (hP.mono fun b o h => hm.hm h) (by omega) h2)
 ·exact trivial
set_option maxRecDepth 20000 in
theorem sv1_vc (i : Nat) (a1 : Option Addr) (la : Option Addr) (n c : Nat) (rs : List (List SV)) (l : List Evt) (w : World) (hE : EvL (H0 w) la n c rs l) (hQ1 : LiesH (H0 w) a1 (cc (.cells [.gh la n c (.rows 32 rs)]))) (hi : i < n) (hM : n ≤ 1000000) :
  Calls Tryd.prog 29 (cvs [.int .i64 (i : Nat), .gp a1 (.cells [.gh la n c (.rows 32 rs)]) 0 0 0]).toArray w (fun en w' => ∃ u, en = .returned u ∧ ∃ v' m', u = cv v' ∧ MemOk w [] m' w' ∧ v' = .bool (selAt starvedE l i)) := by
 obtain ⟨hl, hn, ha, hm, hL, r1, r2, r3⟩ := hE
 unfold maxLen at hm
 have hLx : ∀ m, allOld w ∈ m → LiesH (HM m) la (cc (.rows 32 rs)) := fun m hin => hL.mono (H0.hm hin)
 have hP1 : ∀ m, allOld w ∈ m → LiesH (HM m) a1 (cc (.cells [.gh la n c (.rows 32 rs)])) := fun m hin => hQ1.mono (H0.hm hin)
 have e1 := List.getElem?_eq_getElem (show i < rs.length by omega)
 have e2 := List.getElem?_eq_getElem (show i < l.length by omega)
 have hp := r3 i _ _ e1 e2
 have hgd := getD_of e1
 have tk : ((i : Nat) : Int).toNat = i := by omega
 rw [selAt_of e2]
 generalize rs[i] = r at *
 generalize l[i] = e at *
 unfold starvedE
 obtain ⟨s0, s1, s2, s3, s4, s5, s6, s7, s8, s9, s10, s11, s12, s13, s14, s15, s16, s17, s18, s19, x0, x1, x2, x3, y0, y1, y2, y3, pa, pn, pc, rfl, g1, g2, g3, g4, g5, g6, g7, g8, g9, g10, g11, g12, g13, g14, g15, g16, g17⟩ := hp
 refine Vc.calls T0_ok Tryd.func29 rfl rfl (args := [.int .i64 (i : Nat), .gp a1 (.cells [.gh la n c (.rows 32 rs)]) 0 0 0]) (k := 8) rfl (old_start w) ?_; change Vc _ _ (c8 (.int .i64 (i : Nat)) (.gp a1 (.cells [.gh la n c (.rows 32 rs)]) 0 0 0) .undef .undef .undef .undef .undef .undef ([.undef, .undef])) _ _
 ((repeat (first | (with_reducible refine Vc.seq fun N hN => ?_) | ((with_reducible refine And.intro ?_ ?_); exact sX3) | ((first | ((with_reducible refine Vc.fin ?_); dsimp only [thenK, blockK, retK, resS, resOne, resAll]) | ((with_reducible refine Vc.hold ?_); first | refine Vc.regiont T0_ok GU4_ok ?_)); (try simp only [v8Y, Nat.beq, Nat.ble, seval, tabs, GU4_set, tk, hgd])) | ((with_reducible refine hN _ _ ?_); clear hN N))); (try ((with_reducible refine Fin.of ?_); (try with_reducible exact True.intro))))
 exact ⟨trivial, by first | exact trivial | rfl⟩
noncomputable def g_sv1 (args : List SV) (m : List Blk) : CR :=
 match args with
 | [.int .i64 i, .gp a1 (.cells [.gh la n c (.rows 32 rs)]) 0 0 0] => .pure ((∃ l, EvL (HM m) la n c rs l) ∧ LiesH (HM m) a1 (cc (.cells [.gh la n c (.rows 32 rs)])) ∧ 0 ≤ i ∧ i < (n : Int) ∧ n ≤ 1000000) (.bool (selAt starvedE (evOf rs) i.toNat))
 | _ => .none
theorem g_sv1_ok (w0 : World) (B : List Nat) (args : List SV) (m : List Blk) : CROk Tryd.prog w0 B 29 args m (g_sv1 args m) := by
 unfold g_sv1
 split
 ·rename_i i a1 la n c rs
  intro ⟨⟨l, hE⟩, hP, h0, h1, h2⟩ w hm
  rw [evOf_eq hE.rows]
  obtain ⟨j, rfl⟩ := Int.eq_ofNat_of_zero_le h0
  exact calls_pure Tryd.func29 rfl rfl (sv1_vc j a1 la n c rs l w (hE.mono fun b o h => hm.hm h) (hP.mono fun b o h => hm.hm h) (by omega) h2)
 ·exact trivial
noncomputable def GU9 : Ctr := fun f args m => match f with
 | 52 => g_index args m
 | 35 => g_contains args m
 | 55 => g_byEqual args m
 | 27 => g_does args m
 | 40 => g_hasPre args m
 | 28 => g_called args m
 | 26 => g_lz1 args m
 | 29 => g_sv1 args m
 | _ => .none
theorem GU9_ok : GOk Tryd.prog GU9 := by
 intro w0 B f args m; unfold GU9; split
 ·exact g_index_ok _ _ _ _
 ·exact g_contains_ok _ _ _ _
 ·exact g_byEqual_ok _ _ _ _
 ·exact g_does_ok _ _ _ _
 ·exact g_hasPre_ok _ _ _ _
 ·exact g_called_ok _ _ _ _
 ·exact g_lz1_ok _ _ _ _
 ·exact g_sv1_ok _ _ _ _
 ·exact trivial
theorem GU9_index : GU9 52 = g_index := by funext args m; rfl
theorem GU9_contains : GU9 35 = g_contains := by funext args m; rfl
theorem GU9_byEqual : GU9 55 = g_byEqual := by funext args m; rfl
theorem GU9_does : GU9 27 = g_does := by funext args m; rfl
theorem GU9_hasPre : GU9 40 = g_hasPre := by funext args m; rfl
theorem GU9_called : GU9 28 = g_called := by funext args m; rfl
theorem GU9_lz1 : GU9 26 = g_lz1 := by funext args m; rfl
theorem GU9_sv1 : GU9 29 = g_sv1 := by funext args m; rfl
def GU9_set := And.intro (And.intro (And.intro (And.intro (@GU9_index) (@g_index.eq_def)) (And.intro (@GU9_contains) (@g_contains.eq_def))) (And.intro (And.intro (@GU9_byEqual) (@g_byEqual.eq_def)) (And.intro (@GU9_does) (@g_does.eq_def)))) (And.intro (And.intro (And.intro (@GU9_hasPre) (@g_hasPre.eq_def)) (And.intro (@GU9_called) (@g_called.eq_def))) (And.intro (And.intro (@GU9_lz1) (@g_lz1.eq_def)) (And.intro (@GU9_sv1) (@g_sv1.eq_def))))

set_option maxRecDepth 20000 in
theorem idxL_vc (a1 : Option Addr) (la : Option Addr) (n c : Nat) (rs : List (List SV)) (l : List Evt) (w : World) (hE : EvL (H0 w) la n c rs l) (hQ1 : LiesH (H0 w) a1 (cc (.cells [.gh la n c (.rows 32 rs)]))) (hM : n ≤ 1000000) :
  Calls Tryd.prog 25 (cvs [.gh la n c (.rows 32 rs), .fn (.func 26) [] [.gp a1 (.cells [.gh la n c (.rows 32 rs)]) 0 0 0]]).toArray w (fun en w' => ∃ u, en = .returned u ∧ ∃ v' m', u = cv v' ∧ MemOk w [] m' w' ∧ ∃ s, v' = .own 1 s (evSel looseE 0 l).length ∧ bget m' 1 = .own s (evSel looseE 0 l).length 3 1 (.ints .i64 (evSel looseE 0 l))) := by
 have hEx : ∀ m, allOld w ∈ m → EvL (HM m) la n c rs l := fun m hin => hE.mono (H0.hm hin)
 have hP1 : ∀ m, allOld w ∈ m → LiesH (HM m) a1 (cc (.cells [.gh la n c (.rows 32 rs)])) := fun m hin => hQ1.mono (H0.hm hin)
 have hev := evOf_eq hE.rows
 have hl := hE.len
 refine Vc.calls T0_ok Tryd.func25 rfl rfl (args := [.gh la n c (.rows 32 rs), .fn (.func 26) [] [.gp a1 (.cells [.gh la n c (.rows 32 rs)]) 0 0 0]]) (k := 19) rfl (old_start w) ?_; change Vc _ _ (c8 (.gh la n c (.rows 32 rs)) (.fn (.func 26) [] [.gp a1 (.cells [.gh la n c (.rows 32 rs)]) 0 0 0]) .undef .undef .undef .undef .undef .undef (c8 .undef .undef .undef .undef .undef .undef .undef .undef ([.undef, .undef, .undef, .undef, .undef]))) _ _
 ((repeat (first | (with_reducible first | refine Vc.seq fun N hN => ?_ | refine Vc.block ?_) | ((with_reducible refine And.intro ?_ ?_); exact sX0) | ((first | ((with_reducible refine Vc.hold ?_); first | refine Vc.regiont T0_ok GU9_ok ?_)); (try simp only [v8Y, Nat.beq, Nat.ble, seval, tabs, GU9_set, ])) | ((with_reducible refine hN _ _ ?_); clear hN N))))
 (revert N; intro N1 hN1)
 refine Vc.nilown 5 3 1 .i64 rfl ?_
 (simp only [v8Y, Nat.beq, Nat.ble, seval, tabs])
 refine Vc.loop 5 21 (fun (x : Nat × Value × List Int) => [(5, .own 1 x.2.1 x.2.2.length), (7, .gh la n c (.rows 32 rs)), (8, .int .i64 (n : Nat)), (9, .int .i64 (x.1 : Nat))]) (fun x => [allOld w, .own x.2.1 x.2.2.length 3 1 (.ints .i64 x.2.2)]) (fun x => x.1 ≤ n ∧ x.2.2.length ≤ x.1 ∧ x.2.2 ++ evSel looseE x.1 (l.drop x.1) = evSel looseE 0 l) (fun x => n - x.1) (0, .slice none 0 0, []) ⟨⟨Nat.zero_le _, Nat.le_refl _, by simp⟩, ?_, ?_⟩ (fun x junk hx2 => ?_)
 ·((try simp only [v8Y, Nat.beq, Nat.ble, seval, tabs]); (repeat' with_reducible apply And.intro) <;> first | with_reducible exact True.intro | rfl | with_reducible rfl | (congr 1 <;> omega) | trivial)
 ·((try simp only [v8Y, Nat.beq, Nat.ble, seval, tabs]); (repeat' with_reducible apply And.intro) <;> first | with_reducible exact True.intro | rfl | with_reducible rfl | (congr 1 <;> omega) | trivial)
 ·obtain ⟨k, v, xs⟩ := x
  simp only at hx2 ⊢
  obtain ⟨k1, k2, k3⟩ := hx2
  (simp only [v8Y, Nat.beq, Nat.ble, seval, tabs])
  by_cases hc1 : k < n
  ·have d1 : decide ((k : Int) < (n : Int)) = true := decide_eq_true (by omega)
   have tk : ((k : Nat) : Int).toNat = k := by omega
   rw [evSel_at (by omega)] at k3
   cases hs : selAt looseE l k
   ·rw [if_neg (by rw [hs]; exact Bool.false_ne_true)] at k3
    ((repeat (first | (with_reducible refine Vc.seq fun N hN => ?_) | ((with_reducible refine And.intro ?_ ?_); exact sX3) | ((first | ((with_reducible refine Vc.hold ?_); first | refine Vc.regiont T0_ok GU9_ok ?_)); (try simp only [v8Y, Nat.beq, Nat.ble, seval, tabs, GU9_set, d1])) | ((with_reducible refine hN _ _ ?_); clear hN N))))
    (refine Vc.cond T0_ok (t := true) (by rfl) (fun _ => ?_) (fun h => Bool.noConfusion h))
    ((repeat (first | (with_reducible first | refine Vc.seq fun N hN => ?_ | refine Vc.block ?_) | ((first | with_reducible refine Vc.skip ?_); dsimp only [thenK, blockK, Nat.beq]; (first | (refine hN _ _ ?_; clear hN N))) | ((with_reducible refine And.intro ?_ ?_); exact sX3) | ((first | ((with_reducible refine Vc.hold ?_); first | refine Vc.regiont T0_ok GU9_ok ?_)); (try simp only [v8Y, Nat.beq, Nat.ble, seval, tabs, GU9_set, tk, hev, hs])) | ((with_reducible refine hN _ _ ?_); clear hN N))))
    (refine Vc.cond T0_ok (t := false) (by rfl) (fun h => Bool.noConfusion h) (fun _ => ?_))
    ((repeat (first | ((first | with_reducible refine Vc.skip ?_); dsimp only [thenK, blockK, Nat.beq]; (first | (refine hN _ _ ?_; clear hN N))) | ((with_reducible refine And.intro ?_ ?_); exact sX3) | ((first | ((with_reducible refine Vc.hold ?_); first | refine Vc.regiont T0_ok GU9_ok ?_)); (try simp only [v8Y, Nat.beq, Nat.ble, seval, tabs, GU9_set, ])))))
    refine ⟨(k + 1, v, xs), ⟨by simp only; omega, by simp only; omega, k3⟩, ?_, ?_, by simp only; omega⟩
    ·((try simp only [v8Y, Nat.beq, Nat.ble, seval, tabs]); (repeat' with_reducible apply And.intro) <;> first | with_reducible exact True.intro | rfl | (congr 1 <;> omega))
    ·((try simp only [v8Y, Nat.beq, Nat.ble, seval, tabs]); (repeat' with_reducible apply And.intro) <;> first | with_reducible exact True.intro | rfl | (congr 1 <;> omega))
   ·rw [if_pos hs] at k3
    ((repeat (first | (with_reducible refine Vc.seq fun N hN => ?_) | ((with_reducible refine And.intro ?_ ?_); exact sX3) | ((first | ((with_reducible refine Vc.hold ?_); first | refine Vc.regiont T0_ok GU9_ok ?_)); (try simp only [v8Y, Nat.beq, Nat.ble, seval, tabs, GU9_set, d1])) | ((with_reducible refine hN _ _ ?_); clear hN N))))
    (refine Vc.cond T0_ok (t := true) (by rfl) (fun _ => ?_) (fun h => Bool.noConfusion h))
    ((repeat (first | (with_reducible first | refine Vc.seq fun N hN => ?_ | refine Vc.block ?_) | ((first | with_reducible refine Vc.skip ?_); dsimp only [thenK, blockK, Nat.beq]; (first | (refine hN _ _ ?_; clear hN N))) | ((with_reducible refine And.intro ?_ ?_); exact sX3) | ((first | ((with_reducible refine Vc.hold ?_); first | refine Vc.regiont T0_ok GU9_ok ?_)); (try simp only [v8Y, Nat.beq, Nat.ble, seval, tabs, GU9_set, tk, hev, hs])) | ((with_reducible refine hN _ _ ?_); clear hN N))))
    (refine Vc.cond T0_ok (t := true) (by rfl) (fun _ => ?_) (fun h => Bool.noConfusion h))
    ((repeat (first | (with_reducible intro _) | ((with_reducible refine And.intro ?_ ?_); exact sX3) | ((first | ((with_reducible refine Vc.hold ?_); first | refine Vc.regiont T0_ok GU9_ok ?_)); (try simp only [v8Y, Nat.beq, Nat.ble, seval, tabs, GU9_set, tk, hev, hs, List.drop_zero, List.take_succ_cons, List.take_zero])) | ((with_reducible refine hN _ _ ?_); clear hN N))))
    rename_i _ v2
    refine ⟨(k + 1, v2, xs ++ [(k : Int)]), ⟨by simp only; omega, by simp only [List.length_append, List.length_singleton]; omega, by rw [List.append_assoc]; exact k3⟩, ?_, ?_, by simp only; omega⟩
    ·((try simp only [v8Y, Nat.beq, Nat.ble, seval, tabs]); (repeat' with_reducible apply And.intro) <;> first | with_reducible exact True.intro | (rw [List.length_append]; rfl) | (congr 1 <;> omega))
    ·((try simp only [v8Y, Nat.beq, Nat.ble, seval, tabs]); (repeat' with_reducible apply And.intro) <;> first | with_reducible exact True.intro | (rw [List.length_append]; rfl) | (congr 1 <;> omega))
  ·have d1 : decide ((k : Int) < (n : Int)) = false := decide_eq_false (by omega)
   obtain rfl : k = n := by omega
   rw [List.drop_eq_nil_of_le (by omega)] at k3
   simp only [evSel, List.append_nil] at k3
   ((repeat (first | (with_reducible refine Vc.seq fun N hN => ?_) | ((with_reducible refine And.intro ?_ ?_); exact sX0) | ((first | ((with_reducible refine Vc.hold ?_); first | refine Vc.regiont T0_ok GU9_ok ?_)); (try simp only [v8Y, Nat.beq, Nat.ble, seval, tabs, GU9_set, d1])) | ((with_reducible refine hN _ _ ?_); clear hN N))))
   (refine Vc.cond T0_ok (t := false) (by rfl) (fun h => Bool.noConfusion h) (fun _ => ?_))
   ((repeat (first | (with_reducible refine Vc.seq fun N hN => ?_) | ((first | with_reducible refine Vc.exit ?_); dsimp only [thenK, blockK, Nat.beq]; (first | skip)) | ((with_reducible refine And.intro ?_ ?_); exact sX0) | ((first | ((with_reducible refine Vc.fin ?_); dsimp only [thenK, blockK, retK, resS, resOne, resAll]) | ((with_reducible refine Vc.hold ?_); first | refine Vc.regiont T0_ok GU9_ok ?_)); (try simp only [v8Y, Nat.beq, Nat.ble, seval, tabs, GU9_set])) | ((with_reducible refine hN _ _ ?_); clear hN N))); (try ((with_reducible refine Fin.of ?_); (try with_reducible exact True.intro))))
   (refine hN1 _ _ ?_; (try clear hN N); clear hN1 N1)
   ((repeat (first | (with_reducible refine Vc.seq fun N hN => ?_) | ((first | with_reducible refine Vc.exit ?_); dsimp only [thenK, blockK, Nat.beq]; (first | skip)) | ((with_reducible refine And.intro ?_ ?_); exact sX0) | ((first | ((with_reducible refine Vc.fin ?_); dsimp only [thenK, blockK, retK, resS, resOne, resAll]) | ((with_reducible refine Vc.hold ?_); first | refine Vc.regiont T0_ok GU9_ok ?_)); (try simp only [v8Y, Nat.beq, Nat.ble, seval, tabs, GU9_set])) | ((with_reducible refine hN _ _ ?_); clear hN N))); (try ((with_reducible refine Fin.of ?_); (try with_reducible exact True.intro))))
   subst k3
   exact ⟨trivial, v, rfl, rfl⟩
set_option maxRecDepth 20000 in
theorem idxS_vc (a1 : Option Addr) (la : Option Addr) (n c : Nat) (rs : List (List SV)) (l : List Evt) (w : World) (hE : EvL (H0 w) la n c rs l) (hQ1 : LiesH (H0 w) a1 (cc (.cells [.gh la n c (.rows 32 rs)]))) (hM : n ≤ 1000000) :
  Calls Tryd.prog 25 (cvs [.gh la n c (.rows 32 rs), .fn (.func 29) [] [.gp a1 (.cells [.gh la n c (.rows 32 rs)]) 0 0 0]]).toArray w (fun en w' => ∃ u, en = .returned u ∧ ∃ v' m', u = cv v' ∧ MemOk w [] m' w' ∧ ∃ s, v' = .own 1 s (evSel starvedE 0 l).length ∧ bget m' 1 = .own s (evSel starvedE 0 l).length 3 1 (.ints .i64 (evSel starvedE 0 l))) := by
 have hEx : ∀ m, allOld w ∈ m → EvL (HM m) la n c rs l := fun m hin => hE.mono (H0.hm hin)
 have hP1 : ∀ m, allOld w ∈ m → LiesH (HM m) a1 (cc (.cells [.gh la n c (.rows 32 rs)])) := fun m hin => hQ1.mono (H0.hm hin)
 have hev := evOf_eq hE.rows
 have hl := hE.len
 refine Vc.calls T0_ok Tryd.func25 rfl rfl (args := [.gh la n c (.rows 32 rs), .fn (.func 29) [] [.gp a1 (.cells [.gh la n c (.rows 32 rs)]) 0 0 0]]) (k := 19) rfl (old_start w) ?_; change Vc _ _ (c8 (.gh la n c (.rows 32 rs)) (.fn (.func 29) [] [.gp a1 (.cells [.gh la n c (.rows 32 rs)]) 0 0 0]) .undef .undef .undef .undef .undef .undef (c8 .undef .undef .undef .undef .undef .undef .undef .undef ([.undef, .undef, .undef, .undef, .undef]))) _ _
 ((repeat (first | (with_reducible first | refine Vc.seq fun N hN => ?_ | refine Vc.block ?_) | ((with_reducible refine And.intro ?_ ?_); exact sX0) | ((first | ((with_reducible refine Vc.hold ?_); first | refine Vc.regiont T0_ok GU9_ok ?_)); (try simp only [v8Y, Nat.beq, Nat.ble, seval, tabs, GU9_set, ])) | ((with_reducible refine hN _ _ ?_); clear hN N))))
 (revert N; intro N1 hN1)
 refine Vc.nilown 5 3 1 .i64 rfl ?_
 (simp only [v8Y, Nat.beq, Nat.ble, seval, tabs])
 refine Vc.loop 5 21 (fun (x : Nat × Value × List Int) => [(5, .own 1 x.2.1 x.2.2.length), (7, .gh la n c (.rows 32 rs)), (8, .int .i64 (n : Nat)), (9, .int .i64 (x.1 : Nat))]) (fun x => [allOld w, .own x.2.1 x.2.2.length 3 1 (.ints .i64 x.2.2)]) (fun x => x.1 ≤ n ∧ x.2.2.length ≤ x.1 ∧ x.2.2 ++ evSel starvedE x.1 (l.drop x.1) = evSel starvedE 0 l) (fun x => n - x.1) (0, .slice none 0 0, []) ⟨⟨Nat.zero_le _, Nat.le_refl _, by simp⟩, ?_, ?_⟩ (fun x junk hx2 => ?_)
 ·((try simp only [v8Y, Nat.beq, Nat.ble, seval, tabs]); (repeat' with_reducible apply And.intro) <;> first | with_reducible exact True.intro | rfl | with_reducible rfl | (congr 1 <;> omega) | trivial)
 ·((try simp only [v8Y, Nat.beq, Nat.ble, seval, tabs]); (repeat' with_reducible apply And.intro) <;> first | with_reducible exact True.intro | rfl | with_reducible rfl | (congr 1 <;> omega) | trivial)
 ·obtain ⟨k, v, xs⟩ := x
  simp only at hx2 ⊢
  obtain ⟨k1, k2, k3⟩ := hx2
  (simp only [v8Y, Nat.beq, Nat.ble, seval, tabs])
  by_cases hc1 : k < n
  ·have d1 : decide ((k : Int) < (n : Int)) = true := decide_eq_true (by omega)
   have tk : ((k : Nat) : Int).toNat = k := by omega
   rw [evSel_at (by omega)] at k3
   cases hs : selAt starvedE l k
   ·rw [if_neg (by rw [hs]; exact Bool.false_ne_true)] at k3
    ((repeat (first | (with_reducible refine Vc.seq fun N hN => ?_) | ((with_reducible refine And.intro ?_ ?_); exact sX3) | ((first | ((with_reducible refine Vc.hold ?_); first | refine Vc.regiont T0_ok GU9_ok ?_)); (try simp only [v8Y, Nat.beq, Nat.ble, seval, tabs, GU9_set, d1])) | ((with_reducible refine hN _ _ ?_); clear hN N))))
    (refine Vc.cond T0_ok (t := true) (by rfl) (fun _ => ?_) (fun h => Bool.noConfusion h))
    ((repeat (first | (with_reducible first | refine Vc.seq fun N hN => ?_ | refine Vc.block ?_) | ((first | with_reducible refine Vc.skip ?_); dsimp only [thenK, blockK, Nat.beq]; (first | (refine hN _ _ ?_; clear hN N))) | ((with_reducible refine And.intro ?_ ?_); exact sX3) | ((first | ((with_reducible refine Vc.hold ?_); first | refine Vc.regiont T0_ok GU9_ok ?_)); (try simp only [v8Y, Nat.beq, Nat.ble, seval, tabs, GU9_set, tk, hev, hs])) | ((with_reducible refine hN _ _ ?_); clear hN N))))
    (refine Vc.cond T0_ok (t := false) (by rfl) (fun h => Bool.noConfusion h) (fun _ => ?_))
    ((repeat (first | ((first | with_reducible refine Vc.skip ?_); dsimp only [thenK, blockK, Nat.beq]; (first | (refine hN _ _ ?_; clear hN N))) | ((with_reducible refine And.intro ?_ ?_); exact sX3) | ((first | ((with_reducible refine Vc.hold ?_); first | refine Vc.regiont T0_ok GU9_ok ?_)); (try simp only [v8Y, Nat.beq, Nat.ble, seval, tabs, GU9_set, ])))))
    refine ⟨(k + 1, v, xs), ⟨by simp only; omega, by simp only; omega, k3⟩, ?_, ?_, by simp only; omega⟩
    ·((try simp only [v8Y, Nat.beq, Nat.ble, seval, tabs]); (repeat' with_reducible apply And.intro) <;> first | with_reducible exact True.intro | rfl | (congr 1 <;> omega))
    ·((try simp only [v8Y, Nat.beq, Nat.ble, seval, tabs]); (repeat' with_reducible apply And.intro) <;> first | with_reducible exact True.intro | rfl | (congr 1 <;> omega))
   ·rw [if_pos hs] at k3
    ((repeat (first | (with_reducible refine Vc.seq fun N hN => ?_) | ((with_reducible refine And.intro ?_ ?_); exact sX3) | ((first | ((with_reducible refine Vc.hold ?_); first | refine Vc.regiont T0_ok GU9_ok ?_)); (try simp only [v8Y, Nat.beq, Nat.ble, seval, tabs, GU9_set, d1])) | ((with_reducible refine hN _ _ ?_); clear hN N))))
    (refine Vc.cond T0_ok (t := true) (by rfl) (fun _ => ?_) (fun h => Bool.noConfusion h))
    ((repeat (first | (with_reducible first | refine Vc.seq fun N hN => ?_ | refine Vc.block ?_) | ((first | with_reducible refine Vc.skip ?_); dsimp only [thenK, blockK, Nat.beq]; (first | (refine hN _ _ ?_; clear hN N))) | ((with_reducible refine And.intro ?_ ?_); exact sX3) | ((first | ((with_reducible refine Vc.hold ?_); first | refine Vc.regiont T0_ok GU9_ok ?_)); (try simp only [v8Y, Nat.beq, Nat.ble, seval, tabs, GU9_set, tk, hev, hs])) | ((with_reducible refine hN _ _ ?_); clear hN N))))
    (refine Vc.cond T0_ok (t := true) (by rfl) (fun _ => ?_) (fun h => Bool.noConfusion h))
    ((repeat (first | (with_reducible intro _) | ((with_reducible refine And.intro ?_ ?_); exact sX3) | ((first | ((with_reducible refine Vc.hold ?_); first | refine Vc.regiont T0_ok GU9_ok ?_)); (try simp only [v8Y, Nat.beq, Nat.ble, seval, tabs, GU9_set, tk, hev, hs, List.drop_zero, List.take_succ_cons, List.take_zero])) | ((with_reducible refine hN _ _ ?_); clear hN N))))
    rename_i _ v2
    refine ⟨(k + 1, v2, xs ++ [(k : Int)]), ⟨by simp only; omega, by simp only [List.length_append, List.length_singleton]; omega, by rw [List.append_assoc]; exact k3⟩, ?_, ?_, by simp only; omega⟩
    ·((try simp only [v8Y, Nat.beq, Nat.ble, seval, tabs]); (repeat' with_reducible apply And.intro) <;> first | with_reducible exact True.intro | (rw [List.length_append]; rfl) | (congr 1 <;> omega))
    ·((try simp only [v8Y, Nat.beq, Nat.ble, seval, tabs]); (repeat' with_reducible apply And.intro) <;> first | with_reducible exact True.intro | (rw [List.length_append]; rfl) | (congr 1 <;> omega))
  ·have d1 : decide ((k : Int) < (n : Int)) = false := decide_eq_false (by omega)
   obtain rfl : k = n := by omega
   rw [List.drop_eq_nil_of_le (by omega)] at k3
   simp only [evSel, List.append_nil] at k3
   ((repeat (first | (with_reducible refine Vc.seq fun N hN => ?_) | ((with_reducible refine And.intro ?_ ?_); exact sX0) | ((first | ((with_reducible refine Vc.hold ?_); first | refine Vc.regiont T0_ok GU9_ok ?_)); (try simp only [v8Y, Nat.beq, Nat.ble, seval, tabs, GU9_set, d1])) | ((with_reducible refine hN _ _ ?_); clear hN N))))
   (refine Vc.cond T0_ok (t := false) (by rfl) (fun h => Bool.noConfusion h) (fun _ => ?_))
   ((repeat (first | (with_reducible refine Vc.seq fun N hN => ?_) | ((first | with_reducible refine Vc.exit ?_); dsimp only [thenK, blockK, Nat.beq]; (first | skip)) | ((with_reducible refine And.intro ?_ ?_); exact sX0) | ((first | ((with_reducible refine Vc.fin ?_); dsimp only [thenK, blockK, retK, resS, resOne, resAll]) | ((with_reducible refine Vc.hold ?_); first | refine Vc.regiont T0_ok GU9_ok ?_)); (try simp only [v8Y, Nat.beq, Nat.ble, seval, tabs, GU9_set])) | ((with_reducible refine hN _ _ ?_); clear hN N))); (try ((with_reducible refine Fin.of ?_); (try with_reducible exact True.intro))))
   (refine hN1 _ _ ?_; (try clear hN N); clear hN1 N1)
   ((repeat (first | (with_reducible refine Vc.seq fun N hN => ?_) | ((first | with_reducible refine Vc.exit ?_); dsimp only [thenK, blockK, Nat.beq]; (first | skip)) | ((with_reducible refine And.intro ?_ ?_); exact sX0) | ((first | ((with_reducible refine Vc.fin ?_); dsimp only [thenK, blockK, retK, resS, resOne, resAll]) | ((with_reducible refine Vc.hold ?_); first | refine Vc.regiont T0_ok GU9_ok ?_)); (try simp only [v8Y, Nat.beq, Nat.ble, seval, tabs, GU9_set])) | ((with_reducible refine hN _ _ ?_); clear hN N))); (try ((with_reducible refine Fin.of ?_); (try with_reducible exact True.intro))))
   subst k3
   exact ⟨trivial, v, rfl, rfl⟩
noncomputable def g_indices (args : List SV) (m : List Blk) : CR :=
 match args with
 | [.gh la n c (.rows 32 rs), .fn (.func 26) [] [.ptr n1 b1 0 0 0 0]] => match bget m n1 with
  | .blk c1 _ (.cells [.gh la2 m2 k2 (.rows 32 rs2)]) => .own (c1 = b1 ∧ la2 = la ∧ m2 = n ∧ k2 = c ∧ rs2 = rs ∧ (∃ l, EvL (HM m) la n c rs l) ∧ n ≤ 1000000) 3 1 (evSel looseE 0 (evOf rs)).length (.ints .i64 (evSel looseE 0 (evOf rs))) (fun v => v)
  | _ => .none
 | [.gh la n c (.rows 32 rs), .fn (.func 29) [] [.ptr n1 b1 0 0 0 0]] => match bget m n1 with
  | .blk c1 _ (.cells [.gh la2 m2 k2 (.rows 32 rs2)]) => .own (c1 = b1 ∧ la2 = la ∧ m2 = n ∧ k2 = c ∧ rs2 = rs ∧ (∃ l, EvL (HM m) la n c rs l) ∧ n ≤ 1000000) 3 1 (evSel starvedE 0 (evOf rs)).length (.ints .i64 (evSel starvedE 0 (evOf rs))) (fun v => v)
  | _ => .none
 | _ => .none
theorem g_indices_ok (w0 : World) (B : List Nat) (args : List SV) (m : List Blk) : CROk Tryd.prog w0 B 25 args m (g_indices args m) := by
 unfold g_indices
 split
 ·rename_i la n c rs n1 b1
  split
  ·rename_i c1 t1 la2 m2 k2 rs2 h1
   intro ⟨e1, e2, e3, e4, e5, ⟨l, hE⟩, hM⟩ w hm
   subst e1 e2 e3 e4 e5
   have k1 := (hm.each _ (bget_mem h1 (by simp))).1
   rw [evOf_eq hE.rows]
   have e : cvs [.gh la2 m2 k2 (.rows 32 rs2), .fn (.func 26) [] [.ptr n1 c1 0 0 0 0]] = cvs [.gh la2 m2 k2 (.rows 32 rs2), .fn (.func 26) [] [.gp (some ⟨c1, 0, none⟩) (.cells [.gh la2 m2 k2 (.rows 32 rs2)]) 0 0 0]] := rfl
   rw [e]
   refine .inr ⟨enter_run Tryd.func25 rfl rfl _ w, (idxL_vc (some ⟨c1, 0, none⟩) la2 m2 k2 rs2 l w (hE.mono fun b o h => hm.hm h) (.inr ⟨c1, 0, _, _, _, rfl, k1, fun j u hj => ?_⟩) hM).mono fun e w' ⟨u, he, v', m', hu, hm', s, hv, hs⟩ => ⟨u, he, s, by rw [hu, hv]; rfl, hm'.grown, own_ok0 (hm'.each _ (bget_mem hs (by simp)))⟩⟩
   rw [Nat.zero_add, List.getElem?_toArray, ← hj]
  ·exact trivial
 ·rename_i la n c rs n1 b1
  split
  ·rename_i c1 t1 la2 m2 k2 rs2 h1
   intro ⟨e1, e2, e3, e4, e5, ⟨l, hE⟩, hM⟩ w hm
   subst e1 e2 e3 e4 e5
   have k1 := (hm.each _ (bget_mem h1 (by simp))).1
   rw [evOf_eq hE.rows]
   have e : cvs [.gh la2 m2 k2 (.rows 32 rs2), .fn (.func 29) [] [.ptr n1 c1 0 0 0 0]] = cvs [.gh la2 m2 k2 (.rows 32 rs2), .fn (.func 29) [] [.gp (some ⟨c1, 0, none⟩) (.cells [.gh la2 m2 k2 (.rows 32 rs2)]) 0 0 0]] := rfl
   rw [e]
   refine .inr ⟨enter_run Tryd.func25 rfl rfl _ w, (idxS_vc (some ⟨c1, 0, none⟩) la2 m2 k2 rs2 l w (hE.mono fun b o h => hm.hm h) (.inr ⟨c1, 0, _, _, _, rfl, k1, fun j u hj => ?_⟩) hM).mono fun e w' ⟨u, he, v', m', hu, hm', s, hv, hs⟩ => ⟨u, he, s, by rw [hu, hv]; rfl, hm'.grown, own_ok0 (hm'.each _ (bget_mem hs (by simp)))⟩⟩
   rw [Nat.zero_add, List.getElem?_toArray, ← hj]
  ·exact trivial
 ·exact trivial
noncomputable def GUA : Ctr := fun f args m => match f with
 | 25 => g_indices args m
 | _ => .none
theorem GUA_ok : GOk Tryd.prog GUA := by
 intro w0 B f args m; unfold GUA; split
 ·exact g_indices_ok _ _ _ _
 ·exact trivial
theorem GUA_indices : GUA 25 = g_indices := by funext args m; rfl
def GUA_set := And.intro (@GUA_indices) (@g_indices.eq_def)

set_option maxRecDepth 20000 in
theorem tLoose_vc (la : Option Addr) (n c : Nat) (rs : List (List SV)) (l : List Evt) (w : World) (hE : EvL (H0 w) la n c rs l) (hM : n ≤ 1000000) :
  Calls Tryd.prog 20 (cvs [.gh la n c (.rows 32 rs)]).toArray w (fun en w' => ∃ u, en = .returned u ∧ ∃ v' m', u = cv v' ∧ MemOk w [] m' w' ∧ ∃ k s, v' = .own k s (evSel looseE 0 l).length ∧ bget m' k = .own s (evSel looseE 0 l).length 3 1 (.ints .i64 (evSel looseE 0 l))) := by
 have hEx : ∀ m, allOld w ∈ m → EvL (HM m) la n c rs l := fun m hin => hE.mono (H0.hm hin)
 have hev := evOf_eq hE.rows
 refine Vc.calls T0_ok Tryd.func20 rfl rfl (args := [.gh la n c (.rows 32 rs)]) (k := 5) rfl (old_start w) ?_; change Vc _ _ ([.gh la n c (.rows 32 rs), .undef, .undef, .undef, .undef, .undef]) _ _
 ((repeat (first | (with_reducible refine Vc.seq fun N hN => ?_) | (with_reducible intro _) | ((with_reducible refine And.intro ?_ ?_); exact sX3) | ((first | ((with_reducible refine Vc.fin ?_); dsimp only [thenK, blockK, retK, resS, resOne, resAll]) | ((with_reducible refine Vc.hold ?_); first | refine Vc.regiont T0_ok GUA_ok ?_)); (try simp only [v8Y, Nat.beq, Nat.ble, seval, tabs, GUA_set, hev])) | ((with_reducible refine hN _ _ ?_); clear hN N))); (try ((with_reducible refine Fin.of ?_); (try with_reducible exact True.intro))))
 exact ⟨trivial, _, _, rfl, rfl⟩
set_option maxRecDepth 20000 in
theorem tStarved_vc (la : Option Addr) (n c : Nat) (rs : List (List SV)) (l : List Evt) (w : World) (hE : EvL (H0 w) la n c rs l) (hM : n ≤ 1000000) :
  Calls Tryd.prog 21 (cvs [.gh la n c (.rows 32 rs)]).toArray w (fun en w' => ∃ u, en = .returned u ∧ ∃ v' m', u = cv v' ∧ MemOk w [] m' w' ∧ ∃ k s, v' = .own k s (evSel starvedE 0 l).length ∧ bget m' k = .own s (evSel starvedE 0 l).length 3 1 (.ints .i64 (evSel starvedE 0 l))) := by
 have hEx : ∀ m, allOld w ∈ m → EvL (HM m) la n c rs l := fun m hin => hE.mono (H0.hm hin)
 have hev := evOf_eq hE.rows
 refine Vc.calls T0_ok Tryd.func21 rfl rfl (args := [.gh la n c (.rows 32 rs)]) (k := 5) rfl (old_start w) ?_; change Vc _ _ ([.gh la n c (.rows 32 rs), .undef, .undef, .undef, .undef, .undef]) _ _
 ((repeat (first | (with_reducible refine Vc.seq fun N hN => ?_) | (with_reducible intro _) | ((with_reducible refine And.intro ?_ ?_); exact sX3) | ((first | ((with_reducible refine Vc.fin ?_); dsimp only [thenK, blockK, retK, resS, resOne, resAll]) | ((with_reducible refine Vc.hold ?_); first | refine Vc.regiont T0_ok GUA_ok ?_)); (try simp only [v8Y, Nat.beq, Nat.ble, seval, tabs, GUA_set, hev])) | ((with_reducible refine hN _ _ ?_); clear hN N))); (try ((with_reducible refine Fin.of ?_); (try with_reducible exact True.intro))))
 exact ⟨trivial, _, _, rfl, rfl⟩
end Go.Proofs.YtoadeekdgikghaaDoor
