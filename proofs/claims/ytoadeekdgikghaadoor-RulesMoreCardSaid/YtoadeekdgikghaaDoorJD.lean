/-
 Package quaestorlaw17: the chapter's example (known), walked; a world of no accounts, and of some. No condition.
-/
import Derived.Test.YtoadeekdgikghaaDoorJB
import Derived.Test.YtoadeekdgikghaaDoorU5
set_option maxRecDepth 20000
set_option maxHeartbeats 4000000
set_option linter.defProp false
set_option linter.unusedVariables false
set_option linter.unusedSimpArgs false
namespace Go.Proofs.YtoadeekdgikghaaDoor
open Go.RowKit
noncomputable def evA (m : List Blk) (x : SV) : Option (Prop × List Evt) := match x with
 | .nilsl => some (True, [])
 | .gh a n c (.rows 32 rs) => some ((∃ l, EvL (HM m) a n c rs l) ∧ n ≤ 1000000, evOf rs)
 | .sl nm (some ⟨b, 0, none⟩) 0 0 32 n c => match bget m nm with
  | .blk b2 _ (.rows 32 rs) => match evKs m rs with
   | some (q, l) => some (q ∧ b2 = b ∧ n = rs.length ∧ c = n ∧ n ≤ 1000, l)
   | none => none
  | _ => none
 | .own nm v n => match bget m nm with
  | .own v' n' _ 32 (.rows 32 rs) => some (v = v' ∧ n = n' ∧ (∃ l, EvsR (HM m) rs l) ∧ n ≤ 1000000, evOf rs)
  | _ => none
 | _ => none
theorem evl_nil (H : Nat → Obj → Prop) : EvL H none 0 0 [] [] := ⟨rfl, Nat.le_refl _, .inr ⟨rfl, rfl, rfl⟩, Nat.zero_le _, .inl rfl, rfl, (fun r hr => absurd hr List.not_mem_nil), (fun i r e hr _ => by cases hr)⟩
theorem evA_sound {m : List Blk} {x : SV} {q : Prop} {l : List Evt} (h : evA m x = some (q, l)) (hq : q) {w0 : World} {B : List Nat} {w : World} (hm : MemOk w0 B m w) : ∃ a n c rs, cv x = cv (.gh a n c (.rows 32 rs)) ∧ EvL (H0 w) a n c rs l ∧ n ≤ 1000000 := by
 unfold evA at h
 split at h
 ·cases h
  exact ⟨none, 0, 0, [], rfl, evl_nil _, Nat.zero_le _⟩
 ·simp only [Option.some.injEq, Prod.mk.injEq] at h
  obtain ⟨rfl, rfl⟩ := h
  obtain ⟨⟨l, hE⟩, hn⟩ := hq
  rw [evOf_eq hE.rows]
  exact ⟨_, _, _, _, rfl, hE.mono fun b o h => hm.hm h, hn⟩
 ·rename_i nm b n c
  split at h
  ·rename_i b2 t rs hb
   split at h
   ·rename_i q' l' hk
    simp only [Option.some.injEq, Prod.mk.injEq] at h
    obtain ⟨rfl, rfl⟩ := h
    obtain ⟨h0, rfl, e2, rfl, h1⟩ := hq
    obtain ⟨rs', hE⟩ := lit_evs hb hk h0 e2 h1 hm
    exact ⟨some ⟨b2, 0, none⟩, c, c, rs', by simp [cv, addr_add], hE, by omega⟩
   ·cases h
  ·cases h
 ·rename_i nm v n
  split at h
  ·rename_i v' n' t rs hb
   simp only [Option.some.injEq, Prod.mk.injEq] at h
   obtain ⟨rfl, rfl⟩ := h
   obtain ⟨rfl, rfl, ⟨l, hE⟩, hn⟩ := hq
   rw [evOf_eq hE]
   have hR : EvsR (H0 w) rs l := hE.mono fun b o h => hm.hm h
   have hfl : (cc (.rows 32 rs)).length = rs.length * 32 := by
    simp only [cc]
    have : ∀ (q : List (List SV)), (∀ r ∈ q, r.length = 32) → (q.flatMap cvs).length = q.length * 32 := by
     intro q
     induction q with
     | nil => intro _; rfl
     | cons r q ih => intro hq; rw [List.flatMap_cons, List.length_append, ih fun x hx => hq x (List.mem_cons_of_mem _ hx), cvs_len, hq r List.mem_cons_self, List.length_cons]; omega
    exact this rs hE.2.1
   obtain ⟨⟨ho1, ho2⟩, ho3⟩ := hm.each _ (bget_mem hb (by simp))
   have hl : rs.length = n := by rw [hfl] at ho1; omega
   have hll : l.length = n := by rw [← hE.1]; exact hl
   rcases ho2 with ⟨rfl, rfl⟩ | ⟨g, cap, cur, rfl, _, h3, h4, h5, h6, h7⟩
   ·exact ⟨none, 0, 0, rs, rfl, ⟨hll, Nat.le_refl _, .inr ⟨rfl, rfl, rfl⟩, Nat.zero_le _, .inl (List.length_eq_zero_iff.1 (by rw [hfl, hl, Nat.zero_mul])), hR⟩, hn⟩
   ·refine ⟨some ⟨g, 0, none⟩, n, cap, rs, rfl, ⟨hll, h4, .inl rfl, Nat.le_trans h4 h5, .inr ⟨g, 0, cur, t, (0, 0), rfl, h3, fun j u hj => ?_⟩, hR⟩, hn⟩
    rw [← h7] at hj
    rw [Nat.zero_add, ← Array.getElem?_toList]
    rw [List.getElem?_take] at hj
    split at hj
    ·exact hj
    ·cases hj
  ·cases h
 ·cases h
def stkF (b0 b1 b2 b3 : Bool) : Nat → Bool
 | 0 => b0
 | 1 => b1
 | 2 => b2
 | _ => b3
def lsF (l1 l2 l3 : List Evt) : Nat → List Evt
 | 1 => l1
 | 2 => l2
 | 3 => l3
 | _ => []
def AcOk (S : Wst) : Prop := ∀ c, okAcc (S.acc c) ∧ (S.acc c).c.length ≤ 1000000
theorem wd_H {w0 : World} {B : List Nat} {m : List Blk} {w : World} (hm : MemOk w0 B m w) {nm p : Nat} {τ : WTy} {S : Wst} {l : List Nat} (hb : bget m nm = .wd τ p S l) (hτ : τ = τ0) (hA : AcOk S) : ∃ wc, WdH (H0 w) S.acc p wc := by
 subst hτ
 obtain ⟨⟨a, s, t, o, d, vs, vm, hl, h0, g1, g2, g3, g4, g5, g6, g7⟩, h2⟩ := hm.each _ (bget_mem hb (by simp))
 refine ⟨wdCells S a s t o d vs vm, a, _, rfl, .inr ⟨p, 0, _, _, _, rfl, h0, fun j u hj => ?_⟩, ?_, hA⟩
 ·rw [Nat.zero_add, List.getElem?_toArray, ← hj]; rfl
 ·obtain ⟨es, clock, e1, e2⟩ := g1
  exact ⟨es, clock, e1, e2⟩
noncomputable def g_Check (args : List SV) (m : List Blk) : CR := match args with
 | [.ptr nm p 0 0 0 0, .agg ol, .agg [x0, x1, x2, x3], .agg [.bool b0, .bool b1, .bool b2, .bool b3]] => match bget m nm, evA m x1, evA m x2, evA m x3 with
  | .wd τ p' S _, some (q1, l1), some (q2, l2), some (q3, l3) => .own (τ = τ0 ∧ p = p' ∧ AcOk S ∧ (∃ x, OpR (HM m) ol x) ∧ oneS x0 = true ∧ q1 ∧ q2 ∧ q3 ∧ LiesH (HM m) (some ⟨0, 0, none⟩) (cc (.ints .u64 kKeys)) ∧ LiesH (HM m) (some ⟨1, 0, none⟩) (cc (.ints .u8 kPathI))) 41 3 (chkR (chkE (opOf ol) (stkF b0 b1 b2 b3) S.acc) (lsF l1 l2 l3) 3).length (.rows 3 (chkR (chkE (opOf ol) (stkF b0 b1 b2 b3) S.acc) (lsF l1 l2 l3) 3)) (fun v => v)
  | _, _, _, _ => .none
 | _ => .none
theorem g_Check_ok (w0 : World) (B : List Nat) (args : List SV) (m : List Blk) : CROk Tryd.prog w0 B 9 args m (g_Check args m) := by
 unfold g_Check; split
 ·rename_i nm p ol x0 x1 x2 x3 b0 b1 b2 b3
  split
  ·rename_i τ p' S lw q1 l1 q2 l2 q3 l3 hb h1 h2 h3
   rintro ⟨rfl, rfl, hA, ⟨x, hO⟩, hx0, k1, k2, k3, k4, k5⟩ w hm
   obtain ⟨wc, hW⟩ := wd_H hm hb rfl hA
   obtain ⟨a1, n1, c1, r1, e1, i1, j1⟩ := evA_sound h1 k1 hm
   obtain ⟨a2, n2, c2, r2, e2, i2, j2⟩ := evA_sound h2 k2 hm
   obtain ⟨a3, n3, c3, r3, e3, i3, j3⟩ := evA_sound h3 k3 hm
   rw [opOf_eq hO]
   have e : cvs [.ptr nm p 0 0 0 0, .agg ol, .agg [x0, x1, x2, x3], .agg [.bool b0, .bool b1, .bool b2, .bool b3]] = cvs [.gp (some ⟨p, 0, none⟩) (.cells wc) 0 0 0, .agg ol, .agg [x0, .gh a1 n1 c1 (.rows 32 r1), .gh a2 n2 c2 (.rows 32 r2), .gh a3 n3 c3 (.rows 32 r3)], .agg [.bool b0, .bool b1, .bool b2, .bool b3]] := by
    have ep : cv (.ptr nm p 0 0 0 0) = cv (.gp (some ⟨p, 0, none⟩) (.cells wc) 0 0 0) := rfl
    have ea : cv (.agg [x0, x1, x2, x3]) = cv (.agg [x0, .gh a1 n1 c1 (.rows 32 r1), .gh a2 n2 c2 (.rows 32 r2), .gh a3 n3 c3 (.rows 32 r3)]) := by simp only [cv.eq_11, cvs, e1, e2, e3]
    simp only [cvs, ep, ea]
   rw [e]
   have hH : ∀ b o, HM m b o → H0 w b o := fun b o h => hm.hm h
   have hv := chk_vc (chkE x (stkF b0 b1 b2 b3) S.acc) p wc ol x0 hx0 (fun i => match i with | 1 => a1 | 2 => a2 | _ => a3) (fun i => match i with | 1 => n1 | 2 => n2 | _ => n3) (fun i => match i with | 1 => c1 | 2 => c2 | _ => c3) (fun i => match i with | 1 => r1 | 2 => r2 | _ => r3) (lsF l1 l2 l3) w
    (fun i hi => by rcases hi with rfl | rfl | rfl; exact ⟨i1, j1⟩; exact ⟨i2, j2⟩; exact ⟨i3, j3⟩) (hO.mono hH) hW (k4.mono hH) (k5.mono hH)
   exact .inr ⟨enter_run Tryd.func9 rfl rfl _ w, hv.mono fun en w' ⟨u, hu, v', m', hv, hm', i, s, hvv, hi⟩ => ⟨u, hu, s, by rw [hv, hvv]; rfl, hm'.grown, own_ok0 (hm'.each _ (bget_mem hi (by simp)))⟩⟩
  ·exact trivial
 ·exact trivial
end Go.Proofs.YtoadeekdgikghaaDoor
namespace Go.Proofs.YtoadeekdgikghaaDoor
open Go.RowKit
theorem entL_c {z y : EntV} (hz : z.a.length = 20) (hy : y.a.length = 20) (h : entL z = entL y) : z.c = y.c := by
 have h1 : nth? (entL z) 25 = nth? (entL y) 25 := by rw [h]
 rw [nth?_get, nth?_get] at h1
 unfold entL at h1
 rw [List.getElem?_append_right (by simp [hz]), List.getElem?_append_right (by simp [hy])] at h1
 simp only [List.length_map, hz, hy] at h1
 simp at h1
 exact h1.2.2.2
theorem map_entL_c : ∀ {es ys : List EntV}, (∀ z ∈ es, EntOk z) → (∀ z ∈ ys, EntOk z) → es.map entL = ys.map entL → es.map EntV.c = ys.map EntV.c
 | [], [], _, _, _ => rfl
 | [], _ :: _, _, _, h => by simp at h
 | _ :: _, [], _, _, h => by simp at h
 | z :: es, y :: ys, h1, h2, h => by
  simp only [List.map_cons, List.cons.injEq] at h ⊢
  exact ⟨entL_c (h1 z List.mem_cons_self).1.1 (h2 y List.mem_cons_self).1.1 h.1, map_entL_c (fun x hx => h1 x (List.mem_cons_of_mem _ hx)) (fun x hx => h2 x (List.mem_cons_of_mem _ hx)) h.2⟩
theorem newG_c {es : List EntV} (hE : ∀ z ∈ es, z.c.length ≤ 1000000) : ∀ (k : Nat) (c : List Int), ((newG es k).1 c).c.length ≤ 1000000
 | 0, c => by simp [newG, acc0]
 | k + 1, c => by
  have ih := newG_c hE k
  unfold newG
  cases he : es[k]? with
  | none => exact ih c
  | some z =>
   have hz := hE z (List.mem_of_getElem? he)
   dsimp only
   cases decide ((lastQ es es.length z.a).getD 0 = k) with
   | false => exact ih c
   | true =>
    dsimp only
    unfold upd1
    split
    ·exact hz
    ·exact ih c
theorem new_AcOk {es : List EntV} (h1 : ∀ z ∈ es, EntOk z) (h2 : ∀ z ∈ es, z.c.length ≤ 1000000) : AcOk (newS es) := fun c => ⟨(newS_ok h1).1 c, newG_c h2 _ c⟩
def g_NewA (args : List SV) (m : List Blk) : CR := match args with
 | [.nilsl] => .grw True ((Nat × List Nat) × Wst) (fun x => x.2 = newS []) (fun x => .ptr (blen m) x.1.1 0 0 0 0) (fun x => .wd τ0 x.1.1 x.2 x.1.2)
 | [.gh ea n ep (.rows 27 rows)] => .grw (∃ es : List EntV, rows = es.map entL ∧ es.length = n ∧ n ≤ ep ∧ adr ea n ep ∧ n ≤ 1000000 ∧ (∀ z ∈ es, EntOk z ∧ EntLies (HM m) z) ∧ (∀ z ∈ es, z.c.length ≤ 1000000) ∧ LiesH (HM m) ea (cc (.rows 27 rows))) ((Nat × List Nat) × Wst) (fun x => AcOk x.2) (fun x => .ptr (blen m) x.1.1 0 0 0 0) (fun x => .wd τ0 x.1.1 x.2 x.1.2)
 | _ => .none
theorem g_NewA_ok (w0 : World) (B : List Nat) (args : List SV) (m : List Blk) : CROk Tryd.prog w0 B 8 args m (g_NewA args m) := by
 unfold g_NewA; split
 ·intro _ w hm
  have h0 : LiesH (HM m) none (cc (.rows 27 (([] : List EntV).map entL))) := .inl rfl
  have h1 := g_New_ok w0 B [.gh none 0 0 (.rows 27 [])] m
  unfold g_New at h1
  refine (h1 ⟨[], rfl, rfl, Nat.le_refl _, .inr ⟨rfl, rfl, rfl⟩, Nat.zero_le _, (fun z hz => absurd hz List.not_mem_nil), h0⟩ w hm).mono fun u w' ⟨x, ⟨es, e1, e2, e3⟩, h⟩ => ⟨x, ?_, h⟩
  cases es with
  | nil => exact e3
  | cons z es => simp at e1
 ·rename_i ea n ep rows
  rintro ⟨es, rfl, h1, h2, h3, h4, h5, h6, h7⟩ w hm
  have h8 := g_New_ok w0 B [.gh ea n ep (.rows 27 (es.map entL))] m
  unfold g_New at h8
  refine (h8 ⟨es, rfl, h1, h2, h3, h4, h5, h7⟩ w hm).mono fun u w' ⟨x, ⟨ys, e1, e2, e3⟩, h⟩ => ⟨x, ?_, h⟩
  show AcOk x.2
  rw [e3]
  refine new_AcOk e2 fun y hy => ?_
  have h9 := map_entL_c (fun z hz => (h5 z hz).1) e2 e1
  have h10 : y.c ∈ es.map EntV.c := by rw [h9]; exact List.mem_map_of_mem hy
  obtain ⟨z, hz, h11⟩ := List.mem_map.1 h10
  rw [← h11]
  exact h6 z hz
 ·exact trivial
def adrK (x : Int) : List Int := [x, 0, 0, 0, 0, 0, 0, 0, 0, 0, 0, 0, 0, 0, 0, 0, 0, 0, 0, 0]
def opK0 : OpD := ⟨adrK 1, 0, false, adrK 0, [], [], 0, 0, 0, 0, 0, false, adrK 0, 0, 0, [], []⟩
def olK : List SV := bL (adrK 1) ++ (wL 0 ++ (.bool false :: (bL (adrK 0) ++ (.gh none 0 0 (.ints .u8 []) :: .gh none 0 0 (.ints .u8 []) :: .int .u64 0 :: .int .u64 0 :: .int .u64 0 :: (wL 0 ++ (wL 0 ++ (.bool false :: (bL (adrK 0) ++ [.int .u64 0, .int .u64 0, .gh none 0 0 (.ints .u8 []), .gh none 0 0 (.ints .u8 [])]))))))))
theorem adrK_all {x : Int} (h : 0 ≤ x ∧ x ≤ 255) : allB (adrK x) := by simp [allB, adrK]; omega
theorem olK_ok (H : Nat → Obj → Prop) : OpR H olK opK0 := by
 have b0 : byR H (.gh none 0 0 (.ints .u8 [])) [] := byR_nil H
 have hW : (0 : Nat) < W := by decide
 refine ⟨rfl, rfl, rfl, rfl, rfl, rfl, rfl, rfl, ⟨_, rfl, b0⟩, ⟨_, rfl, b0⟩, rfl, rfl, rfl, rfl, rfl, rfl, rfl, rfl, rfl, rfl, ⟨_, rfl, b0⟩, ⟨_, rfl, b0⟩, rfl, rfl, rfl, adrK_all (by omega), adrK_all (by omega), adrK_all (by omega), hW, hW, hW, ⟨by decide, by decide⟩, ⟨by decide, by decide⟩, ⟨by decide, by decide⟩, ⟨by decide, by decide⟩, ⟨by decide, by decide⟩⟩
def evK1 : Evt := ⟨66, 0, adrK 1, 0, 0, [], 0⟩
def evK2 : Evt := ⟨84, 0, adrK 2, numI [7, 0, 0, 0], 0, [], 0⟩
def evK3 : Evt := ⟨84, 0, adrK 1, numI [7, 0, 0, 0], 0, [], 0⟩
def EK (e : Evt) : JE := stepE (roleE (chkE opK0 (stkF false false false false) (newS []).acc) 1) [e] 0
theorem vK1 : vioE (EK evK1) 8 = [1] := by decide +kernel
theorem vK2 : vioE (EK evK2) 8 = [8] := by decide +kernel
theorem vK3 : vioE (EK evK3) 8 = [] := by decide +kernel
theorem chk_one (E : JE) (e : Evt) : chkR E (lsF [e] [] []) 3 = rowsE (stepE (roleE E 1) [e] 0) := by
 simp [chkR, lsF, brkR, List.range_succ]
noncomputable def GJF : Ctr := fun f args m => match f with
 | 8 => g_NewA args m
 | 9 => g_Check args m
 | _ => .none
theorem GJF_ok : GOk Tryd.prog GJF := by
 intro w0 B f args m; unfold GJF; split
 ·exact g_NewA_ok _ _ _ _
 ·exact g_Check_ok _ _ _ _
 ·exact trivial
theorem GJF_NewA : GJF 8 = g_NewA := by funext args m; rfl
theorem GJF_Check : GJF 9 = g_Check := by funext args m; rfl
def GJF_set := And.intro (And.intro (@GJF_NewA) (@g_NewA.eq_def)) (And.intro (@GJF_Check) (@g_Check.eq_def))

theorem chkK1 : chkR (chkE opK0 (stkF false false false false) (newS []).acc) (lsF [evK1] [] []) 3 = [[.int .u8 1, .int .u8 1, .int .i64 0]] := by
 rw [chk_one]
 have h : rowsE (EK evK1) = _ := congrArg (List.map _) vK1
 exact h
theorem chkK2 : chkR (chkE opK0 (stkF false false false false) (newS []).acc) (lsF [evK2] [] []) 3 = [[.int .u8 8, .int .u8 1, .int .i64 0]] := by
 rw [chk_one]
 have h : rowsE (EK evK2) = _ := congrArg (List.map _) vK2
 exact h
theorem chkK3 : chkR (chkE opK0 (stkF false false false false) (newS []).acc) (lsF [evK3] [] []) 3 = [] := by
 rw [chk_one]
 have h : rowsE (EK evK3) = _ := congrArg (List.map _) vK3
 exact h
set_option maxRecDepth 40000 in
theorem kn_vc (w : World) (k0 : LiesH (H0 w) (some ⟨0, 0, none⟩) (cc (.ints .u64 kKeys))) (k1 : LiesH (H0 w) (some ⟨1, 0, none⟩) (cc (.ints .u8 kPathI))) : Calls Tryd.prog 7 (cvs []).toArray w (fun en w' => ∃ u, en = .returned u ∧ ∃ v' m', u = cv v' ∧ MemOk w [] m' w' ∧ v' = .bool true) := by
 have hK0 : ∀ m, allOld w ∈ m → LiesH (HM m) (some ⟨0, 0, none⟩) (cc (.ints .u64 kKeys)) := fun m hin => k0.mono (H0.hm hin)
 have hK1 : ∀ m, allOld w ∈ m → LiesH (HM m) (some ⟨1, 0, none⟩) (cc (.ints .u8 kPathI)) := fun m hin => k1.mono (H0.hm hin)
 have hop := opOf_eq (olK_ok fun _ _ => True)
 have hol : ∀ m, ∃ x, OpR (HM m) olK x := fun m => ⟨_, olK_ok _⟩
 refine Vc.calls T0_ok Tryd.func7 rfl rfl (args := []) (k := 64) rfl (old_start w) ?_; change Vc _ _ (c8 .undef .undef .undef .undef .undef .undef .undef .undef (c8 .undef .undef .undef .undef .undef .undef .undef .undef (c8 .undef .undef .undef .undef .undef .undef .undef .undef (c8 .undef .undef .undef .undef .undef .undef .undef .undef (c8 .undef .undef .undef .undef .undef .undef .undef .undef (c8 .undef .undef .undef .undef .undef .undef .undef .undef (c8 .undef .undef .undef .undef .undef .undef .undef .undef (c8 .undef .undef .undef .undef .undef .undef .undef .undef ([]))))))))) _ _
 ((with_reducible refine Vc.seq fun N hN => ?_); (refine Vc.regiont T0_ok GJF_ok ?_); simp only [v8Y, Nat.beq, Nat.ble, seval, tabs, GJF_set]; (try simp (disch := omega) only [v8W]); (repeat (first | with_reducible intro _ | ((with_reducible refine And.intro ?_ ?_); exact sX0))); (first | (refine hN _ _ ?_; clear hN N; (try simp (disch := omega) only [v8W])) | skip))
 ((with_reducible refine Vc.seq fun N hN => ?_); (refine Vc.regiont T0_ok GJF_ok ?_); simp only [v8Y, Nat.beq, Nat.ble, seval, tabs, GJF_set]; (try simp (disch := omega) only [v8W]); (repeat (first | with_reducible intro _ | ((with_reducible refine And.intro ?_ ?_); exact sX0))); (first | (refine hN _ _ ?_; clear hN N; (try simp (disch := omega) only [v8W])) | skip))
 ((with_reducible refine Vc.seq fun N hN => ?_); (refine Vc.regiont T0_ok GJF_ok ?_); simp only [v8Y, Nat.beq, Nat.ble, seval, tabs, GJF_set]; (try simp (disch := omega) only [v8W]); (repeat (first | with_reducible intro _ | ((with_reducible refine And.intro ?_ ?_); exact sX0))); (first | (refine hN _ _ ?_; clear hN N; (try simp (disch := omega) only [v8W])) | skip))
 rename_i b1 x hx
 have hz : ∀ {r : List SV}, r.length = 83 → splice zl_30 0 r = some r := fun h => splice_all (by rw [h]; rfl)
 ((with_reducible refine Vc.seq fun N hN => ?_); (refine Vc.regiont T0_ok GJF_ok ?_); simp only [v8Y, Nat.beq, Nat.ble, seval, tabs, GJF_set, hz]; (try simp (disch := omega) only [v8W]); (repeat (first | with_reducible intro _ | ((with_reducible refine And.intro ?_ ?_); exact sX0))); (first | (refine hN _ _ ?_; clear hN N; (try simp (disch := omega) only [v8W])) | skip))
 rename_i b3
 obtain ⟨ol, hol2⟩ : ∃ ol, ol = olK := ⟨_, rfl⟩
 refine Vc.recon 3 (.cells ol) rfl (by rw [hol2]; rfl) ?_
 (simp only [v8Y, Nat.beq, Nat.ble, seval, tabs])
 obtain ⟨⟨p, lw⟩, S⟩ := x
 simp only at hx
 rw [← hol2] at hop hol
 have ho3 : takeN ol 0 83 = some ol := by rw [hol2]; rfl
 have hS : AcOk S := by rw [hx]; exact new_AcOk (fun z hz => absurd hz List.not_mem_nil) (fun z hz => absurd hz List.not_mem_nil)
 have c1 := chkK1
 have c2 := chkK2
 have c3 := chkK3
 rw [← hx] at c1 c2 c3
 simp only [evK1, evK2, evK3, adrK] at c1 c2 c3
 clear hol2 hx
 have U0 : allU [0, 0, 0, 0] := by simp [allU]
 have U7 : allU [7, 0, 0, 0] := by simp [allU]
 have ba1 : allB [1, 0, 0, 0, 0, 0, 0, 0, 0, 0, 0, 0, 0, 0, 0, 0, 0, 0, 0, 0] := adrK_all (by omega)
 have ba2 : allB [2, 0, 0, 0, 0, 0, 0, 0, 0, 0, 0, 0, 0, 0, 0, 0, 0, 0, 0, 0] := adrK_all (by omega)
 have l0 : ((lm (numI [7, 0, 0, 0]) 0 : Nat) : Int) = 7 := by decide +kernel
 have l1 : ((lm (numI [7, 0, 0, 0]) 1 : Nat) : Int) = 0 := by decide +kernel
 have l2 : ((lm (numI [7, 0, 0, 0]) 2 : Nat) : Int) = 0 := by decide +kernel
 have l3 : ((lm (numI [7, 0, 0, 0]) 3 : Nat) : Int) = 0 := by decide +kernel
 ((with_reducible refine Vc.seq fun N hN => ?_); (refine Vc.regiont T0_ok GJF_ok ?_); simp only [v8Y, Nat.beq, Nat.ble, seval, tabs, GJF_set, hop, ho3, evA.eq_def, evKs, evK.eq_def, datK.eq_def, c1, c2, c3, List.drop_zero]; (try simp (disch := omega) only [v8W]); (repeat (first | with_reducible intro _ | ((with_reducible refine And.intro ?_ ?_); exact sX19))); (first | (refine hN _ _ ?_; clear hN N; (try simp (disch := omega) only [v8W])) | skip))
 ((with_reducible refine Vc.seq fun N hN => ?_); (refine Vc.regiont T0_ok GJF_ok ?_); simp only [v8Y, Nat.beq, Nat.ble, seval, tabs, GJF_set, hop, ho3, evA.eq_def, evKs, evK.eq_def, datK.eq_def, c1, c2, c3, List.drop_zero, l0, l1, l2, l3]; (try simp (disch := omega) only [v8W]); (repeat (first | with_reducible intro _ | ((with_reducible refine And.intro ?_ ?_); exact sX19))); (first | (refine hN _ _ ?_; clear hN N; (try simp (disch := omega) only [v8W])) | skip))
 ((with_reducible refine Vc.seq fun N hN => ?_); (refine Vc.regiont T0_ok GJF_ok ?_); simp only [v8Y, Nat.beq, Nat.ble, seval, tabs, GJF_set, hop, ho3, evA.eq_def, evKs, evK.eq_def, datK.eq_def, c1, c2, c3, List.drop_zero, l0, l1, l2, l3]; (try simp (disch := omega) only [v8W]); (repeat (first | with_reducible intro _ | ((with_reducible refine And.intro ?_ ?_); exact sX19))); (first | (refine hN _ _ ?_; clear hN N; (try simp (disch := omega) only [v8W])) | skip))
 have d1 : decide (((1 : Nat) : Int) = 1) = true := by decide
 have d0 : decide (((0 : Nat) : Int) = 0) = true := by decide
 have eL : eqL [.int .u8 1, .int .u8 1, .int .i64 0] [.int .u8 1, .int .u8 1, .int .i64 0] = true := by decide
 have r31 : ∀ (v : Int) (r : List SV), r ∈ [[SV.int .u8 v, .int .u8 1, .int .i64 0]] → r.length = 3 := fun v r hr => by rw [List.mem_singleton.1 hr]; rfl
 ((repeat (first | (with_reducible refine Vc.seq fun N hN => ?_) | ((with_reducible refine And.intro ?_ ?_); (focus (first | ((repeat' with_reducible apply And.intro) <;> first | exact sideQ | (simp only [inK]; omega) | (exact r31 _)) | exact sd0))) | ((first | ((with_reducible refine Vc.fin ?_); dsimp only [thenK, blockK, retK, resS, resOne, resAll]) | ((with_reducible refine Vc.hold ?_); first | refine Vc.regiont T0_ok GJF_ok ?_)); (try simp only [v8Y, Nat.beq, Nat.ble, seval, tabs, GJF_set, c1, c2, c3, d0, d1, eL, List.drop_zero, Bool.and_true, Bool.true_and])) | ((with_reducible refine hN _ _ ?_); clear hN N))); (try ((with_reducible refine Fin.of ?_); (try with_reducible exact True.intro))))
 exact ⟨by first | trivial | simp, by first | rfl | trivial⟩
noncomputable def g_kn (args : List SV) (m : List Blk) : CR := match args with
 | [] => .pure (LiesH (HM m) (some ⟨0, 0, none⟩) (cc (.ints .u64 kKeys)) ∧ LiesH (HM m) (some ⟨1, 0, none⟩) (cc (.ints .u8 kPathI))) (.bool true)
 | _ => .none
theorem g_kn_ok (w0 : World) (B : List Nat) (args : List SV) (m : List Blk) : CROk Tryd.prog w0 B 7 args m (g_kn args m) := by
 unfold g_kn; split
 ·rintro ⟨h1, h2⟩ w hm
  exact calls_pure Tryd.func7 rfl rfl (kn_vc w (h1.mono fun b o h => hm.hm h) (h2.mono fun b o h => hm.hm h))
 ·exact trivial
end Go.Proofs.YtoadeekdgikghaaDoor
