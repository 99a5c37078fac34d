/-
 Law TraceTurns, walked.
-/
import Derived.Test.YtpebhddacbdicaaVC
import Derived.Test.YtpebhddacbdicaaHK
set_option maxHeartbeats 4000000
set_option linter.defProp false
set_option linter.unusedVariables false
set_option linter.unusedSimpArgs false
namespace Go.Proofs.Ytpebhddacbdicaa
open Go.RowKit
theorem cc_rlen {m : Nat} : ∀ {rs : List (List SV)} (_h : ∀ r ∈ rs, r.length = m), (cc (.rows m rs)).length = rs.length * m
 | [], _ => by simp [cc]
 | r :: rs, h => by
  have ih := cc_rlen (rs := rs) fun r hr => h r (List.mem_cons_of_mem _ hr)
  have h1 := h r List.mem_cons_self
  have e : (cvs r).length = r.length := by rw [cvs_eq, List.length_map]
  simp only [cc, List.flatMap_cons, List.length_append] at ih ⊢
  rw [ih, e, h1, List.length_cons, Nat.add_mul, Nat.one_mul, Nat.add_comm]
theorem lies_rdrop {H : Nat → Obj → Prop} {a : Option Addr} {m n c : Nat} {rs : List (List SV)} (k : Nat) (h : LiesH H a (cc (.rows m rs))) (hr : ∀ r ∈ rs, r.length = m) (hl : rs.length = n) (hn : n ≤ c) : LiesH H (shA a c k m) (cc (.rows m (rs.drop k))) := by
 have e : cc (.rows m rs) = cc (.rows m (rs.take k)) ++ cc (.rows m (rs.drop k)) := by simp only [cc]; rw [← List.flatMap_append, List.take_append_drop]
 by_cases hk : n ≤ k
 ·exact .inl (by rw [List.drop_of_length_le (by omega)]; rfl)
 ·rcases h with h | ⟨b, off, arr, t, fr, rfl, h2, h3⟩
  ·exact .inl (by rw [e] at h; exact (List.append_eq_nil_iff.1 h).2)
  ·have hl1 : (cc (.rows m (rs.take k))).length = k * m := by
    rw [cc_rlen fun r h => hr r (List.mem_of_mem_take h), List.length_take, Nat.min_eq_left (by omega)]
   refine .inr ⟨b, off + k * m, arr, t, fr, ?_, h2, fun j u hj => ?_⟩
   ·unfold shA; rw [if_neg (by omega), Option.map_some, addr_add]
   ·have := h3 (k * m + j) u (by rw [e, List.getElem?_append_right (by omega), hl1, Nat.add_sub_cancel_left]; exact hj)
    rw [Nat.add_assoc]; exact this
theorem EvsR.dropk {H : Nat → Obj → Prop} {rs : List (List SV)} {l : List Evt} (h : EvsR H rs l) (k : Nat) : EvsR H (rs.drop k) (l.drop k) :=
 ⟨by rw [List.length_drop, List.length_drop, h.1], fun r hr => h.2.1 r (List.mem_of_mem_drop hr), fun i r e h1 h2 => by
  rw [List.getElem?_drop] at h1 h2
  exact h.2.2 _ r e h1 h2⟩
theorem EvsR.append {H : Nat → Obj → Prop} {rs rs' : List (List SV)} {l l' : List Evt} (h : EvsR H rs l) (h' : EvsR H rs' l') : EvsR H (rs ++ rs') (l ++ l') := by
 obtain ⟨g1, g2, g3⟩ := h
 obtain ⟨k1, k2, k3⟩ := h'
 refine ⟨by simp only [List.length_append]; omega, fun r hr => (List.mem_append.1 hr).elim (g2 r) (k2 r), fun i r e h1 h2 => ?_⟩
 by_cases hi : i < rs.length
 ·rw [List.getElem?_append_left hi] at h1
  rw [List.getElem?_append_left (by omega)] at h2
  exact g3 i r e h1 h2
 ·rw [List.getElem?_append_right (by omega)] at h1
  rw [List.getElem?_append_right (by omega), ← g1] at h2
  exact k3 _ r e h1 h2
theorem rowsOkV : ∀ {L : List (List SV)}, (∀ r ∈ L, r.length = 32 ∧ allOne r = true) → rowsOk 32 L = true
 | [], _ => rfl
 | r :: L, h => by
  have h1 := h r List.mem_cons_self
  simp only [rowsOk, h1.1, h1.2, rowsOkV fun x hx => h x (List.mem_cons_of_mem _ hx)]
theorem evs_rowsOk {H : Nat → Obj → Prop} {rs : List (List SV)} {l : List Evt} (h : EvsR H rs l) : rowsOk 32 rs = true := rowsOkV fun r hr => by
 obtain ⟨i, hi⟩ := List.getElem?_of_mem hr
 have h1 := (List.getElem?_eq_some_iff.1 hi).1
 obtain ⟨_, _, _, _, _, _, _, _, _, _, _, _, _, _, _, _, _, _, _, _, _, _, _, _, _, _, _, _, _, _, _, rfl, _⟩ := h.2.2 i r _ hi (List.getElem?_eq_getElem (show i < l.length by have := h.1; omega))
 exact ⟨rfl, rfl⟩
theorem mem_turn {α : Type} (l : List α) (k : Nat) (z : α) : z ∈ l.drop k ++ l.take k ↔ z ∈ l := by
 rw [List.mem_append, Or.comm, ← List.mem_append, List.take_append_drop]
theorem mem_twice {α : Type} (l : List α) (k : Nat) (z : α) : z ∈ l ++ (l.drop k ++ l.take k) ↔ z ∈ l := by
 rw [List.mem_append, mem_turn, or_self]
theorem SetL.eq2 {R R' l k : List (List Int)} (h1 : SetL (addF noF R) l) (h2 : SetL (addF noF R') k) (hs : ∀ z, z ∈ R ↔ z ∈ R') : l = k :=
 rises_eq h1.rises h2.rises fun x => ⟨h1.sub h2 (fun z hz => (hs z).1 hz) x, h2.sub h1 (fun z hz => (hs z).2 hz) x⟩
theorem flat_iff {f : Evt → List (List Int)} {l l' : List Evt} (h : ∀ z, z ∈ l' ↔ z ∈ l) : ∀ z, z ∈ l.flatMap f ↔ z ∈ l'.flatMap f := fun z => by
 simp only [List.mem_flatMap, h]
theorem Vc.nilownR {P : Program} {c : Code} {env : List SV} {m : List Blk} {K : Kont} (i : Nat) (t : TypeId) (es : Nat) (h0 : sget env i = .nilsl)
  (h : Vc P c (sset env i (.own (blen m) (.slice none 0 0) 0)) (bpush m (.own (.slice none 0 0) 0 t es (.rows es []))) K) : Vc P c env m K := by
 intro w0 B a w hf hd hm
 refine h w0 B a w (by unfold Fr at *; rw [cvs_sset_same env i (by rw [h0]; rfl)]; exact hf) hd ?_
 rw [bpush_eq]
 refine hm.push (grown_refl w) ⟨⟨by simp [cc], .inl ⟨rfl, rfl⟩⟩, fun b hb => by simp [Value.ownBlock] at hb⟩ (fun b hb => ?_)
 simp [Blk.nums, Value.ownBlock] at hb
noncomputable def GVF : Ctr := fun f args m => match f with
 | 9 => g_tlK args m
 | 18 => g_tSteps args m
 | 8 => g_Events args m
 | 17 => g_sameFt args m
 | _ => .none
theorem GVF_ok : GOk Try.prog GVF := by
 intro w0 B f args m; unfold GVF; split
 ·exact g_tlK_ok _ _ _ _
 ·exact g_tSteps_ok _ _ _ _
 ·exact g_Events_ok _ _ _ _
 ·exact g_sameFt_ok _ _ _ _
 ·exact trivial
theorem GVF_tlK : GVF 9 = g_tlK := by funext args m; rfl
theorem GVF_tSteps : GVF 18 = g_tSteps := by funext args m; rfl
theorem GVF_Events : GVF 8 = g_Events := by funext args m; rfl
theorem GVF_sameFt : GVF 17 = g_sameFt := by funext args m; rfl
def GVF_set := And.intro (And.intro (And.intro (@GVF_tlK) (@g_tlK.eq_def)) (And.intro (@GVF_tSteps) (@g_tSteps.eq_def))) (And.intro (And.intro (@GVF_Events) (@g_Events.eq_def)) (And.intro (@GVF_sameFt) (@g_sameFt.eq_def)))

set_option maxRecDepth 20000 in
theorem traceTurns_law (la : Option Addr) (n c : Nat) (rs : List (List SV)) (l : List Evt) (kk : Int) (hk : (Lit.int .i64 kk).wf = true) (w : World) (hE : EvL (H0 w) la n c rs l) :
  Calls Try.prog 7 (cvs [.gh la n c (.rows 32 rs), .int .i64 kk]).toArray w (Yes w) := by
 have hEx : ∀ m, allOld w ∈ m → EvL (HM m) la n c rs l := fun m hin => hE.mono (H0.hm hin)
 have hLx : ∀ m, allOld w ∈ m → LiesH (HM m) la (cc (.rows 32 rs)) := fun m hin => hE.lies.mono (H0.hm hin)
 have hev := evOf_eq hE.rows
 have hlen := hE.len
 have hnc := hE.le
 have had := hE.adr
 by_cases c1 : evW 500 l 0 ≤ 500
 ·have d1 : decide ((500 : Int) < evW 500 l 0) = false := decide_eq_false (by omega)
  have hn : n ≤ 500 := by have := (evW_len l 0 c1).1; omega
  obtain ⟨k, hq⟩ : ∃ k : Nat, (if kk < 0 then 0 else kk) % ((n : Int) + 1) = (k : Int) := ⟨((if kk < 0 then 0 else kk) % ((n : Int) + 1)).toNat, (Int.toNat_of_nonneg (Int.emod_nonneg _ (by omega))).symm⟩
  have hkn : k ≤ n := by have := Int.emod_lt_of_pos (if kk < 0 then 0 else kk) (show (0 : Int) < (n : Int) + 1 by omega); omega
  have tk : ((k : Nat) : Int).toNat = k := by omega
  have hrl : rs.length = n := by have := hE.rows.1; omega
  have hLd : ∀ m, allOld w ∈ m → LiesH (HM m) (shA la c k 32) (cc (.rows 32 (rs.drop k))) := fun m hin => lies_rdrop k (hLx m hin) hE.rows.2.1 hrl hnc
  have hLt : ∀ m, allOld w ∈ m → LiesH (HM m) la (cc (.rows 32 (rs.take k))) := fun m hin => lies_rtake k (hLx m hin)
  have ok0 := evs_rowsOk hE.rows
  have okd := evs_rowsOk (hE.rows.dropk k)
  have okt := evs_rowsOk (hE.rows.take k)
  have okT := evs_rowsOk ((hE.rows.dropk k).append (hE.rows.take k))
  have td : (rs.drop k).take (n - k) = rs.drop k := List.take_of_length_le (by rw [List.length_drop]; omega)
  have tt : (rs.take k).take k = rs.take k := List.take_of_length_le (by rw [List.length_take]; omega)
  have t0 : rs.take n = rs := List.take_of_length_le (by omega)
  have tT : (rs.drop k ++ rs.take k).take n = rs.drop k ++ rs.take k := List.take_of_length_le (by rw [List.length_append, List.length_drop, List.length_take]; omega)
  have hnk : n - k + k = n := by omega
  have adk := (hE.take hkn).adr
  have add := adr_shA (es := 32) had hkn hnc
  refine Vc.calls T0_ok Try.func7 rfl rfl (args := [.gh la n c (.rows 32 rs), .int .i64 kk]) (k := 49) rfl (old_start w) ?_; change Vc _ _ (c8 (.gh la n c (.rows 32 rs)) (.int .i64 kk) .undef .undef .undef .undef .undef .undef (c8 .undef .undef .undef .undef .undef .undef .undef .undef (c8 .undef .undef .undef .undef .undef .undef .undef .undef (c8 .undef .undef .undef .undef .undef .undef .undef .undef (c8 .undef .undef .undef .undef .undef .undef .undef .undef (c8 .undef .undef .undef .undef .undef .undef .undef .undef ([.undef, .undef, .undef]))))))) _ _
  ((repeat (first | (with_reducible refine Vc.seq fun N hN => ?_) | ((with_reducible refine And.intro ?_ ?_); exact sX5) | ((first | ((with_reducible refine Vc.hold ?_); first | refine Vc.regiont T0_ok GVF_ok ?_)); (try simp only [v8Y, Nat.beq, Nat.ble, seval, tabs, GVF_set, d1, hev])) | ((with_reducible refine hN _ _ ?_); clear hN N))))
  (refine Vc.cond T0_ok (t := false) (by rfl) (fun h => Bool.noConfusion h) (fun _ => ?_))
  (refine Vc.skip ?_; dsimp only [thenK, blockK, Nat.beq]; refine hN _ _ ?_; clear hN N)
  ((with_reducible refine Vc.seq fun N hN => ?_); (refine Vc.regiont T0_ok GVF_ok ?_); simp only [v8Y, Nat.beq, Nat.ble, seval, tabs, GVF_set, hq]; (try simp (disch := omega) only [v8W]); (repeat (first | ((with_reducible refine And.intro ?_ ?_); exact sX5))); (first | (refine hN _ _ ?_; clear hN N; (try simp (disch := omega) only [v8W])) | skip))
  ((with_reducible refine Vc.seq fun N hN => ?_); (refine Vc.regiont T0_ok GVF_ok ?_); simp only [v8Y, Nat.beq, Nat.ble, seval, tabs, GVF_set]; (try simp (disch := omega) only [v8W]); (repeat (first | ((with_reducible refine And.intro ?_ ?_); exact sX5))); (first | (refine hN _ _ ?_; clear hN N; (try simp (disch := omega) only [v8W])) | skip))
  refine Vc.nilownR 6 47 32 rfl ?_
  refine Vc.nilownR 7 47 32 rfl ?_
  (simp only [v8Y, Nat.beq, Nat.ble, seval, tabs])
  ((with_reducible refine Vc.seq fun N hN => ?_); (refine Vc.regiont T0_ok GVF_ok ?_); simp only [v8Y, Nat.beq, Nat.ble, seval, tabs, GVF_set, tk, okd, td, List.nil_append, List.drop_zero]; (try simp (disch := omega) only [v8W]); (repeat (first | with_reducible intro _ | ((with_reducible refine And.intro ?_ ?_); exact sX5))); (first | (refine hN _ _ ?_; clear hN N; (try simp (disch := omega) only [v8W])) | skip))
  ((with_reducible refine Vc.seq fun N hN => ?_); (refine Vc.regiont T0_ok GVF_ok ?_); simp only [v8Y, Nat.beq, Nat.ble, seval, tabs, GVF_set, tk, okt, tt, hnk, shA_0, Nat.sub_zero, List.drop_zero]; (try simp (disch := omega) only [v8W]); (repeat (first | with_reducible intro _ | ((with_reducible refine And.intro ?_ ?_); exact sX5))); (first | (refine hN _ _ ?_; clear hN N; (try simp (disch := omega) only [v8W])) | skip))
  ((with_reducible refine Vc.seq fun N hN => ?_); (refine Vc.regiont T0_ok GVF_ok ?_); simp only [v8Y, Nat.beq, Nat.ble, seval, tabs, GVF_set, ok0, t0, List.nil_append, List.drop_zero]; (try simp (disch := omega) only [v8W]); (repeat (first | with_reducible intro _ | ((with_reducible refine And.intro ?_ ?_); exact sX5))); (first | (refine hN _ _ ?_; clear hN N; (try simp (disch := omega) only [v8W])) | skip))
  ((with_reducible refine Vc.seq fun N hN => ?_); (refine Vc.regiont T0_ok GVF_ok ?_); simp only [v8Y, Nat.beq, Nat.ble, seval, tabs, GVF_set, okT, tT, List.drop_zero]; (try simp (disch := omega) only [v8W]); (repeat (first | with_reducible intro _ | ((with_reducible refine And.intro ?_ ?_); exact sX5))); (first | (refine hN _ _ ?_; clear hN N; (try simp (disch := omega) only [v8W])) | skip))
  have eT : EvsR (H0 w) (rs.drop k ++ rs.take k) (l.drop k ++ l.take k) := (hE.rows.dropk k).append (hE.rows.take k)
  have eW : EvsR (H0 w) (rs ++ (rs.drop k ++ rs.take k)) (l ++ (l.drop k ++ l.take k)) := hE.rows.append eT
  have hevT := evOf_eq eT
  have hevW := evOf_eq eW
  have lT : (l.drop k ++ l.take k).length = n := by rw [List.length_append, List.length_drop, List.length_take]; omega
  have lW : (l ++ (l.drop k ++ l.take k)).length = n + n := by rw [List.length_append, lT, hlen]
  refine Vc.freeze 1 rfl (fun a1 c1 h1 e1 p1 p2 p3 p4 p5 => ?_)
  subst e1
  (simp only [v8Y, Nat.beq, Nat.ble, seval, tabs])
  refine Vc.nameS 6 (.gh a1 n c1 (.rows 32 (rs.drop k ++ rs.take k))) rfl ?_
  (simp only [v8Y, Nat.beq, Nat.ble, seval, tabs])
  refine Vc.freeze 2 rfl (fun a2 c2 h2 e2 q1 q2 q3 q4 q5 => ?_)
  subst e2
  (simp only [v8Y, Nat.beq, Nat.ble, seval, tabs])
  refine Vc.nameS 7 (.gh a2 (n + n) c2 (.rows 32 (rs ++ (rs.drop k ++ rs.take k)))) rfl ?_
  (simp only [v8Y, Nat.beq, Nat.ble, seval, tabs])
  have hE1 : ∀ m, allOld w ∈ m → Blk.heap h1 ∈ m → EvL (HM m) a1 n c1 (rs.drop k ++ rs.take k) (l.drop k ++ l.take k) := fun m hin hh => ⟨lT, p2, p1, p3, p5.mono (Hl.hm hh fun _ h => h), eT.mono (H0.hm hin)⟩
  have hE2 : ∀ m, allOld w ∈ m → Blk.heap h2 ∈ m → EvL (HM m) a2 (n + n) c2 (rs ++ (rs.drop k ++ rs.take k)) (l ++ (l.drop k ++ l.take k)) := fun m hin hh => ⟨lW, q2, q1, q3, q5.mono (Hl.hm hh fun _ h => h), eW.mono (H0.hm hin)⟩
  have hfr := flat_iff (f := readsE) (mem_turn l k)
  have hfw := flat_iff (f := writesE) (mem_turn l k)
  have hgr := flat_iff (f := readsE) (mem_twice l k)
  have hgw := flat_iff (f := writesE) (mem_twice l k)
  ((repeat (first | (with_reducible refine Vc.seq fun N hN => ?_) | (with_reducible intro _) | ((with_reducible refine And.intro ?_ ?_); exact sX8) | ((first | ((with_reducible refine Vc.hold ?_); first | refine Vc.regiont T0_ok GVF_ok ?_ | refine Vc.drawt (id := 10) T0_ok GVF_ok (by kernel_rfl) [0, 1, 2, 3, 4, 5, 6, 7] 8 [] trivial (by kernel_rfl) ?_)); (try simp only [v8Y, Nat.beq, Nat.ble, seval, tabs, GVF_set, hev, hevT, hevW, FtF])) | ((with_reducible refine hN _ _ ?_); clear hN N))))
  rename_i x hx b10 y hy
  have rx1 := rowsOk_pl hx.p1.ok
  have rx2 := rowsOk_pl hx.p2.ok
  have tx1 : (x.l1.map plL).take x.l1.length = x.l1.map plL := List.take_of_length_le (by rw [List.length_map]; exact Nat.le_refl _)
  have tx2 : (x.l2.map plL).take x.l2.length = x.l2.map plL := List.take_of_length_le (by rw [List.length_map]; exact Nat.le_refl _)
  have px1 := plsOf_eq hx.p1.ok
  have px2 := plsOf_eq hx.p2.ok
  have ry1 := rowsOk_pl hy.p1.ok
  have ry2 := rowsOk_pl hy.p2.ok
  have ty1 : (y.l1.map plL).take y.l1.length = y.l1.map plL := List.take_of_length_le (by rw [List.length_map]; exact Nat.le_refl _)
  have ty2 : (y.l2.map plL).take y.l2.length = y.l2.map plL := List.take_of_length_le (by rw [List.length_map]; exact Nat.le_refl _)
  have py1 := plsOf_eq hy.p1.ok
  have py2 := plsOf_eq hy.p2.ok
  have ee1 : decide (x.l1 = y.l1) = true := decide_eq_true (hx.s1.eq2 hy.s1 hfr)
  have ee2 : decide (x.l2 = y.l2) = true := decide_eq_true (hx.s2.eq2 hy.s2 hfw)
  (simp only [v8Y, Nat.beq, Nat.ble, seval, tabs, GVF_set, rx1, rx2, ry1, ry2, tx1, tx2, ty1, ty2, px1, px2, py1, py2, ee1, ee2, hevT, hevW, FtF, List.drop_zero, List.length_map, Bool.and_true]; (try simp (disch := omega) only [v8W]); (repeat (first | with_reducible intro _ | ((with_reducible refine And.intro ?_ ?_); exact sX8))); (first | (refine hN _ _ ?_; clear hN N; (try simp (disch := omega) only [v8W])) | skip))
  rename_i z hz
  have rz1 := rowsOk_pl hz.p1.ok
  have rz2 := rowsOk_pl hz.p2.ok
  have tz1 : (z.l1.map plL).take z.l1.length = z.l1.map plL := List.take_of_length_le (by rw [List.length_map]; exact Nat.le_refl _)
  have tz2 : (z.l2.map plL).take z.l2.length = z.l2.map plL := List.take_of_length_le (by rw [List.length_map]; exact Nat.le_refl _)
  have pz1 := plsOf_eq hz.p1.ok
  have pz2 := plsOf_eq hz.p2.ok
  have ef1 : decide (x.l1 = z.l1) = true := decide_eq_true (hx.s1.eq2 hz.s1 hgr)
  have ef2 : decide (x.l2 = z.l2) = true := decide_eq_true (hx.s2.eq2 hz.s2 hgw)
  (simp only [v8Y, Nat.beq, Nat.ble, seval, tabs, GVF_set, rx1, rx2, ry1, ry2, tx1, tx2, ty1, ty2, px1, px2, py1, py2, ee1, ee2, hevT, hevW, FtF, List.drop_zero, List.length_map, Bool.and_true, rz1, rz2, tz1, tz2, pz1, pz2, ef1, ef2]; (try simp (disch := omega) only [v8W]); (repeat (first | ((with_reducible refine And.intro ?_ ?_); exact sX8))); (first | (refine hN _ _ ?_; clear hN N; (try simp (disch := omega) only [v8W])) | skip))
  ((repeat (first | ((first | ((with_reducible refine Vc.fin ?_); dsimp only [thenK, blockK, retK, resS, resOne, resAll])); (try simp only [v8Y, Nat.beq, Nat.ble, seval, tabs, GVF_set])))); (try ((with_reducible refine Fin.of ?_); (try with_reducible exact True.intro))))
  exact ⟨by simp, trivial⟩
 ·have d1 : decide ((500 : Int) < evW 500 l 0) = true := decide_eq_true (by omega)
  refine Vc.calls T0_ok Try.func7 rfl rfl (args := [.gh la n c (.rows 32 rs), .int .i64 kk]) (k := 49) rfl (old_start w) ?_; change Vc _ _ (c8 (.gh la n c (.rows 32 rs)) (.int .i64 kk) .undef .undef .undef .undef .undef .undef (c8 .undef .undef .undef .undef .undef .undef .undef .undef (c8 .undef .undef .undef .undef .undef .undef .undef .undef (c8 .undef .undef .undef .undef .undef .undef .undef .undef (c8 .undef .undef .undef .undef .undef .undef .undef .undef (c8 .undef .undef .undef .undef .undef .undef .undef .undef ([.undef, .undef, .undef]))))))) _ _
  ((repeat (first | (with_reducible refine Vc.seq fun N hN => ?_) | ((with_reducible refine And.intro ?_ ?_); exact sX5) | ((first | ((with_reducible refine Vc.hold ?_); first | refine Vc.regiont T0_ok GVF_ok ?_)); (try simp only [v8Y, Nat.beq, Nat.ble, seval, tabs, GVF_set, d1, hev])) | ((with_reducible refine hN _ _ ?_); clear hN N))))
  (refine Vc.cond T0_ok (t := true) (by rfl) (fun _ => ?_) (fun h => Bool.noConfusion h))
  ((repeat (first | (with_reducible refine Vc.seq fun N hN => ?_) | ((with_reducible refine And.intro ?_ ?_); exact sX5) | ((first | ((with_reducible refine Vc.fin ?_); dsimp only [thenK, blockK, retK, resS, resOne, resAll]) | ((with_reducible refine Vc.hold ?_); first | refine Vc.regiont T0_ok GVF_ok ?_)); (try simp only [v8Y, Nat.beq, Nat.ble, seval, tabs, GVF_set])) | ((with_reducible refine hN _ _ ?_); clear hN N))); (try ((with_reducible refine Fin.of ?_); (try with_reducible exact True.intro))))
  exact ⟨by simp, trivial⟩
end Go.Proofs.Ytpebhddacbdicaa
