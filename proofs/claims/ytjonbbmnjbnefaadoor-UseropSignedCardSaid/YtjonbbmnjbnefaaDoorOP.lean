/-
 The law UseropSigned of package quaestorlaw15, walked. No condition.
-/
import Derived.Test.YtjonbbmnjbnefaaDoorX1
import Derived.Test.YtjonbbmnjbnefaaDoorOH
import Derived.Test.YtjonbbmnjbnefaaDoorOK
import Derived.Test.YtjonbbmnjbnefaaDoorON
import Derived.Test.YtjonbbmnjbnefaaDoorOO
set_option maxRecDepth 10000
set_option maxHeartbeats 4000000
set_option linter.defProp false
set_option linter.unusedVariables false
set_option linter.unusedSimpArgs false
namespace Go.Proofs.YtjonbbmnjbnefaaDoor
open Go.RowKit
theorem may_S {x : OpD} (h : mayO x = true) : OpS 10000 x := by
 have h1 : opLe x 1000 = true := by
  simp only [mayO, Bool.and_eq_true] at h; exact h.1
 have := opLe_S (n := 1000) h1
 simp only [OpS] at this ⊢
 omega
theorem takeN_app : ∀ (a b : List SV) (j n : Nat), j + n ≤ a.length → takeN (a ++ b) j n = takeN a j n
 | a, b, 0, 0, _ => by cases a <;> cases b <;> rfl
 | [], b, 0, n + 1, h => by simp at h
 | [], b, j + 1, n, h => by simp at h
 | x :: a, b, 0, n + 1, h => by
  have := takeN_app a b 0 n (by simp at h; omega)
  simp only [List.cons_append, takeN, this]
 | x :: a, b, j + 1, n, h => by
  have := takeN_app a b j n (by simp at h; omega)
  cases n with
  | zero => simp only [List.cons_append, takeN, this]
  | succ n => simp only [List.cons_append, takeN, this]
theorem takeN_full : ∀ (a : List SV), takeN a 0 a.length = some a
 | [] => rfl
 | x :: a => by simp only [List.length_cons, takeN, takeN_full a]
theorem nth_app : ∀ (a b : List SV) (i : Nat), i < a.length → nth? (a ++ b) i = nth? a i
 | [], b, i, h => by simp at h
 | x :: a, b, 0, h => rfl
 | x :: a, b, i + 1, h => by
  have := nth_app a b i (by simp at h; omega)
  simpa only [List.cons_append, nth?] using this
theorem nth_last : ∀ (a : List SV) (v : SV), nth? (a ++ [v]) a.length = some v
 | [], v => rfl
 | x :: a, v => by
  have := nth_last a v
  simpa only [List.cons_append, List.length_cons, nth?] using this
theorem allOne_app : ∀ (a b : List SV), allOne (a ++ b) = (allOne a && allOne b)
 | [], b => by simp [allOne]
 | x :: a, b => by
  simp only [List.cons_append, allOne, allOne_app a b]
  cases oneS x <;> rfl
theorem splice_last : ∀ (a : List SV) (u v : SV), splice (a ++ [u]) a.length [v] = some (a ++ [v])
 | [], u, v => rfl
 | x :: a, u, v => by
  have := splice_last a u v
  simp only [List.cons_append, List.length_cons, splice, this]
theorem cut_last : ∀ (l : List SV) (n : Nat), l.length = n + 1 → ∃ a u, l = a ++ [u] ∧ a.length = n := by
 intro l n h
 refine ⟨l.take n, l.getD n .undef, ?_, by rw [List.length_take]; omega⟩
 have h1 : l.drop n = [l.getD n .undef] := by
  rw [List.drop_eq_getElem_cons (by omega), List.getD_eq_getElem?_getD, List.getElem?_eq_getElem (by omega)]
  congr 1
  exact List.drop_eq_nil_of_le (by omega)
 rw [← h1, List.take_append_drop]
theorem OpR.sig {H : Nat → Obj → Prop} {a : List SV} {u v : SV} {x : OpD} {s : List Int} (hl : a.length = 82) (h : OpR H (a ++ [u]) x) (hv : byR H v s) : OpR H (a ++ [v]) { x with sg := s } := by
 have e1 : ∀ j n, j + n ≤ 82 → takeN (a ++ [v]) j n = takeN (a ++ [u]) j n := fun j n hj => by rw [takeN_app _ _ _ _ (by omega), takeN_app _ _ _ _ (by omega)]
 have e2 : ∀ i, i < 82 → nth? (a ++ [v]) i = nth? (a ++ [u]) i := fun i hi => by rw [nth_app _ _ _ (by omega), nth_app _ _ _ (by omega)]
 have e3 : ∀ j n, j + n ≤ 82 → ((a ++ [v]).drop j).take n = ((a ++ [u]).drop j).take n := fun j n hj => by
  rw [List.drop_append_of_le_length (by omega), List.drop_append_of_le_length (by omega), List.take_append_of_le_length (by rw [List.length_drop]; omega), List.take_append_of_le_length (by rw [List.length_drop]; omega)]
 have e4 : oneS v = true := by obtain ⟨_, _, _, rfl, _⟩ := hv; rfl
 obtain ⟨f1, f2, f3, c0, c20, c24, c25, d25, c45, c46, c47, c48, c49, c50, c54, c58, c59, d59, c79, c80, c81, c82, ls, lf, lp, bs, bf, bp, wn, wf, wt, u1, u2, u3, u4, u5⟩ := h
 have g1 : (a ++ [v]).length = 83 := by simp [hl]
 refine ⟨g1, ?_, ?_, (e1 0 20 (by omega)).trans c0, (e1 20 4 (by omega)).trans c20, (e2 24 (by omega)).trans c24, (e1 25 20 (by omega)).trans c25, (e3 25 20 (by omega)).trans d25, ?_, ?_, (e2 47 (by omega)).trans c47, (e2 48 (by omega)).trans c48, (e2 49 (by omega)).trans c49, (e1 50 4 (by omega)).trans c50, (e1 54 4 (by omega)).trans c54, (e2 58 (by omega)).trans c58, (e1 59 20 (by omega)).trans c59, (e3 59 20 (by omega)).trans d59, (e2 79 (by omega)).trans c79, (e2 80 (by omega)).trans c80, ?_, ?_, ls, lf, lp, bs, bf, bp, wn, wf, wt, u1, u2, u3, u4, u5⟩
 ·rw [allOne_app] at f2 ⊢
  simp only [Bool.and_eq_true] at f2 ⊢
  exact ⟨f2.1, by simp only [allOne, e4]⟩
 ·rw [← g1]; exact takeN_full _
 ·rw [e2 45 (by omega)]; exact c45
 ·rw [e2 46 (by omega)]; exact c46
 ·rw [e2 81 (by omega)]; exact c81
 ·exact ⟨v, by rw [← hl]; exact nth_last _ _, hv⟩
theorem rowsOkE : ∀ {L : List (List SV)}, (∀ r ∈ L, r.length = 6 ∧ allOne r = true) → rowsOk 6 L = true
 | [], _ => rfl
 | r :: L, h => by
  have h1 := h r List.mem_cons_self
  simp only [rowsOk, h1.1, h1.2, rowsOkE fun x hx => h x (List.mem_cons_of_mem _ hx)]
theorem PsR.row {H : Nat → Obj → Prop} {rs : List (List SV)} {l : List Prt} (h : PsR H rs l) : ∀ r ∈ rs, ∃ p, PtR H r p := fun r hr => by
 obtain ⟨i, hi⟩ := List.getElem?_of_mem hr
 have h1 := (List.getElem?_eq_some_iff.1 hi).1
 exact ⟨_, h.2.2 i r _ hi (List.getElem?_eq_getElem (show i < l.length by have := h.1; omega))⟩
theorem PsR.ok {H : Nat → Obj → Prop} {rs : List (List SV)} {l : List Prt} (h : PsR H rs l) : rowsOk 6 rs = true := rowsOkE fun r hr => by
 obtain ⟨p, x0, x1, x2, x3, a, n, c, rfl, _⟩ := h.row r hr
 exact ⟨rfl, rfl⟩
theorem PsR.fixed {H : Nat → Obj → Prop} {rs : List (List SV)} {l : List Prt} (h : PsR H rs l) : rs.map fixR = rs := by
 have : ∀ r ∈ rs, fixR r = r := fun r hr => by
  obtain ⟨p, x0, x1, x2, x3, a, n, c, rfl, _⟩ := h.row r hr
  rfl
 rw [List.map_congr_left this, List.map_id']
theorem PsR.take {H : Nat → Obj → Prop} {rs : List (List SV)} {l : List Prt} (h : PsR H rs l) (n : Nat) : PsR H (rs.take n) (l.take n) :=
 ⟨by rw [List.length_take, List.length_take, h.1], fun r hr => h.2.1 r (List.mem_of_mem_take hr), fun i r p hr hp => by
  rw [List.getElem?_take] at hr hp
  split at hr
  ·rename_i hi
   rw [if_pos hi] at hp
   exact h.2.2 i r p hr hp
  ·cases hr⟩
theorem lies_tk6 {H : Nat → Obj → Prop} {a : Option Addr} {m : Nat} {rs : List (List SV)} (h : LiesH H a (cc (.rows m rs))) (n : Nat) : LiesH H a (cc (.rows m (rs.take n))) := by
 have e : cc (.rows m rs) = cc (.rows m (rs.take n)) ++ cc (.rows m (rs.drop n)) := by
  simp only [cc]
  rw [← List.flatMap_append, List.take_append_drop]
 rcases h with h | ⟨b, off, arr, t, fr, h1, h2, h3⟩
 ·rw [e] at h
  exact .inl (List.append_eq_nil_iff.1 h).1
 ·refine .inr ⟨b, off, arr, t, fr, h1, h2, fun j u hj => h3 j u ?_⟩
  rw [e, List.getElem?_append_left (List.getElem?_eq_some_iff.1 hj).1]
  exact hj
theorem adr_less {a : Option Addr} {n k c : Nat} (h : adr a (n + 1) c) : adr a k c := .inl (adr_pos h (Nat.succ_pos _))
theorem sgP_sig (x : OpD) (s : List Int) : sgP { x with sg := s } = sgP x := rfl
theorem hs_sig (x : OpD) (s : List Int) (c : Nat) : hsN { x with sg := s } c = hsN x c := by unfold hsN dgL; rw [sgP_sig]
theorem sm_eq {x y : OpD} (h : smO x y = true) (a1 : x.non < W) (a2 : y.non < W) (b1 : x.mf < W) (b2 : y.mf < W) (c1 : x.mt < W) (c2 : y.mt < W) : x = y := by
 simp only [smO, sm1, sm2, sm3, Bool.and_eq_true, decide_eq_true_eq, eqW_dec a1 a2, eqW_dec b1 b2, eqW_dec c1 c2, beq_iff_eq] at h
 obtain ⟨⟨h1, h2, h3, h4, h5, h6, h7⟩, ⟨k1, k2, k3, k4, k5, k6⟩, p1, p2, p3, p4⟩ := h
 cases x; cases y
 simp only at h1 h2 h3 h4 h5 h6 h7 k1 k2 k3 k4 k5 k6 p1 p2 p3 p4
 subst h1 h2 h3 h4 h5 h6 h7 k1 k2 k3 k4 k5 k6 p1 p2 p3 p4
 rfl
noncomputable def g_sameop (args : List SV) (m : List Blk) : CR :=
 match args with
 | [.agg l, .agg k] => .pure ((∃ x, OpR (HM m) l x) ∧ (∃ y, OpR (HM m) k y)) (.bool (smO (opOf l) (opOf k)))
 | _ => .none
theorem g_sameop_ok (w0 : World) (B : List Nat) (args : List SV) (m : List Blk) : CROk Tryd.prog w0 B 28 args m (g_sameop args m) := by
 unfold g_sameop
 split
 ·rename_i l k
  intro ⟨⟨x, hO⟩, ⟨y, hO2⟩⟩ w hm
  rw [opOf_eq hO, opOf_eq hO2]
  exact calls_pure Tryd.func28 rfl rfl (sameop_vc l k x y w (hO.mono fun b o h => hm.hm h) (hO2.mono fun b o h => hm.hm h))
 ·exact trivial
noncomputable def GPA : Ctr := fun f args m => match f with
 | 15 => g_may args m
 | 12 => g_ulK args m
 | 26 => g_hash args m
 | 24 => g_pack args m
 | 28 => g_sameop args m
 | 23 => g_SameP args m
 | _ => .none
theorem GPA_ok : GOk Tryd.prog GPA := by
 intro w0 B f args m; unfold GPA; split
 ·exact g_may_ok _ _ _ _
 ·exact g_ulK_ok _ _ _ _
 ·exact g_hash_ok _ _ _ _
 ·exact g_pack_ok _ _ _ _
 ·exact g_sameop_ok _ _ _ _
 ·exact g_SameP_ok _ _ _ _
 ·exact trivial
theorem GPA_may : GPA 15 = g_may := by funext args m; rfl
theorem GPA_ulK : GPA 12 = g_ulK := by funext args m; rfl
theorem GPA_hash : GPA 26 = g_hash := by funext args m; rfl
theorem GPA_pack : GPA 24 = g_pack := by funext args m; rfl
theorem GPA_sameop : GPA 28 = g_sameop := by funext args m; rfl
theorem GPA_SameP : GPA 23 = g_SameP := by funext args m; rfl
def GPA_set := And.intro (And.intro (And.intro (@GPA_may) (And.intro (@g_may.eq_def) (@GPA_ulK))) (And.intro (@g_ulK.eq_def) (And.intro (@GPA_hash) (@g_hash.eq_def)))) (And.intro (And.intro (@GPA_pack) (And.intro (@g_pack.eq_def) (@GPA_sameop))) (And.intro (@g_sameop.eq_def) (And.intro (@GPA_SameP) (@g_SameP.eq_def))))

set_option maxRecDepth 20000 in
theorem signed_law (l k : List SV) (x y : OpD) (c : Nat) (hc : c < W) (w : World) (hm : MemOk w [] [.ro (some ⟨1, 0, none⟩) (.ints .u64 kKeys), .ro (some ⟨2, 0, none⟩) (.ints .u8 kPathI), allOld w] w) (hO : OpR (H0 w) l x) (hO2 : OpR (H0 w) k y) : Calls Tryd.prog 9 (cvs [.agg l, .agg k, .word c]).toArray w (Yes w) := by
 have hOx : ∀ m, allOld w ∈ m → OpR (HM m) l x := fun m hin => hO.mono (H0.hm hin)
 have hOy : ∀ m, allOld w ∈ m → OpR (HM m) k y := fun m hin => hO2.mono (H0.hm hin)
 have hop := opOf_eq hO
 have hop2 := opOf_eq hO2
 have f3 := hO.all
 have f2 := hO.one
 have f3b := hO2.all
 have f2b := hO2.one
 cases hcx : mayO x with
 | false =>
  refine Vc.calls T0_ok Tryd.func9 rfl rfl (args := [.agg l, .agg k, .word c]) (k := 63) rfl hm ?_; change Vc _ _ (c8 (.agg l) (.agg k) (.word c) .undef .undef .undef .undef .undef (c8 .undef .undef .undef .undef .undef .undef .undef .undef (c8 .undef .undef .undef .undef .undef .undef .undef .undef (c8 .undef .undef .undef .undef .undef .undef .undef .undef (c8 .undef .undef .undef .undef .undef .undef .undef .undef (c8 .undef .undef .undef .undef .undef .undef .undef .undef (c8 .undef .undef .undef .undef .undef .undef .undef .undef (c8 .undef .undef .undef .undef .undef .undef .undef .undef ([.undef, .undef]))))))))) _ _
  ((repeat (first | (with_reducible first | refine Vc.seq fun N hN => ?_ | refine Vc.block ?_) | ((with_reducible first | refine Vc.skip ?_ | refine Vc.exit ?_); dsimp only [thenK, blockK, Nat.beq]; (first | (refine hN _ _ ?_; clear hN N) | skip)) | (with_reducible intro _) | ((with_reducible refine And.intro ?_ ?_); (focus (first | ((repeat' with_reducible apply And.intro) <;> first | exact sideQ | (exact ⟨x, hOx _ (by simp)⟩) | (exact ⟨y, hOy _ (by simp)⟩) | (exact ⟨x, hOx _ (by simp), hSx⟩) | (exact ⟨y, hOy _ (by simp), hSy⟩) | (exact ⟨_, hOz _ (by simp), hSz⟩) | (exact ⟨_, hOz _ (by simp)⟩) | (exact ⟨_, _, hOz _ (by simp), hOy _ (by simp)⟩)) | exact sd0))) | ((first | ((with_reducible refine askT_of ?_ (fun hb => ?_)); (focus (first | ((repeat' with_reducible apply And.intro) <;> first | exact sideQ | (exact ⟨x, hOx _ (by simp)⟩) | (exact ⟨y, hOy _ (by simp)⟩) | (exact ⟨x, hOx _ (by simp), hSx⟩) | (exact ⟨y, hOy _ (by simp), hSy⟩) | (exact ⟨_, hOz _ (by simp), hSz⟩) | (exact ⟨_, hOz _ (by simp)⟩) | (exact ⟨_, _, hOz _ (by simp), hOy _ (by simp)⟩)) | exact sd0)); (try simp only [hb])) | ((with_reducible refine Vc.fin ?_); dsimp only [thenK, blockK, retK, resS, resOne, resAll]) | ((with_reducible refine Vc.hold ?_); first | refine Vc.regiont T0_ok GPA_ok ?_ | refine Vc.drawt (id := 11) T0_ok GPA_ok (by kernel_rfl) [0, 1, 3, 2, 4, 5, 6, 7, 8, 9, 10, 11, 12, 13, 14, 15, 16, 17, 19, 18] 20 [] trivial (by kernel_rfl) ?_)); (try simp only [v8Y, Nat.beq, Nat.ble, Int.reduceToNat, Int.reduceLE, Int.reduceLT, Nat.reduceLT, Nat.reduceLeDiff, Nat.reduceAdd, Nat.reduceMul, Nat.reduceSub, Int.reduceAdd, Int.reduceSub, Int.reduceMul, v8S, IntKind.bits, tabs, GPA_set, hop, hop2, f3, f3b, hcx]); (try simp (disch := omega) only [v8W])) | ((with_reducible refine hN _ _ ?_); clear hN N; (try simp (disch := omega) only [v8W])))); (try ((with_reducible refine Fin.of ?_); (try with_reducible exact True.intro))))
  (refine Vc.cond T0_ok (t := true) (by rfl) (fun _ => ?_) (fun h => Bool.noConfusion h))
  ((repeat (first | (with_reducible first | refine Vc.seq fun N hN => ?_ | refine Vc.block ?_) | ((with_reducible first | refine Vc.skip ?_ | refine Vc.exit ?_); dsimp only [thenK, blockK, Nat.beq]; (first | (refine hN _ _ ?_; clear hN N) | skip)) | (with_reducible intro _) | ((with_reducible refine And.intro ?_ ?_); (focus (first | ((repeat' with_reducible apply And.intro) <;> first | exact sideQ | (exact ⟨x, hOx _ (by simp)⟩) | (exact ⟨y, hOy _ (by simp)⟩) | (exact ⟨x, hOx _ (by simp), hSx⟩) | (exact ⟨y, hOy _ (by simp), hSy⟩) | (exact ⟨_, hOz _ (by simp), hSz⟩) | (exact ⟨_, hOz _ (by simp)⟩) | (exact ⟨_, _, hOz _ (by simp), hOy _ (by simp)⟩)) | exact sd0))) | ((first | ((with_reducible refine askT_of ?_ (fun hb => ?_)); (focus (first | ((repeat' with_reducible apply And.intro) <;> first | exact sideQ | (exact ⟨x, hOx _ (by simp)⟩) | (exact ⟨y, hOy _ (by simp)⟩) | (exact ⟨x, hOx _ (by simp), hSx⟩) | (exact ⟨y, hOy _ (by simp), hSy⟩) | (exact ⟨_, hOz _ (by simp), hSz⟩) | (exact ⟨_, hOz _ (by simp)⟩) | (exact ⟨_, _, hOz _ (by simp), hOy _ (by simp)⟩)) | exact sd0)); (try simp only [hb])) | ((with_reducible refine Vc.fin ?_); dsimp only [thenK, blockK, retK, resS, resOne, resAll]) | ((with_reducible refine Vc.hold ?_); first | refine Vc.regiont T0_ok GPA_ok ?_ | refine Vc.drawt (id := 11) T0_ok GPA_ok (by kernel_rfl) [0, 1, 3, 2, 4, 5, 6, 7, 8, 9, 10, 11, 12, 13, 14, 15, 16, 17, 19, 18] 20 [] trivial (by kernel_rfl) ?_)); (try simp only [v8Y, Nat.beq, Nat.ble, Int.reduceToNat, Int.reduceLE, Int.reduceLT, Nat.reduceLT, Nat.reduceLeDiff, Nat.reduceAdd, Nat.reduceMul, Nat.reduceSub, Int.reduceAdd, Int.reduceSub, Int.reduceMul, v8S, IntKind.bits, tabs, GPA_set]); (try simp (disch := omega) only [v8W])) | ((with_reducible refine hN _ _ ?_); clear hN N; (try simp (disch := omega) only [v8W])))); (try ((with_reducible refine Fin.of ?_); (try with_reducible exact True.intro))))
  exact ⟨by simp, trivial⟩
 | true =>
  cases hcy : mayO y with
  | false =>
   refine Vc.calls T0_ok Tryd.func9 rfl rfl (args := [.agg l, .agg k, .word c]) (k := 63) rfl hm ?_; change Vc _ _ (c8 (.agg l) (.agg k) (.word c) .undef .undef .undef .undef .undef (c8 .undef .undef .undef .undef .undef .undef .undef .undef (c8 .undef .undef .undef .undef .undef .undef .undef .undef (c8 .undef .undef .undef .undef .undef .undef .undef .undef (c8 .undef .undef .undef .undef .undef .undef .undef .undef (c8 .undef .undef .undef .undef .undef .undef .undef .undef (c8 .undef .undef .undef .undef .undef .undef .undef .undef (c8 .undef .undef .undef .undef .undef .undef .undef .undef ([.undef, .undef]))))))))) _ _
   ((repeat (first | (with_reducible first | refine Vc.seq fun N hN => ?_ | refine Vc.block ?_) | ((with_reducible first | refine Vc.skip ?_ | refine Vc.exit ?_); dsimp only [thenK, blockK, Nat.beq]; (first | (refine hN _ _ ?_; clear hN N) | skip)) | (with_reducible intro _) | ((with_reducible refine And.intro ?_ ?_); (focus (first | ((repeat' with_reducible apply And.intro) <;> first | exact sideQ | (exact ⟨x, hOx _ (by simp)⟩) | (exact ⟨y, hOy _ (by simp)⟩) | (exact ⟨x, hOx _ (by simp), hSx⟩) | (exact ⟨y, hOy _ (by simp), hSy⟩) | (exact ⟨_, hOz _ (by simp), hSz⟩) | (exact ⟨_, hOz _ (by simp)⟩) | (exact ⟨_, _, hOz _ (by simp), hOy _ (by simp)⟩)) | exact sd0))) | ((first | ((with_reducible refine askT_of ?_ (fun hb => ?_)); (focus (first | ((repeat' with_reducible apply And.intro) <;> first | exact sideQ | (exact ⟨x, hOx _ (by simp)⟩) | (exact ⟨y, hOy _ (by simp)⟩) | (exact ⟨x, hOx _ (by simp), hSx⟩) | (exact ⟨y, hOy _ (by simp), hSy⟩) | (exact ⟨_, hOz _ (by simp), hSz⟩) | (exact ⟨_, hOz _ (by simp)⟩) | (exact ⟨_, _, hOz _ (by simp), hOy _ (by simp)⟩)) | exact sd0)); (try simp only [hb])) | ((with_reducible refine Vc.fin ?_); dsimp only [thenK, blockK, retK, resS, resOne, resAll]) | ((with_reducible refine Vc.hold ?_); first | refine Vc.regiont T0_ok GPA_ok ?_ | refine Vc.drawt (id := 11) T0_ok GPA_ok (by kernel_rfl) [0, 1, 3, 2, 4, 5, 6, 7, 8, 9, 10, 11, 12, 13, 14, 15, 16, 17, 19, 18] 20 [] trivial (by kernel_rfl) ?_)); (try simp only [v8Y, Nat.beq, Nat.ble, Int.reduceToNat, Int.reduceLE, Int.reduceLT, Nat.reduceLT, Nat.reduceLeDiff, Nat.reduceAdd, Nat.reduceMul, Nat.reduceSub, Int.reduceAdd, Int.reduceSub, Int.reduceMul, v8S, IntKind.bits, tabs, GPA_set, hop, hop2, f3, f3b, hcx, hcy]); (try simp (disch := omega) only [v8W])) | ((with_reducible refine hN _ _ ?_); clear hN N; (try simp (disch := omega) only [v8W])))); (try ((with_reducible refine Fin.of ?_); (try with_reducible exact True.intro))))
   (refine Vc.cond T0_ok (t := true) (by rfl) (fun _ => ?_) (fun h => Bool.noConfusion h))
   ((repeat (first | (with_reducible first | refine Vc.seq fun N hN => ?_ | refine Vc.block ?_) | ((with_reducible first | refine Vc.skip ?_ | refine Vc.exit ?_); dsimp only [thenK, blockK, Nat.beq]; (first | (refine hN _ _ ?_; clear hN N) | skip)) | (with_reducible intro _) | ((with_reducible refine And.intro ?_ ?_); (focus (first | ((repeat' with_reducible apply And.intro) <;> first | exact sideQ | (exact ⟨x, hOx _ (by simp)⟩) | (exact ⟨y, hOy _ (by simp)⟩) | (exact ⟨x, hOx _ (by simp), hSx⟩) | (exact ⟨y, hOy _ (by simp), hSy⟩) | (exact ⟨_, hOz _ (by simp), hSz⟩) | (exact ⟨_, hOz _ (by simp)⟩) | (exact ⟨_, _, hOz _ (by simp), hOy _ (by simp)⟩)) | exact sd0))) | ((first | ((with_reducible refine askT_of ?_ (fun hb => ?_)); (focus (first | ((repeat' with_reducible apply And.intro) <;> first | exact sideQ | (exact ⟨x, hOx _ (by simp)⟩) | (exact ⟨y, hOy _ (by simp)⟩) | (exact ⟨x, hOx _ (by simp), hSx⟩) | (exact ⟨y, hOy _ (by simp), hSy⟩) | (exact ⟨_, hOz _ (by simp), hSz⟩) | (exact ⟨_, hOz _ (by simp)⟩) | (exact ⟨_, _, hOz _ (by simp), hOy _ (by simp)⟩)) | exact sd0)); (try simp only [hb])) | ((with_reducible refine Vc.fin ?_); dsimp only [thenK, blockK, retK, resS, resOne, resAll]) | ((with_reducible refine Vc.hold ?_); first | refine Vc.regiont T0_ok GPA_ok ?_ | refine Vc.drawt (id := 11) T0_ok GPA_ok (by kernel_rfl) [0, 1, 3, 2, 4, 5, 6, 7, 8, 9, 10, 11, 12, 13, 14, 15, 16, 17, 19, 18] 20 [] trivial (by kernel_rfl) ?_)); (try simp only [v8Y, Nat.beq, Nat.ble, Int.reduceToNat, Int.reduceLE, Int.reduceLT, Nat.reduceLT, Nat.reduceLeDiff, Nat.reduceAdd, Nat.reduceMul, Nat.reduceSub, Int.reduceAdd, Int.reduceSub, Int.reduceMul, v8S, IntKind.bits, tabs, GPA_set]); (try simp (disch := omega) only [v8W])) | ((with_reducible refine hN _ _ ?_); clear hN N; (try simp (disch := omega) only [v8W])))); (try ((with_reducible refine Fin.of ?_); (try with_reducible exact True.intro))))
   exact ⟨by simp, trivial⟩
  | true =>
   have hSx := may_S hcx
   have hSy := may_S hcy
   obtain ⟨vs, c82, hvs⟩ := hO2.c82
   obtain ⟨va, vn, vc, rfl, s1, s2, s3, s4, s5, s6⟩ := hvs
   obtain ⟨la, lu, hl, hla⟩ := cut_last l 82 hO.len
   have hbv : byR (H0 w) (.gh va vn vc (.ints .u8 y.sg)) y.sg := ⟨va, vn, vc, rfl, s1, s2, s3, s4, s5, s6⟩
   have hZ : OpR (H0 w) (la ++ [.gh va vn vc (.ints .u8 y.sg)]) { x with sg := y.sg } := OpR.sig hla (by rw [← hl]; exact hO) hbv
   have sp2 : splice l 82 [.gh va vn vc (.ints .u8 y.sg)] = some (la ++ [.gh va vn vc (.ints .u8 y.sg)]) := by
    rw [hl, ← hla]; exact splice_last _ _ _
   generalize la ++ [.gh va vn vc (.ints .u8 y.sg)] = z at *
   have hSz : OpS 10000 { x with sg := y.sg } := by
    simp only [OpS] at hSx hSy ⊢
    exact ⟨hSx.1, hSx.2.1, hSx.2.2.1, hSy.2.2.2⟩
   have hsz := hs_sig x y.sg c
   have hpz := sgP_sig x y.sg
   have hsm : smO { x with sg := y.sg } y = true → hsN y c = hsN x c := fun h => by
    have := sm_eq h hO.wn hO2.wn hO.wf hO2.wf hO.wt hO2.wt
    rw [← this]; exact hsz
   have hpk : pkP { x with sg := y.sg } = sgP x ++ [⟨true, 0, y.sg⟩] := rfl
   have hpx : pkP x = sgP x ++ [⟨true, 0, x.sg⟩] := rfl
   generalize hzx : ({ x with sg := y.sg } : OpD) = zx at *
   have hOz : ∀ m, allOld w ∈ m → OpR (HM m) z zx := fun m hin => hZ.mono (H0.hm hin)
   have hop3 := opOf_eq hZ
   have f3z := hZ.all
   have f2z := hZ.one
   have sp1 := splice_full zl_29 l (by rw [hO.len]; rfl)
   clear hl hzx hpz
   have hn := hO.len
   have hn2 := hO2.len
   refine Vc.calls T0_ok Tryd.func9 rfl rfl (args := [.agg l, .agg k, .word c]) (k := 63) rfl hm ?_; change Vc _ _ (c8 (.agg l) (.agg k) (.word c) .undef .undef .undef .undef .undef (c8 .undef .undef .undef .undef .undef .undef .undef .undef (c8 .undef .undef .undef .undef .undef .undef .undef .undef (c8 .undef .undef .undef .undef .undef .undef .undef .undef (c8 .undef .undef .undef .undef .undef .undef .undef .undef (c8 .undef .undef .undef .undef .undef .undef .undef .undef (c8 .undef .undef .undef .undef .undef .undef .undef .undef (c8 .undef .undef .undef .undef .undef .undef .undef .undef ([.undef, .undef]))))))))) _ _
   ((repeat (first | (with_reducible first | refine Vc.seq fun N hN => ?_ | refine Vc.block ?_) | ((with_reducible first | refine Vc.skip ?_ | refine Vc.exit ?_); dsimp only [thenK, blockK, Nat.beq]; (first | (refine hN _ _ ?_; clear hN N) | skip)) | (with_reducible intro _) | ((with_reducible refine And.intro ?_ ?_); (focus (first | ((repeat' with_reducible apply And.intro) <;> first | exact sideQ | (exact ⟨x, hOx _ (by simp)⟩) | (exact ⟨y, hOy _ (by simp)⟩) | (exact ⟨x, hOx _ (by simp), hSx⟩) | (exact ⟨y, hOy _ (by simp), hSy⟩) | (exact ⟨_, hOz _ (by simp), hSz⟩) | (exact ⟨_, hOz _ (by simp)⟩) | (exact ⟨_, _, hOz _ (by simp), hOy _ (by simp)⟩)) | exact sd0))) | ((first | ((with_reducible refine askT_of ?_ (fun hb => ?_)); (focus (first | ((repeat' with_reducible apply And.intro) <;> first | exact sideQ | (exact ⟨x, hOx _ (by simp)⟩) | (exact ⟨y, hOy _ (by simp)⟩) | (exact ⟨x, hOx _ (by simp), hSx⟩) | (exact ⟨y, hOy _ (by simp), hSy⟩) | (exact ⟨_, hOz _ (by simp), hSz⟩) | (exact ⟨_, hOz _ (by simp)⟩) | (exact ⟨_, _, hOz _ (by simp), hOy _ (by simp)⟩)) | exact sd0)); (try simp only [hb])) | ((with_reducible refine Vc.fin ?_); dsimp only [thenK, blockK, retK, resS, resOne, resAll]) | ((with_reducible refine Vc.hold ?_); first | refine Vc.regiont T0_ok GPA_ok ?_ | refine Vc.drawt (id := 11) T0_ok GPA_ok (by kernel_rfl) [0, 1, 3, 2, 4, 5, 6, 7, 8, 9, 10, 11, 12, 13, 14, 15, 16, 17, 19, 18] 20 [] trivial (by kernel_rfl) ?_)); (try simp only [v8Y, Nat.beq, Nat.ble, Int.reduceToNat, Int.reduceLE, Int.reduceLT, Nat.reduceLT, Nat.reduceLeDiff, Nat.reduceAdd, Nat.reduceMul, Nat.reduceSub, Int.reduceAdd, Int.reduceSub, Int.reduceMul, v8S, IntKind.bits, tabs, GPA_set, hop, hop2, f3, f3b, hcx, hcy]); (try simp (disch := omega) only [v8W])) | ((with_reducible refine hN _ _ ?_); clear hN N; (try simp (disch := omega) only [v8W])))); (try ((with_reducible refine Fin.of ?_); (try with_reducible exact True.intro))))
   (refine Vc.cond T0_ok (t := false) (by rfl) (fun h => Bool.noConfusion h) (fun _ => ?_))
   (refine Vc.skip ?_; dsimp only [thenK, blockK, Nat.beq]; refine hN _ _ ?_; clear hN N)
   ((with_reducible refine Vc.seq fun N hN => ?_); (refine Vc.regiont T0_ok GPA_ok ?_); simp only [v8Y, Nat.beq, Nat.ble, Int.reduceToNat, Int.reduceLE, Int.reduceLT, Nat.reduceLT, Nat.reduceLeDiff, Nat.reduceAdd, Nat.reduceMul, Nat.reduceSub, Int.reduceAdd, Int.reduceSub, Int.reduceMul, v8S, IntKind.bits, tabs, GPA_set, hop, f2, f2b, f3, f3b, sp1]; (try simp (disch := omega) only [v8W]); (repeat (first | with_reducible intro _ | ((with_reducible refine And.intro ?_ ?_); (focus (first | ((repeat' with_reducible apply And.intro) <;> first | exact sideQ | (exact ⟨x, hOx _ (by simp)⟩) | (exact ⟨y, hOy _ (by simp)⟩) | (exact ⟨x, hOx _ (by simp), hSx⟩) | (exact ⟨y, hOy _ (by simp), hSy⟩) | (exact ⟨_, hOz _ (by simp), hSz⟩) | (exact ⟨_, hOz _ (by simp)⟩) | (exact ⟨_, _, hOz _ (by simp), hOy _ (by simp)⟩)) | exact sd0))) | ((with_reducible refine askT_of ?_ (fun hb => ?_)); (focus (first | ((repeat' with_reducible apply And.intro) <;> first | exact sideQ | (exact ⟨x, hOx _ (by simp)⟩) | (exact ⟨y, hOy _ (by simp)⟩) | (exact ⟨x, hOx _ (by simp), hSx⟩) | (exact ⟨y, hOy _ (by simp), hSy⟩) | (exact ⟨_, hOz _ (by simp), hSz⟩) | (exact ⟨_, hOz _ (by simp)⟩) | (exact ⟨_, _, hOz _ (by simp), hOy _ (by simp)⟩)) | exact sd0)); simp only [hb, v8Y, Nat.beq, Nat.ble, Int.reduceToNat, Int.reduceLE, Int.reduceLT, Nat.reduceLT, Nat.reduceLeDiff, Nat.reduceAdd, Nat.reduceMul, Nat.reduceSub, Int.reduceAdd, Int.reduceSub, Int.reduceMul, v8S, IntKind.bits, tabs, GPA_set, hop, f2, f2b, f3, f3b, sp1]; (try simp (disch := omega) only [v8W])))); (first | (refine hN _ _ ?_; clear hN N; (try simp (disch := omega) only [v8W])) | skip))
   ((with_reducible refine Vc.seq fun N hN => ?_); (refine Vc.regiont T0_ok GPA_ok ?_); simp only [v8Y, Nat.beq, Nat.ble, Int.reduceToNat, Int.reduceLE, Int.reduceLT, Nat.reduceLT, Nat.reduceLeDiff, Nat.reduceAdd, Nat.reduceMul, Nat.reduceSub, Int.reduceAdd, Int.reduceSub, Int.reduceMul, v8S, IntKind.bits, tabs, GPA_set, hop2, f2b, f3b, c82, sp2]; (try simp (disch := omega) only [v8W]); (repeat (first | with_reducible intro _ | ((with_reducible refine And.intro ?_ ?_); (focus (first | ((repeat' with_reducible apply And.intro) <;> first | exact sideQ | (exact ⟨x, hOx _ (by simp)⟩) | (exact ⟨y, hOy _ (by simp)⟩) | (exact ⟨x, hOx _ (by simp), hSx⟩) | (exact ⟨y, hOy _ (by simp), hSy⟩) | (exact ⟨_, hOz _ (by simp), hSz⟩) | (exact ⟨_, hOz _ (by simp)⟩) | (exact ⟨_, _, hOz _ (by simp), hOy _ (by simp)⟩)) | exact sd0))) | ((with_reducible refine askT_of ?_ (fun hb => ?_)); (focus (first | ((repeat' with_reducible apply And.intro) <;> first | exact sideQ | (exact ⟨x, hOx _ (by simp)⟩) | (exact ⟨y, hOy _ (by simp)⟩) | (exact ⟨x, hOx _ (by simp), hSx⟩) | (exact ⟨y, hOy _ (by simp), hSy⟩) | (exact ⟨_, hOz _ (by simp), hSz⟩) | (exact ⟨_, hOz _ (by simp)⟩) | (exact ⟨_, _, hOz _ (by simp), hOy _ (by simp)⟩)) | exact sd0)); simp only [hb, v8Y, Nat.beq, Nat.ble, Int.reduceToNat, Int.reduceLE, Int.reduceLT, Nat.reduceLT, Nat.reduceLeDiff, Nat.reduceAdd, Nat.reduceMul, Nat.reduceSub, Int.reduceAdd, Int.reduceSub, Int.reduceMul, v8S, IntKind.bits, tabs, GPA_set, hop2, f2b, f3b, c82, sp2]; (try simp (disch := omega) only [v8W])))); (first | (refine hN _ _ ?_; clear hN N; (try simp (disch := omega) only [v8W])) | skip))
   have qx : eqW (hsN x c) (hsN x c) = true := eqW_of rfl
   cases hs : smO zx y with
   | false =>
    ((with_reducible refine Vc.seq fun N hN => ?_); (refine Vc.regiont T0_ok GPA_ok ?_); simp only [v8Y, Nat.beq, Nat.ble, Int.reduceToNat, Int.reduceLE, Int.reduceLT, Nat.reduceLT, Nat.reduceLeDiff, Nat.reduceAdd, Nat.reduceMul, Nat.reduceSub, Int.reduceAdd, Int.reduceSub, Int.reduceMul, v8S, IntKind.bits, tabs, GPA_set, hop2, hop3, f2z, f2b, f3z, f3b, hs]; (try simp (disch := omega) only [v8W]); (repeat (first | with_reducible intro _ | ((with_reducible refine And.intro ?_ ?_); (focus (first | ((repeat' with_reducible apply And.intro) <;> first | exact sideQ | (exact ⟨x, hOx _ (by simp)⟩) | (exact ⟨y, hOy _ (by simp)⟩) | (exact ⟨x, hOx _ (by simp), hSx⟩) | (exact ⟨y, hOy _ (by simp), hSy⟩) | (exact ⟨_, hOz _ (by simp), hSz⟩) | (exact ⟨_, hOz _ (by simp)⟩) | (exact ⟨_, _, hOz _ (by simp), hOy _ (by simp)⟩)) | exact sd0))) | ((with_reducible refine askT_of ?_ (fun hb => ?_)); (focus (first | ((repeat' with_reducible apply And.intro) <;> first | exact sideQ | (exact ⟨x, hOx _ (by simp)⟩) | (exact ⟨y, hOy _ (by simp)⟩) | (exact ⟨x, hOx _ (by simp), hSx⟩) | (exact ⟨y, hOy _ (by simp), hSy⟩) | (exact ⟨_, hOz _ (by simp), hSz⟩) | (exact ⟨_, hOz _ (by simp)⟩) | (exact ⟨_, _, hOz _ (by simp), hOy _ (by simp)⟩)) | exact sd0)); simp only [hb, v8Y, Nat.beq, Nat.ble, Int.reduceToNat, Int.reduceLE, Int.reduceLT, Nat.reduceLT, Nat.reduceLeDiff, Nat.reduceAdd, Nat.reduceMul, Nat.reduceSub, Int.reduceAdd, Int.reduceSub, Int.reduceMul, v8S, IntKind.bits, tabs, GPA_set, hop2, hop3, f2z, f2b, f3z, f3b, hs]; (try simp (disch := omega) only [v8W])))); (first | (refine hN _ _ ?_; clear hN N; (try simp (disch := omega) only [v8W])) | skip))
    ((with_reducible refine Vc.seq fun N hN => ?_); (refine Vc.regiont T0_ok GPA_ok ?_); simp only [v8Y, Nat.beq, Nat.ble, Int.reduceToNat, Int.reduceLE, Int.reduceLT, Nat.reduceLT, Nat.reduceLeDiff, Nat.reduceAdd, Nat.reduceMul, Nat.reduceSub, Int.reduceAdd, Int.reduceSub, Int.reduceMul, v8S, IntKind.bits, tabs, GPA_set, hop, f2, f3]; (try simp (disch := omega) only [v8W]); (repeat (first | with_reducible intro _ | ((with_reducible refine And.intro ?_ ?_); (focus (first | ((repeat' with_reducible apply And.intro) <;> first | exact sideQ | (exact ⟨x, hOx _ (by simp)⟩) | (exact ⟨y, hOy _ (by simp)⟩) | (exact ⟨x, hOx _ (by simp), hSx⟩) | (exact ⟨y, hOy _ (by simp), hSy⟩) | (exact ⟨_, hOz _ (by simp), hSz⟩) | (exact ⟨_, hOz _ (by simp)⟩) | (exact ⟨_, _, hOz _ (by simp), hOy _ (by simp)⟩)) | exact sd0))) | ((with_reducible refine askT_of ?_ (fun hb => ?_)); (focus (first | ((repeat' with_reducible apply And.intro) <;> first | exact sideQ | (exact ⟨x, hOx _ (by simp)⟩) | (exact ⟨y, hOy _ (by simp)⟩) | (exact ⟨x, hOx _ (by simp), hSx⟩) | (exact ⟨y, hOy _ (by simp), hSy⟩) | (exact ⟨_, hOz _ (by simp), hSz⟩) | (exact ⟨_, hOz _ (by simp)⟩) | (exact ⟨_, _, hOz _ (by simp), hOy _ (by simp)⟩)) | exact sd0)); simp only [hb, v8Y, Nat.beq, Nat.ble, Int.reduceToNat, Int.reduceLE, Int.reduceLT, Nat.reduceLT, Nat.reduceLeDiff, Nat.reduceAdd, Nat.reduceMul, Nat.reduceSub, Int.reduceAdd, Int.reduceSub, Int.reduceMul, v8S, IntKind.bits, tabs, GPA_set, hop, f2, f3]; (try simp (disch := omega) only [v8W])))); (first | (refine hN _ _ ?_; clear hN N; (try simp (disch := omega) only [v8W])) | skip))
    ((with_reducible refine Vc.seq fun N hN => ?_); (refine Vc.regiont T0_ok GPA_ok ?_); simp only [v8Y, Nat.beq, Nat.ble, Int.reduceToNat, Int.reduceLE, Int.reduceLT, Nat.reduceLT, Nat.reduceLeDiff, Nat.reduceAdd, Nat.reduceMul, Nat.reduceSub, Int.reduceAdd, Int.reduceSub, Int.reduceMul, v8S, IntKind.bits, tabs, GPA_set, hop, f2, f3]; (try simp (disch := omega) only [v8W]); (repeat (first | with_reducible intro _ | ((with_reducible refine And.intro ?_ ?_); (focus (first | ((repeat' with_reducible apply And.intro) <;> first | exact sideQ | (exact ⟨x, hOx _ (by simp)⟩) | (exact ⟨y, hOy _ (by simp)⟩) | (exact ⟨x, hOx _ (by simp), hSx⟩) | (exact ⟨y, hOy _ (by simp), hSy⟩) | (exact ⟨_, hOz _ (by simp), hSz⟩) | (exact ⟨_, hOz _ (by simp)⟩) | (exact ⟨_, _, hOz _ (by simp), hOy _ (by simp)⟩)) | exact sd0))) | ((with_reducible refine askT_of ?_ (fun hb => ?_)); (focus (first | ((repeat' with_reducible apply And.intro) <;> first | exact sideQ | (exact ⟨x, hOx _ (by simp)⟩) | (exact ⟨y, hOy _ (by simp)⟩) | (exact ⟨x, hOx _ (by simp), hSx⟩) | (exact ⟨y, hOy _ (by simp), hSy⟩) | (exact ⟨_, hOz _ (by simp), hSz⟩) | (exact ⟨_, hOz _ (by simp)⟩) | (exact ⟨_, _, hOz _ (by simp), hOy _ (by simp)⟩)) | exact sd0)); simp only [hb, v8Y, Nat.beq, Nat.ble, Int.reduceToNat, Int.reduceLE, Int.reduceLT, Nat.reduceLT, Nat.reduceLeDiff, Nat.reduceAdd, Nat.reduceMul, Nat.reduceSub, Int.reduceAdd, Int.reduceSub, Int.reduceMul, v8S, IntKind.bits, tabs, GPA_set, hop, f2, f3]; (try simp (disch := omega) only [v8W])))); (first | (refine hN _ _ ?_; clear hN N; (try simp (disch := omega) only [v8W])) | skip))
    ((with_reducible refine Vc.seq fun N hN => ?_); (refine Vc.regiont T0_ok GPA_ok ?_); simp only [v8Y, Nat.beq, Nat.ble, Int.reduceToNat, Int.reduceLE, Int.reduceLT, Nat.reduceLT, Nat.reduceLeDiff, Nat.reduceAdd, Nat.reduceMul, Nat.reduceSub, Int.reduceAdd, Int.reduceSub, Int.reduceMul, v8S, IntKind.bits, tabs, GPA_set, hop3, f2z, f3z]; (try simp (disch := omega) only [v8W]); (repeat (first | with_reducible intro _ | ((with_reducible refine And.intro ?_ ?_); (focus (first | ((repeat' with_reducible apply And.intro) <;> first | exact sideQ | (exact ⟨x, hOx _ (by simp)⟩) | (exact ⟨y, hOy _ (by simp)⟩) | (exact ⟨x, hOx _ (by simp), hSx⟩) | (exact ⟨y, hOy _ (by simp), hSy⟩) | (exact ⟨_, hOz _ (by simp), hSz⟩) | (exact ⟨_, hOz _ (by simp)⟩) | (exact ⟨_, _, hOz _ (by simp), hOy _ (by simp)⟩)) | exact sd0))) | ((with_reducible refine askT_of ?_ (fun hb => ?_)); (focus (first | ((repeat' with_reducible apply And.intro) <;> first | exact sideQ | (exact ⟨x, hOx _ (by simp)⟩) | (exact ⟨y, hOy _ (by simp)⟩) | (exact ⟨x, hOx _ (by simp), hSx⟩) | (exact ⟨y, hOy _ (by simp), hSy⟩) | (exact ⟨_, hOz _ (by simp), hSz⟩) | (exact ⟨_, hOz _ (by simp)⟩) | (exact ⟨_, _, hOz _ (by simp), hOy _ (by simp)⟩)) | exact sd0)); simp only [hb, v8Y, Nat.beq, Nat.ble, Int.reduceToNat, Int.reduceLE, Int.reduceLT, Nat.reduceLT, Nat.reduceLeDiff, Nat.reduceAdd, Nat.reduceMul, Nat.reduceSub, Int.reduceAdd, Int.reduceSub, Int.reduceMul, v8S, IntKind.bits, tabs, GPA_set, hop3, f2z, f3z]; (try simp (disch := omega) only [v8W])))); (first | (refine hN _ _ ?_; clear hN N; (try simp (disch := omega) only [v8W])) | skip))
    rename_i b1 b2 b3 b4 b5 pa hPa pb hPb
    obtain ⟨⟨a1, c1, R1⟩, h1⟩ := pa
    obtain ⟨⟨a2, c2, R2⟩, h2⟩ := pb
    obtain ⟨_, q2, q3, q4, q5⟩ := hPa
    obtain ⟨_, r2, r3, r4, r5⟩ := hPb
    rw [hpx] at q5
    rw [hpk] at r5
    simp only at q2 q3 q4 q5 r2 r3 r4 r5 ⊢
    have q6 := q5.take 8
    have r6 := r5.take 8
    rw [List.take_left' (show (sgP x).length = 8 from rfl)] at q6 r6
    have q7 := lies_tk6 q4 8
    have r7 := lies_tk6 r4 8
    have q8 : adr a1 8 c1 := adr_less q3
    have r8 : adr a2 8 c2 := adr_less r3
    have q9 : (R1.take 8).take 8 = R1.take 8 := List.take_of_length_le (by rw [List.length_take]; omega)
    have r9 : (R2.take 8).take 8 = R2.take 8 := List.take_of_length_le (by rw [List.length_take]; omega)
    have ql : (R1.take 8).length = 8 := q6.1
    have rl : (R2.take 8).length = 8 := r6.1
    generalize hS1 : R1.take 8 = S1 at *
    generalize hS2 : R2.take 8 = S2 at *
    have o1 := q6.ok
    have o2 := r6.ok
    have x1 := q6.fixed
    have x2 := r6.fixed
    have Q6 : ∀ m, Blk.heap h1 ∈ m → PsR (HM m) S1 (sgP x) := fun m hin => ⟨q6.1, q6.2.1, fun i r p hr hp => (q6.2.2 i r p hr hp).mono fun b o h => Hl.hm hin (fun _ h => h) b o h⟩
    have R6 : ∀ m, Blk.heap h2 ∈ m → PsR (HM m) S2 (sgP x) := fun m hin => ⟨r6.1, r6.2.1, fun i r p hr hp => (r6.2.2 i r p hr hp).mono fun b o h => Hl.hm hin (fun _ h => h) b o h⟩
    have Q7 : ∀ m, Blk.heap h1 ∈ m → LiesH (HM m) a1 (cc (.rows 6 S1)) := fun m hin => q7.mono (Hl.hm hin fun _ h => h)
    have R7 : ∀ m, Blk.heap h2 ∈ m → LiesH (HM m) a2 (cc (.rows 6 S2)) := fun m hin => r7.mono (Hl.hm hin fun _ h => h)
    ((with_reducible refine Vc.seq fun N hN => ?_); (first | refine Vc.drawt (id := 11) T0_ok GPA_ok (by kernel_rfl) [0, 1, 3, 2, 4, 5, 6, 7, 8, 9, 10, 11, 12, 13, 14, 15, 16, 17, 19, 18] 20 [] trivial (by kernel_rfl) ?_); simp only [v8Y, Nat.beq, Nat.ble, Int.reduceToNat, Int.reduceLE, Int.reduceLT, Nat.reduceLT, Nat.reduceLeDiff, Nat.reduceAdd, Nat.reduceMul, Nat.reduceSub, Int.reduceAdd, Int.reduceSub, Int.reduceMul, v8S, IntKind.bits, tabs, GPA_set, hop3, f2z, f3z, hsz, qx, hS1, hS2, o1, o2, q9, r9, x1, x2, shA_0, List.drop_zero, Nat.sub_zero, hs]; (try simp (disch := omega) only [v8W]))
    (repeat (first | with_reducible intro _ | ((with_reducible refine And.intro ?_ ?_); (focus (first | ((repeat' with_reducible apply And.intro) <;> first | exact sideQ | (exact Q7 _ (by simp)) | (exact R7 _ (by simp)) | (exact ⟨_, Q6 _ (by simp), R6 _ (by simp)⟩) | (exact ⟨x, hOx _ (by simp)⟩) | (exact ⟨y, hOy _ (by simp)⟩) | (exact ⟨x, hOx _ (by simp), hSx⟩) | (exact ⟨y, hOy _ (by simp), hSy⟩) | (exact ⟨_, hOz _ (by simp), hSz⟩) | (exact ⟨_, hOz _ (by simp)⟩) | (exact ⟨_, _, hOz _ (by simp), hOy _ (by simp)⟩)) | exact sd0))) | ((with_reducible refine askT_of ?_ (fun hb => ?_)); (focus (first | ((repeat' with_reducible apply And.intro) <;> first | exact sideQ | (exact Q7 _ (by simp)) | (exact R7 _ (by simp)) | (exact ⟨_, Q6 _ (by simp), R6 _ (by simp)⟩) | (exact ⟨x, hOx _ (by simp)⟩) | (exact ⟨y, hOy _ (by simp)⟩) | (exact ⟨x, hOx _ (by simp), hSx⟩) | (exact ⟨y, hOy _ (by simp), hSy⟩) | (exact ⟨_, hOz _ (by simp), hSz⟩) | (exact ⟨_, hOz _ (by simp)⟩) | (exact ⟨_, _, hOz _ (by simp), hOy _ (by simp)⟩)) | exact sd0)); simp only [hb, v8Y, Nat.beq, Nat.ble, Int.reduceToNat, Int.reduceLE, Int.reduceLT, Nat.reduceLT, Nat.reduceLeDiff, Nat.reduceAdd, Nat.reduceMul, Nat.reduceSub, Int.reduceAdd, Int.reduceSub, Int.reduceMul, v8S, IntKind.bits, tabs, GPA_set]; (try simp (disch := omega) only [v8W])))); (first | (refine hN _ _ ?_; clear hN N; (try simp (disch := omega) only [v8W])) | skip)
    ((repeat (first | (with_reducible first | refine Vc.seq fun N hN => ?_ | refine Vc.block ?_) | ((with_reducible first | refine Vc.skip ?_ | refine Vc.exit ?_); dsimp only [thenK, blockK, Nat.beq]; (first | (refine hN _ _ ?_; clear hN N) | skip)) | (with_reducible intro _) | ((with_reducible refine And.intro ?_ ?_); exact sdB) | ((first | ((with_reducible refine askT_of ?_ (fun hb => ?_)); exact sdB; (try simp only [hb])) | ((with_reducible refine Vc.fin ?_); dsimp only [thenK, blockK, retK, resS, resOne, resAll]) | ((with_reducible refine Vc.hold ?_); first | refine Vc.regiont T0_ok GPA_ok ?_ | refine Vc.drawt (id := 11) T0_ok GPA_ok (by kernel_rfl) [0, 1, 3, 2, 4, 5, 6, 7, 8, 9, 10, 11, 12, 13, 14, 15, 16, 17, 19, 18] 20 [] trivial (by kernel_rfl) ?_)); (try simp only [v8Y, Nat.beq, Nat.ble, Int.reduceToNat, Int.reduceLE, Int.reduceLT, Nat.reduceLT, Nat.reduceLeDiff, Nat.reduceAdd, Nat.reduceMul, Nat.reduceSub, Int.reduceAdd, Int.reduceSub, Int.reduceMul, v8S, IntKind.bits, tabs, GPA_set]); (try simp (disch := omega) only [v8W])) | ((with_reducible refine hN _ _ ?_); clear hN N; (try simp (disch := omega) only [v8W])))); (try ((with_reducible refine Fin.of ?_); (try with_reducible exact True.intro))))
    exact ⟨by simp, trivial⟩
   | true =>
    have hky := hsm hs
    ((with_reducible refine Vc.seq fun N hN => ?_); (refine Vc.regiont T0_ok GPA_ok ?_); simp only [v8Y, Nat.beq, Nat.ble, Int.reduceToNat, Int.reduceLE, Int.reduceLT, Nat.reduceLT, Nat.reduceLeDiff, Nat.reduceAdd, Nat.reduceMul, Nat.reduceSub, Int.reduceAdd, Int.reduceSub, Int.reduceMul, v8S, IntKind.bits, tabs, GPA_set, hop2, hop3, f2z, f2b, f3z, f3b, hs]; (try simp (disch := omega) only [v8W]); (repeat (first | with_reducible intro _ | ((with_reducible refine And.intro ?_ ?_); (focus (first | ((repeat' with_reducible apply And.intro) <;> first | exact sideQ | (exact ⟨x, hOx _ (by simp)⟩) | (exact ⟨y, hOy _ (by simp)⟩) | (exact ⟨x, hOx _ (by simp), hSx⟩) | (exact ⟨y, hOy _ (by simp), hSy⟩) | (exact ⟨_, hOz _ (by simp), hSz⟩) | (exact ⟨_, hOz _ (by simp)⟩) | (exact ⟨_, _, hOz _ (by simp), hOy _ (by simp)⟩)) | exact sd0))) | ((with_reducible refine askT_of ?_ (fun hb => ?_)); (focus (first | ((repeat' with_reducible apply And.intro) <;> first | exact sideQ | (exact ⟨x, hOx _ (by simp)⟩) | (exact ⟨y, hOy _ (by simp)⟩) | (exact ⟨x, hOx _ (by simp), hSx⟩) | (exact ⟨y, hOy _ (by simp), hSy⟩) | (exact ⟨_, hOz _ (by simp), hSz⟩) | (exact ⟨_, hOz _ (by simp)⟩) | (exact ⟨_, _, hOz _ (by simp), hOy _ (by simp)⟩)) | exact sd0)); simp only [hb, v8Y, Nat.beq, Nat.ble, Int.reduceToNat, Int.reduceLE, Int.reduceLT, Nat.reduceLT, Nat.reduceLeDiff, Nat.reduceAdd, Nat.reduceMul, Nat.reduceSub, Int.reduceAdd, Int.reduceSub, Int.reduceMul, v8S, IntKind.bits, tabs, GPA_set, hop2, hop3, f2z, f2b, f3z, f3b, hs]; (try simp (disch := omega) only [v8W])))); (first | (refine hN _ _ ?_; clear hN N; (try simp (disch := omega) only [v8W])) | skip))
    ((with_reducible refine Vc.seq fun N hN => ?_); (refine Vc.regiont T0_ok GPA_ok ?_); simp only [v8Y, Nat.beq, Nat.ble, Int.reduceToNat, Int.reduceLE, Int.reduceLT, Nat.reduceLT, Nat.reduceLeDiff, Nat.reduceAdd, Nat.reduceMul, Nat.reduceSub, Int.reduceAdd, Int.reduceSub, Int.reduceMul, v8S, IntKind.bits, tabs, GPA_set, hop, f2, f3]; (try simp (disch := omega) only [v8W]); (repeat (first | with_reducible intro _ | ((with_reducible refine And.intro ?_ ?_); (focus (first | ((repeat' with_reducible apply And.intro) <;> first | exact sideQ | (exact ⟨x, hOx _ (by simp)⟩) | (exact ⟨y, hOy _ (by simp)⟩) | (exact ⟨x, hOx _ (by simp), hSx⟩) | (exact ⟨y, hOy _ (by simp), hSy⟩) | (exact ⟨_, hOz _ (by simp), hSz⟩) | (exact ⟨_, hOz _ (by simp)⟩) | (exact ⟨_, _, hOz _ (by simp), hOy _ (by simp)⟩)) | exact sd0))) | ((with_reducible refine askT_of ?_ (fun hb => ?_)); (focus (first | ((repeat' with_reducible apply And.intro) <;> first | exact sideQ | (exact ⟨x, hOx _ (by simp)⟩) | (exact ⟨y, hOy _ (by simp)⟩) | (exact ⟨x, hOx _ (by simp), hSx⟩) | (exact ⟨y, hOy _ (by simp), hSy⟩) | (exact ⟨_, hOz _ (by simp), hSz⟩) | (exact ⟨_, hOz _ (by simp)⟩) | (exact ⟨_, _, hOz _ (by simp), hOy _ (by simp)⟩)) | exact sd0)); simp only [hb, v8Y, Nat.beq, Nat.ble, Int.reduceToNat, Int.reduceLE, Int.reduceLT, Nat.reduceLT, Nat.reduceLeDiff, Nat.reduceAdd, Nat.reduceMul, Nat.reduceSub, Int.reduceAdd, Int.reduceSub, Int.reduceMul, v8S, IntKind.bits, tabs, GPA_set, hop, f2, f3]; (try simp (disch := omega) only [v8W])))); (first | (refine hN _ _ ?_; clear hN N; (try simp (disch := omega) only [v8W])) | skip))
    ((with_reducible refine Vc.seq fun N hN => ?_); (refine Vc.regiont T0_ok GPA_ok ?_); simp only [v8Y, Nat.beq, Nat.ble, Int.reduceToNat, Int.reduceLE, Int.reduceLT, Nat.reduceLT, Nat.reduceLeDiff, Nat.reduceAdd, Nat.reduceMul, Nat.reduceSub, Int.reduceAdd, Int.reduceSub, Int.reduceMul, v8S, IntKind.bits, tabs, GPA_set, hop, f2, f3]; (try simp (disch := omega) only [v8W]); (repeat (first | with_reducible intro _ | ((with_reducible refine And.intro ?_ ?_); (focus (first | ((repeat' with_reducible apply And.intro) <;> first | exact sideQ | (exact ⟨x, hOx _ (by simp)⟩) | (exact ⟨y, hOy _ (by simp)⟩) | (exact ⟨x, hOx _ (by simp), hSx⟩) | (exact ⟨y, hOy _ (by simp), hSy⟩) | (exact ⟨_, hOz _ (by simp), hSz⟩) | (exact ⟨_, hOz _ (by simp)⟩) | (exact ⟨_, _, hOz _ (by simp), hOy _ (by simp)⟩)) | exact sd0))) | ((with_reducible refine askT_of ?_ (fun hb => ?_)); (focus (first | ((repeat' with_reducible apply And.intro) <;> first | exact sideQ | (exact ⟨x, hOx _ (by simp)⟩) | (exact ⟨y, hOy _ (by simp)⟩) | (exact ⟨x, hOx _ (by simp), hSx⟩) | (exact ⟨y, hOy _ (by simp), hSy⟩) | (exact ⟨_, hOz _ (by simp), hSz⟩) | (exact ⟨_, hOz _ (by simp)⟩) | (exact ⟨_, _, hOz _ (by simp), hOy _ (by simp)⟩)) | exact sd0)); simp only [hb, v8Y, Nat.beq, Nat.ble, Int.reduceToNat, Int.reduceLE, Int.reduceLT, Nat.reduceLT, Nat.reduceLeDiff, Nat.reduceAdd, Nat.reduceMul, Nat.reduceSub, Int.reduceAdd, Int.reduceSub, Int.reduceMul, v8S, IntKind.bits, tabs, GPA_set, hop, f2, f3]; (try simp (disch := omega) only [v8W])))); (first | (refine hN _ _ ?_; clear hN N; (try simp (disch := omega) only [v8W])) | skip))
    ((with_reducible refine Vc.seq fun N hN => ?_); (refine Vc.regiont T0_ok GPA_ok ?_); simp only [v8Y, Nat.beq, Nat.ble, Int.reduceToNat, Int.reduceLE, Int.reduceLT, Nat.reduceLT, Nat.reduceLeDiff, Nat.reduceAdd, Nat.reduceMul, Nat.reduceSub, Int.reduceAdd, Int.reduceSub, Int.reduceMul, v8S, IntKind.bits, tabs, GPA_set, hop3, f2z, f3z]; (try simp (disch := omega) only [v8W]); (repeat (first | with_reducible intro _ | ((with_reducible refine And.intro ?_ ?_); (focus (first | ((repeat' with_reducible apply And.intro) <;> first | exact sideQ | (exact ⟨x, hOx _ (by simp)⟩) | (exact ⟨y, hOy _ (by simp)⟩) | (exact ⟨x, hOx _ (by simp), hSx⟩) | (exact ⟨y, hOy _ (by simp), hSy⟩) | (exact ⟨_, hOz _ (by simp), hSz⟩) | (exact ⟨_, hOz _ (by simp)⟩) | (exact ⟨_, _, hOz _ (by simp), hOy _ (by simp)⟩)) | exact sd0))) | ((with_reducible refine askT_of ?_ (fun hb => ?_)); (focus (first | ((repeat' with_reducible apply And.intro) <;> first | exact sideQ | (exact ⟨x, hOx _ (by simp)⟩) | (exact ⟨y, hOy _ (by simp)⟩) | (exact ⟨x, hOx _ (by simp), hSx⟩) | (exact ⟨y, hOy _ (by simp), hSy⟩) | (exact ⟨_, hOz _ (by simp), hSz⟩) | (exact ⟨_, hOz _ (by simp)⟩) | (exact ⟨_, _, hOz _ (by simp), hOy _ (by simp)⟩)) | exact sd0)); simp only [hb, v8Y, Nat.beq, Nat.ble, Int.reduceToNat, Int.reduceLE, Int.reduceLT, Nat.reduceLT, Nat.reduceLeDiff, Nat.reduceAdd, Nat.reduceMul, Nat.reduceSub, Int.reduceAdd, Int.reduceSub, Int.reduceMul, v8S, IntKind.bits, tabs, GPA_set, hop3, f2z, f3z]; (try simp (disch := omega) only [v8W])))); (first | (refine hN _ _ ?_; clear hN N; (try simp (disch := omega) only [v8W])) | skip))
    rename_i b1 b2 b3 b4 b5 pa hPa pb hPb
    obtain ⟨⟨a1, c1, R1⟩, h1⟩ := pa
    obtain ⟨⟨a2, c2, R2⟩, h2⟩ := pb
    obtain ⟨_, q2, q3, q4, q5⟩ := hPa
    obtain ⟨_, r2, r3, r4, r5⟩ := hPb
    rw [hpx] at q5
    rw [hpk] at r5
    simp only at q2 q3 q4 q5 r2 r3 r4 r5 ⊢
    have q6 := q5.take 8
    have r6 := r5.take 8
    rw [List.take_left' (show (sgP x).length = 8 from rfl)] at q6 r6
    have q7 := lies_tk6 q4 8
    have r7 := lies_tk6 r4 8
    have q8 : adr a1 8 c1 := adr_less q3
    have r8 : adr a2 8 c2 := adr_less r3
    have q9 : (R1.take 8).take 8 = R1.take 8 := List.take_of_length_le (by rw [List.length_take]; omega)
    have r9 : (R2.take 8).take 8 = R2.take 8 := List.take_of_length_le (by rw [List.length_take]; omega)
    have ql : (R1.take 8).length = 8 := q6.1
    have rl : (R2.take 8).length = 8 := r6.1
    generalize hS1 : R1.take 8 = S1 at *
    generalize hS2 : R2.take 8 = S2 at *
    have o1 := q6.ok
    have o2 := r6.ok
    have x1 := q6.fixed
    have x2 := r6.fixed
    have Q6 : ∀ m, Blk.heap h1 ∈ m → PsR (HM m) S1 (sgP x) := fun m hin => ⟨q6.1, q6.2.1, fun i r p hr hp => (q6.2.2 i r p hr hp).mono fun b o h => Hl.hm hin (fun _ h => h) b o h⟩
    have R6 : ∀ m, Blk.heap h2 ∈ m → PsR (HM m) S2 (sgP x) := fun m hin => ⟨r6.1, r6.2.1, fun i r p hr hp => (r6.2.2 i r p hr hp).mono fun b o h => Hl.hm hin (fun _ h => h) b o h⟩
    have Q7 : ∀ m, Blk.heap h1 ∈ m → LiesH (HM m) a1 (cc (.rows 6 S1)) := fun m hin => q7.mono (Hl.hm hin fun _ h => h)
    have R7 : ∀ m, Blk.heap h2 ∈ m → LiesH (HM m) a2 (cc (.rows 6 S2)) := fun m hin => r7.mono (Hl.hm hin fun _ h => h)
    ((with_reducible refine Vc.seq fun N hN => ?_); (first | refine Vc.drawt (id := 11) T0_ok GPA_ok (by kernel_rfl) [0, 1, 3, 2, 4, 5, 6, 7, 8, 9, 10, 11, 12, 13, 14, 15, 16, 17, 19, 18] 20 [] trivial (by kernel_rfl) ?_); simp only [v8Y, Nat.beq, Nat.ble, Int.reduceToNat, Int.reduceLE, Int.reduceLT, Nat.reduceLT, Nat.reduceLeDiff, Nat.reduceAdd, Nat.reduceMul, Nat.reduceSub, Int.reduceAdd, Int.reduceSub, Int.reduceMul, v8S, IntKind.bits, tabs, GPA_set, hop3, f2z, f3z, hsz, qx, hS1, hS2, o1, o2, q9, r9, x1, x2, shA_0, List.drop_zero, Nat.sub_zero, hs, hop2, f2b, f3b, hky]; (try simp (disch := omega) only [v8W]))
    (repeat (first | with_reducible intro _ | ((with_reducible refine And.intro ?_ ?_); (focus (first | ((repeat' with_reducible apply And.intro) <;> first | exact sideQ | (exact Q7 _ (by simp)) | (exact R7 _ (by simp)) | (exact ⟨_, Q6 _ (by simp), R6 _ (by simp)⟩) | (exact ⟨x, hOx _ (by simp)⟩) | (exact ⟨y, hOy _ (by simp)⟩) | (exact ⟨x, hOx _ (by simp), hSx⟩) | (exact ⟨y, hOy _ (by simp), hSy⟩) | (exact ⟨_, hOz _ (by simp), hSz⟩) | (exact ⟨_, hOz _ (by simp)⟩) | (exact ⟨_, _, hOz _ (by simp), hOy _ (by simp)⟩)) | exact sd0))) | ((with_reducible refine askT_of ?_ (fun hb => ?_)); (focus (first | ((repeat' with_reducible apply And.intro) <;> first | exact sideQ | (exact Q7 _ (by simp)) | (exact R7 _ (by simp)) | (exact ⟨_, Q6 _ (by simp), R6 _ (by simp)⟩) | (exact ⟨x, hOx _ (by simp)⟩) | (exact ⟨y, hOy _ (by simp)⟩) | (exact ⟨x, hOx _ (by simp), hSx⟩) | (exact ⟨y, hOy _ (by simp), hSy⟩) | (exact ⟨_, hOz _ (by simp), hSz⟩) | (exact ⟨_, hOz _ (by simp)⟩) | (exact ⟨_, _, hOz _ (by simp), hOy _ (by simp)⟩)) | exact sd0)); simp only [hb, v8Y, Nat.beq, Nat.ble, Int.reduceToNat, Int.reduceLE, Int.reduceLT, Nat.reduceLT, Nat.reduceLeDiff, Nat.reduceAdd, Nat.reduceMul, Nat.reduceSub, Int.reduceAdd, Int.reduceSub, Int.reduceMul, v8S, IntKind.bits, tabs, GPA_set]; (try simp (disch := omega) only [v8W])))); (first | (refine hN _ _ ?_; clear hN N; (try simp (disch := omega) only [v8W])) | skip)
    ((repeat (first | (with_reducible first | refine Vc.seq fun N hN => ?_ | refine Vc.block ?_) | ((with_reducible first | refine Vc.skip ?_ | refine Vc.exit ?_); dsimp only [thenK, blockK, Nat.beq]; (first | (refine hN _ _ ?_; clear hN N) | skip)) | (with_reducible intro _) | ((with_reducible refine And.intro ?_ ?_); exact sdB) | ((first | ((with_reducible refine askT_of ?_ (fun hb => ?_)); exact sdB; (try simp only [hb])) | ((with_reducible refine Vc.fin ?_); dsimp only [thenK, blockK, retK, resS, resOne, resAll]) | ((with_reducible refine Vc.hold ?_); first | refine Vc.regiont T0_ok GPA_ok ?_ | refine Vc.drawt (id := 11) T0_ok GPA_ok (by kernel_rfl) [0, 1, 3, 2, 4, 5, 6, 7, 8, 9, 10, 11, 12, 13, 14, 15, 16, 17, 19, 18] 20 [] trivial (by kernel_rfl) ?_)); (try simp only [v8Y, Nat.beq, Nat.ble, Int.reduceToNat, Int.reduceLE, Int.reduceLT, Nat.reduceLT, Nat.reduceLeDiff, Nat.reduceAdd, Nat.reduceMul, Nat.reduceSub, Int.reduceAdd, Int.reduceSub, Int.reduceMul, v8S, IntKind.bits, tabs, GPA_set]); (try simp (disch := omega) only [v8W])) | ((with_reducible refine hN _ _ ?_); clear hN N; (try simp (disch := omega) only [v8W])))); (try ((with_reducible refine Fin.of ?_); (try with_reducible exact True.intro))))
    exact ⟨by simp, trivial⟩
end Go.Proofs.YtjonbbmnjbnefaaDoor
