/-
 The law UseropCalls of package quaestorlaw15, walked. No condition.
-/
import Derived.Test.YthdpgfdfgidokaaDoorX1
import Derived.Test.YthdpgfdfgidokaaDoorOH
import Derived.Test.YthdpgfdfgidokaaDoorO8
set_option maxRecDepth 10000
set_option maxHeartbeats 4000000
set_option linter.defProp false
set_option linter.unusedVariables false
set_option linter.unusedSimpArgs false
namespace Go.Proofs.YthdpgfdfgidokaaDoor
open Go.RowKit
theorem may_S {x : OpD} (h : mayO x = true) : OpS 10000 x := by
 have h1 : opLe x 1000 = true := by
  simp only [mayO, Bool.and_eq_true] at h; exact h.1
 have := opLe_S (n := 1000) h1
 simp only [OpS] at this ⊢
 omega
theorem may_1000 {x : OpD} (h : mayO x = true) : OpS 1000 x := by
 have h1 : opLe x 1000 = true := by
  simp only [mayO, Bool.and_eq_true] at h; exact h.1
 exact opLe_S (n := 1000) h1
theorem ask_len2 {name : List Int} {x : OpD} {h n : Nat} (hB : OpB x) (hS : OpS 1000 x) : (askB name x h n).length ≤ 1000000 := by
 obtain ⟨h1, h2, h3, h4⟩ := hS
 have k1 : (facB x).length ≤ 1020 := by unfold facB; split <;> simp [hB.lf]; omega
 have k2 : (payB x).length ≤ 1052 := by unfold payB; split <;> simp [hB.lp, hlfB_len]; omega
 have k3 : psz (pkP x) ≤ 10000 := by
  simp only [pkP, sgP, List.cons_append, List.nil_append, psz, List.length_nil]
  omega
 have k4 := abEnc_le (pkP x)
 have k5 : (pkP x).length = 9 := rfl
 have k6 := hd_len h n
 have k7 := selB_len2 (qsN name)
 simp only [askB, List.length_append]
 omega
theorem ask_all {nm : List Int} {x : OpD} {h n : Nat} (hB : OpB x) : allB (askB nm x h n) := allB_app2 (selB_all2 _) (allB_app2 (hd_all h n) (abEnc_all2 (pk_all hB)))
theorem po_allB {md : Int} {xs : List Int} {a b : Nat} (h : allB xs) : allB (poB md xs a b) := allB_app2 (selB_all2 _) (po_all h)
noncomputable def GPD : Ctr := fun f args m => match f with
 | 15 => g_may args m
 | 12 => g_ulK args m
 | 30 => g_valid args m
 | 32 => g_spons args m
 | 34 => g_post args m
 | 31 => g_rvalid args m
 | 33 => g_rspons args m
 | 35 => g_rpost args m
 | 29 => g_same args m
 | _ => .none
theorem GPD_ok : GOk Tryd.prog GPD := by
 intro w0 B f args m; unfold GPD; split
 ·exact g_may_ok _ _ _ _
 ·exact g_ulK_ok _ _ _ _
 ·exact g_valid_ok _ _ _ _
 ·exact g_spons_ok _ _ _ _
 ·exact g_post_ok _ _ _ _
 ·exact g_rvalid_ok _ _ _ _
 ·exact g_rspons_ok _ _ _ _
 ·exact g_rpost_ok _ _ _ _
 ·exact g_same_ok _ _ _ _
 ·exact trivial
theorem GPD_may : GPD 15 = g_may := by funext args m; rfl
theorem GPD_ulK : GPD 12 = g_ulK := by funext args m; rfl
theorem GPD_valid : GPD 30 = g_valid := by funext args m; rfl
theorem GPD_spons : GPD 32 = g_spons := by funext args m; rfl
theorem GPD_post : GPD 34 = g_post := by funext args m; rfl
theorem GPD_rvalid : GPD 31 = g_rvalid := by funext args m; rfl
theorem GPD_rspons : GPD 33 = g_rspons := by funext args m; rfl
theorem GPD_rpost : GPD 35 = g_rpost := by funext args m; rfl
theorem GPD_same : GPD 29 = g_same := by funext args m; rfl
def GPD_set := And.intro (And.intro (And.intro (And.intro (@GPD_may) (@g_may.eq_def)) (And.intro (@GPD_ulK) (@g_ulK.eq_def))) (And.intro (And.intro (@GPD_valid) (@g_valid.eq_def)) (And.intro (@GPD_spons) (And.intro (@g_spons.eq_def) (@GPD_post))))) (And.intro (And.intro (And.intro (@g_post.eq_def) (@GPD_rvalid)) (And.intro (@g_rvalid.eq_def) (@GPD_rspons))) (And.intro (And.intro (@g_rspons.eq_def) (@GPD_rpost)) (And.intro (@g_rpost.eq_def) (And.intro (@GPD_same) (@g_same.eq_def)))))

set_option maxRecDepth 20000 in
theorem calls_law (l : List SV) (x : OpD) (h nn : Nat) (md : Int) (al : Option Addr) (n c : Nat) (xs : List Int) (hh : h < W) (hnn : nn < W) (hmd : 0 ≤ md ∧ md ≤ 18446744073709551615) (hl : xs.length = n) (hn : n ≤ c) (had : adr al n c) (hx : allB xs) (hmx : n ≤ maxLen) (w : World)
  (hm : MemOk w [] [.ro (some ⟨1, 0, none⟩) (.ints .u64 kKeys), .ro (some ⟨2, 0, none⟩) (.ints .u8 kPathI), allOld w] w) (hO : OpR (H0 w) l x) (hL : LiesH (H0 w) al (cc (.ints .u8 xs))) : Calls Tryd.prog 6 (cvs [.agg l, .word h, .word nn, .int .u64 md, .gh al n c (.ints .u8 xs)]).toArray w (Yes w) := by
 have hOx : ∀ m, allOld w ∈ m → OpR (HM m) l x := fun m hin => hO.mono (H0.hm hin)
 have hLx : ∀ m, allOld w ∈ m → LiesH (HM m) al (cc (.ints .u8 xs)) := fun m hin => hL.mono (H0.hm hin)
 have hop := opOf_eq hO
 have f3 := hO.all
 have f2 := hO.one
 unfold maxLen at hmx
 cases hcx : mayO x with
 | false =>
  refine Vc.calls T0_ok Tryd.func6 rfl rfl (args := [.agg l, .word h, .word nn, .int .u64 md, .gh al n c (.ints .u8 xs)]) (k := 55) rfl hm ?_; change Vc _ _ (c8 (.agg l) (.word h) (.word nn) (.int .u64 md) (.gh al n c (.ints .u8 xs)) .undef .undef .undef (c8 .undef .undef .undef .undef .undef .undef .undef .undef (c8 .undef .undef .undef .undef .undef .undef .undef .undef (c8 .undef .undef .undef .undef .undef .undef .undef .undef (c8 .undef .undef .undef .undef .undef .undef .undef .undef (c8 .undef .undef .undef .undef .undef .undef .undef .undef (c8 .undef .undef .undef .undef .undef .undef .undef .undef ([.undef, .undef, .undef, .undef])))))))) _ _
  ((repeat (first | (with_reducible refine Vc.seq fun N hN => ?_) | (with_reducible intro _) | ((with_reducible refine And.intro ?_ ?_); exact sX20) | ((first | ((with_reducible refine Vc.hold ?_); first | refine Vc.regiont T0_ok GPD_ok ?_)); (try simp only [v8Y, Nat.beq, Nat.ble, seval, tabs, GPD_set, hop, f3, hcx])) | ((with_reducible refine hN _ _ ?_); clear hN N))))
  (refine Vc.cond T0_ok (t := true) (by rfl) (fun _ => ?_) (fun h => Bool.noConfusion h))
  ((repeat (first | (with_reducible refine Vc.seq fun N hN => ?_) | ((with_reducible refine And.intro ?_ ?_); exact sX20) | ((first | ((with_reducible refine Vc.fin ?_); dsimp only [thenK, blockK, retK, resS, resOne, resAll]) | ((with_reducible refine Vc.hold ?_); first | refine Vc.regiont T0_ok GPD_ok ?_)); (try simp only [v8Y, Nat.beq, Nat.ble, seval, tabs, GPD_set])) | ((with_reducible refine hN _ _ ?_); clear hN N))); (try ((with_reducible refine Fin.of ?_); (try with_reducible exact True.intro))))
  exact ⟨by simp, trivial⟩
 | true =>
  have hSx := may_S hcx
  by_cases hc : n ≤ 1000
  ·have d1 : decide ((1000 : Int) < (n : Int)) = false := decide_eq_false (by omega)
   have hB := hO.okB
   have a1 := ask_all (nm := vNm) (h := h) (n := nn) hB
   have a2 := ask_all (nm := sNm) (h := h) (n := nn) hB
   have b1 := ask_len2 (name := vNm) (h := h) (n := nn) hB (may_1000 hcx)
   have b2 := ask_len2 (name := sNm) (h := h) (n := nn) hB (may_1000 hcx)
   have a3 := po_allB (md := md) (a := h) (b := nn) hx
   have b3 := po_len (md := md) (a := h) (b := nn) (show xs.length ≤ 2000 by omega)
   have g1 : decide (askB vNm x h nn = askB vNm x h nn) = true := decide_eq_true rfl
   have g2 : decide (askB sNm x h nn = askB sNm x h nn) = true := decide_eq_true rfl
   have g3 : decide (poB md xs h nn = poB md xs h nn) = true := decide_eq_true rfl
   generalize hq1 : askB vNm x h nn = Q1 at *
   generalize hq2 : askB sNm x h nn = Q2 at *
   generalize hq3 : poB md xs h nn = Q3 at *
   refine Vc.calls T0_ok Tryd.func6 rfl rfl (args := [.agg l, .word h, .word nn, .int .u64 md, .gh al n c (.ints .u8 xs)]) (k := 55) rfl hm ?_; change Vc _ _ (c8 (.agg l) (.word h) (.word nn) (.int .u64 md) (.gh al n c (.ints .u8 xs)) .undef .undef .undef (c8 .undef .undef .undef .undef .undef .undef .undef .undef (c8 .undef .undef .undef .undef .undef .undef .undef .undef (c8 .undef .undef .undef .undef .undef .undef .undef .undef (c8 .undef .undef .undef .undef .undef .undef .undef .undef (c8 .undef .undef .undef .undef .undef .undef .undef .undef (c8 .undef .undef .undef .undef .undef .undef .undef .undef ([.undef, .undef, .undef, .undef])))))))) _ _
   ((repeat (first | (with_reducible refine Vc.seq fun N hN => ?_) | (with_reducible intro _) | ((with_reducible refine And.intro ?_ ?_); exact sX8) | ((first | ((with_reducible refine Vc.hold ?_); first | refine Vc.regiont T0_ok GPD_ok ?_)); (try simp only [v8Y, Nat.beq, Nat.ble, seval, tabs, GPD_set, hop, f3, hcx, d1])) | ((with_reducible refine hN _ _ ?_); clear hN N))))
   (refine Vc.cond T0_ok (t := false) (by rfl) (fun h => Bool.noConfusion h) (fun _ => ?_))
   (refine Vc.skip ?_; dsimp only [thenK, blockK, Nat.beq]; refine hN _ _ ?_; clear hN N)
   ((with_reducible refine Vc.seq fun N hN => ?_); (first | refine Vc.drawt (id := 4) T0_ok GPD_ok (by kernel_rfl) [0, 1, 2, 4, 5, 6, 3, 7, 8, 9, 10, 11, 12, 14, 15, 16, 13] 17 [] trivial (by kernel_rfl) ?_ | refine Vc.drawt (id := 5) T0_ok GPD_ok (by kernel_rfl) [0, 1, 2, 3, 4, 5, 6, 7, 8, 10, 11, 12, 13, 9] 14 [] trivial (by kernel_rfl) ?_); simp only [v8Y, Nat.beq, Nat.ble, seval, tabs, GPD_set, hop, f2, f3, hq1, hq2, g1, g2, List.drop_zero, List.take_length]; (try simp (disch := omega) only [v8W]))
   (repeat (first | with_reducible intro _ | ((with_reducible refine And.intro ?_ ?_); exact sX8))); (first | (refine hN _ _ ?_; clear hN N; (try simp (disch := omega) only [v8W])) | skip)
   ((with_reducible refine Vc.seq fun N hN => ?_); (first | refine Vc.drawt (id := 4) T0_ok GPD_ok (by kernel_rfl) [0, 1, 2, 4, 5, 6, 3, 7, 8, 9, 10, 11, 12, 14, 15, 16, 13] 17 [] trivial (by kernel_rfl) ?_ | refine Vc.drawt (id := 5) T0_ok GPD_ok (by kernel_rfl) [0, 1, 2, 3, 4, 5, 6, 7, 8, 10, 11, 12, 13, 9] 14 [] trivial (by kernel_rfl) ?_); simp only [v8Y, Nat.beq, Nat.ble, seval, tabs, GPD_set, hop, f2, f3, hq3, g3, List.drop_zero, List.take_length]; (try simp (disch := omega) only [v8W]))
   (repeat (first | with_reducible intro _ | ((with_reducible refine And.intro ?_ ?_); exact sX8))); (first | (refine hN _ _ ?_; clear hN N; (try simp (disch := omega) only [v8W])) | skip)
   ((repeat (first | ((first | ((with_reducible refine Vc.fin ?_); dsimp only [thenK, blockK, retK, resS, resOne, resAll])); (try simp only [v8Y, Nat.beq, Nat.ble, seval, tabs, GPD_set])))); (try ((with_reducible refine Fin.of ?_); (try with_reducible exact True.intro))))
   exact ⟨by simp, trivial⟩
  ·have d1 : decide ((1000 : Int) < (n : Int)) = true := decide_eq_true (by omega)
   refine Vc.calls T0_ok Tryd.func6 rfl rfl (args := [.agg l, .word h, .word nn, .int .u64 md, .gh al n c (.ints .u8 xs)]) (k := 55) rfl hm ?_; change Vc _ _ (c8 (.agg l) (.word h) (.word nn) (.int .u64 md) (.gh al n c (.ints .u8 xs)) .undef .undef .undef (c8 .undef .undef .undef .undef .undef .undef .undef .undef (c8 .undef .undef .undef .undef .undef .undef .undef .undef (c8 .undef .undef .undef .undef .undef .undef .undef .undef (c8 .undef .undef .undef .undef .undef .undef .undef .undef (c8 .undef .undef .undef .undef .undef .undef .undef .undef (c8 .undef .undef .undef .undef .undef .undef .undef .undef ([.undef, .undef, .undef, .undef])))))))) _ _
   ((repeat (first | (with_reducible refine Vc.seq fun N hN => ?_) | (with_reducible intro _) | ((with_reducible refine And.intro ?_ ?_); exact sX8) | ((first | ((with_reducible refine Vc.hold ?_); first | refine Vc.regiont T0_ok GPD_ok ?_)); (try simp only [v8Y, Nat.beq, Nat.ble, seval, tabs, GPD_set, hop, f3, hcx, d1])) | ((with_reducible refine hN _ _ ?_); clear hN N))))
   (refine Vc.cond T0_ok (t := true) (by rfl) (fun _ => ?_) (fun h => Bool.noConfusion h))
   ((repeat (first | (with_reducible refine Vc.seq fun N hN => ?_) | ((with_reducible refine And.intro ?_ ?_); exact sX8) | ((first | ((with_reducible refine Vc.fin ?_); dsimp only [thenK, blockK, retK, resS, resOne, resAll]) | ((with_reducible refine Vc.hold ?_); first | refine Vc.regiont T0_ok GPD_ok ?_)); (try simp only [v8Y, Nat.beq, Nat.ble, seval, tabs, GPD_set])) | ((with_reducible refine hN _ _ ?_); clear hN N))); (try ((with_reducible refine Fin.of ?_); (try with_reducible exact True.intro))))
   exact ⟨by simp, trivial⟩
end Go.Proofs.YthdpgfdfgidokaaDoor
