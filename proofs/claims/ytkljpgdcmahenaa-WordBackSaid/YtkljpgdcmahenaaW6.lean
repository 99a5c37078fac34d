/-
  One digit of the long division, and the length of a list of parts, walked.
-/
import Derived.Test.YtkljpgdcmahenaaW5
namespace Go.Proofs.Ytkljpgdcmahenaa
set_option linter.unusedSimpArgs false
set_option linter.unusedVariables false
open Go.RowKit

/-- What holds of a digit q, of what it leaves, and of whether that fell below 0. -/
structure DInv (xs ys : List Nat) (o n q : Nat) (b : Bool) (xs' : List Nat) : Prop where
  dg : DgPost xs o n xs'
  qlt : q < 18446744073709551616
  ge : val (seg xs o (n + 1)) / val (seg ys 0 n) ≤ q
  eq : val (seg xs' o (n + 1)) + q * val (seg ys 0 n) = val (seg xs o (n + 1)) + b.toNat * Bp (n + 1)
theorem DInv.neg {xs ys xs' : List Nat} {o n q : Nat} (h : DInv xs ys o n q true xs') (hV : 0 < val (seg ys 0 n)) :
    val (seg xs o (n + 1)) / val (seg ys 0 n) < q := by
  refine (Nat.div_lt_iff_lt_mul hV).2 ?_
  have h1 := h.eq
  have h2 := val_seg_lt h.dg.ok o (n + 1)
  simp at h1
  omega
theorem DInv.next {xs ys xs' xs'' : List Nat} {o n q : Nat} {b : Bool} (h : DInv xs ys o n q true xs') (hV : 0 < val (seg ys 0 n))
    (hg : DgPost xs' o n xs'') (he : val (seg xs'' o (n + 1)) + b.toNat * Bp (n + 1) = val (seg xs' o (n + 1)) + val (seg ys 0 n)) :
    DInv xs ys o n (q - 1) (!b) xs'' := by
  have h1 := h.neg hV
  have h2 : 0 < q := Nat.lt_of_le_of_lt (Nat.zero_le _) h1
  have h3 := h.eq
  have h4 := h.qlt
  refine ⟨⟨hg.len.trans h.dg.len, hg.ok, fun k hk => (hg.same k hk).trans (h.dg.same k hk)⟩, by clear h1; omega, Nat.le_sub_one_of_lt h1, ?_⟩
  obtain ⟨p, rfl⟩ : ∃ p, q = p + 1 := ⟨q - 1, by clear h1; omega⟩
  rw [Nat.add_mul] at h3
  cases b <;> simp at he h3 ⊢ <;> omega
theorem DInv.done {xs ys xs' : List Nat} {o n q : Nat} (h : DInv xs ys o n q false xs') (hV : 0 < val (seg ys 0 n)) :
    q = val (seg xs o (n + 1)) / val (seg ys 0 n) ∧ val (seg xs' o (n + 1)) = val (seg xs o (n + 1)) % val (seg ys 0 n) := by
  have h1 := h.eq
  simp at h1
  have h2 : q = val (seg xs o (n + 1)) / val (seg ys 0 n) := Nat.le_antisymm ((Nat.le_div_iff_mul_le hV).2 (by omega)) h.ge
  have h3 := Nat.div_add_mod (val (seg xs o (n + 1))) (val (seg ys 0 n))
  refine ⟨h2, ?_⟩
  rw [← h2, Nat.mul_comm] at h3
  omega
/-- The first guess is not too small. -/
theorem guess_ge {U V a v P rest vr : Nat} (hU : U = rest + P * a) (hr : rest < P) (hV : V = vr + P * v) (hv : 0 < v) (hP : 0 < P) : U / V ≤ a / v := by
  refine (Nat.le_div_iff_mul_le hv).2 ?_
  have h1 := Nat.div_mul_le_self U V
  have hVp : 0 < V := by rw [hV]; have := Nat.mul_pos hP hv; omega
  generalize U / V = q at *
  subst hU hV
  refine Nat.lt_succ_iff.1 (Nat.lt_of_mul_lt_mul_left (a := P) ?_)
  have e : q * (vr + P * v) = q * vr + P * (q * v) := by grind
  have e2 : P * (a + 1) = P * a + P := by grind
  rw [Nat.succ_eq_add_one, e2]
  omega
def DPost (w : World) (xs ys : List Nat) (bu o n : Nat) (tu : TypeId) (e : Ending) (w' : World) : Prop :=
  ∃ xs' : List Nat, ∃ p : Gro, e = .returned (.int .u64 (val (seg xs o (n + 1)) / val (seg ys 0 n) : Nat)) ∧ w' = gw (putA w bu xs' tu) p ∧ DgPost xs o n xs' ∧
    val (seg xs' o (n + 1)) = val (seg xs o (n + 1)) % val (seg ys 0 n)
/-- The guess at a digit. -/
theorem guess_spec {xs ys : List Nat} {o m : Nat} (hxs : Ok xs) (_hys : Ok ys) (ho : o + (m + 1) < xs.length) (hn : m + 1 ≤ ys.length) (htop : 0 < ys.getD m 0) :
    0 < val (seg ys 0 (m + 1)) ∧ val (seg xs o (m + 1 + 1)) / val (seg ys 0 (m + 1)) ≤ (xs.getD (o + (m + 1)) 0 * 18446744073709551616 + xs.getD (o + m) 0) / ys.getD m 0 := by
  have hV : val (seg ys 0 (m + 1)) = val (seg ys 0 m) + Bp m * ys.getD m 0 := val_take_succ (by omega)
  have hU : val (seg xs o (m + 1 + 1)) = val (seg xs o m) + Bp m * (xs.getD (o + (m + 1)) 0 * 18446744073709551616 + xs.getD (o + m) 0) := by
    rw [val_seg_succ (by omega), val_seg_succ (by omega), Bp_succ]; grind
  exact ⟨by rw [hV]; have := Nat.mul_pos (Bp_pos m) htop; omega, guess_ge hU (val_seg_lt hxs _ _) hV htop (Bp_pos m)⟩
set_option maxHeartbeats 2000000 in
theorem digit_any (xs ys : List Nat) (bu bv o m cu cv : Nat) (tu tv : TypeId) (w : World) (hu : Arr w bu xs tu) (hv : Arr w bv ys tv) (hne : bu ≠ bv)
    (hxs : Ok xs) (hys : Ok ys) (ho : o + (m + 1) < xs.length) (hn : m + 1 ≤ ys.length) (hy4 : ys.length ≤ 4) (htop : 9223372036854775808 ≤ ys.getD m 0)
    (hlt : val (seg xs o (m + 1 + 1)) < val (seg ys 0 (m + 1)) * 18446744073709551616) :
    Calls Try.prog 90 #[SlV bu o (m + 1 + 1) cu, SlV bv 0 (m + 1) cv] w (DPost w xs ys bu o (m + 1) tu) := by
  have cu1 := hu.cell (i := o + (m + 1)) (by omega)
  have cu0 := hu.cell (i := o + m) (by omega)
  have cv0 := hv.cell (i := m) (by omega)
  have x1 := hxs.getD (o + (m + 1))
  have x0 := hxs.getD (o + m)
  have y0 := hys.getD m
  have l1 := hu.lt
  have l2 := hv.lt
  obtain ⟨hV, hG⟩ := guess_spec hxs hys ho hn (by omega)
  have hQ : val (seg xs o (m + 1 + 1)) / val (seg ys 0 (m + 1)) ≤ 18446744073709551615 := by
    have h9 : val (seg xs o (m + 1 + 1)) / val (seg ys 0 (m + 1)) < 18446744073709551616 := (Nat.div_lt_iff_lt_mul hV).2 (by rw [Nat.mul_comm]; exact hlt)
    exact Nat.le_of_lt_succ h9
  have TK := Lib.hid (fun q w hu hv => takeAway_any xs ys bu bv o (m + 1) q cu cv tu tv w hu hv hne hxs hys ho hn hy4)
  have GV := Lib.hid (fun xs w hu hv hxs ho => giveBack_any xs ys bu bv o (m + 1) cu cv tu tv w hu hv hne hxs hys ho hn hy4)
  have HG := Lib.hid hG
  have HQ := Lib.hid hQ
  clear hG hQ hlt
  generalize xs.getD (o + (m + 1)) 0 = a1 at *
  generalize xs.getD (o + m) 0 = a0 at *
  generalize ys.getD m 0 = v0 at *
  go_enter Try.func90, Try.ntmps90
  go_wp2
  (refine wp_quiet (by kernel_rfl) (by kernel_rfl) ?_; (repeat (first | go_big_quiet_step (fail) | quiet_step (fail))); refine wpQuiet_nil ?_; intro p)
  go_upto_if 19 with fail
  go_cut [6] (fun s wx => ∃ qh : Nat, ∃ p : Gro, s = .int .u64 qh ∧ qh < 18446744073709551616 ∧ val (seg xs o (m + 1 + 1)) / val (seg ys 0 (m + 1)) ≤ qh ∧ wx = gw w p)
  case first =>
    by_cases hc : a1 < v0
    · have i1 : (a1 : Int) < (v0 : Int) := by omega
      go_wp2
      (refine wp_quiet (by kernel_rfl) (by kernel_rfl) ?_; (repeat (first | go_big_quiet_step ((go_at_call 94; first | (with_reducible refine quiet_ret (div64_any a1 a0 v0 htop y0 hc x0 _)) | (with_reducible refine quiet_ret2 (div64_any a1 a0 v0 htop y0 hc x0 _)))) | quiet_step ((go_at_call 94; first | (with_reducible refine quiet_ret (div64_any a1 a0 v0 htop y0 hc x0 _)) | (with_reducible refine quiet_ret2 (div64_any a1 a0 v0 htop y0 hc x0 _)))))); refine wpQuiet_nil ?_; intro p)
      go_wp2
      go_meet
      refine ⟨(a1 * 18446744073709551616 + a0) / v0, ⟨p.d, _⟩, ?_, ?_, HG.out, gw_gw _ _ _⟩
      · congr 1
      · refine (Nat.div_lt_iff_lt_mul (by omega)).2 ?_
        have : (a1 + 1) * 18446744073709551616 ≤ v0 * 18446744073709551616 := Nat.mul_le_mul_right _ hc
        omega
    · have i1 : ¬ ((a1 : Int) < (v0 : Int)) := by omega
      go_wp2
      go_meet
      exact ⟨18446744073709551615, p, rfl, by decide, HQ.out, rfl⟩
  case rest =>
    obtain ⟨qh, p2, hs, hq1, hq2, hw⟩ := hcut
    subst hs
    subst hw
    go_wp2_with (go_at_call 95; refine (TK.out qh _ (gw_arr hu _) (gw_arr hv _) hq1).mono ?_; rintro e w' ⟨xs1, b1, p1, rfl, rfl, hD, hE⟩)
    go_loopw [6, 7] (fun q b wr => ∃ qh : Nat, ∃ b' : Bool, ∃ xs' : List Nat, ∃ p : Gro, q = .int .u64 qh ∧ b = .bool b' ∧ DInv xs ys o (m + 1) qh b' xs' ∧ wr = gw (putA w bu xs' tu) p) (fun q _ _ => (intOf q).toNat)
    case atStart => exact ⟨qh, b1, xs1, ⟨p1.d, p2.os ++ p1.os⟩, rfl, rfl, ⟨hD, hq1, hq2, hE⟩, by rw [gw_putA _ _ l1, gw_gw]⟩
    case round =>
      obtain ⟨q, b, xs', p3, rfl, rfl, hI, hw⟩ := hrel
      have hAu : Arr wr bu xs' tu := by rw [hw]; exact gw_arr (putA_arr l1 _ _) p3
      have hAv : Arr wr bv ys tv := by rw [hw]; exact gw_arr (putA_other hne _ _ _ _ hv) p3
      have HW := Lib.hid hw
      clear hw hE hD
      cases b
      · obtain ⟨d1, d2⟩ := hI.done hV
        have HD := Lib.hid d1
        have HD2 := Lib.hid d2
        clear d1 d2
        go_wp2
        go_ret
        exact ⟨xs', p3, (show Ending.returned (.int .u64 (q : Nat)) = _ from by rw [← HD.out]), HW.out, hI.dg, HD2.out⟩
      · have hq0 : 0 < q := Nat.lt_of_le_of_lt (Nat.zero_le _) (hI.neg hV)
        have hqb := hI.qlt
        go_wp2_with (go_at_call 96; refine (GV.out xs' _ hAu hAv hI.dg.ok (by rw [hI.dg.len]; exact ho)).mono ?_; rintro e w' ⟨xs2, b2, p4, rfl, rfl, hD2, hE2⟩)
        refine ⟨⟨q - 1, !b2, xs2, ⟨p4.d, p3.os ++ p4.os⟩, by go_num, rfl, hI.next hV hD2 hE2, ?_⟩, by simp [intOf]; omega⟩
        rw [HW.out, gw_putA _ _ (by rw [putA_size]; exact l1), putA_putA, gw_gw]

/-- How many parts a number has without the noughts at its top. -/
def topN (xs : List Nat) : Nat → Nat
  | 0 => 0
  | n + 1 => if xs.getD n 0 = 0 then topN xs n else n + 1
theorem topN_le (xs : List Nat) : ∀ n, topN xs n ≤ n
  | 0 => Nat.le_refl _
  | n + 1 => by unfold topN; split
                · exact Nat.le_succ_of_le (topN_le xs n)
                · exact Nat.le_refl _
theorem topN_zero (xs : List Nat) : ∀ n k, topN xs n ≤ k → k < n → xs.getD k 0 = 0
  | 0, _, _, h => absurd h (Nat.not_lt_zero _)
  | n + 1, k, h, hk => by
    unfold topN at h
    split at h
    · rename_i h0
      by_cases hkn : k = n
      · rw [hkn]; exact h0
      · exact topN_zero xs n k h (by omega)
    · omega
theorem topN_top (xs : List Nat) : ∀ n, 0 < topN xs n → xs.getD (topN xs n - 1) 0 ≠ 0
  | 0, h => absurd h (Nat.lt_irrefl _)
  | n + 1, h => by
    unfold topN at h ⊢
    split
    · rename_i h0; rw [if_pos h0] at h; exact topN_top xs n h
    · rename_i h0; exact h0
set_option maxHeartbeats 1000000 in
theorem length_any (xs : List Nat) (b c : Nat) (t : TypeId) (w : World) (hA : Arr w b xs t) (hl : xs.length ≤ 100) :
    Calls Try.prog 63 #[SlV b 0 xs.length c] w (Ret w (.int .i64 (topN xs xs.length : Nat))) := by
  generalize hn : xs.length = n
  rw [hn] at hl
  have HN := Lib.hid hn
  clear hn
  go_enter Try.func63, Try.ntmps63
  go_wp2
  go_loop [3] (fun i => ∃ k : Nat, k ≤ n ∧ i = .int .i64 k ∧ topN xs n = topN xs k) (fun i => (intOf i).toNat)
  case atStart => exact ⟨n, Nat.le_refl _, rfl, rfl⟩
  case round =>
    obtain ⟨k, hk, rfl, ht⟩ := hrel
    have HT := Lib.hid ht
    clear ht
    cases k with
    | zero =>
      go_wp2
      rw [HT.out]
      exact bodyPost_ret (v := .int .i64 0) (by simp [results, Try.results63, go_sem]) rfl (Ret.of' rfl (by (repeat (first | with_reducible exact Below.refl _ _ | refine below_gw ?_ (by first | exact Nat.le_refl _ | ((repeat (first | rw [World.size_alloc] | rw [World.size_setCell] | rw [World.size_drew] | rw [gw_size])); first | done | omega)) _ | refine Below.alloc ?_ (by first | exact Nat.le_refl _ | ((repeat (first | rw [World.size_alloc] | rw [World.size_setCell] | rw [World.size_drew] | rw [gw_size])); first | done | omega)) _ | refine Below.setCell ?_ (by first | exact Nat.le_refl _ | ((repeat (first | rw [World.size_alloc] | rw [World.size_setCell] | rw [World.size_drew] | rw [gw_size])); first | done | omega)) _ | refine Below.drew ?_))))
    | succ j =>
      have c1 := hA.cell (i := j) (by rw [HN.out]; omega)
      have i1 : (0 : Int) < ((j : Nat) : Int) + 1 := by omega
      by_cases h0 : xs.getD j 0 = 0
      · have HS := Lib.hid (show topN xs (j + 1) = topN xs j by unfold topN; rw [if_pos h0]; cases j <;> rfl)
        rw [h0] at c1
        clear h0
        go_wp2
        go_round
        case rel => exact ⟨j, by omega, by go_num, HT.out.trans HS.out⟩
        case measure => simp [intOf]
      · have HS := Lib.hid (show topN xs (j + 1) = j + 1 by unfold topN; rw [if_neg h0])
        generalize xs.getD j 0 = x at *
        have hx : ((x : Int) == 0) = false := by rw [beq_eq_false_iff_ne]; omega
        clear h0
        go_wp2
        rw [HT.out, HS.out]
        exact bodyPost_ret (v := .int .i64 ((j : Nat) + 1)) (by simp [results, Try.results63, go_sem]) rfl (Ret.of' rfl (by (repeat (first | with_reducible exact Below.refl _ _ | refine below_gw ?_ (by first | exact Nat.le_refl _ | ((repeat (first | rw [World.size_alloc] | rw [World.size_setCell] | rw [World.size_drew] | rw [gw_size])); first | done | omega)) _ | refine Below.alloc ?_ (by first | exact Nat.le_refl _ | ((repeat (first | rw [World.size_alloc] | rw [World.size_setCell] | rw [World.size_drew] | rw [gw_size])); first | done | omega)) _ | refine Below.setCell ?_ (by first | exact Nat.le_refl _ | ((repeat (first | rw [World.size_alloc] | rw [World.size_setCell] | rw [World.size_drew] | rw [gw_size])); first | done | omega)) _ | refine Below.drew ?_))))
end Go.Proofs.Ytkljpgdcmahenaa
