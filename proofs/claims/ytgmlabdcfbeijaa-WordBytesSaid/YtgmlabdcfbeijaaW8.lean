/-
  The long division where the divisor has more than one part, or one; walked.
-/
import Derived.Test.YtgmlabdcfbeijaaW5
import Derived.Test.YtgmlabdcfbeijaaA1
namespace Go.Proofs.Ytgmlabdcfbeijaa
set_option linter.unusedSimpArgs false
set_option linter.unusedVariables false
open Go.RowKit
abbrev V4 (v : Nat) : List Nat := [lm v 0, lm v 1, lm v 2, lm v 3]
abbrev U8 (u : Nat) : List Nat := [lm u 0, lm u 1, lm u 2, lm u 3, lm u 4, lm u 5, lm u 6, lm u 7]
theorem arr_at (w : World) (c : Array Value) (t : TypeId) (b : Nat) {xs : List Nat} (hb : b = w.heap.size) (hc : c = U64s xs) : Arr (w.alloc (.cells c t)) b xs t := by
  subst hc; exact block_at _ _ _ hb
theorem arr_past {w : World} {b : Nat} {xs : List Nat} {t : TypeId} (h : Arr w b xs t) (o : Obj) : Arr (w.alloc o) b xs t := by
  unfold Arr; rw [block_past w o b h.lt]; exact h
theorem U64s_set (xs : List Nat) (i y : Nat) : (U64s xs).setIfInBounds i (.int .u64 (y : Int)) = U64s (xs.set i y) := by simp [U64s, List.map_set]
theorem U64s_get {xs : List Nat} {i : Nat} (h : i < xs.length) : (U64s xs)[i]? = some (.int .u64 (xs.getD i 0 : Nat)) := by simp [U64s, h]
theorem putA_at (w : World) (c : Array Value) (xs : List Nat) (t : TypeId) (n : Nat) (h : n = w.heap.size) : putA (w.alloc (.cells c t)) n xs t = w.alloc (.cells (U64s xs) t) := by
  subst h
  simp only [World.alloc, putA]
  congr 1
  apply Array.ext_getElem?
  intro k
  simp only [Array.getElem?_setIfInBounds, Array.getElem?_push, Array.size_push]
  by_cases hk : w.heap.size = k
  · subst hk; simp
  · rw [if_neg hk, if_neg (Ne.symm hk), if_neg (Ne.symm hk)]
theorem putA_past (w : World) (o : Obj) (xs : List Nat) (t : TypeId) (n : Nat) (h : n < w.heap.size) : putA (w.alloc o) n xs t = (putA w n xs t).alloc o := by
  simp only [World.alloc, putA]
  congr 1
  apply Array.ext_getElem?
  intro k
  simp only [Array.getElem?_setIfInBounds, Array.getElem?_push, Array.size_push, Array.size_setIfInBounds]
  by_cases hk : n = k
  · subst hk
    rw [if_pos rfl, if_pos (by omega), if_neg (by omega), if_pos rfl, if_pos h]
  · rw [if_neg hk, if_neg hk]
theorem putA_deep (B : World) (c : Array Value) (p1 p3 : Gro) (o : Obj) (xs : List Nat) (t : TypeId) :
    putA (gw ((gw (B.alloc (.cells c t)) p1).alloc o) p3) B.heap.size xs t = gw ((gw (B.alloc (.cells (U64s xs) t)) p1).alloc o) p3 := by
  rw [gw_putA _ _ (by simp only [World.size_alloc, gw_size]; omega), putA_past _ _ _ _ _ (by simp only [World.size_alloc, gw_size]; omega), gw_putA _ _ (by simp only [World.size_alloc]; omega), putA_at _ _ _ _ _ rfl]
theorem lz_any (x : Nat) (hx : x < 18446744073709551616) (w : World) :
    Calls Try.prog 73 #[.int .u64 x] w fun e w' => e = .returned (.int .i64 (64 - Lib.bitLen x : Nat)) ∧ w' = w := by
  have h1 := Try.bits_LeadingZeros64 (x : Int) w (by omega) (by omega)
  have h2 := Lib.bitLen_le x 64 (by omega) hx
  rw [Int.toNat_natCast, show (64 - (Lib.bitLen x : Int)) = ((64 - Lib.bitLen x : Nat) : Int) by omega] at h1
  exact h1
attribute [local go_sem] U64s_set
theorem slice_rest (B j m : Nat) (h : j + (m + 1) ≤ 8) (w : World) :
    (Instr.sliceAt 71 (.pointer (some ⟨B, 0, none⟩)) (some (.int .i64 (j : Int))) (some (.int .i64 ((j : Int) + ((m : Int) + 1) + 1))) none).run Try.prog w =
      .ok (SlV B j (m + 1 + 1) (9 - j)) w := by
  have e9 : Try.prog.arrayLen 71 = 9 := by kernel_rfl
  rw [run_sliceAt_array_lh (P := Try.prog) w 71 ⟨B, 0, none⟩ Try.underlying71 .i64 .i64 (j : Int) ((j : Int) + ((m : Int) + 1) + 1) (by omega) (by omega) (by rw [e9]; omega)]
  rw [show Try.prog.elem 71 = 22 by kernel_rfl, size22, Result.andThen_ok, e9]
  unfold slicedAt
  rw [if_neg (by omega), Addr.add_lit]
  congr 4 <;> omega
theorem slice_div (B m : Nat) (h : m < 4) (w : World) :
    (Instr.sliceAt 24 (.pointer (some ⟨B, 0, none⟩)) none (some (.int .i64 ((m : Int) + 1))) none).run Try.prog w =
      .ok (SlV B 0 (m + 1) 4) w := by
  have e4 : Try.prog.arrayLen 24 = 4 := by kernel_rfl
  rw [run_sliceAt_array_h (P := Try.prog) w 24 ⟨B, 0, none⟩ Try.underlying24 .i64 ((m : Int) + 1) (by omega) (by rw [e4]; omega)]
  rw [show Try.prog.elem 24 = 22 by kernel_rfl, size22, Result.andThen_ok, e4]
  unfold slicedAt
  rw [if_neg (by omega), Addr.add_lit]
  congr 4 <;> omega
theorem arrayAt4 (a : Option Addr) (c : Nat) (w : World) : (Instr.arrayAt 24 (.slice a 4 c)).run Try.prog w = .ok (.pointer a) w := by
  unfold Instr.arrayAt
  simp [Sem.run_bind, run_underlying Try.underlying24]
attribute [local go_sem] arrayAt4
set_option maxHeartbeats 4000000 in
theorem divide_any (u v m up T V : Nat) (hv : v < W) (hn : topN (V4 v) 4 = m + 1) (hup : up = 64 - Lib.bitLen ((V4 v).getD m 0)) (hup2 : up < 64)
    (q1 : val (seg (V4 (shlN up v)) 0 (m + 1)) = V) (q2 : 9223372036854775808 ≤ (V4 (shlN up v)).getD m 0) (q3 : 0 < V) (q4 : V ≤ Bp (m + 1))
    (q5 : T < V * Bp ((topN (U8 u) 8 : Int) - (m + 1) + 1).toNat) (q6 : T = u % Bp 8 * 2 ^ up) (w : World) : Calls Try.prog 42 #[WX u, WV v] w (Ret w (.tuple #[WV (T / V), WV (shdN up (T % V) 0)])) := by
  have hm : m < 4 := by have := topN_le (V4 v) 4; omega
  have HL := Lib.hid (show ∀ b c t w, Arr w b (V4 v) t → Calls Try.prog 58 #[SlV b 0 4 c] w (Ret w (.int .i64 (topN (V4 v) 4 : Nat))) from fun b c t w hA => length_any (V4 v) b c t w hA (by simp))
  have HL8 := Lib.hid (show ∀ b c t w, Arr w b (U8 u) t → Calls Try.prog 58 #[SlV b 0 8 c] w (Ret w (.int .i64 (topN (U8 u) 8 : Nat))) from fun b c t w hA => length_any (U8 u) b c t w hA (by simp))
  have cv : (V4 v).getD m 0 < 18446744073709551616 := by
    have h4 : m = 0 ∨ m = 1 ∨ m = 2 ∨ m = 3 := by omega
    rcases h4 with rfl | rfl | rfl | rfl <;> exact lm_lt _ _
  have HZ := Lib.hid (lz_any ((V4 v).getD m 0) cv)
  rw [← hup] at HZ
  clear hup
  have HN := Lib.hid hn
  clear hn
  have Q1 := Lib.hid q1
  have Q2 := Lib.hid q2
  have Q3 := Lib.hid q3
  have Q4 := Lib.hid q4
  have Q5 := Lib.hid q5
  have Q6 := Lib.hid q6
  clear q1 q2 q3 q4 q5 q6
  have ht8 : topN (U8 u) 8 ≤ 8 := topN_le _ 8
  go_enter Try.func42, Try.ntmps42
  go_wp2_with fail
  refine calls_ret (HL.out _ _ 24 _ (by (repeat (first | (refine arr_at _ _ _ _ ?_ rfl; first | rfl | (simp only [World.size_alloc, World.size_setCell, gw_size]; done)) | refine arr_past ?_ _ | refine gw_arr ?_ _)))) ?_
  intro p0
  rw [HN.out]
  go_wp2_with fail
  have hidx : ∀ h : m < [Value.int .u64 (lm v 0 : Nat), Value.int .u64 (lm v 1 : Nat), Value.int .u64 (lm v 2 : Nat), Value.int .u64 (lm v 3 : Nat)].length,
      [Value.int .u64 (lm v 0 : Nat), Value.int .u64 (lm v 1 : Nat), Value.int .u64 (lm v 2 : Nat), Value.int .u64 (lm v 3 : Nat)][m] = .int .u64 ((V4 v).getD m 0 : Nat) := by
    intro h
    have h4 : m = 0 ∨ m = 1 ∨ m = 2 ∨ m = 3 := by omega
    rcases h4 with rfl | rfl | rfl | rfl <;> rfl
  simp only [hidx]
  clear hidx
  refine calls_same (HZ.out _) ?_
  generalize (V4 v).getD m 0 = top at *
  go_wp2_with fail
  (refine wp_quiet_tail 5 (by kernel_rfl) (by kernel_rfl) (by intro c a d u w h; cases d <;> exact h) ?_; simp only [List.take_succ_cons, List.take_zero, List.drop_succ_cons, List.drop_zero]; (repeat (first | go_big_quiet_step (first | (go_at_call 36; first | (with_reducible refine quiet_ret (from_any up (by omega) _)) | (with_reducible refine quiet_ret2 (from_any up (by omega) _))) | (go_at_call 21; first | (with_reducible refine quiet_ret (shl_any up v (by unfold W; omega) hv _)) | (with_reducible refine quiet_ret2 (shl_any up v (by unfold W; omega) hv _)))) | quiet_step (first | (go_at_call 36; first | (with_reducible refine quiet_ret (from_any up (by omega) _)) | (with_reducible refine quiet_ret2 (from_any up (by omega) _))) | (go_at_call 21; first | (with_reducible refine quiet_ret (shl_any up v (by unfold W; omega) hv _)) | (with_reducible refine quiet_ret2 (shl_any up v (by unfold W; omega) hv _)))))); refine wpQuiet_nil ?_; intro p)
  go_wp2_with fail
  generalize hB : gw _ _ = BASE
  have bs : w.heap.size + 1 + 1 + 1 + 1 + (p0.os.size + p.os.size) = BASE.heap.size := by rw [← hB]; simp [gw_size]
  rw [bs]
  have aU : Arr BASE w.heap.size (U8 u) 46 := by rw [← hB]; (repeat (first | (refine arr_at _ _ _ _ ?_ rfl; first | rfl | (simp only [World.size_alloc, World.size_setCell, gw_size]; done)) | refine arr_past ?_ _ | refine gw_arr ?_ _))
  have aV : Arr BASE (w.heap.size + 1) (V4 (shlN up v)) 24 := by rw [← hB]; (repeat (first | (refine arr_at _ _ _ _ ?_ rfl; first | rfl | (simp only [World.size_alloc, World.size_setCell, gw_size]; done)) | refine arr_past ?_ _ | refine gw_arr ?_ _))
  have HB := Lib.hid hB
  clear hB
  have hiB : w.heap.size < BASE.heap.size := by omega
  go_loopw [28] (fun c wr => ∃ k : Nat, ∃ xs : List Nat, ∃ p : Gro, k ≤ 8 ∧ c = .int .i64 k ∧ LInv u up k xs ∧ wr = gw (BASE.alloc (.cells (U64s xs) 71)) p) (fun c _ => 8 - (intOf c).toNat)
  case atStart => exact ⟨0, [0, 0, 0, 0, 0, 0, 0, 0, 0], ⟨(BASE.alloc (.cells (U64s [0, 0, 0, 0, 0, 0, 0, 0, 0]) 71)).drawn, #[]⟩, by omega, rfl, LInv.start u up, by unfold gw; rw [Array.append_empty]; rfl⟩
  case round =>
    obtain ⟨k, xs, p1, hk, rfl, hI, rfl⟩ := hrel
    by_cases hlt : k < 8
    · have i1 : (k : Int) < 8 := by omega
      have i2 : (up : Int) < 64 := by omega
      have cu := aU.cell (i := k) (by simp; omega)
      rw [getD_U8 u k hlt] at cu
      have cx := U64s_get (xs := xs) (i := k) (by rw [hI.len]; omega)
      have hst := hI.step hlt hup2
      have hxk := hI.ok.getD k
      have hlk := lm_lt u k
      obtain ⟨Y, hY⟩ : ∃ Y, Y = xs.getD k 0 ||| (lm u k * 2 ^ up % 18446744073709551616) := ⟨_, rfl⟩
      obtain ⟨Z, hZ⟩ : ∃ Z, Z = lm u k / 2 ^ (64 - up) := ⟨_, rfl⟩
      have e1 : bits .or .u64 ((xs.getD k 0 : Nat) : Int) (IntKind.u64.wrap (((lm u k : Nat) : Int) * 2 ^ up)) = (Y : Int) := by
        rw [hY, ← or_u64 hxk (Nat.mod_lt _ (by decide)), IntKind.wrap_u64]
        congr 1
      have e2 : ((lm u k : Nat) : Int) / 2 ^ (64 - up) = (Z : Int) := by rw [hZ]; rfl
      rw [← hY, ← hZ] at hst
      have cx2 := U64s_get (xs := xs.set k Y) (i := k + 1) (by simp [hI.len]; omega)
      have HS := Lib.hid hst
      clear hI hst hY hZ
      generalize xs.getD k 0 = xk at *
      generalize lm u k = uk at *
      go_wp2
      (refine wp_quiet_tail 10 (by kernel_rfl) (by kernel_rfl) (by intro c a d u w h; cases d <;> exact h) ?_; simp only [List.take_succ_cons, List.take_zero, List.drop_succ_cons, List.drop_zero]; (repeat (first | go_big_quiet_step (fail) | quiet_step (fail))); refine wpQuiet_nil ?_; intro p)
      go_wp2
      exact ⟨⟨k + 1, _, _, by omega, by go_num, HS.out, rfl⟩, by simp [intOf]; omega⟩
    · have hk8 : k = 8 := by omega
      subst hk8
      have i1 : ¬ ((8 : Int) < 8) := by omega
      go_wp2_with (go_at_call 58; refine calls_ret (HL8.out _ _ 46 _ (by first | (refine arr_past ?_ _; refine gw_arr ?_ _; refine arr_past ?_ _; exact aU))) ?_; intro p2)
      clear HL8 HL
      generalize topN (U8 u) 8 = t8 at *
      go_loopw [11] (fun t wr => ∃ j : Int, ∃ xs qs : List Nat, ∃ p : Gro, t = .int .i64 j ∧ -5 ≤ j ∧ j + ((m : Int) + 1) ≤ 8 ∧ QInv T V (j + 1).toNat xs qs ∧ wr = gw ((gw (BASE.alloc (.cells (U64s xs) 71)) p1).alloc (.cells (U64s qs) 46)) p) (fun t _ => (intOf t + 1).toNat)
      case atStart =>
        exact ⟨(t8 : Int) - ((m : Int) + 1), xs, [0, 0, 0, 0, 0, 0, 0, 0], p2, rfl, by omega, by omega,
          ⟨hI.len, rfl, hI.ok, fun x hx => by simp at hx; subst hx; decide, by rw [Q6.out, ← hI.eq]; simp [val], fun k _ => by
            rw [List.getD_eq_getElem?_getD]
            cases h : ([0, 0, 0, 0, 0, 0, 0, 0] : List Nat)[k]? with
            | none => rfl
            | some x => have := List.mem_of_getElem? h; simp at this; simpa using this, by rw [hI.eq, ← Q6.out]; exact Q5.out⟩, rfl⟩
      case round =>
        obtain ⟨j, xs', qs, p3, rfl, hj1, hj2, hQ, rfl⟩ := hrel
        by_cases hj : 0 ≤ j
        · obtain ⟨jn, rfl⟩ := Int.eq_ofNat_of_zero_le hj
          have i3 : (0 : Int) ≤ (jn : Int) := by omega
          have i4 : (jn : Int) + ((m : Int) + 1) ≤ 8 := hj2
          have HQ := Lib.hid hQ
          clear hQ
          have sl1 := slice_rest BASE.heap.size jn m (by omega)
          have sl2 := slice_div (w.heap.size + 1) m hm
          go_wp2
          (refine wp_quiet_tail 9 (by kernel_rfl) (by kernel_rfl) (by intro c a d u w h; cases d <;> exact h) ?_; simp only [List.take_succ_cons, List.take_zero, List.drop_succ_cons, List.drop_zero]; (repeat (first | go_big_quiet_step (fail) | quiet_step (fail))); refine wpQuiet_nil ?_; intro p)
          rw [gw_gw]
          have hpart := HQ.out.part (j := jn) (n := m + 1) (by omega) Q4.out
          have DG := digit_any xs' (V4 (shlN up v)) BASE.heap.size (w.heap.size + 1) jn m (9 - jn) 4 71 24 (gw ((gw (BASE.alloc (.cells (U64s xs') 71)) p1).alloc (.cells (U64s qs) 46)) ⟨p.d, p3.os ++ p.os⟩)
            (by (repeat (first | (refine arr_at _ _ _ _ ?_ rfl; first | rfl | (simp only [World.size_alloc, World.size_setCell, gw_size]; done)) | refine arr_past ?_ _ | refine gw_arr ?_ _))) (by refine gw_arr (arr_past (gw_arr (arr_past aV _) _) _) _) (by omega) HQ.out.ox (Ok_V4 _) (by rw [HQ.out.lx]; omega) (by simp; omega) (by simp) Q2.out (by rw [Q1.out]; exact hpart.1)
          have HD := Lib.hid DG
          clear DG hpart
          have cq := U64s_get (xs := qs) (i := jn) (by rw [HQ.out.lq]; omega)
          have lq8 : (jn : Int) < 8 := by omega
          go_wp2_with (go_at_call 74; refine HD.out.mono ?_; rintro e w' ⟨xs2, p4, rfl, rfl, hD1, hD2⟩; rw [putA_deep, gw_gw]; generalize hqd : val (seg xs' jn (m + 1 + 1)) / val (seg (V4 (shlN up v)) 0 (m + 1)) = qd; have HQD := Lib.hid hqd; have HD2 := Lib.hid hD2; clear hqd hD2)
          refine ⟨⟨(jn : Int) - 1, xs2, qs.set jn qd, _, rfl, by omega, by omega, ?_, rfl⟩, by simp [intOf]⟩
          rw [show ((jn : Int) - 1 + 1).toNat = jn by omega]
          have hd2 := HD2.out
          have hqd := HQD.out
          rw [Q1.out] at hd2 hqd
          exact HQ.out.step (n := m + 1) (by omega) (by omega) Q4.out Q3.out hD1.len hD1.ok hD1.same hqd.symm hd2
        · have hQ0 : (j + 1).toNat = 0 := by omega
          rw [hQ0] at hQ
          obtain ⟨dq, dr⟩ := hQ.done Q3.out
          have gq : ∀ i, i < 8 → (U64s qs)[i]? = some (.int .u64 (lm (T / V) i : Nat)) := fun i hi => by rw [U64s_get (by rw [hQ.lq]; exact hi), ← dq, lm_val hQ.oq]
          have gx : ∀ i, i < 9 → (U64s xs')[i]? = some (.int .u64 (lm (T % V) i : Nat)) := fun i hi => by rw [U64s_get (by rw [hQ.lx]; exact hi), ← dr, lm_val hQ.ox]
          have gq0 := gq 0 (by decide)
          have gq1 := gq 1 (by decide)
          have gq2 := gq 2 (by decide)
          have gq3 := gq 3 (by decide)
          have gx0 := gx 0 (by decide)
          have gx1 := gx 1 (by decide)
          have gx2 := gx 2 (by decide)
          have gx3 := gx 3 (by decide)
          have hrW : T % V < W := Nat.lt_of_lt_of_le (Nat.mod_lt _ Q3.out) (Nat.le_trans Q4.out (by rw [show W = Bp 4 from rfl]; unfold Bp; exact Nat.pow_le_pow_right (by decide) (by omega)))
          have hjn : ¬ (0 ≤ j) := hj
          clear gq gx dq dr hQ hI aU aV hQ0
          generalize T / V = qq at *
          generalize T % V = rr at *
          go_wp2
          rw [← bs, ← HB.out]
          clear HB hiB bs
          (refine wp_quiet_tail 10 (by kernel_rfl) (by kernel_rfl) (by intro c a d u w h; cases d <;> exact h) ?_; simp only [List.take_succ_cons, List.take_zero, List.drop_succ_cons, List.drop_zero]; (repeat (first | go_big_quiet_step (first | (go_at_call 36; first | (with_reducible refine quiet_ret (from_any up (by omega) _)) | (with_reducible refine quiet_ret2 (from_any up (by omega) _))) | (go_at_call 23; first | (with_reducible refine quiet_ret (shr_any up rr (by unfold W; omega) hrW _)) | (with_reducible refine quiet_ret2 (shr_any up rr (by unfold W; omega) hrW _)))) | quiet_step (first | (go_at_call 36; first | (with_reducible refine quiet_ret (from_any up (by omega) _)) | (with_reducible refine quiet_ret2 (from_any up (by omega) _))) | (go_at_call 23; first | (with_reducible refine quiet_ret (shr_any up rr (by unfold W; omega) hrW _)) | (with_reducible refine quiet_ret2 (shr_any up rr (by unfold W; omega) hrW _)))))); refine wpQuiet_nil ?_; intro p)
          go_wp2
          exact bodyPost_ret (v := .tuple #[WV qq, WV (shdN up rr 0)]) (by simp [results, Try.results42, go_sem]) rfl (Ret.of' rfl (by (repeat (first | with_reducible exact Below.refl _ _ | refine below_gw ?_ (by first | exact Nat.le_refl _ | ((repeat (first | rw [World.size_alloc] | rw [World.size_setCell] | rw [World.size_drew] | rw [gw_size])); first | done | omega)) _ | refine Below.alloc ?_ (by first | exact Nat.le_refl _ | ((repeat (first | rw [World.size_alloc] | rw [World.size_setCell] | rw [World.size_drew] | rw [gw_size])); first | done | omega)) _ | refine Below.setCell ?_ (by first | exact Nat.le_refl _ | ((repeat (first | rw [World.size_alloc] | rw [World.size_setCell] | rw [World.size_drew] | rw [gw_size])); first | done | omega)) _ | refine Below.drew ?_))))
end Go.Proofs.Ytgmlabdcfbeijaa

/-
  divide, walked, for every wide number and every word.
-/
namespace Go.Proofs.Ytgmlabdcfbeijaa
set_option linter.unusedSimpArgs false
set_option linter.unusedVariables false
open Go.RowKit
theorem val_zeros {xs : List Nat} (h : ∀ i, xs.getD i 0 = 0) : val xs = 0 := by
  induction xs with
  | nil => rfl
  | cons x xs ih =>
    have h0 := h 0
    have h1 := ih fun i => by have := h (i + 1); simpa using this
    simp at h0
    simp [val, h0, h1]
theorem val_drop_zero {xs : List Nat} {n : Nat} (h : ∀ k, n ≤ k → xs.getD k 0 = 0) : val (xs.drop n) = 0 := by
  refine val_zeros fun i => ?_
  have h1 := h (n + i) (by omega)
  rw [List.getD_eq_getElem?_getD] at h1 ⊢
  rw [List.getElem?_drop]; exact h1
theorem topN_val {xs : List Nat} (hx : Ok xs) {n : Nat} (hn : topN xs xs.length = n) : val xs = val (seg xs 0 n) ∧ val xs < Bp n := by
  have hle := topN_le xs xs.length
  rw [hn] at hle
  have hz : ∀ k, n ≤ k → xs.getD k 0 = 0 := fun k hk => by
    by_cases hl : k < xs.length
    · exact topN_zero xs xs.length k (by omega) hl
    · rw [List.getD_eq_getElem?_getD, List.getElem?_eq_none (by omega)]; rfl
  have hs := val_split xs n hle
  rw [val_drop_zero hz, Nat.mul_zero, Nat.add_zero] at hs
  exact ⟨hs, by rw [hs]; exact val_seg_lt hx 0 n⟩
theorem div_norm {v m up : Nat} (hv : v < W) (hn : topN (V4 v) 4 = m + 1) (hup : up = 64 - Lib.bitLen ((V4 v).getD m 0)) :
    up < 64 ∧ val (seg (V4 (v * 2 ^ up)) 0 (m + 1)) = v * 2 ^ up ∧ 9223372036854775808 ≤ (V4 (v * 2 ^ up)).getD m 0 ∧ v * 2 ^ up < Bp (m + 1) ∧ Bp m ≤ v := by
  have hm : m < 4 := by have := topN_le (V4 v) 4; omega
  have htop : (V4 v).getD m 0 ≠ 0 := by
    have := topN_top (V4 v) 4 (by omega)
    rw [hn] at this; exact this
  have hok := Ok_V4 v
  have htl := hok.getD m
  obtain ⟨t1, t2⟩ := topN_val hok (n := m + 1) hn
  rw [val_V4 hv] at t1 t2
  have t3 : val (seg (V4 v) 0 (m + 1)) = val (seg (V4 v) 0 m) + Bp m * (V4 v).getD m 0 := val_take_succ (by simp; omega)
  rw [← t1] at t3
  have t4 := val_seg_lt hok 0 m
  obtain ⟨b1, b2⟩ := bitLen_spec htl
  have b3 := b2 htop
  have b4 := Lib.bitLen_le ((V4 v).getD m 0) 64 (by omega) htl
  generalize (V4 v).getD m 0 = top at *
  generalize val (seg (V4 v) 0 m) = r at *
  have b5 : 1 ≤ Lib.bitLen top := by
    rcases Nat.eq_zero_or_pos (Lib.bitLen top) with h5 | h5
    · rw [h5] at b1; simp at b1; exact absurd b1 htop
    · exact h5
  generalize Lib.bitLen top = bl at *
  have hup64 : up < 64 := by omega
  have e64 : 2 ^ bl * 2 ^ up = 18446744073709551616 := by rw [← Nat.pow_add, show bl + up = 64 by omega]
  have e63 : 2 ^ (bl - 1) * 2 ^ up = 9223372036854775808 := by rw [← Nat.pow_add, show bl - 1 + up = 63 by omega]
  have c1 : 9223372036854775808 ≤ top * 2 ^ up := by rw [← e63]; exact Nat.mul_le_mul_right _ b3
  have c2 : (top + 1) * 2 ^ up ≤ 18446744073709551616 := by rw [← e64]; exact Nat.mul_le_mul_right _ b1
  have hv2 : v * 2 ^ up < Bp (m + 1) := by
    have h1 : v < Bp m * (top + 1) := by rw [Nat.mul_add]; omega
    have h2 : v * 2 ^ up < Bp m * (top + 1) * 2 ^ up := Nat.mul_lt_mul_of_pos_right h1 (Nat.pow_pos (by decide))
    have h3 : Bp m * ((top + 1) * 2 ^ up) ≤ Bp m * 18446744073709551616 := Nat.mul_le_mul_left _ c2
    rw [Bp_succ, Nat.mul_comm 18446744073709551616]
    rw [Nat.mul_assoc] at h2
    omega
  have hvW : v * 2 ^ up < W := Nat.lt_of_lt_of_le hv2 (by rw [show W = Bp 4 from rfl]; unfold Bp; exact Nat.pow_le_pow_right (by decide) (by omega))
  refine ⟨hup64, ?_, ?_, hv2, ?_⟩
  · have hs := val_split (V4 (v * 2 ^ up)) (m + 1) (by simp; omega)
    rw [val_V4 hvW] at hs
    have hz : val ((V4 (v * 2 ^ up)).drop (m + 1)) = 0 := by
      apply Nat.eq_zero_of_not_pos
      intro hp
      have h6 : Bp (m + 1) * 1 ≤ Bp (m + 1) * val ((V4 (v * 2 ^ up)).drop (m + 1)) := Nat.mul_le_mul_left _ hp
      omega
    rw [hz] at hs
    omega
  · rw [getD_V4 _ _ hm, lm_eq_mod]
    have h7 : v * 2 ^ up / Bp m < 18446744073709551616 := (Nat.div_lt_iff_lt_mul (Bp_pos m)).2 (by rw [Bp_succ] at hv2; exact hv2)
    rw [Nat.mod_eq_of_lt h7]
    refine (Nat.le_div_iff_mul_le (Bp_pos m)).2 ?_
    have h8 : Bp m * 9223372036854775808 ≤ Bp m * (top * 2 ^ up) := Nat.mul_le_mul_left _ c1
    rw [t3, Nat.add_mul, Nat.mul_assoc]
    rw [Nat.mul_comm]
    omega
  · rw [t3]
    have h9 : Bp m * 1 ≤ Bp m * top := Nat.mul_le_mul_left _ (Nat.pos_of_ne_zero htop)
    omega
theorem div_room {u v m up : Nat} (hm : Bp m ≤ v) (hu : u < Bp 8) : u * 2 ^ up < v * 2 ^ up * Bp ((topN (U8 u) 8 : Int) - (m + 1) + 1).toNat := by
  have hu8 : val (U8 u) = u := by rw [show val (U8 u) = u % Bp 8 from val_limbs u, Nat.mod_eq_of_lt hu]
  obtain ⟨_, t2⟩ := topN_val (Ok_U8 u) (n := topN (U8 u) 8) rfl
  rw [hu8] at t2
  generalize topN (U8 u) 8 = t8 at *
  have hp : 0 < 2 ^ up := Nat.pow_pos (by decide)
  by_cases h : m + 1 ≤ t8
  · rw [show ((t8 : Int) - (m + 1) + 1).toNat = t8 - m by omega]
    have h1 : Bp t8 ≤ v * Bp (t8 - m) := by
      rw [show t8 = m + (t8 - m) by omega, Bp_add, show m + (t8 - m) - m = t8 - m by omega]
      exact Nat.mul_le_mul_right _ hm
    have h2 : u * 2 ^ up < v * Bp (t8 - m) * 2 ^ up := Nat.mul_lt_mul_of_pos_right (Nat.lt_of_lt_of_le t2 h1) hp
    rw [Nat.mul_assoc, Nat.mul_comm (2 ^ up), ← Nat.mul_assoc]
    exact h2
  · rw [show ((t8 : Int) - (m + 1) + 1).toNat = 0 by omega, Bp_zero, Nat.mul_one]
    have h1 : Bp t8 ≤ Bp m := by unfold Bp; exact Nat.pow_le_pow_right (by decide) (by omega)
    exact Nat.mul_lt_mul_of_pos_right (by omega) hp
theorem shlN_small {n a : Nat} (h : n < 64) : shlN n a = a * 2 ^ n := by unfold shlN; rw [sp_eq, Nat.min_eq_left (by omega)]
theorem shdN_small {n a : Nat} (h : n < 64) : shdN n a 0 = a / 2 ^ n := by unfold shdN; rw [sp_eq, Nat.min_eq_left (by omega)]; simp [extN]
/-- The rest; 0, if the divisor is. -/
def rstN (u v : Nat) : Nat := if v = 0 then 0 else u % v
set_option maxHeartbeats 1000000 in
theorem divide_all (u v : Nat) (hu : u < Bp 8) (hv : v < W) (w : World) : Calls Try.prog 42 #[WX u, WV v] w (Ret w (.tuple #[WV (u / v), WV (rstN u v)])) := by
  cases hn : topN (V4 v) 4 with
  | zero =>
    have hv0 : v = 0 := by
      obtain ⟨_, t2⟩ := topN_val (Ok_V4 v) (n := 0) hn
      rw [val_V4 hv, Bp_zero] at t2
      omega
    subst hv0
    have e1 : u / 0 = 0 := Nat.div_zero u
    have e2 : rstN u 0 = 0 := rfl
    rw [e1, e2]
    have HL := Lib.hid (show ∀ b c t w, Arr w b (V4 0) t → Calls Try.prog 58 #[SlV b 0 4 c] w (Ret w (.int .i64 (topN (V4 0) 4 : Nat))) from fun b c t w hA => length_any (V4 0) b c t w hA (by simp))
    have l0 : lm 0 0 = 0 := by decide
    have l1 : lm 0 1 = 0 := by decide
    have l2 : lm 0 2 = 0 := by decide
    have l3 : lm 0 3 = 0 := by decide
    have HN := Lib.hid hn
    clear e1 e2 hn
    go_enter Try.func42, Try.ntmps42
    go_wp2_with fail
    refine calls_ret (HL.out _ _ 24 _ (by (repeat (first | (refine arr_at _ _ _ _ ?_ rfl; first | rfl | (simp only [World.size_alloc, World.size_setCell, gw_size]; done)) | refine arr_past ?_ _ | refine gw_arr ?_ _)))) ?_
    intro p0
    rw [HN.out]
    go_wp2
    rw [WV_small (n := 0) (by decide)]
    exact bodyPost_ret (v := .tuple #[.agg #[.int .u64 0, .int .u64 0, .int .u64 0, .int .u64 0], .agg #[.int .u64 0, .int .u64 0, .int .u64 0, .int .u64 0]]) (by simp [results, Try.results42, go_sem]) rfl (Ret.of' rfl (by (repeat (first | with_reducible exact Below.refl _ _ | refine below_gw ?_ (by first | exact Nat.le_refl _ | ((repeat (first | rw [World.size_alloc] | rw [World.size_setCell] | rw [World.size_drew] | rw [gw_size])); first | done | omega)) _ | refine Below.alloc ?_ (by first | exact Nat.le_refl _ | ((repeat (first | rw [World.size_alloc] | rw [World.size_setCell] | rw [World.size_drew] | rw [gw_size])); first | done | omega)) _ | refine Below.setCell ?_ (by first | exact Nat.le_refl _ | ((repeat (first | rw [World.size_alloc] | rw [World.size_setCell] | rw [World.size_drew] | rw [gw_size])); first | done | omega)) _ | refine Below.drew ?_))))
  | succ m =>
    obtain ⟨h1, h2, h3, h4, h5⟩ := div_norm hv hn rfl
    have hBm := Bp_pos m
    have hp : 0 < 2 ^ (64 - Lib.bitLen ((V4 v).getD m 0)) := Nat.pow_pos (by decide)
    have H := divide_any u v m (64 - Lib.bitLen ((V4 v).getD m 0)) (u * 2 ^ (64 - Lib.bitLen ((V4 v).getD m 0))) (v * 2 ^ (64 - Lib.bitLen ((V4 v).getD m 0))) hv hn rfl h1
      (by rw [shlN_small h1]; exact h2) (by rw [shlN_small h1]; exact h3) (Nat.mul_pos (by omega) hp) (Nat.le_of_lt h4) (div_room h5 hu) (by rw [Nat.mod_eq_of_lt hu]) w
    rw [Nat.mul_div_mul_right _ _ hp, Nat.mul_mod_mul_right, shdN_small h1, Nat.mul_div_cancel _ hp] at H
    rw [show rstN u v = u % v by unfold rstN; rw [if_neg (by omega)]]
    exact H
end Go.Proofs.Ytgmlabdcfbeijaa
