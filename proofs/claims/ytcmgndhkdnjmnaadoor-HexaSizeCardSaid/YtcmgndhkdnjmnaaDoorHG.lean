/-
  Digits there and back: plain arithmetic on lists of bytes; HexaBack (package quaestorlaw06), walked. No condition.
-/
import Derived.Test.YtcmgndhkdnjmnaaDoorHD
namespace Go.Proofs.YtcmgndhkdnjmnaaDoor
set_option linter.unusedSimpArgs false
set_option linter.unusedVariables false
set_option maxHeartbeats 4000000
set_option maxRecDepth 10000
open Go.RowKit
theorem sg_dv : ∀ n, n < 16 → dvN (sgn.getD n 0) = (n : Int) ∧ dvB (sgn.getD n 0) = true := by decide
theorem sg_of (x : Int) (h : 0 ≤ x ∧ x < 16) : dvN (sgn.getD x.toNat 0) = x ∧ dvB (sgn.getD x.toNat 0) = true := by
  have := sg_dv x.toNat (by omega)
  rw [this.1, this.2]; exact ⟨by omega, rfl⟩
theorem dgs_dv {x : Int} (h : 0 ≤ x ∧ x ≤ 255) : (dgs x).map dvN = [x / 16, x % 16] ∧ (dgs x).all dvB = true := by
  have h1 := sg_of (x / 16) (by omega)
  have h2 := sg_of (x % 16) (by omega)
  simp only [dgs, List.map_cons, List.map_nil, List.all_cons, List.all_nil, h1.1, h1.2, h2.1, h2.2]
  exact ⟨trivial, rfl⟩
theorem flat_dv : ∀ {xs : List Int}, allB xs → (xs.flatMap dgs).all dvB = true
  | [], _ => rfl
  | x :: xs, h => by
    rw [List.flatMap_cons, List.all_append, (dgs_dv (h x List.mem_cons_self)).2, flat_dv (xs := xs) (fun y hy => h y (List.mem_cons_of_mem _ hy))]; rfl
theorem rd_flat : ∀ {xs : List Int}, allB xs → rdK (xs.flatMap dgs) (xs.flatMap dgs).length = xs
  | [], _ => rfl
  | x :: xs, h => by
    have hx := h x List.mem_cons_self
    have h1 := sg_of (x / 16) (by omega)
    have h2 := sg_of (x % 16) (by omega)
    have e : (x :: xs).flatMap dgs = sgn.getD (x / 16).toNat 0 :: sgn.getD (x % 16).toNat 0 :: xs.flatMap dgs := rfl
    rw [e, rdK_cons, rd_flat (xs := xs) (fun y hy => h y (List.mem_cons_of_mem _ hy)), h1.1, h2.1]
    congr 1; omega
theorem isP_cons (l : List Int) : isP (48 :: 120 :: l) = true := decide_eq_true rfl
theorem rdH_wrH {xs : List Int} (hx : allB xs) : rdH (wrH xs) = some xs := by
  have h2 : (xs.flatMap dgs).length % 2 = 0 := by rw [flat_dgs]; omega
  unfold rdH wrH
  exact (if_pos ⟨isP_cons _, h2, flat_dv hx⟩).trans (congrArg some (rd_flat hx))
theorem adV_wrH {xs : List Int} (hx : allB xs) (hl : xs.length = 20) : adV (wrH xs) = (xs, 0) := adV_yes (rdH_wrH hx) hl
theorem nv_zero (l : List Int) : nvR (0 :: l) = nvR l := by rw [nvR, Int.toNat_zero, Nat.zero_mul, Nat.zero_add]
theorem nv_tz : ∀ D : List Int, nvR ((tz 48 D).map dvN) = nvR (D.map dvN)
  | [] => rfl
  | x :: l => by
    unfold tz; split
    · rename_i h; subst h; rw [nv_tz l, List.map_cons, show dvN 48 = 0 by decide, nv_zero]
    · rfl
theorem nv_numD (D : List Int) : nvR ((numD D).map dvN) = nvR (D.map dvN) := by
  rw [← nv_tz D]
  by_cases h : tz 48 D = []
  · rw [numD_nil h, h]; decide
  · rw [numD_some h]
theorem tz_head {D : List Int} : ∀ {x : Int} {l : List Int}, tz 48 D = x :: l → x ≠ 48 := by
  induction D with
  | nil => intro x l h; cases h
  | cons y D ih =>
    intro x l h
    unfold tz at h
    split at h
    · exact ih h
    · rename_i hy; simp only [List.cons.injEq] at h; rw [← h.1]; exact hy
theorem tz_dv {D : List Int} (h : D.all dvB = true) : (tz 48 D).all dvB = true := by
  induction D with
  | nil => rfl
  | cons y D ih =>
    rw [List.all_cons, Bool.and_eq_true] at h
    unfold tz; split
    · exact ih h.2
    · rw [List.all_cons, h.1, h.2]; rfl
theorem numD_dv {D : List Int} (h : D.all dvB = true) : (numD D).all dvB = true := by
  by_cases h0 : tz 48 D = []
  · rw [numD_nil h0]; decide
  · rw [numD_some h0]; exact tz_dv h
theorem numD_first (D : List Int) : 0 < (numD D).length ∧ ¬ (1 < (numD D).length ∧ (numD D).getD 0 0 = 48) := by
  by_cases h0 : tz 48 D = []
  · rw [numD_nil h0]; decide
  · rw [numD_some h0]
    cases h : tz 48 D with
    | nil => exact absurd h h0
    | cons x l => exact ⟨Nat.succ_pos _, fun hh => tz_head h hh.2⟩
theorem numD_len {D : List Int} (h : 0 < D.length) : (numD D).length ≤ D.length := by
  by_cases h0 : tz 48 D = []
  · rw [numD_nil h0]; exact h
  · rw [numD_some h0]; exact tz_len 48 D
theorem hexD_nv {a : Nat} (ha : a < W) : nvR (((bytI a 32).flatMap dgs).map dvN) = a := by
  have hb := bytI_all a 32
  rw [← rd_nv _ (by rw [flat_dgs]; omega), rd_flat hb, rdI_bytI]
  exact Nat.mod_eq_of_lt ha
theorem cntV_hexN {a : Nat} (ha : a < W) : cntV (hexN a) = (a, 0) := by
  have hD : ((bytI a 32).flatMap dgs).length = 64 := by rw [flat_dgs, bytI_len]
  have hA : allV (hexN a) = some ((numD ((bytI a 32).flatMap dgs)).map dvN) := by
    unfold allV hexN
    exact if_pos ⟨isP_cons _, numD_dv (flat_dv (bytI_all a 32))⟩
  have h1 := numD_first ((bytI a 32).flatMap dgs)
  have h2 := numD_len (D := (bytI a 32).flatMap dgs) (by omega)
  rw [cnt_yes hA (by rw [List.length_map]; exact h1.1) (by rw [List.length_map]; omega) (by rw [List.length_map]; exact h1.2), nv_numD, hexD_nv ha]
/-! ### The size of letters -/
def lowC (c : Int) : Int := if 65 ≤ c ∧ c ≤ 70 then c + 32 else c
theorem low_dv (c : Int) : dvN (lowC c) = dvN c ∧ dvB (lowC c) = dvB c := by
  unfold lowC
  split
  · rename_i h
    constructor
    · unfold dvN
      rw [if_neg (by omega), if_neg (by omega), if_pos (by omega), if_neg (by omega), if_pos (by omega)]; omega
    · unfold dvB
      rw [decide_eq_true (by omega), decide_eq_true (by omega)]
  · exact ⟨rfl, rfl⟩
theorem low_48 (c : Int) : lowC c = 48 ↔ c = 48 := by unfold lowC; split <;> omega
theorem low_120 (c : Int) : lowC c = 120 ↔ c = 120 := by unfold lowC; split <;> omega
theorem low_isP : ∀ xs : List Int, isP (xs.map lowC) = isP xs
  | [] => rfl
  | [_] => by unfold isP; rw [Bool.eq_iff_iff, decide_eq_true_iff, decide_eq_true_iff]; simp
  | x :: y :: l => by
    unfold isP
    rw [Bool.eq_iff_iff, decide_eq_true_iff, decide_eq_true_iff]
    simp [low_48, low_120]
theorem low_get (d : List Int) (i : Nat) : dvN ((d.map lowC).getD i 0) = dvN (d.getD i 0) := by
  rw [List.getD_eq_getElem?_getD, List.getD_eq_getElem?_getD, List.getElem?_map]
  cases d[i]? with
  | none => rfl
  | some c => exact (low_dv c).1
theorem low_all (d : List Int) : (d.map lowC).all dvB = d.all dvB := by
  rw [List.all_map]; congr 1; funext c; exact (low_dv c).2
theorem low_rdK (d : List Int) (k : Nat) : rdK (d.map lowC) k = rdK d k := by
  unfold rdK; simp only [List.length_map, low_get]
theorem low_rdH (xs : List Int) : rdH (xs.map lowC) = rdH xs := by
  unfold rdH
  rw [low_isP, ← List.map_drop, low_all, List.length_map, low_rdK]
theorem low_pdH (d : List Int) : pdH (d.map lowC) = (pdH d).map lowC := by
  unfold pdH repS
  rw [List.length_map, List.map_append, List.map_append]
  congr 2
  split <;> rfl
theorem low_cnt (xs : List Int) : cntV (xs.map lowC) = cntV xs := by
  have h : cntOk (xs.map lowC) ↔ cntOk xs := by
    unfold cntOk
    rw [low_isP, ← List.map_drop, List.length_map]
    have : ((xs.drop 2).map lowC).getD 0 0 = 48 ↔ (xs.drop 2).getD 0 0 = 48 := by
      cases xs.drop 2 with
      | nil => exact Iff.rfl
      | cons x l => exact low_48 x
    rw [this]
  unfold cntV
  by_cases hc : cntOk xs
  · rw [if_pos hc, if_pos (h.2 hc), ← List.map_drop, low_pdH, low_rdH]
  · rw [if_neg hc, if_neg (fun x => hc (h.1 x))]
theorem sg_low {c : Int} (h : dvB c = true) : sgn.getD (dvN c).toNat 0 = lowC c := by
  have h := of_decide_eq_true h
  have key : ∀ n : Nat, n < 103 → (48 ≤ n ∧ n ≤ 57) ∨ (65 ≤ n ∧ n ≤ 70) ∨ (97 ≤ n ∧ n ≤ 102) → sgn.getD (dvN ((n : Nat) : Int)).toNat 0 = lowC ((n : Nat) : Int) := by decide +kernel
  have := key c.toNat (by omega) (by omega)
  rwa [Int.toNat_of_nonneg (by omega)] at this
theorem dgs_two {x y : Int} (hx : dvB x = true) (hy : dvB y = true) : dgs (16 * dvN x + dvN y) = [lowC x, lowC y] := by
  have h1 := dvN_lt x
  have h2 := dvN_lt y
  unfold dgs
  rw [show (16 * dvN x + dvN y) / 16 = dvN x by omega, show (16 * dvN x + dvN y) % 16 = dvN y by omega, sg_low hx, sg_low hy]
theorem wr_rdK : ∀ (e : List Int), e.length % 2 = 0 → e.all dvB = true → (rdK e e.length).flatMap dgs = e.map lowC
  | [], _, _ => rfl
  | [_], h, _ => by simp at h
  | x :: y :: l, h, ha => by
    have hl : l.length % 2 = 0 := by simp only [List.length_cons] at h; omega
    simp only [List.all_cons, Bool.and_eq_true] at ha
    rw [rdK_cons, List.flatMap_cons, wr_rdK l hl ha.2.2, dgs_two ha.1 ha.2.1]; rfl
theorem isP_form {xs : List Int} (h : isP xs = true) : xs = 48 :: 120 :: xs.drop 2 := by
  have := of_decide_eq_true h
  conv => lhs; rw [← List.take_append_drop 2 xs, this]
  rfl
theorem wr_rd {xs ys : List Int} (h : rdH xs = some ys) : wrH ys = xs.map lowC := by
  unfold rdH at h
  split at h
  · rename_i hc
    obtain ⟨h1, h2, h3⟩ := hc
    obtain rfl := Option.some.inj h
    have hf := isP_form h1
    unfold wrH
    rw [wr_rdK _ h2 h3]
    conv => rhs; rw [hf]
    rfl
  · cases h
theorem nv_inj : ∀ {l m : List Int}, l.length = m.length → (∀ x ∈ l, 0 ≤ x ∧ x < 16) → (∀ x ∈ m, 0 ≤ x ∧ x < 16) → nvR l = nvR m → l = m
  | [], [], _, _, _, _ => rfl
  | [], _ :: _, h, _, _, _ => by cases h
  | _ :: _, [], h, _, _, _ => by cases h
  | x :: l, y :: m, h, hl, hm, hn => by
    have hlen : l.length = m.length := by simpa using h
    have a1 := nvR_lt (l := l) fun z hz => hl z (List.mem_cons_of_mem _ hz)
    have a2 := nvR_lt (l := m) fun z hz => hm z (List.mem_cons_of_mem _ hz)
    have a3 := hl x List.mem_cons_self
    have a4 := hm y List.mem_cons_self
    rw [nvR, nvR, hlen] at hn
    rw [hlen] at a1
    have hp : 0 < 16 ^ m.length := Nat.pow_pos (by decide)
    have d1 : (x.toNat * 16 ^ m.length + nvR l) / 16 ^ m.length = x.toNat := by
      rw [Nat.add_comm, Nat.add_mul_div_right _ _ hp, Nat.div_eq_of_lt a1, Nat.zero_add]
    have d2 : (y.toNat * 16 ^ m.length + nvR m) / 16 ^ m.length = y.toNat := by
      rw [Nat.add_comm, Nat.add_mul_div_right _ _ hp, Nat.div_eq_of_lt a2, Nat.zero_add]
    have e1 : x.toNat = y.toNat := by rw [← d1, hn, d2]
    have e2 : x = y := by omega
    subst e2
    have e3 : nvR l = nvR m := by omega
    rw [nv_inj hlen (fun z hz => hl z (List.mem_cons_of_mem _ hz)) (fun z hz => hm z (List.mem_cons_of_mem _ hz)) e3]
theorem nv_rep (k : Nat) (l : List Int) : nvR (List.replicate k 0 ++ l) = nvR l := by
  induction k with
  | zero => rfl
  | succ k ih => rw [List.replicate_succ, List.cons_append, nv_zero, ih]
theorem tz_rep (k : Nat) (l : List Int) : tz 48 (List.replicate k 48 ++ l) = tz 48 l := by
  induction k with
  | zero => rfl
  | succ k ih => rw [List.replicate_succ, List.cons_append, tz, if_pos rfl, ih]
theorem numD_rep (k : Nat) (l : List Int) : numD (List.replicate k 48 ++ l) = numD l := by unfold numD; rw [tz_rep]
theorem flat_sg : ∀ {xs : List Int}, allB xs → ((xs.flatMap dgs).map dvN).map (fun v => sgn.getD v.toNat 0) = xs.flatMap dgs
  | [], _ => rfl
  | x :: xs, h => by
    have hx := h x List.mem_cons_self
    have h1 := (sg_of (x / 16) (by omega)).1
    have h2 := (sg_of (x % 16) (by omega)).1
    rw [List.flatMap_cons, List.map_append, List.map_append, flat_sg (xs := xs) (fun y hy => h y (List.mem_cons_of_mem _ hy))]
    congr 1
    simp only [dgs, List.map_cons, List.map_nil, h1, h2]
theorem map_sg : ∀ {d : List Int}, d.all dvB = true → (d.map dvN).map (fun v => sgn.getD v.toNat 0) = d.map lowC
  | [], _ => rfl
  | c :: d, h => by
    rw [List.all_cons, Bool.and_eq_true] at h
    rw [List.map_cons, List.map_cons, List.map_cons, map_sg h.2, sg_low h.1]
theorem hex_cnt {xs : List Int} (h : (cntV xs).2 = 0) : hexN (cntV xs).1 = xs.map lowC := by
  cases hA : allV xs with
  | none => rw [cnt_no hA] at h; exact absurd h (by decide)
  | some ds =>
    obtain ⟨hp, hda, hds⟩ := allV_some hA
    have hsl : ds.length = (xs.drop 2).length := by rw [hds, List.length_map]
    by_cases hok : cntOk xs
    · obtain ⟨_, k1, k2, k3⟩ := hok
      rw [cnt_yes hA (by omega) (by omega) (by rw [hsl]; exact k3)]
      show hexN (nvR ds) = _
      have hd16 : ∀ x ∈ ds, 0 ≤ x ∧ x < 16 := by rw [hds]; exact map_dv_all _
      have hW : nvR ds < W := by
        have h1 := nvR_lt hd16
        have h2 : (16 : Nat) ^ ds.length ≤ 16 ^ 64 := Nat.pow_le_pow_right (by decide) (by omega)
        have h3 : (16 : Nat) ^ 64 = W := by decide
        omega
      have hD : ((bytI (nvR ds) 32).flatMap dgs).length = 64 := by rw [flat_dgs, bytI_len]
      have e1 : ((bytI (nvR ds) 32).flatMap dgs).map dvN = List.replicate (64 - ds.length) 0 ++ ds := by
        refine nv_inj (by rw [List.length_map, hD, List.length_append, List.length_replicate]; omega) (map_dv_all _) ?_ (by rw [nv_rep, hexD_nv hW])
        intro x hx
        rcases List.mem_append.1 hx with hx | hx
        · have := List.eq_of_mem_replicate hx; omega
        · exact hd16 x hx
      have e2 : (bytI (nvR ds) 32).flatMap dgs = List.replicate (64 - ds.length) 48 ++ (xs.drop 2).map lowC := by
        rw [← flat_sg (bytI_all _ _), e1, List.map_append, List.map_replicate]
        congr 1
        rw [hds]; exact map_sg hda
      unfold hexN
      rw [e2, numD_rep]
      have hf := isP_form hp
      have e3 : numD ((xs.drop 2).map lowC) = (xs.drop 2).map lowC := by
        generalize hg : xs.drop 2 = d at *
        match d, k1 with
        | c :: l, _ =>
          by_cases hc : c = 48
          · subst hc
            have : l = [] := by
              cases l with
              | nil => rfl
              | cons z l => exact absurd ⟨by simp, rfl⟩ k3
            subst this
            decide
          · have hc2 : ¬ lowC c = 48 := fun h => hc ((low_48 c).1 h)
            have : tz 48 (lowC c :: l.map lowC) = lowC c :: l.map lowC := by rw [tz, if_neg hc2]
            rw [List.map_cons, numD_some (by rw [this]; simp), this]
      rw [e3]
      conv => rhs; rw [hf]
      rfl
    · rw [cntV_no hok] at h; exact absurd h (by decide)
/-! ### HexaBack, walked -/
def GB4 : Ctr := fun f args m => match f with
  | 7 => g_hKno args m
  | 12 => g_hRead args m
  | 8 => g_hWrite args m
  | 14 => g_hCount args m
  | 10 => g_hNum args m
  | 16 => g_hAddr args m
  | 18 => g_same args m
  | _ => .none
theorem GB4_ok : GOk Tryd.prog GB4 := by
  intro w0 B f args m; unfold GB4; split
  · exact g_hKno_ok _ _ _ _
  · exact g_hRead_ok _ _ _ _
  · exact g_hWrite_ok _ _ _ _
  · exact g_hCount_ok _ _ _ _
  · exact g_hNum_ok _ _ _ _
  · exact g_hAddr_ok _ _ _ _
  · exact g_same_ok _ _ _ _
  · exact trivial
theorem GB4_hKno : GB4 7 = g_hKno := by funext args m; rfl
theorem GB4_hRead : GB4 12 = g_hRead := by funext args m; rfl
theorem GB4_hWrite : GB4 8 = g_hWrite := by funext args m; rfl
theorem GB4_hCount : GB4 14 = g_hCount := by funext args m; rfl
theorem GB4_hNum : GB4 10 = g_hNum := by funext args m; rfl
theorem GB4_hAddr : GB4 16 = g_hAddr := by funext args m; rfl
theorem GB4_same : GB4 18 = g_same := by funext args m; rfl

theorem hexN_len (a : Nat) : (hexN a).length ≤ 66 := by
  have hD : ((bytI a 32).flatMap dgs).length = 64 := by rw [flat_dgs, bytI_len]
  have := numD_len (D := (bytI a 32).flatMap dgs) (by omega)
  unfold hexN; simp only [List.length_cons]; omega
theorem back_law (b : Option Addr) (n c : Nat) (xs : List Int) (a : Nat) (zs : List Int) (ha : a < W) (hz : zs.length = 20) (hzb : allB zs) (hl : xs.length = n) (hn : n ≤ c) (hc : c ≤ maxLen) (hb : adr b n c) (hx : allB xs) (w : World) (hm : MemOk w [] [.ro b (.ints .u8 xs)] w) :
    Calls Tryd.prog 5 (cvs [.sl 0 b 0 0 1 n c, .word a, .ints .u8 zs]).toArray w (Yes w) := by
  have t1 : (xs.drop 0).take n = xs := by rw [List.drop_zero, List.take_of_length_le (by omega)]
  have t8 : (xs.drop 0).take xs.length = xs := by rw [List.drop_zero, List.take_of_length_le (Nat.le_refl _)]
  have t0 : (zs.drop 0).take 20 = zs := by rw [List.drop_zero, List.take_of_length_le (by omega)]
  have t2 := rdH_wrH hx
  have t3 := cntV_hexN ha
  have t4 := adV_wrH hzb hz
  have t5 := eqW_of (a := a) rfl
  have t6 : decide (xs = xs) = true := decide_eq_true rfl
  have t7 : decide (zs = zs) = true := decide_eq_true rfl
  have b1 := wrH_all xs
  have b2 := wrH_all zs
  have b3 := hexN_all a
  have l1 := wrH_len xs
  have l2 := wrH_len zs
  have l3 := hexN_len a
  by_cases hk : n ≤ 1000
  · have d1 : decide ((1000 : Int) < (n : Int)) = false := decide_eq_false (by omega)
    refine Vc.calls T0_ok Tryd.func5 rfl rfl (args := [.sl 0 b 0 0 1 n c, .word a, .ints .u8 zs]) (k := 61) rfl hm ?_; change Vc _ _ (c8 (.sl 0 b 0 0 1 n c) (.word a) (.ints .u8 zs) .undef .undef .undef .undef .undef (c8 .undef .undef .undef .undef .undef .undef .undef .undef (c8 .undef .undef .undef .undef .undef .undef .undef .undef (c8 .undef .undef .undef .undef .undef .undef .undef .undef (c8 .undef .undef .undef .undef .undef .undef .undef .undef (c8 .undef .undef .undef .undef .undef .undef .undef .undef (c8 .undef .undef .undef .undef .undef .undef .undef .undef (c8 .undef .undef .undef .undef .undef .undef .undef .undef ([]))))))))) _ _
    ((repeat (first | (with_reducible refine Vc.seq fun N hN => ?_) | (with_reducible refine Vc.block ?_) | ((with_reducible refine Vc.skip ?_); dsimp only [thenK, blockK, Nat.beq]; (first | (refine hN _ _ ?_; clear hN N) | skip)) | ((with_reducible refine Vc.exit ?_); dsimp only [thenK, blockK, Nat.beq]; (first | (refine hN _ _ ?_; clear hN N) | skip)) | (with_reducible intro _) | ((with_reducible refine And.intro ?_ ?_); (focus (first | ((repeat' with_reducible apply And.intro) <;> first | with_reducible exact True.intro | with_reducible assumption | with_reducible rfl | (rw [t1]; assumption) | omega) | exact sd0))) | ((first | ((with_reducible refine askT_of ?_ (fun hb => ?_)); (focus (first | ((repeat' with_reducible apply And.intro) <;> first | with_reducible exact True.intro | with_reducible assumption | with_reducible rfl | (rw [t1]; assumption) | omega) | exact sd0)); (try simp only [hb])) | ((with_reducible refine Vc.fin ?_); dsimp only [thenK, blockK, retK, resS, resOne, resAll]) | ((with_reducible refine Vc.hold ?_); first | refine Vc.regiont T0_ok GB4_ok ?_)); (try simp only [pickO, nthO, dropO, dOp.eq_def, v8A, strIx.eq_def, appT.eq_def, v8B, adr_some, adr_nil, true_or, dstOf, Bool.not_true, Bool.not_false, evs, evp, v8C, sget, sset, blen, bpush, bget, bset, Nat.beq, Nat.ble, Nat.blt.eq_def, nth?, tys, takeN, Nat.zero_add, fillS, splice, allOne, ordL, intL, wordL, rowL, sapp, resAll, und, lk, hav, agr, bpre, Int.reduceToNat, Int.reduceLE, Int.reduceLT, Nat.reduceLT, Nat.reduceLeDiff, Nat.reduceAdd, Nat.reduceMul, Nat.reduceSub, Int.reduceAdd, Int.reduceSub, Int.reduceMul, eq_self, decide_true, beq_self_eq_true, List.length_cons, List.length_nil, Nat.min_eq_left, IntKind.bits, tabs, GB4_hKno, g_hKno.eq_def, GB4_hRead, g_hRead.eq_def, GB4_hWrite, g_hWrite.eq_def, GB4_hCount, g_hCount.eq_def, GB4_hNum, g_hNum.eq_def, GB4_hAddr, g_hAddr.eq_def, GB4_same, g_same.eq_def, d1, t1, t2]); (try simp (disch := omega) only [v8W])) | ((with_reducible refine hN _ _ ?_); clear hN N; (try simp (disch := omega) only [v8W])))); (try ((with_reducible refine Fin.of ?_); (try with_reducible exact True.intro))))
    (refine Vc.cond T0_ok (t := false) (by rfl) (fun h => Bool.noConfusion h) (fun _ => ?_))
    ((repeat (first | (with_reducible refine Vc.seq fun N hN => ?_) | (with_reducible refine Vc.block ?_) | ((with_reducible refine Vc.skip ?_); dsimp only [thenK, blockK, Nat.beq]; (first | (refine hN _ _ ?_; clear hN N) | skip)) | ((with_reducible refine Vc.exit ?_); dsimp only [thenK, blockK, Nat.beq]; (first | (refine hN _ _ ?_; clear hN N) | skip)) | (with_reducible intro _) | ((with_reducible refine And.intro ?_ ?_); (focus (first | ((repeat' with_reducible apply And.intro) <;> first | with_reducible exact True.intro | with_reducible assumption | with_reducible rfl | (rw [t1]; assumption) | (rw [t0]; assumption) | (rw [t8]; assumption) | omega) | exact sd0))) | ((first | ((with_reducible refine askT_of ?_ (fun hb => ?_)); (focus (first | ((repeat' with_reducible apply And.intro) <;> first | with_reducible exact True.intro | with_reducible assumption | with_reducible rfl | (rw [t1]; assumption) | (rw [t0]; assumption) | (rw [t8]; assumption) | omega) | exact sd0)); (try simp only [hb])) | ((with_reducible refine Vc.fin ?_); dsimp only [thenK, blockK, retK, resS, resOne, resAll]) | ((with_reducible refine Vc.hold ?_); first | refine Vc.regiont T0_ok GB4_ok ?_)); (try simp only [pickO, nthO, dropO, dOp.eq_def, v8A, strIx.eq_def, appT.eq_def, v8B, adr_some, adr_nil, true_or, dstOf, Bool.not_true, Bool.not_false, evs, evp, v8C, sget, sset, blen, bpush, bget, bset, Nat.beq, Nat.ble, Nat.blt.eq_def, nth?, tys, takeN, Nat.zero_add, fillS, splice, allOne, ordL, intL, wordL, rowL, sapp, resAll, und, lk, hav, agr, bpre, Int.reduceToNat, Int.reduceLE, Int.reduceLT, Nat.reduceLT, Nat.reduceLeDiff, Nat.reduceAdd, Nat.reduceMul, Nat.reduceSub, Int.reduceAdd, Int.reduceSub, Int.reduceMul, eq_self, decide_true, beq_self_eq_true, List.length_cons, List.length_nil, Nat.min_eq_left, IntKind.bits, tabs, GB4_hKno, g_hKno.eq_def, GB4_hRead, g_hRead.eq_def, GB4_hWrite, g_hWrite.eq_def, GB4_hCount, g_hCount.eq_def, GB4_hNum, g_hNum.eq_def, GB4_hAddr, g_hAddr.eq_def, GB4_same, g_same.eq_def, d1, t0, t1, t8, t2, t3, t4, t5, t6, t7]); (try simp (disch := omega) only [v8W])) | ((with_reducible refine hN _ _ ?_); clear hN N; (try simp (disch := omega) only [v8W])))); (try ((with_reducible refine Fin.of ?_); (try with_reducible exact True.intro))))
    exact ⟨trivial, trivial⟩
  · have d1 : decide ((1000 : Int) < (n : Int)) = true := decide_eq_true (by omega)
    refine Vc.calls T0_ok Tryd.func5 rfl rfl (args := [.sl 0 b 0 0 1 n c, .word a, .ints .u8 zs]) (k := 61) rfl hm ?_; change Vc _ _ (c8 (.sl 0 b 0 0 1 n c) (.word a) (.ints .u8 zs) .undef .undef .undef .undef .undef (c8 .undef .undef .undef .undef .undef .undef .undef .undef (c8 .undef .undef .undef .undef .undef .undef .undef .undef (c8 .undef .undef .undef .undef .undef .undef .undef .undef (c8 .undef .undef .undef .undef .undef .undef .undef .undef (c8 .undef .undef .undef .undef .undef .undef .undef .undef (c8 .undef .undef .undef .undef .undef .undef .undef .undef (c8 .undef .undef .undef .undef .undef .undef .undef .undef ([]))))))))) _ _
    ((repeat (first | (with_reducible refine Vc.seq fun N hN => ?_) | (with_reducible refine Vc.block ?_) | ((with_reducible refine Vc.skip ?_); dsimp only [thenK, blockK, Nat.beq]; (first | (refine hN _ _ ?_; clear hN N) | skip)) | ((with_reducible refine Vc.exit ?_); dsimp only [thenK, blockK, Nat.beq]; (first | (refine hN _ _ ?_; clear hN N) | skip)) | (with_reducible intro _) | ((with_reducible refine And.intro ?_ ?_); (focus (first | ((repeat' with_reducible apply And.intro) <;> first | with_reducible exact True.intro | with_reducible assumption | omega) | exact sd0))) | ((first | ((with_reducible refine askT_of ?_ (fun hb => ?_)); (focus (first | ((repeat' with_reducible apply And.intro) <;> first | with_reducible exact True.intro | with_reducible assumption | omega) | exact sd0)); (try simp only [hb])) | ((with_reducible refine Vc.fin ?_); dsimp only [thenK, blockK, retK, resS, resOne, resAll]) | ((with_reducible refine Vc.hold ?_); first | refine Vc.regiont T0_ok GB4_ok ?_)); (try simp only [pickO, nthO, dropO, dOp.eq_def, v8A, strIx.eq_def, appT.eq_def, v8B, adr_some, adr_nil, true_or, dstOf, Bool.not_true, Bool.not_false, evs, evp, v8C, sget, sset, blen, bpush, bget, bset, Nat.beq, Nat.ble, Nat.blt.eq_def, nth?, tys, takeN, Nat.zero_add, fillS, splice, allOne, ordL, intL, wordL, rowL, sapp, resAll, und, lk, hav, agr, bpre, Int.reduceToNat, Int.reduceLE, Int.reduceLT, Nat.reduceLT, Nat.reduceLeDiff, Nat.reduceAdd, Nat.reduceMul, Nat.reduceSub, Int.reduceAdd, Int.reduceSub, Int.reduceMul, eq_self, decide_true, beq_self_eq_true, List.length_cons, List.length_nil, Nat.min_eq_left, IntKind.bits, tabs, GB4_hKno, g_hKno.eq_def, GB4_hRead, g_hRead.eq_def, GB4_hWrite, g_hWrite.eq_def, GB4_hCount, g_hCount.eq_def, GB4_hNum, g_hNum.eq_def, GB4_hAddr, g_hAddr.eq_def, GB4_same, g_same.eq_def, d1]); (try simp (disch := omega) only [v8W])) | ((with_reducible refine hN _ _ ?_); clear hN N; (try simp (disch := omega) only [v8W])))); (try ((with_reducible refine Fin.of ?_); (try with_reducible exact True.intro))))
    (refine Vc.cond T0_ok (t := true) (by rfl) (fun _ => ?_) (fun h => Bool.noConfusion h))
    ((repeat (first | (with_reducible refine Vc.seq fun N hN => ?_) | (with_reducible refine Vc.block ?_) | ((with_reducible refine Vc.skip ?_); dsimp only [thenK, blockK, Nat.beq]; (first | (refine hN _ _ ?_; clear hN N) | skip)) | ((with_reducible refine Vc.exit ?_); dsimp only [thenK, blockK, Nat.beq]; (first | (refine hN _ _ ?_; clear hN N) | skip)) | (with_reducible intro _) | ((with_reducible refine And.intro ?_ ?_); (focus (exact sd0))) | ((first | ((with_reducible refine askT_of ?_ (fun hb => ?_)); (focus (exact sd0)); (try simp only [hb])) | ((with_reducible refine Vc.fin ?_); dsimp only [thenK, blockK, retK, resS, resOne, resAll]) | ((with_reducible refine Vc.hold ?_); first | refine Vc.regiont T0_ok GB4_ok ?_)); (try simp only [pickO, nthO, dropO, dOp.eq_def, v8A, strIx.eq_def, appT.eq_def, v8B, adr_some, adr_nil, true_or, dstOf, Bool.not_true, Bool.not_false, evs, evp, v8C, sget, sset, blen, bpush, bget, bset, Nat.beq, Nat.ble, Nat.blt.eq_def, nth?, tys, takeN, Nat.zero_add, fillS, splice, allOne, ordL, intL, wordL, rowL, sapp, resAll, und, lk, hav, agr, bpre, Int.reduceToNat, Int.reduceLE, Int.reduceLT, Nat.reduceLT, Nat.reduceLeDiff, Nat.reduceAdd, Nat.reduceMul, Nat.reduceSub, Int.reduceAdd, Int.reduceSub, Int.reduceMul, eq_self, decide_true, beq_self_eq_true, List.length_cons, List.length_nil, Nat.min_eq_left, IntKind.bits, tabs, GB4_hKno, g_hKno.eq_def, GB4_hRead, g_hRead.eq_def, GB4_hWrite, g_hWrite.eq_def, GB4_hCount, g_hCount.eq_def, GB4_hNum, g_hNum.eq_def, GB4_hAddr, g_hAddr.eq_def, GB4_same, g_same.eq_def]); (try simp (disch := omega) only [v8W])) | ((with_reducible refine hN _ _ ?_); clear hN N; (try simp (disch := omega) only [v8W])))); (try ((with_reducible refine Fin.of ?_); (try with_reducible exact True.intro))))
    exact ⟨trivial, trivial⟩
end Go.Proofs.YtcmgndhkdnjmnaaDoor
