/-
  The law RlpLists of package quaestorlaw04 answers true for all lists of items and all items, and leaves them as they were. No condition.
-/
import Derived.Test.YtlogpdjcgbifhaaZ4
import Derived.Test.YtlogpdjcgbifhaaFI
namespace Go.Proofs.Ytlogpdjcgbifhaa
set_option linter.unusedSimpArgs false
set_option linter.unusedVariables false
set_option maxHeartbeats 4000000
set_option linter.defProp false
open Go.RowKit Go.ChangeShapes Go.WideShapes Go.ChangeAt
noncomputable def g_muchA (args : List SV) (m : List Blk) : CR :=
  match args with
  | [.agg [.bool b, .nilsl, .gh a n c (.rows 3 rs)], .int .i64 w] => .pure (∃ t, ItR (HM m) [.bool b, .gh none 0 0 (.ints .u8 []), .gh a n c (.rows 3 rs)] t ∧ 0 ≤ w ∧ w ≤ 1001) (.int .i64 (mu (tOf [.bool b, .gh none 0 0 (.ints .u8 []), .gh a n c (.rows 3 rs)]) w))
  | [.agg l, .int .i64 w] => .pure (∃ t, ItR (HM m) l t ∧ 0 ≤ w ∧ w ≤ 1001) (.int .i64 (mu (tOf l) w))
  | _ => .none
theorem g_muchA_ok (w0 : World) (B : List Nat) (args : List SV) (m : List Blk) : CROk Try.prog w0 B 9 args m (g_muchA args m) := by
  unfold g_muchA
  split
  · rename_i b a n c rs v
    exact g_much_ok w0 B [.agg [.bool b, .gh none 0 0 (.ints .u8 []), .gh a n c (.rows 3 rs)], .int .i64 v] m
  · rename_i l v _
    exact g_much_ok w0 B [.agg l, .int .i64 v] m
  · exact trivial
noncomputable def g_EncB (args : List SV) (m : List Blk) : CR :=
  match args with
  | [.agg [.bool b, .nilsl, .gh a n c (.rows 3 rs)]] => .own (∃ t, ItR (HM m) [.bool b, .gh none 0 0 (.ints .u8 []), .gh a n c (.rows 3 rs)] t ∧ cntI t ≤ 10000 ∧ isz t ≤ 100000) 5 1 (enc (tOf [.bool b, .gh none 0 0 (.ints .u8 []), .gh a n c (.rows 3 rs)])).length (.ints .u8 (enc (tOf [.bool b, .gh none 0 0 (.ints .u8 []), .gh a n c (.rows 3 rs)]))) (fun v => v)
  | [.agg l] => .own (∃ t, ItR (HM m) l t ∧ cntI t ≤ 10000 ∧ isz t ≤ 100000) 5 1 (enc (tOf l)).length (.ints .u8 (enc (tOf l))) (fun v => v)
  | _ => .none
theorem g_EncB_ok (w0 : World) (B : List Nat) (args : List SV) (m : List Blk) : CROk Try.prog w0 B 12 args m (g_EncB args m) := by
  unfold g_EncB
  split
  · rename_i b a n c rs
    exact g_EncA_ok w0 B [.agg [.bool b, .gh none 0 0 (.ints .u8 []), .gh a n c (.rows 3 rs)]] m
  · rename_i l _
    exact g_EncA_ok w0 B [.agg l] m
  · exact trivial
noncomputable def GZ7 : Ctr := fun f args m => match f with
  | 12 => g_EncB args m
  | 10 => g_xlKnown args m
  | 9 => g_muchA args m
  | 11 => g_sby args m
  | _ => .none
theorem GZ7_ok : GOk Try.prog GZ7 := by
  intro w0 B f args m; unfold GZ7; split
  · exact g_EncB_ok _ _ _ _
  · exact g_xlKnown_ok _ _ _ _
  · exact g_muchA_ok _ _ _ _
  · exact g_sby_ok _ _ _ _
  · exact trivial
theorem GZ7_EncB : GZ7 12 = g_EncB := by funext args m; rfl
theorem GZ7_xlKnown : GZ7 10 = g_xlKnown := by funext args m; rfl
theorem GZ7_muchA : GZ7 9 = g_muchA := by funext args m; rfl
theorem GZ7_sby : GZ7 11 = g_sby := by funext args m; rfl
def GZ7_set := And.intro (And.intro (And.intro (@GZ7_EncB) (@g_EncB.eq_def)) (And.intro (@GZ7_xlKnown) (@g_xlKnown.eq_def))) (And.intro (And.intro (@GZ7_muchA) (@g_muchA.eq_def)) (And.intro (@GZ7_sby) (@g_sby.eq_def)))

theorem leB_mono : ∀ (f n m : Nat), n ≤ m → m < 256 ^ f → f ≤ 8 → (leB n).length ≤ (leB m).length
  | 0, n, m, h, hm, _ => by
    have : m = 0 := by simpa using hm
    have : n = 0 := by omega
    subst this; exact Nat.zero_le _
  | f + 1, n, m, h, hm, hf => by
    have h8 : (256 : Nat) ^ (f + 1) ≤ 256 ^ 8 := Nat.pow_le_pow_right (by decide) hf
    rw [show (256 : Nat) ^ 8 = 18446744073709551616 from rfl] at h8
    by_cases hn : n = 0
    · subst hn; exact Nat.zero_le _
    · rw [leB_s (n := n) (by omega) hn, leB_s (n := m) (by omega) (by omega), List.length_cons, List.length_cons]
      have := leB_mono f (n / 256) (m / 256) (Nat.div_le_div_right h) (by rw [Nat.pow_succ] at hm; exact Nat.div_lt_of_lt_mul (by omega)) (by omega)
      omega
theorem hdB_mono {e : Int} {n m : Nat} (h : n ≤ m) (hm : m < 18446744073709551616) : (hdB e n).length ≤ (hdB e m).length := by
  unfold hdB
  rw [List.length_reverse, List.length_reverse]
  have hl := leB_mono 8 n m h (by rw [show (256 : Nat) ^ 8 = 18446744073709551616 from rfl]; exact hm) (Nat.le_refl _)
  by_cases h1 : m ≤ 55
  · rw [hdR_lo (by omega), hdR_lo h1]; simp
  · rw [hdR_hi h1, List.length_append, List.length_singleton]
    by_cases h2 : n ≤ 55
    · rw [hdR_lo h2, List.length_singleton]; omega
    · rw [hdR_hi h2, List.length_append, List.length_singleton]; omega
theorem cntL_app : ∀ (x y : List Itm), cntL (x ++ y) = cntL x + cntL y
  | [], y => by simp [cntL]
  | k :: x, y => by simp only [List.cons_append, cntL]; rw [cntL_app x y]; omega
theorem iszL_app : ∀ (x y : List Itm), iszL (x ++ y) = iszL x + iszL y
  | [], y => by simp [iszL]
  | k :: x, y => by simp only [List.cons_append, iszL]; rw [iszL_app x y]; omega
theorem encL_one (t : Itm) : encL [t] = enc t := by simp [encL]
theorem take_more {α : Type} {rs : List α} {i : Nat} {r : α} (h : rs[i]? = some r) : rs.take (i + 1) = rs.take i ++ [r] := by rw [List.take_add_one, h]; rfl
theorem encL_take {ks : List Itm} {i : Nat} {k : Itm} (h : ks[i]? = some k) : encL (ks.take (i + 1)) = encL (ks.take i) ++ enc k := by rw [take_more h, encL_app, encL_one]
theorem encL_mono {ks : List Itm} (i : Nat) : (encL (ks.take i)).length ≤ (encL ks).length := by
  have := congrArg (fun l => (encL l).length) (List.take_append_drop i ks)
  simp only [encL_app, List.length_append] at this
  omega
set_option maxRecDepth 20000 in
theorem rlpLists_law (a : Option Addr) (n c : Nat) (rs : List (List SV)) (ks : List Itm) (lx : List SV) (tx : Itm) (w : World) (hI : ItR (H0 w) [.bool true, .gh none 0 0 (.ints .u8 []), .gh a n c (.rows 3 rs)] (.mk true [] ks)) (hX : ItR (H0 w) lx tx) :
    Calls Try.prog 7 (cvs [.gh a n c (.rows 3 rs), .agg lx]).toArray w (Yes w) := by
  obtain ⟨xb, xa, xn, xc, xs, xa', xn', xc', xrs, rfl⟩ := it_shape hX
  have hi2 : ItR (H0 w) [.bool false, .gh none 0 0 (.ints .u8 []), .gh a n c (.rows 3 rs)] (.mk false [] ks) := by
    cases hI with
    | mk h1 h2 h3 h4 h5 h6 h7 h8 h9 h10 h11 h12 h13 h14 => exact .mk h1 h2 h3 h4 h5 h6 h7 h8 h9 h10 h11 h12 h13 h14
  have hti := tOf_eq hI
  have hti2 := tOf_eq hi2
  have htx := tOf_eq hX
  have hallx := enc_all hX
  have hall := enc_all hI
  have hP2 : ∀ M, allOld w ∈ M → ∃ t, ItR (HM M) [.bool false, .gh none 0 0 (.ints .u8 []), .gh a n c (.rows 3 rs)] t ∧ True ∧ True := fun M hin => ⟨_, hi2.mono (H0.hm hin), trivial, trivial⟩
  have hPx : ∀ M, allOld w ∈ M → ∃ t, ItR (HM M) [.bool xb, .gh xa xn xc (.ints .u8 xs), .gh xa' xn' xc' (.rows 3 xrs)] t ∧ True ∧ True := fun M hin => ⟨_, hX.mono (H0.hm hin), trivial, trivial⟩
  by_cases hA : n ≤ 50 ∧ mu tx 0 ≤ 500 ∧ mu (.mk false [] ks) 0 ≤ 500
  · obtain ⟨a1, a2, a3⟩ := hA
    have d1 : decide ((50 : Int) < (n : Int)) = false := decide_eq_false (by omega)
    have d2 : decide ((500 : Int) < mu tx 0) = false := decide_eq_false (by omega)
    have d3 : decide ((500 : Int) < mu (.mk false [] ks) 0) = false := decide_eq_false (by omega)
    obtain ⟨b1, b2⟩ := mu_bounds tx 0 (by omega)
    obtain ⟨b3, b4⟩ := mu_bounds (.mk false [] ks) 0 (by omega)
    simp only [isz, cntI, List.length_nil] at b3 b4
    cases hI with
    | @mk _ _ _ _ _ _ _ _ _ _ h1 h2 h3 h4 h5 h6 h7 h8 h9 h10 h11 h12 h13 h14 =>
      have hLr : ∀ M, allOld w ∈ M → LiesH (HM M) a (cc (.rows 3 rs)) := fun M hin => h10.mono (H0.hm hin)
      have hel := encL_len ks
      have hPt : ∀ M, allOld w ∈ M → ∃ t, ItR (HM M) [.bool true, .gh none 0 0 (.ints .u8 []), .gh a n c (.rows 3 rs)] t ∧ cntI t ≤ 10000 ∧ isz t ≤ 100000 := fun M hin => ⟨_, (ItR.mk h1 h2 h3 h4 h5 h6 h7 h8 h9 h10 h11 h12 h13 h14).mono (H0.hm hin), by simp only [cntI]; omega, by simp only [isz, List.length_nil]; omega⟩
      refine Vc.calls T0_ok Try.func7 rfl rfl (args := [.gh a n c (.rows 3 rs), .agg [.bool xb, .gh xa xn xc (.ints .u8 xs), .gh xa' xn' xc' (.rows 3 xrs)]]) (k := 87) rfl (old_start w) ?_; change Vc _ _ (c8 (.gh a n c (.rows 3 rs)) (.agg [.bool xb, .gh xa xn xc (.ints .u8 xs), .gh xa' xn' xc' (.rows 3 xrs)]) .undef .undef .undef .undef .undef .undef (c8 .undef .undef .undef .undef .undef .undef .undef .undef (c8 .undef .undef .undef .undef .undef .undef .undef .undef (c8 .undef .undef .undef .undef .undef .undef .undef .undef (c8 .undef .undef .undef .undef .undef .undef .undef .undef (c8 .undef .undef .undef .undef .undef .undef .undef .undef (c8 .undef .undef .undef .undef .undef .undef .undef .undef (c8 .undef .undef .undef .undef .undef .undef .undef .undef (c8 .undef .undef .undef .undef .undef .undef .undef .undef (c8 .undef .undef .undef .undef .undef .undef .undef .undef (c8 .undef .undef .undef .undef .undef .undef .undef .undef ([.undef])))))))))))) _ _
      ((repeat (first | (with_reducible refine Vc.seq fun N hN => ?_) | (with_reducible refine Vc.block ?_) | ((first | with_reducible refine Vc.skip ?_ | with_reducible refine Vc.exit ?_); dsimp only [thenK, blockK, Nat.beq]; (first | (refine hN _ _ ?_; clear hN N) | skip)) | (with_reducible intro _) | ((with_reducible refine And.intro ?_ ?_); (focus (first | ((repeat' with_reducible apply And.intro) <;> first | exact sideQ | (exact hPx _ List.mem_cons_self) | (exact hP2 _ List.mem_cons_self)) | exact sd0))) | ((first | ((with_reducible refine askT_of ?_ (fun hb => ?_)); (focus (first | ((repeat' with_reducible apply And.intro) <;> first | exact sideQ | (exact hPx _ List.mem_cons_self) | (exact hP2 _ List.mem_cons_self)) | exact sd0)); (try simp only [hb])) | ((with_reducible refine Vc.fin ?_); dsimp only [thenK, blockK, retK, resS, resOne, resAll]) | ((with_reducible refine Vc.hold ?_); first | refine Vc.regiont T0_ok GZ7_ok ?_)); (try simp only [v8X, v8A, v8B, v8C, Nat.beq, Nat.ble, Int.reduceToNat, Int.reduceLE, Int.reduceLT, Nat.reduceLT, Nat.reduceLeDiff, Nat.reduceAdd, Nat.reduceMul, Nat.reduceSub, Int.reduceAdd, Int.reduceSub, Int.reduceMul, eq_self, decide_true, beq_self_eq_true, List.length_cons, List.length_nil, Nat.min_eq_left, IntKind.bits, tabs, GZ7_set, d1, d2, d3, htx, hti2]); (try simp (disch := omega) only [v8W])) | ((with_reducible refine hN _ _ ?_); clear hN N; (try simp (disch := omega) only [v8W])))); (try ((with_reducible refine Fin.of ?_); (try with_reducible exact True.intro))))
      (refine Vc.cond T0_ok (t := false) (by rfl) (fun h => Bool.noConfusion h) (fun _ => ?_))
      ((repeat (first | (with_reducible refine Vc.seq fun N hN => ?_) | (with_reducible refine Vc.block ?_) | ((first | with_reducible refine Vc.skip ?_ | with_reducible refine Vc.exit ?_); dsimp only [thenK, blockK, Nat.beq]; (first | (refine hN _ _ ?_; clear hN N) | skip)) | (with_reducible intro _) | ((with_reducible refine And.intro ?_ ?_); (focus (first | ((repeat' with_reducible apply And.intro) <;> first | exact sideQ | (exact hPx _ List.mem_cons_self) | (exact hP2 _ List.mem_cons_self)) | exact sd0))) | ((first | ((with_reducible refine askT_of ?_ (fun hb => ?_)); (focus (first | ((repeat' with_reducible apply And.intro) <;> first | exact sideQ | (exact hPx _ List.mem_cons_self) | (exact hP2 _ List.mem_cons_self)) | exact sd0)); (try simp only [hb])) | ((with_reducible refine Vc.fin ?_); dsimp only [thenK, blockK, retK, resS, resOne, resAll]) | ((with_reducible refine Vc.hold ?_); first | refine Vc.regiont T0_ok GZ7_ok ?_)); (try simp only [v8X, v8A, v8B, v8C, Nat.beq, Nat.ble, Int.reduceToNat, Int.reduceLE, Int.reduceLT, Nat.reduceLT, Nat.reduceLeDiff, Nat.reduceAdd, Nat.reduceMul, Nat.reduceSub, Int.reduceAdd, Int.reduceSub, Int.reduceMul, eq_self, decide_true, beq_self_eq_true, List.length_cons, List.length_nil, Nat.min_eq_left, IntKind.bits, tabs, GZ7_set, d1, d2, d3, htx, hti2]); (try simp (disch := omega) only [v8W])) | ((with_reducible refine hN _ _ ?_); clear hN N; (try simp (disch := omega) only [v8W])))); (try ((with_reducible refine Fin.of ?_); (try with_reducible exact True.intro))))
      rename_i bY bX
      (revert N; intro N1 hN1)
      refine Vc.nilown 5 5 1 .u8 rfl ?_
      refine Vc.nilownR 6 25 3 rfl ?_
      (simp only [v8X, v8A, v8B, v8C, Nat.beq, Nat.ble, Int.reduceToNat, Int.reduceLE, Int.reduceLT, Nat.reduceLT, Nat.reduceLeDiff, Nat.reduceAdd, Nat.reduceMul, Nat.reduceSub, Int.reduceAdd, Int.reduceSub, Int.reduceMul, eq_self, decide_true, beq_self_eq_true, List.length_cons, List.length_nil, Nat.min_eq_left, IntKind.bits, tabs])
      refine Vc.loop 5 50 (fun (x : (Nat × List Int × List (List SV)) × Value × Value) => [(5, .own 2 x.2.1 x.1.2.1.length), (6, .own 3 x.2.2 x.1.1), (7, .int .i64 (x.1.1 : Nat))]) (fun x => [allOld w, .blk bY 25 (.cells [.bool xb, .gh xa xn xc (.ints .u8 xs), .gh xa' xn' xc' (.rows 3 xrs)]), .own x.2.1 x.1.2.1.length 5 1 (.ints .u8 x.1.2.1), .own x.2.2 x.1.1 25 3 (.rows 3 x.1.2.2)]) (fun x => x.1.1 ≤ n ∧ x.1.2.1 = encL (ks.take x.1.1) ∧ x.1.2.2 = rs.take x.1.1) (fun x => n - x.1.1) ((0, [], []), .slice none 0 0, .slice none 0 0) ⟨⟨Nat.zero_le _, by simp [encL], by simp⟩, ?_, ?_⟩ (fun x junk hx2 => ?_)
      · ((try simp only [v8X, v8A, v8B, v8C, Nat.beq, Nat.ble, Int.reduceToNat, Int.reduceLE, Int.reduceLT, Nat.reduceLT, Nat.reduceLeDiff, Nat.reduceAdd, Nat.reduceMul, Nat.reduceSub, Int.reduceAdd, Int.reduceSub, Int.reduceMul, eq_self, decide_true, beq_self_eq_true, List.length_cons, List.length_nil, Nat.min_eq_left, IntKind.bits, tabs]); (repeat' with_reducible apply And.intro) <;> first | with_reducible exact True.intro | rfl | with_reducible rfl | (congr 1 <;> omega) | trivial)
      · ((try simp only [v8X, v8A, v8B, v8C, Nat.beq, Nat.ble, Int.reduceToNat, Int.reduceLE, Int.reduceLT, Nat.reduceLT, Nat.reduceLeDiff, Nat.reduceAdd, Nat.reduceMul, Nat.reduceSub, Int.reduceAdd, Int.reduceSub, Int.reduceMul, eq_self, decide_true, beq_self_eq_true, List.length_cons, List.length_nil, Nat.min_eq_left, IntKind.bits, tabs]); (repeat' with_reducible apply And.intro) <;> first | with_reducible exact True.intro | rfl | with_reducible rfl | (congr 1 <;> omega) | trivial)
      · obtain ⟨⟨k, E, R⟩, v5, v6⟩ := x
        simp only at hx2 ⊢
        obtain ⟨hk1, hE, hR⟩ := hx2
        (simp only [v8X, v8A, v8B, v8C, Nat.beq, Nat.ble, Int.reduceToNat, Int.reduceLE, Int.reduceLT, Nat.reduceLT, Nat.reduceLeDiff, Nat.reduceAdd, Nat.reduceMul, Nat.reduceSub, Int.reduceAdd, Int.reduceSub, Int.reduceMul, eq_self, decide_true, beq_self_eq_true, List.length_cons, List.length_nil, Nat.min_eq_left, IntKind.bits, tabs])
        by_cases hc1 : k < n
        · have e0 : decide ((k : Int) < (n : Int)) = true := decide_eq_true (by omega)
          have e1 := List.getElem?_eq_getElem (show k < rs.length by omega)
          have e2 := List.getElem?_eq_getElem (show k < ks.length by omega)
          have hkid := h12 k _ _ e1 e2
          have hsz := iszL_get e2
          have hcn := cntL_get e2
          have hkl := encL_len (ks.take k)
          have hEl := encL_take e2
          have hRl := take_more e1
          have hti3 := tOf_eq hkid
          have hP : ∀ M, allOld w ∈ M → ∃ t, ItR (HM M) rs[k] t ∧ cntI t ≤ 10000 ∧ isz t ≤ 100000 := fun M hin => ⟨_, hkid.mono (H0.hm hin), by omega, by omega⟩
          have hgd := getD_of e1
          rw [← hE] at hEl
          rw [← hR] at hRl
          generalize rs[k] = r at *
          generalize ks[k] = kk at *
          cases hkid with
          | @mk l2 a2 a2' m2 c2 m2' c2' bs2 rs2 ks2 g1 g2 g3 g4 g5 g6 g7 g8 g9 g10 g11 g12 g13 g14 =>
            ((repeat (first | (with_reducible refine Vc.seq fun N hN => ?_) | (with_reducible refine Vc.block ?_) | ((first | with_reducible refine Vc.skip ?_ | with_reducible refine Vc.exit ?_); dsimp only [thenK, blockK, Nat.beq]; (first | (refine hN _ _ ?_; clear hN N) | skip)) | (with_reducible intro _) | ((with_reducible refine And.intro ?_ ?_); (focus (first | exact sideQ | exact sd0))) | ((first | ((with_reducible refine askT_of ?_ (fun hb => ?_)); (focus (first | exact sideQ | exact sd0)); (try simp only [hb])) | ((with_reducible refine Vc.fin ?_); dsimp only [thenK, blockK, retK, resS, resOne, resAll]) | ((with_reducible refine Vc.hold ?_); first | refine Vc.regiont T0_ok GZ7_ok ?_)); (try simp only [v8X, v8A, v8B, v8C, Nat.beq, Nat.ble, Int.reduceToNat, Int.reduceLE, Int.reduceLT, Nat.reduceLT, Nat.reduceLeDiff, Nat.reduceAdd, Nat.reduceMul, Nat.reduceSub, Int.reduceAdd, Int.reduceSub, Int.reduceMul, eq_self, decide_true, beq_self_eq_true, List.length_cons, List.length_nil, Nat.min_eq_left, IntKind.bits, tabs, GZ7_set, e0]); (try simp (disch := omega) only [v8W])) | ((with_reducible refine hN _ _ ?_); clear hN N; (try simp (disch := omega) only [v8W])))); (try ((with_reducible refine Fin.of ?_); (try with_reducible exact True.intro))))
            (refine Vc.cond T0_ok (t := true) (by rfl) (fun _ => ?_) (fun h => Bool.noConfusion h))
            have hla : (E ++ enc (.mk l2 bs2 ks2)).length = E.length + (enc (.mk l2 bs2 ks2)).length := List.length_append
            have hla2 : E.length + (enc (.mk l2 bs2 ks2)).length ≤ 140737488355328 := by rw [← hla, ← hEl]; have := encL_mono (ks := ks) (k + 1); omega
            have utk : (enc (.mk l2 bs2 ks2)).take (enc (.mk l2 bs2 ks2)).length = enc (.mk l2 bs2 ks2) := List.take_length
            ((repeat (first | (with_reducible refine Vc.seq fun N hN => ?_) | (with_reducible refine Vc.block ?_) | ((first | with_reducible refine Vc.skip ?_ | with_reducible refine Vc.exit ?_); dsimp only [thenK, blockK, Nat.beq]; (first | (refine hN _ _ ?_; clear hN N) | skip)) | (with_reducible intro _) | ((with_reducible refine And.intro ?_ ?_); (focus (first | ((repeat' with_reducible apply And.intro) <;> first | exact sideQ | (exact hLr _ List.mem_cons_self) | (exact hP _ List.mem_cons_self)) | exact sd0))) | ((first | ((with_reducible refine askT_of ?_ (fun hb => ?_)); (focus (first | ((repeat' with_reducible apply And.intro) <;> first | exact sideQ | (exact hLr _ List.mem_cons_self) | (exact hP _ List.mem_cons_self)) | exact sd0)); (try simp only [hb])) | ((with_reducible refine Vc.fin ?_); dsimp only [thenK, blockK, retK, resS, resOne, resAll]) | ((with_reducible refine Vc.hold ?_); first | refine Vc.regiont T0_ok GZ7_ok ?_)); (try simp only [v8X, v8A, v8B, v8C, Nat.beq, Nat.ble, Int.reduceToNat, Int.reduceLE, Int.reduceLT, Nat.reduceLT, Nat.reduceLeDiff, Nat.reduceAdd, Nat.reduceMul, Nat.reduceSub, Int.reduceAdd, Int.reduceSub, Int.reduceMul, eq_self, decide_true, beq_self_eq_true, List.length_cons, List.length_nil, Nat.min_eq_left, IntKind.bits, tabs, GZ7_set, hgd, hti3, utk, List.drop_zero, tnc, conEs.eq_def, conN.eq_def]); (try simp (disch := omega) only [v8W])) | ((with_reducible refine hN _ _ ?_); clear hN N; (try simp (disch := omega) only [v8W])))); (try ((with_reducible refine Fin.of ?_); (try with_reducible exact True.intro))))
            rename_i va vb bb vc
            refine ⟨((k + 1, E ++ enc (.mk l2 bs2 ks2), R ++ [[.bool l2, .gh a2 m2 c2 (.ints .u8 bs2), .gh a2' m2' c2' (.rows 3 rs2)]]), vb, vc), ⟨by simp only; omega, hEl.symm, hRl.symm⟩, ?_, ?_, by simp only; omega⟩
            · ((try simp only [v8X, v8A, v8B, v8C, Nat.beq, Nat.ble, Int.reduceToNat, Int.reduceLE, Int.reduceLT, Nat.reduceLT, Nat.reduceLeDiff, Nat.reduceAdd, Nat.reduceMul, Nat.reduceSub, Int.reduceAdd, Int.reduceSub, Int.reduceMul, eq_self, decide_true, beq_self_eq_true, List.length_cons, List.length_nil, Nat.min_eq_left, IntKind.bits, tabs]); (repeat' with_reducible apply And.intro) <;> first | with_reducible exact True.intro | rw [hla] | (congr 1 <;> omega))
            · ((try simp only [v8X, v8A, v8B, v8C, Nat.beq, Nat.ble, Int.reduceToNat, Int.reduceLE, Int.reduceLT, Nat.reduceLT, Nat.reduceLeDiff, Nat.reduceAdd, Nat.reduceMul, Nat.reduceSub, Int.reduceAdd, Int.reduceSub, Int.reduceMul, eq_self, decide_true, beq_self_eq_true, List.length_cons, List.length_nil, Nat.min_eq_left, IntKind.bits, tabs]); (repeat' with_reducible apply And.intro) <;> first | with_reducible exact True.intro | rw [hla] | (congr 1 <;> omega))
        · obtain rfl : k = n := by omega
          have e0 : decide ((k : Int) < (k : Int)) = false := decide_eq_false (by omega)
          have hE2 : E = encL ks := by rw [hE, List.take_of_length_le (by omega)]
          have hR2 : R = rs := by rw [hR, List.take_of_length_le (by omega)]
          subst hE2 hR2
          ((repeat (first | (with_reducible refine Vc.seq fun N hN => ?_) | (with_reducible refine Vc.block ?_) | ((first | with_reducible refine Vc.skip ?_ | with_reducible refine Vc.exit ?_); dsimp only [thenK, blockK, Nat.beq]; (first | (refine hN _ _ ?_; clear hN N) | skip)) | (with_reducible intro _) | ((with_reducible refine And.intro ?_ ?_); (focus (first | exact sideQ | exact sd0))) | ((first | ((with_reducible refine askT_of ?_ (fun hb => ?_)); (focus (first | exact sideQ | exact sd0)); (try simp only [hb])) | ((with_reducible refine Vc.fin ?_); dsimp only [thenK, blockK, retK, resS, resOne, resAll]) | ((with_reducible refine Vc.hold ?_); first | refine Vc.regiont T0_ok GZ7_ok ?_)); (try simp only [v8X, v8A, v8B, v8C, Nat.beq, Nat.ble, Int.reduceToNat, Int.reduceLE, Int.reduceLT, Nat.reduceLT, Nat.reduceLeDiff, Nat.reduceAdd, Nat.reduceMul, Nat.reduceSub, Int.reduceAdd, Int.reduceSub, Int.reduceMul, eq_self, decide_true, beq_self_eq_true, List.length_cons, List.length_nil, Nat.min_eq_left, IntKind.bits, tabs, GZ7_set, e0]); (try simp (disch := omega) only [v8W])) | ((with_reducible refine hN _ _ ?_); clear hN N; (try simp (disch := omega) only [v8W])))); (try ((with_reducible refine Fin.of ?_); (try with_reducible exact True.intro))))
          (refine Vc.cond T0_ok (t := false) (by rfl) (fun h => Bool.noConfusion h) (fun _ => ?_))
          ((repeat (first | (with_reducible refine Vc.seq fun N hN => ?_) | (with_reducible refine Vc.block ?_) | ((first | with_reducible refine Vc.skip ?_ | with_reducible refine Vc.exit ?_); dsimp only [thenK, blockK, Nat.beq]; (first | (refine hN _ _ ?_; clear hN N) | skip)) | (with_reducible intro _) | ((with_reducible refine And.intro ?_ ?_); (focus (first | exact sideQ | exact sd0))) | ((first | ((with_reducible refine askT_of ?_ (fun hb => ?_)); (focus (first | exact sideQ | exact sd0)); (try simp only [hb])) | ((with_reducible refine Vc.fin ?_); dsimp only [thenK, blockK, retK, resS, resOne, resAll]) | ((with_reducible refine Vc.hold ?_); first | refine Vc.regiont T0_ok GZ7_ok ?_)); (try simp only [v8X, v8A, v8B, v8C, Nat.beq, Nat.ble, Int.reduceToNat, Int.reduceLE, Int.reduceLT, Nat.reduceLT, Nat.reduceLeDiff, Nat.reduceAdd, Nat.reduceMul, Nat.reduceSub, Int.reduceAdd, Int.reduceSub, Int.reduceMul, eq_self, decide_true, beq_self_eq_true, List.length_cons, List.length_nil, Nat.min_eq_left, IntKind.bits, tabs, GZ7_set]); (try simp (disch := omega) only [v8W])) | ((with_reducible refine hN _ _ ?_); clear hN N; (try simp (disch := omega) only [v8W])))); (try ((with_reducible refine Fin.of ?_); (try with_reducible exact True.intro))))
          (refine hN1 _ _ ?_; (try clear hN N); clear hN1 N1)
          ((with_reducible refine Vc.seq fun N hN => ?_); (refine Vc.regiont T0_ok GZ7_ok ?_); simp only [v8X, v8A, v8B, v8C, Nat.beq, Nat.ble, Int.reduceToNat, Int.reduceLE, Int.reduceLT, Nat.reduceLT, Nat.reduceLeDiff, Nat.reduceAdd, Nat.reduceMul, Nat.reduceSub, Int.reduceAdd, Int.reduceSub, Int.reduceMul, eq_self, decide_true, beq_self_eq_true, List.length_cons, List.length_nil, Nat.min_eq_left, IntKind.bits, tabs, GZ7_set, hti, htx, tnc]; (try simp (disch := omega) only [v8W]); (repeat (first | with_reducible intro _ | ((with_reducible refine And.intro ?_ ?_); (focus (first | ((repeat' with_reducible apply And.intro) <;> first | exact sideQ | (exact hLr _ List.mem_cons_self) | (exact hPt _ List.mem_cons_self)) | exact sd0))) | ((with_reducible refine askT_of ?_ (fun hb => ?_)); (focus (first | ((repeat' with_reducible apply And.intro) <;> first | exact sideQ | (exact hLr _ List.mem_cons_self) | (exact hPt _ List.mem_cons_self)) | exact sd0)); simp only [hb, v8X, v8A, v8B, v8C, Nat.beq, Nat.ble, Int.reduceToNat, Int.reduceLE, Int.reduceLT, Nat.reduceLT, Nat.reduceLeDiff, Nat.reduceAdd, Nat.reduceMul, Nat.reduceSub, Int.reduceAdd, Int.reduceSub, Int.reduceMul, eq_self, decide_true, beq_self_eq_true, List.length_cons, List.length_nil, Nat.min_eq_left, IntKind.bits, tabs, GZ7_set, hti, htx, tnc]; (try simp (disch := omega) only [v8W])))); (first | (refine hN _ _ ?_; clear hN N; (try simp (disch := omega) only [v8W])) | skip))
          ((with_reducible refine Vc.seq fun N hN => ?_); (refine Vc.regiont T0_ok GZ7_ok ?_); simp only [v8X, v8A, v8B, v8C, Nat.beq, Nat.ble, Int.reduceToNat, Int.reduceLE, Int.reduceLT, Nat.reduceLT, Nat.reduceLeDiff, Nat.reduceAdd, Nat.reduceMul, Nat.reduceSub, Int.reduceAdd, Int.reduceSub, Int.reduceMul, eq_self, decide_true, beq_self_eq_true, List.length_cons, List.length_nil, Nat.min_eq_left, IntKind.bits, tabs, GZ7_set, hti, htx, tnc]; (try simp (disch := omega) only [v8W]); (repeat (first | with_reducible intro _ | ((with_reducible refine And.intro ?_ ?_); (focus (first | ((repeat' with_reducible apply And.intro) <;> first | exact sideQ | (exact hLr _ List.mem_cons_self) | (exact hPt _ List.mem_cons_self)) | exact sd0))) | ((with_reducible refine askT_of ?_ (fun hb => ?_)); (focus (first | ((repeat' with_reducible apply And.intro) <;> first | exact sideQ | (exact hLr _ List.mem_cons_self) | (exact hPt _ List.mem_cons_self)) | exact sd0)); simp only [hb, v8X, v8A, v8B, v8C, Nat.beq, Nat.ble, Int.reduceToNat, Int.reduceLE, Int.reduceLT, Nat.reduceLT, Nat.reduceLeDiff, Nat.reduceAdd, Nat.reduceMul, Nat.reduceSub, Int.reduceAdd, Int.reduceSub, Int.reduceMul, eq_self, decide_true, beq_self_eq_true, List.length_cons, List.length_nil, Nat.min_eq_left, IntKind.bits, tabs, GZ7_set, hti, htx, tnc]; (try simp (disch := omega) only [v8W])))); (first | (refine hN _ _ ?_; clear hN N; (try simp (disch := omega) only [v8W])) | skip))
          rename_i vA bA vB
          refine Vc.freeze 3 rfl fun a' cp l hv ha hc hmx hcl hLi => ?_
          subst hv
          simp only [bset, bpush]
          refine Vc.nameS 6 (.gh a' (k + 1) cp (.rows 3 (R ++ [[.bool xb, .gh xa xn xc (.ints .u8 xs), .gh xa' xn' xc' (.rows 3 xrs)]]))) rfl ?_
          (simp only [v8X, v8A, v8B, v8C, Nat.beq, Nat.ble, Int.reduceToNat, Int.reduceLE, Int.reduceLT, Nat.reduceLT, Nat.reduceLeDiff, Nat.reduceAdd, Nat.reduceMul, Nat.reduceSub, Int.reduceAdd, Int.reduceSub, Int.reduceMul, eq_self, decide_true, beq_self_eq_true, List.length_cons, List.length_nil, Nat.min_eq_left, IntKind.bits, tabs])
          have hIk : ∀ M, allOld w ∈ M → Blk.heap l ∈ M → ItR (HM M) [.bool true, .gh none 0 0 (.ints .u8 []), .gh a' (k + 1) cp (.rows 3 (R ++ [[.bool xb, .gh xa xn xc (.ints .u8 xs), .gh xa' xn' xc' (.rows 3 xrs)]]))] (.mk true [] (ks ++ [tx])) := fun M hin hil => by
            refine .mk rfl (Nat.le_refl _) (.inr ⟨rfl, rfl, rfl⟩) (.inl rfl) (fun _ h => absurd h List.not_mem_nil) (by rw [List.length_append, h6]; rfl) hc ha (fun r hr => ?_) (hLi.mono (Hl.hm hil fun p hp => hp)) (by rw [List.length_append, List.length_append, h11]; rfl) (fun i r t hr ht => ?_) (Nat.zero_le _) hmx
            · rcases List.mem_append.1 hr with hr | hr
              · exact h9 r hr
              · rw [List.mem_singleton] at hr; subst hr; rfl
            · by_cases hi : i < R.length
              · rw [List.getElem?_append_left hi] at hr
                rw [List.getElem?_append_left (by omega)] at ht
                exact (h12 i r t hr ht).mono (H0.hm hin)
              · rw [List.getElem?_append_right (by omega)] at hr
                rw [List.getElem?_append_right (by omega)] at ht
                rw [List.getElem?_singleton] at hr ht
                split at hr
                · rename_i h0
                  rw [if_pos (by omega)] at ht
                  cases hr; cases ht
                  exact hX.mono (H0.hm hin)
                · cases hr
          have hcA := cntL_app ks [tx]
          have hiA := iszL_app ks [tx]
          simp only [cntL, iszL] at hcA hiA
          have hPk : ∀ M, allOld w ∈ M → Blk.heap l ∈ M → ∃ t, ItR (HM M) [.bool true, .gh none 0 0 (.ints .u8 []), .gh a' (k + 1) cp (.rows 3 (R ++ [[.bool xb, .gh xa xn xc (.ints .u8 xs), .gh xa' xn' xc' (.rows 3 xrs)]]))] t ∧ cntI t ≤ 10000 ∧ isz t ≤ 100000 := fun M hin hil => ⟨_, hIk M hin hil, by simp only [cntI]; omega, by simp only [isz, List.length_nil]; omega⟩
          have htk := tOf_eq (hIk [allOld w, .heap l] List.mem_cons_self (by simp))
          have hPx3 : ∀ M, allOld w ∈ M → ∃ t, ItR (HM M) [.bool xb, .gh xa xn xc (.ints .u8 xs), .gh xa' xn' xc' (.rows 3 xrs)] t ∧ cntI t ≤ 10000 ∧ isz t ≤ 100000 := fun M hin => ⟨_, hX.mono (H0.hm hin), by omega, by omega⟩
          have hAe := enc_list [] ks
          have hA2e := enc_list [] (ks ++ [tx])
          rw [encL_app, encL_one] at hA2e
          have hh1 := hdB_pos 192 (encL ks).length
          have hh2 := hdB_len 192 (encL ks).length
          have hAl : (enc (.mk true [] ks)).length = (hdB 192 (encL ks).length).length + (encL ks).length := by rw [hAe, List.length_append]
          have htl := enc_len tx
          have hmo := hdB_mono (e := 192) (n := (encL ks).length) (m := (encL ks).length + (enc tx).length) (by omega) (by omega)
          have hA2 : (enc (.mk true [] ks)).length + (enc tx).length ≤ (enc (.mk true [] (ks ++ [tx]))).length := by
            rw [hAl, hA2e]; simp only [List.length_append]; omega
          have hAd : (enc (.mk true [] ks)).drop (hdB 192 (encL ks).length).length = encL ks := by rw [hAe, List.drop_left]
          generalize (hdB 192 (encL ks).length).length = h at *
          have hsub : ((enc (.mk true [] ks)).length : Int) - ((encL ks).length : Int) = (h : Int) := by omega
          have hsubw : IntKind.i64.wrap (((enc (.mk true [] ks)).length : Int) - ((encL ks).length : Int)) = (h : Int) := by rw [hsub, IntKind.wrap_i64]; omega
          have hA2u := enc_len (.mk true [] (ks ++ [tx]))
          simp only [isz, List.length_nil] at hA2u
          have uA : (encL ks).take ((enc (.mk true [] ks)).length - h) = encL ks := List.take_of_length_le (by omega)
          have uB : (encL ks).take (encL ks).length = encL ks := List.take_length
          have hallB : allB (encL ks) := fun y hy => hall y (by rw [hAe]; exact List.mem_append_right _ hy)
          have d7 : decide (encL ks = encL ks) = true := decide_eq_true rfl
          have d8 : decide (((enc tx).length : Int) ≤ ((enc (.mk true [] (ks ++ [tx]))).length : Int) - ((enc (.mk true [] ks)).length : Int)) = true := decide_eq_true (by omega)
          have d5 : decide ((1 : Int) ≤ (h : Int)) = true := decide_eq_true (by omega)
          have d6 : decide ((h : Int) ≤ 9) = true := decide_eq_true (by omega)
          ((with_reducible refine Vc.seq fun N hN => ?_); (refine Vc.regiont T0_ok GZ7_ok ?_); simp only [v8X, v8A, v8B, v8C, Nat.beq, Nat.ble, Int.reduceToNat, Int.reduceLE, Int.reduceLT, Nat.reduceLT, Nat.reduceLeDiff, Nat.reduceAdd, Nat.reduceMul, Nat.reduceSub, Int.reduceAdd, Int.reduceSub, Int.reduceMul, eq_self, decide_true, beq_self_eq_true, List.length_cons, List.length_nil, Nat.min_eq_left, IntKind.bits, tabs, GZ7_set, htk, tnc]; (try simp (disch := omega) only [v8W]); (repeat (first | with_reducible intro _ | ((with_reducible refine And.intro ?_ ?_); (focus (first | ((repeat' with_reducible apply And.intro) <;> first | exact sideQ | (exact hLr _ List.mem_cons_self) | (exact hPk _ List.mem_cons_self (by simp))) | exact sd0))) | ((with_reducible refine askT_of ?_ (fun hb => ?_)); (focus (first | ((repeat' with_reducible apply And.intro) <;> first | exact sideQ | (exact hLr _ List.mem_cons_self) | (exact hPk _ List.mem_cons_self (by simp))) | exact sd0)); simp only [hb, v8X, v8A, v8B, v8C, Nat.beq, Nat.ble, Int.reduceToNat, Int.reduceLE, Int.reduceLT, Nat.reduceLT, Nat.reduceLeDiff, Nat.reduceAdd, Nat.reduceMul, Nat.reduceSub, Int.reduceAdd, Int.reduceSub, Int.reduceMul, eq_self, decide_true, beq_self_eq_true, List.length_cons, List.length_nil, Nat.min_eq_left, IntKind.bits, tabs, GZ7_set, htk, tnc]; (try simp (disch := omega) only [v8W])))); (first | (refine hN _ _ ?_; clear hN N; (try simp (disch := omega) only [v8W])) | skip))
          ((with_reducible refine Vc.seq fun N hN => ?_); (refine Vc.regiont T0_ok GZ7_ok ?_); simp only [v8X, v8A, v8B, v8C, Nat.beq, Nat.ble, Int.reduceToNat, Int.reduceLE, Int.reduceLT, Nat.reduceLT, Nat.reduceLeDiff, Nat.reduceAdd, Nat.reduceMul, Nat.reduceSub, Int.reduceAdd, Int.reduceSub, Int.reduceMul, eq_self, decide_true, beq_self_eq_true, List.length_cons, List.length_nil, Nat.min_eq_left, IntKind.bits, tabs, GZ7_set, hsub, hsubw, tnc]; (try simp (disch := omega) only [v8W]); (repeat (first | with_reducible intro _ | ((with_reducible refine And.intro ?_ ?_); (focus (first | ((repeat' with_reducible apply And.intro) <;> first | exact sideQ) | exact sd0))) | ((with_reducible refine askT_of ?_ (fun hb => ?_)); (focus (first | ((repeat' with_reducible apply And.intro) <;> first | exact sideQ) | exact sd0)); simp only [hb, v8X, v8A, v8B, v8C, Nat.beq, Nat.ble, Int.reduceToNat, Int.reduceLE, Int.reduceLT, Nat.reduceLT, Nat.reduceLeDiff, Nat.reduceAdd, Nat.reduceMul, Nat.reduceSub, Int.reduceAdd, Int.reduceSub, Int.reduceMul, eq_self, decide_true, beq_self_eq_true, List.length_cons, List.length_nil, Nat.min_eq_left, IntKind.bits, tabs, GZ7_set, hsub, hsubw, tnc]; (try simp (disch := omega) only [v8W])))); (first | (refine hN _ _ ?_; clear hN N; (try simp (disch := omega) only [v8W])) | skip))
          ((repeat (first | (with_reducible refine Vc.seq fun N hN => ?_) | (with_reducible refine Vc.block ?_) | ((first | with_reducible refine Vc.skip ?_ | with_reducible refine Vc.exit ?_); dsimp only [thenK, blockK, Nat.beq]; (first | (refine hN _ _ ?_; clear hN N) | skip)) | (with_reducible intro _) | ((with_reducible refine And.intro ?_ ?_); (focus (first | ((repeat' with_reducible apply And.intro) <;> first | exact sideQ | (exact hPx3 _ List.mem_cons_self)) | exact sd0))) | ((first | ((with_reducible refine askT_of ?_ (fun hb => ?_)); (focus (first | ((repeat' with_reducible apply And.intro) <;> first | exact sideQ | (exact hPx3 _ List.mem_cons_self)) | exact sd0)); (try simp only [hb])) | ((with_reducible refine Vc.fin ?_); dsimp only [thenK, blockK, retK, resS, resOne, resAll]) | ((with_reducible refine Vc.hold ?_); first | refine Vc.regiont T0_ok GZ7_ok ?_)); (try simp only [v8X, v8A, v8B, v8C, Nat.beq, Nat.ble, Int.reduceToNat, Int.reduceLE, Int.reduceLT, Nat.reduceLT, Nat.reduceLeDiff, Nat.reduceAdd, Nat.reduceMul, Nat.reduceSub, Int.reduceAdd, Int.reduceSub, Int.reduceMul, eq_self, decide_true, beq_self_eq_true, List.length_cons, List.length_nil, Nat.min_eq_left, IntKind.bits, tabs, GZ7_set, hAd, htx, uA, uB, d5, d6, d7, d8, tnc, List.drop_zero]); (try simp (disch := omega) only [v8W])) | ((with_reducible refine hN _ _ ?_); clear hN N; (try simp (disch := omega) only [v8W])))); (try ((with_reducible refine Fin.of ?_); (try with_reducible exact True.intro))))
          exact ⟨by simp, trivial⟩
  · have hor : (decide ((50 : Int) < (n : Int)) = true) ∨ (decide ((50 : Int) < (n : Int)) = false ∧ decide ((500 : Int) < mu tx 0) = true) ∨ (decide ((50 : Int) < (n : Int)) = false ∧ decide ((500 : Int) < mu tx 0) = false ∧ decide ((500 : Int) < mu (.mk false [] ks) 0) = true) := by
      by_cases h1 : n ≤ 50
      · by_cases h2 : mu tx 0 ≤ 500
        · exact .inr (.inr ⟨decide_eq_false (by omega), decide_eq_false (by omega), decide_eq_true (by
            have : ¬ mu (.mk false [] ks) 0 ≤ 500 := fun h => hA ⟨h1, h2, h⟩
            omega)⟩)
        · exact .inr (.inl ⟨decide_eq_false (by omega), decide_eq_true (by omega)⟩)
      · exact .inl (decide_eq_true (by omega))
    rcases hor with d1 | ⟨d1, d2⟩ | ⟨d1, d2, d3⟩
    · refine Vc.calls T0_ok Try.func7 rfl rfl (args := [.gh a n c (.rows 3 rs), .agg [.bool xb, .gh xa xn xc (.ints .u8 xs), .gh xa' xn' xc' (.rows 3 xrs)]]) (k := 87) rfl (old_start w) ?_; change Vc _ _ (c8 (.gh a n c (.rows 3 rs)) (.agg [.bool xb, .gh xa xn xc (.ints .u8 xs), .gh xa' xn' xc' (.rows 3 xrs)]) .undef .undef .undef .undef .undef .undef (c8 .undef .undef .undef .undef .undef .undef .undef .undef (c8 .undef .undef .undef .undef .undef .undef .undef .undef (c8 .undef .undef .undef .undef .undef .undef .undef .undef (c8 .undef .undef .undef .undef .undef .undef .undef .undef (c8 .undef .undef .undef .undef .undef .undef .undef .undef (c8 .undef .undef .undef .undef .undef .undef .undef .undef (c8 .undef .undef .undef .undef .undef .undef .undef .undef (c8 .undef .undef .undef .undef .undef .undef .undef .undef (c8 .undef .undef .undef .undef .undef .undef .undef .undef (c8 .undef .undef .undef .undef .undef .undef .undef .undef ([.undef])))))))))))) _ _
      ((repeat (first | (with_reducible refine Vc.seq fun N hN => ?_) | (with_reducible refine Vc.block ?_) | ((first | with_reducible refine Vc.skip ?_ | with_reducible refine Vc.exit ?_); dsimp only [thenK, blockK, Nat.beq]; (first | (refine hN _ _ ?_; clear hN N) | skip)) | (with_reducible intro _) | ((with_reducible refine And.intro ?_ ?_); (focus (first | ((repeat' with_reducible apply And.intro) <;> first | exact sideQ | (exact hPx _ List.mem_cons_self) | (exact hP2 _ List.mem_cons_self)) | exact sd0))) | ((first | ((with_reducible refine askT_of ?_ (fun hb => ?_)); (focus (first | ((repeat' with_reducible apply And.intro) <;> first | exact sideQ | (exact hPx _ List.mem_cons_self) | (exact hP2 _ List.mem_cons_self)) | exact sd0)); (try simp only [hb])) | ((with_reducible refine Vc.fin ?_); dsimp only [thenK, blockK, retK, resS, resOne, resAll]) | ((with_reducible refine Vc.hold ?_); first | refine Vc.regiont T0_ok GZ7_ok ?_)); (try simp only [v8X, v8A, v8B, v8C, Nat.beq, Nat.ble, Int.reduceToNat, Int.reduceLE, Int.reduceLT, Nat.reduceLT, Nat.reduceLeDiff, Nat.reduceAdd, Nat.reduceMul, Nat.reduceSub, Int.reduceAdd, Int.reduceSub, Int.reduceMul, eq_self, decide_true, beq_self_eq_true, List.length_cons, List.length_nil, Nat.min_eq_left, IntKind.bits, tabs, GZ7_set, d1, htx, hti2]); (try simp (disch := omega) only [v8W])) | ((with_reducible refine hN _ _ ?_); clear hN N; (try simp (disch := omega) only [v8W])))); (try ((with_reducible refine Fin.of ?_); (try with_reducible exact True.intro))))
      (refine Vc.cond T0_ok (t := true) (by rfl) (fun _ => ?_) (fun h => Bool.noConfusion h))
      ((repeat (first | (with_reducible refine Vc.seq fun N hN => ?_) | (with_reducible refine Vc.block ?_) | ((first | with_reducible refine Vc.skip ?_ | with_reducible refine Vc.exit ?_); dsimp only [thenK, blockK, Nat.beq]; (first | (refine hN _ _ ?_; clear hN N) | skip)) | (with_reducible intro _) | ((with_reducible refine And.intro ?_ ?_); (focus (first | exact sideQ | exact sd0))) | ((first | ((with_reducible refine askT_of ?_ (fun hb => ?_)); (focus (first | exact sideQ | exact sd0)); (try simp only [hb])) | ((with_reducible refine Vc.fin ?_); dsimp only [thenK, blockK, retK, resS, resOne, resAll]) | ((with_reducible refine Vc.hold ?_); first | refine Vc.regiont T0_ok GZ7_ok ?_)); (try simp only [v8X, v8A, v8B, v8C, Nat.beq, Nat.ble, Int.reduceToNat, Int.reduceLE, Int.reduceLT, Nat.reduceLT, Nat.reduceLeDiff, Nat.reduceAdd, Nat.reduceMul, Nat.reduceSub, Int.reduceAdd, Int.reduceSub, Int.reduceMul, eq_self, decide_true, beq_self_eq_true, List.length_cons, List.length_nil, Nat.min_eq_left, IntKind.bits, tabs, GZ7_set]); (try simp (disch := omega) only [v8W])) | ((with_reducible refine hN _ _ ?_); clear hN N; (try simp (disch := omega) only [v8W])))); (try ((with_reducible refine Fin.of ?_); (try with_reducible exact True.intro))))
      exact ⟨by simp, trivial⟩
    · refine Vc.calls T0_ok Try.func7 rfl rfl (args := [.gh a n c (.rows 3 rs), .agg [.bool xb, .gh xa xn xc (.ints .u8 xs), .gh xa' xn' xc' (.rows 3 xrs)]]) (k := 87) rfl (old_start w) ?_; change Vc _ _ (c8 (.gh a n c (.rows 3 rs)) (.agg [.bool xb, .gh xa xn xc (.ints .u8 xs), .gh xa' xn' xc' (.rows 3 xrs)]) .undef .undef .undef .undef .undef .undef (c8 .undef .undef .undef .undef .undef .undef .undef .undef (c8 .undef .undef .undef .undef .undef .undef .undef .undef (c8 .undef .undef .undef .undef .undef .undef .undef .undef (c8 .undef .undef .undef .undef .undef .undef .undef .undef (c8 .undef .undef .undef .undef .undef .undef .undef .undef (c8 .undef .undef .undef .undef .undef .undef .undef .undef (c8 .undef .undef .undef .undef .undef .undef .undef .undef (c8 .undef .undef .undef .undef .undef .undef .undef .undef (c8 .undef .undef .undef .undef .undef .undef .undef .undef (c8 .undef .undef .undef .undef .undef .undef .undef .undef ([.undef])))))))))))) _ _
      ((repeat (first | (with_reducible refine Vc.seq fun N hN => ?_) | (with_reducible refine Vc.block ?_) | ((first | with_reducible refine Vc.skip ?_ | with_reducible refine Vc.exit ?_); dsimp only [thenK, blockK, Nat.beq]; (first | (refine hN _ _ ?_; clear hN N) | skip)) | (with_reducible intro _) | ((with_reducible refine And.intro ?_ ?_); (focus (first | ((repeat' with_reducible apply And.intro) <;> first | exact sideQ | (exact hPx _ List.mem_cons_self) | (exact hP2 _ List.mem_cons_self)) | exact sd0))) | ((first | ((with_reducible refine askT_of ?_ (fun hb => ?_)); (focus (first | ((repeat' with_reducible apply And.intro) <;> first | exact sideQ | (exact hPx _ List.mem_cons_self) | (exact hP2 _ List.mem_cons_self)) | exact sd0)); (try simp only [hb])) | ((with_reducible refine Vc.fin ?_); dsimp only [thenK, blockK, retK, resS, resOne, resAll]) | ((with_reducible refine Vc.hold ?_); first | refine Vc.regiont T0_ok GZ7_ok ?_)); (try simp only [v8X, v8A, v8B, v8C, Nat.beq, Nat.ble, Int.reduceToNat, Int.reduceLE, Int.reduceLT, Nat.reduceLT, Nat.reduceLeDiff, Nat.reduceAdd, Nat.reduceMul, Nat.reduceSub, Int.reduceAdd, Int.reduceSub, Int.reduceMul, eq_self, decide_true, beq_self_eq_true, List.length_cons, List.length_nil, Nat.min_eq_left, IntKind.bits, tabs, GZ7_set, d1, d2, htx, hti2]); (try simp (disch := omega) only [v8W])) | ((with_reducible refine hN _ _ ?_); clear hN N; (try simp (disch := omega) only [v8W])))); (try ((with_reducible refine Fin.of ?_); (try with_reducible exact True.intro))))
      (refine Vc.cond T0_ok (t := true) (by rfl) (fun _ => ?_) (fun h => Bool.noConfusion h))
      ((repeat (first | (with_reducible refine Vc.seq fun N hN => ?_) | (with_reducible refine Vc.block ?_) | ((first | with_reducible refine Vc.skip ?_ | with_reducible refine Vc.exit ?_); dsimp only [thenK, blockK, Nat.beq]; (first | (refine hN _ _ ?_; clear hN N) | skip)) | (with_reducible intro _) | ((with_reducible refine And.intro ?_ ?_); (focus (first | exact sideQ | exact sd0))) | ((first | ((with_reducible refine askT_of ?_ (fun hb => ?_)); (focus (first | exact sideQ | exact sd0)); (try simp only [hb])) | ((with_reducible refine Vc.fin ?_); dsimp only [thenK, blockK, retK, resS, resOne, resAll]) | ((with_reducible refine Vc.hold ?_); first | refine Vc.regiont T0_ok GZ7_ok ?_)); (try simp only [v8X, v8A, v8B, v8C, Nat.beq, Nat.ble, Int.reduceToNat, Int.reduceLE, Int.reduceLT, Nat.reduceLT, Nat.reduceLeDiff, Nat.reduceAdd, Nat.reduceMul, Nat.reduceSub, Int.reduceAdd, Int.reduceSub, Int.reduceMul, eq_self, decide_true, beq_self_eq_true, List.length_cons, List.length_nil, Nat.min_eq_left, IntKind.bits, tabs, GZ7_set]); (try simp (disch := omega) only [v8W])) | ((with_reducible refine hN _ _ ?_); clear hN N; (try simp (disch := omega) only [v8W])))); (try ((with_reducible refine Fin.of ?_); (try with_reducible exact True.intro))))
      exact ⟨by simp, trivial⟩
    · refine Vc.calls T0_ok Try.func7 rfl rfl (args := [.gh a n c (.rows 3 rs), .agg [.bool xb, .gh xa xn xc (.ints .u8 xs), .gh xa' xn' xc' (.rows 3 xrs)]]) (k := 87) rfl (old_start w) ?_; change Vc _ _ (c8 (.gh a n c (.rows 3 rs)) (.agg [.bool xb, .gh xa xn xc (.ints .u8 xs), .gh xa' xn' xc' (.rows 3 xrs)]) .undef .undef .undef .undef .undef .undef (c8 .undef .undef .undef .undef .undef .undef .undef .undef (c8 .undef .undef .undef .undef .undef .undef .undef .undef (c8 .undef .undef .undef .undef .undef .undef .undef .undef (c8 .undef .undef .undef .undef .undef .undef .undef .undef (c8 .undef .undef .undef .undef .undef .undef .undef .undef (c8 .undef .undef .undef .undef .undef .undef .undef .undef (c8 .undef .undef .undef .undef .undef .undef .undef .undef (c8 .undef .undef .undef .undef .undef .undef .undef .undef (c8 .undef .undef .undef .undef .undef .undef .undef .undef (c8 .undef .undef .undef .undef .undef .undef .undef .undef ([.undef])))))))))))) _ _
      ((repeat (first | (with_reducible refine Vc.seq fun N hN => ?_) | (with_reducible refine Vc.block ?_) | ((first | with_reducible refine Vc.skip ?_ | with_reducible refine Vc.exit ?_); dsimp only [thenK, blockK, Nat.beq]; (first | (refine hN _ _ ?_; clear hN N) | skip)) | (with_reducible intro _) | ((with_reducible refine And.intro ?_ ?_); (focus (first | ((repeat' with_reducible apply And.intro) <;> first | exact sideQ | (exact hPx _ List.mem_cons_self) | (exact hP2 _ List.mem_cons_self)) | exact sd0))) | ((first | ((with_reducible refine askT_of ?_ (fun hb => ?_)); (focus (first | ((repeat' with_reducible apply And.intro) <;> first | exact sideQ | (exact hPx _ List.mem_cons_self) | (exact hP2 _ List.mem_cons_self)) | exact sd0)); (try simp only [hb])) | ((with_reducible refine Vc.fin ?_); dsimp only [thenK, blockK, retK, resS, resOne, resAll]) | ((with_reducible refine Vc.hold ?_); first | refine Vc.regiont T0_ok GZ7_ok ?_)); (try simp only [v8X, v8A, v8B, v8C, Nat.beq, Nat.ble, Int.reduceToNat, Int.reduceLE, Int.reduceLT, Nat.reduceLT, Nat.reduceLeDiff, Nat.reduceAdd, Nat.reduceMul, Nat.reduceSub, Int.reduceAdd, Int.reduceSub, Int.reduceMul, eq_self, decide_true, beq_self_eq_true, List.length_cons, List.length_nil, Nat.min_eq_left, IntKind.bits, tabs, GZ7_set, d1, d2, d3, htx, hti2]); (try simp (disch := omega) only [v8W])) | ((with_reducible refine hN _ _ ?_); clear hN N; (try simp (disch := omega) only [v8W])))); (try ((with_reducible refine Fin.of ?_); (try with_reducible exact True.intro))))
      (refine Vc.cond T0_ok (t := true) (by rfl) (fun _ => ?_) (fun h => Bool.noConfusion h))
      ((repeat (first | (with_reducible refine Vc.seq fun N hN => ?_) | (with_reducible refine Vc.block ?_) | ((first | with_reducible refine Vc.skip ?_ | with_reducible refine Vc.exit ?_); dsimp only [thenK, blockK, Nat.beq]; (first | (refine hN _ _ ?_; clear hN N) | skip)) | (with_reducible intro _) | ((with_reducible refine And.intro ?_ ?_); (focus (first | exact sideQ | exact sd0))) | ((first | ((with_reducible refine askT_of ?_ (fun hb => ?_)); (focus (first | exact sideQ | exact sd0)); (try simp only [hb])) | ((with_reducible refine Vc.fin ?_); dsimp only [thenK, blockK, retK, resS, resOne, resAll]) | ((with_reducible refine Vc.hold ?_); first | refine Vc.regiont T0_ok GZ7_ok ?_)); (try simp only [v8X, v8A, v8B, v8C, Nat.beq, Nat.ble, Int.reduceToNat, Int.reduceLE, Int.reduceLT, Nat.reduceLT, Nat.reduceLeDiff, Nat.reduceAdd, Nat.reduceMul, Nat.reduceSub, Int.reduceAdd, Int.reduceSub, Int.reduceMul, eq_self, decide_true, beq_self_eq_true, List.length_cons, List.length_nil, Nat.min_eq_left, IntKind.bits, tabs, GZ7_set]); (try simp (disch := omega) only [v8W])) | ((with_reducible refine hN _ _ ?_); clear hN N; (try simp (disch := omega) only [v8W])))); (try ((with_reducible refine Fin.of ?_); (try with_reducible exact True.intro))))
      exact ⟨by simp, trivial⟩
set_option maxRecDepth 100000 in
theorem rlpLists_lifted (os : Os) (started : os.Started) (H : Type) (enc : TypeId × Value → H) :
    ReturnsInHanded {} Try.checked os 7 .any (Rows.rlpListsSpec.pre6 enc Try.prog Try.f7 Rows.rlpListsRow.domain false) (Rows.rlpListsSpec.post enc Try.prog Try.f7 false true false false) := by
  refine returnsInHanded_of_change (C := Try.checked) Try.own started (by kernel_rfl) Try.func7
    (ChangeSpec.witness6 (enc := enc) (C := Try.checked) false ⟨#[], #[.slice none 0 0, .agg #[.bool false, .slice none 0 0, .slice none 0 0]], []⟩ 8 (by kernel_rfl) (by kernel_rfl) (by kernel_rfl) (by kernel_rfl)) ?_
  intro W0 base args ds gs before hval0 hW hcnd _
  have hval : ∀ (j : Nat) t v, Try.f7.params[j]? = some t → args[j]? = some v → Value.okWide Try.prog W0 .any base t v := hval0
  have hW' := hW
  obtain ⟨p, q, hA0, hV, rfl, hfz, hnd⟩ := hW
  have hA : DataW.TrodAll enc Try.prog W0 0 (fun _ => true) true Try.f7.params.toList args.toList ds p := hA0
  rw [Try.params7] at hA hval
  obtain ⟨v0, v1, d0, d1, p0, p1, rfl, rfl, rfl, h0, h1⟩ := trodAll_two hA
  obtain ⟨rfl, rfl⟩ := trodVars_none hV
  obtain ⟨a0, n0, c0, y0, z0, rfl, i0⟩ := items_open (hval 0 _ v0 rfl rfl) h0
  obtain ⟨l1, t1, rfl, i1⟩ := item_open (hval 1 _ v1 rfl rfl) h1
  refine (calls_args (by simp only [cvs]; try rfl) (rlpLists_law a0 n0 c0 y0 z0 l1 t1 W0 i0 i1)).mono fun e W' h => ?_
  obtain ⟨he, hw⟩ := Yes.out h
  subst he
  exact ⟨_, rfl, post_any hW' rfl hw (by kernel_rfl) rfl (fun _ _ _ => trodAll_mk1 (shut_bool Try.underlying4 true)) (fun _ => rfl) (ok_one (by kernel_rfl) rfl (okWide_bool_mk Try.underlying4 true))⟩
theorem RlpLists_holds : Rows.RlpListsSaid :=
  OpenClaim.holds_of_wide 7 Try.f7 rfl rfl rfl rfl rfl rfl rfl ⟨rfl, rfl, rfl, rfl, rfl⟩ rfl rfl rfl rfl rfl (by kernel_rfl) Try.func7 (by kernel_rfl)
    (of_decide_eq_true (by kernel_rfl)) (by unfold Func.isWrapper; first | (rw [if_pos (by decide +kernel)]; kernel_rfl) | (rw [if_neg (by decide +kernel)]; exact ⟨rfl, rfl⟩))
    (fun os started H enc _ => rlpLists_lifted os started H enc)
#print axioms RlpLists_holds
end Go.Proofs.Ytlogpdjcgbifhaa
