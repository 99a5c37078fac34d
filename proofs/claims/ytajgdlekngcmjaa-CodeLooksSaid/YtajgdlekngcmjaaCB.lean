/-
  Bytecode (package code): May, walked. No condition.
-/
import Derived.Test.YtajgdlekngcmjaaC6
namespace Go.Proofs.Ytajgdlekngcmjaa
set_option linter.unusedSimpArgs false
set_option linter.unusedVariables false
open Go.RowKit Go.Shelf
attribute [local go_sem] Oper.semAt_some
def mayV (xs : List Int) (ok : Bool) (p : Nat) : Bool := ok && decide (p ∈ jm xs 0)
theorem tvv_mem (xs : List Int) (p : Nat) : p ∈ jm xs 0 ↔ (p ∈ tvv xs 0 ∧ xs.getD p 0 = 91) := by
  unfold jm; rw [List.mem_filter]; simp
/-- A traversal's places rise. -/
theorem tvv_rise (xs : List Int) : ∀ (n p : Nat), xs.length - p ≤ n → (tvv xs p).Pairwise (· < ·) ∧ ∀ q ∈ tvv xs p, p ≤ q
  | 0, p, h => by rw [tvv_end (by omega)]; exact ⟨.nil, fun _ h => by cases h⟩
  | n + 1, p, h => by
    by_cases hp : p < xs.length
    · obtain ⟨h1, h2⟩ := tvv_rise xs n (p + 1 + beh (xs.getD p 0)) (by omega)
      rw [tvv_step hp]
      refine ⟨.cons (fun q hq => by have := h2 q hq; omega) h1, fun q hq => ?_⟩
      rcases List.mem_cons.1 hq with rfl | hq
      · exact Nat.le_refl _
      · have := h2 q hq; omega
    · rw [tvv_end (by omega)]; exact ⟨.nil, fun _ h => by cases h⟩
theorem may_no (xs : List Int) (p : Nat) (h : ∀ x ∈ ops xs 0, x.1 < p) : p ∉ jm xs 0 := fun hm => by
  have := ((tvv_mem xs p).1 hm).1
  have h1 := h (p, xs.getD p 0) (List.mem_map.2 ⟨p, this, rfl⟩)
  exact absurd h1 (Nat.lt_irrefl _)
theorem may_hit (xs : List Int) (p : Nat) (h91 : xs.getD p 0 = 91) (pre : List (Nat × Int)) (x : Nat × Int) (hp : pre ++ [x] <+: ops xs 0) (h1 : ∀ y ∈ pre, y.1 < p) (h2 : p ≤ x.1) : decide (p ∈ jm xs 0) = decide (x.1 = p) := by
  rw [decide_eq_decide, tvv_mem]
  obtain ⟨r, hr⟩ := hp
  have hr1 := (tvv_rise xs xs.length 0 (by omega)).1
  have hmap : tvv xs 0 = pre.map (·.1) ++ (x.1 :: r.map (·.1)) := by
    have := congrArg (List.map (·.1)) hr
    unfold ops at this
    rw [List.map_append, List.map_append, List.map_map] at this
    simp only [Function.comp_def, List.map_id'] at this
    rw [← this, List.append_assoc]; rfl
  rw [hmap] at hr1 ⊢
  constructor
  · rintro ⟨hm, _⟩
    rcases List.mem_append.1 hm with hm | hm
    · obtain ⟨y, hy, he⟩ := List.mem_map.1 hm
      have := h1 y hy; omega
    · rcases List.mem_cons.1 hm with hm | hm
      · exact hm.symm
      · have h3 := (List.pairwise_append.1 hr1).2.1
        have h4 := (List.pairwise_cons.1 h3).1 p hm
        omega
  · intro he
    exact ⟨List.mem_append.2 (.inr (List.mem_cons.2 (.inl he.symm))), h91⟩
theorem any_last (pre : List (Nat × Int)) (x : Nat × Int) (p : Nat) (h : ∀ y ∈ pre, y.1 < p) : (pre ++ [x]).any (fun x => decide (x.1 = p)) = decide (x.1 = p) := by
  have h0 : pre.any (fun x => decide (x.1 = p)) = false := by
    rw [List.any_eq_false]
    intro y hy
    have := h y hy
    simp; omega
  rw [List.any_append, h0, Bool.false_or, List.any_cons, List.any_nil, Bool.or_false]
theorem at_at (xs : List Int) (sv : Value) (p : Int) (hp : 0 ≤ p ∧ p ≤ 18446744073709551615) (w : World) (hs : Byt w.heap.size w sv xs) (hlen : xs.length ≤ 1000000) : Calls Try.prog 14 #[sv, .int .u64 p] w (fun e w' => e = .returned (.int .u8 (xs.getD p.toNat 0)) ∧ w' = w) := by
  rcases hs with ⟨⟨a, cap, rfl⟩, rfl⟩ | ⟨b, off, cap, rfl, hb, hc⟩
  · have e : ([] : List Int).getD p.toNat 0 = 0 := rfl
    rw [e]
    go_enter Try.func14, Try.ntmps14
    go_wp2
    go_ret
    exact ⟨rfl, rfl⟩
  · by_cases h : p < xs.length
    · have hcx := hc p.toNat (by omega)
      rw [← List.getD_eq_getElem?_getD] at hcx
      generalize xs.getD p.toNat 0 = v at *
      clear hc
      go_enter Try.func14, Try.ntmps14
      go_wp2
      go_ret
      exact ⟨rfl, rfl⟩
    · rw [getD_far (by omega)]
      go_enter Try.func14, Try.ntmps14
      go_wp2
      go_ret
      exact ⟨rfl, rfl⟩
set_option maxRecDepth 100000 in
set_option maxHeartbeats 4000000 in
theorem may_in (F : Fence) (n : Nat) (hro : F.round = none) (hf : F.fn 16) (hf0 : F.fn 27) (hf1 : F.fn 30) (hf2 : F.fn 23) (hf3 : F.fn 26) (hf4 : F.fn 14) (hbe : ∀ k v w, (0 ≤ v ∧ v ≤ 255) → CallsIn F k Try.prog 23 #[.int .u8 v] w (fun e w' => e = .returned (.int .u64 (beh v : Nat)) ∧ w' = w)) (hn : 6 ≤ n) (sv : Value) (hs : ∃ a len cap, sv = .slice a len cap) (xs : List Int) (hx : allB xs) (hlen : xs.length ≤ 1000000) (a : Nat) (ok : Bool) (p : Nat) (hp : p ≤ 18446744073709551615)
    (hsm : ∀ k w, CallsIn F k Try.prog 26 #[WV a] w (fun e w' => e = .returned (.tuple #[.int .u64 (p : Nat), .bool ok]) ∧ Below w.heap.size w w'))
    (hat : ∀ k w, Byt w.heap.size w sv xs → CallsIn F k Try.prog 14 #[sv, .int .u64 (p : Nat)] w (fun e w' => e = .returned (.int .u8 (xs.getD p 0)) ∧ w' = w)) (w : World) (hI : Byt w.heap.size w sv xs) :
    CallsIn F n Try.prog 16 #[sv, WV a] w fun e W' => e = .returned (.bool (mayV xs ok p)) ∧ Below w.heap.size w W' := by
  have h1 : 1 ≤ n := by omega
  have hst := fun k w => steps_in F k hf0 hro sv hs w
  refine callsIn_of_wp_marks Try.func16 rfl hf ?_ hro
  simp only [Try.ntmps16, List.size_toArray, List.length_cons, List.length_nil, Nat.reduceAdd, Nat.reduceSub, Array.replicate_succ, Array.replicate_zero, List.push_toArray, List.append_toArray, List.nil_append, List.cons_append]
  obtain ⟨W2, hW2⟩ : ∃ W2, W2 = (w.alloc (.cells #[.int .u64 (lm a 0 : Nat), .int .u64 (lm a 1 : Nat), .int .u64 (lm a 2 : Nat), .int .u64 (lm a 3 : Nat)] 29)).alloc (.cells #[.bool false] 4) := ⟨_, rfl⟩
  have hB2 : Below w.heap.size w W2 := by rw [hW2]; exact ((Below.refl _ w).alloc (Nat.le_refl _) _).alloc (by simp) _
  have hs2 : W2.heap.size = w.heap.size + 2 := by rw [hW2]; simp
  have hR0 : Boxed W2 (w.heap.size + 1) 4 (.bool false) := by
    have := Boxed.new (w.alloc (.cells #[.int .u64 (lm a 0 : Nat), .int .u64 (lm a 1 : Nat), .int .u64 (lm a 2 : Nat), .int .u64 (lm a 3 : Nat)] 29)) 4 (.bool false)
    rw [World.size_alloc, ← hW2] at this; exact this
  have hR : ∀ w1, Below W2.heap.size W2 w1 → Boxed w1 (w.heap.size + 1) 4 (.bool false) := fun w1 h => (h.block _ (by omega)).trans hR0
  have hB1 : ∀ w1, Below W2.heap.size W2 w1 → Below w.heap.size w w1 := fun w1 h => hB2.trans (h.mono (by omega))
  have hmono : ∀ (W : World) (o : Obj), Below w.heap.size w W → Byt (W.alloc o).heap.size (W.alloc o) sv xs := fun W o h => by
    have h2 := hI.below (h.alloc h.size o)
    rcases h2 with h2 | ⟨b, off, cap, e, hb, hc⟩
    · exact .inl h2
    · exact .inr ⟨b, off, cap, e, by have := h.size; simp only [World.size_alloc]; omega, hc⟩
  rw [hW2] at hR hB1
  clear hW2 hR0 hB2 hs2
  cases ok with
  | false =>
    gi_wp2_with (gi_at_call 26; refine (hsm _ _).mono ?_; rintro e w1 ⟨rfl, hb1⟩; have bR := hR w1 hb1; have hB := hB1 w1 hb1; have cR := fun o => (bR.alloc o).cell; have fR := fun o => (bR.alloc o).frozen)
    have hc5 := ((bR.alloc (.cells #[.int .u64 (p : Nat)] 27)).set (.bool false)).cell
    refine ⟨.bool false, by simp [results, Try.f16, go_sem, hc5], by simp [mayV], ?_⟩
    exact (hB.alloc hB.size _).setCell (p := ⟨w.heap.size + 1, 0, none⟩) (by simp) _
  | true =>
    by_cases h91 : xs.getD p 0 = 91
    · rw [h91] at hat
      gi_wp2_with (first | (gi_at_call 26; refine (hsm _ _).mono ?_; rintro e w1 ⟨rfl, hb1⟩; have bR := hR w1 hb1; have hB := hB1 w1 hb1; have cR := fun o => (bR.alloc o).cell; have fR := fun o => (bR.alloc o).frozen; have hI1 := fun o => hmono w1 o hB) | (gi_at_call 14; refine (hat _ _ (hI1 _)).mono ?_; rintro e w2 ⟨rfl, rfl⟩) | (gi_at_call 27; refine (hst _ _).mono ?_; rintro e w2 ⟨rfl, rfl⟩))
      have bP := (Boxed.new w1 27 (.int .u64 (p : Nat))).alloc (.cells #[sv] 26)
      have bR2 := (bR.alloc (.cells #[.int .u64 (p : Nat)] 27)).alloc (.cells #[sv] 26)
      have bN := Boxed.new (w1.alloc (.cells #[.int .u64 (p : Nat)] 27)) 26 sv
      have hB0 : Below w.heap.size w ((w1.alloc (.cells #[.int .u64 (p : Nat)] 27)).alloc (.cells #[sv] 26)) := (hB.alloc hB.size _).alloc (by have := hB.size; simp; omega) _
      have hsz : ((w1.alloc (.cells #[.int .u64 (p : Nat)] 27)).alloc (.cells #[sv] 26)).heap.size = w1.heap.size + 2 := by simp
      have hbl := hB.size
      have hRl := bR.lt
      rw [World.size_alloc] at bN
      obtain ⟨W0, hW0⟩ : ∃ W0, (w1.alloc (.cells #[.int .u64 (p : Nat)] 27)).alloc (.cells #[sv] 26) = W0 := ⟨_, rfl⟩
      rw [hW0] at bP bR2 bN hB0 hsz ⊢
      clear hW0
      refine wpIn_rangeFunc_ownG hro h1 (gf := 30) (lb := #[.pointer (some ⟨w1.heap.size + 1, 0, none⟩)]) rfl hf1 (enters_of Try.func30 (by kernel_rfl) rfl)
        (steps_stops F (n - 1) hro hf1 hf2 hbe (by omega) (w1.heap.size + 1) w.heap.size sv xs hx hlen W0 (by omega) bN (hI.below hB0)) KpB.t (KpB.b (by omega)) (Below.refl _ _) (fun _ => rfl)
        (fun pre W => (((∀ x ∈ pre, x.1 < p) ∧ Boxed W w1.heap.size 27 (.int .u64 (p : Nat))) ∧ Boxed W (w.heap.size + 1) 4 (.bool false)) ∧ Below w.heap.size w W)
        (fun c pre W => ((c = .ret ∧ ∃ p0 x, pre = p0 ++ [x] ∧ (∀ y ∈ p0, y.1 < p) ∧ p ≤ x.1) ∧ Boxed W (w.heap.size + 1) 4 (.bool (pre.any fun x => decide (x.1 = p)))) ∧ Below w.heap.size w W)
        (OwnFrom.and (OwnFrom.and (OwnFrom.and (ownFrom_pure _ _) (Own.from (boxed_own _ _ _) _)) (Own.from (boxed_own _ _ _) _)) (ownFrom_below (Nat.le_refl _) (by omega)))
        (fun c => OwnFrom.and (OwnFrom.and (ownFrom_pure _ _) (Own.from (boxed_own (w.heap.size + 1) 4 (fun pre : List (Nat × Int) => Value.bool (pre.any fun x => decide (x.1 = p)))) _)) (ownFrom_below (Nat.le_refl _) (by omega)))
        ⟨⟨⟨by simp, bP⟩, bR2⟩, hB0⟩
        (fun x => { tmps := #[sv, WV a, undef, .pointer (some ⟨w.heap.size, 0, none⟩), .pointer (some ⟨w.heap.size + 1, 0, none⟩), .pointer (some ⟨w1.heap.size, 0, none⟩), .bool true, .int .u64 (x.1 : Nat), .tuple #[.int .u64 (p : Nat), .bool true], .agg #[.int .u64 (lm a 0 : Nat), .int .u64 (lm a 1 : Nat), .int .u64 (lm a 2 : Nat), .int .u64 (lm a 3 : Nat)], .tuple #[.int .u64 (p : Nat), .bool true], .int .u64 (p : Nat), .bool true, .bool true, .bool false, .bool false, sv, .int .u64 (p : Nat), .int .u8 91, .bool false, .bool false, sv, .func (.func 30) #[] #[.pointer (some ⟨w1.heap.size + 1, 0, none⟩)], .int .u64 (x.1 : Nat), .int .u8 x.2, undef, undef, undef, undef, undef, undef], defers := [] }) ?assign ?body ?done ?stop
      case assign =>
        intro l x W K hK
        gi_wp2
        exact hK
      case body =>
        rintro l pre x W ⟨⟨⟨hp0, bP1⟩, bR1⟩, hB3⟩ hlt
        have cP := bP1.cell
        have cR1 := bR1.cell
        have fR1 := bR1.frozen
        gi_wp2
        · have hge : p ≤ x.1 := by assumption
          have hany : ((x.1 : Int) == (p : Int)) = (pre ++ [x]).any (fun x => decide (x.1 = p)) := by
            rw [any_last pre x p hp0, Bool.eq_iff_iff, beq_iff_eq, decide_eq_true_iff]; omega
          rw [hany]
          exact ⟨(KeepsOthers.setCell _ _ _).from _, ⟨⟨rfl, pre, x, rfl, hp0, hge⟩, bR1.set _⟩, hB3.setCell (p := ⟨w.heap.size + 1, 0, none⟩) (by simp) _⟩
        · have hge : ¬ p ≤ x.1 := by assumption
          exact ⟨KeepsFrom.refl _ _, ⟨Below.refl _ _, fun _ h => h⟩, ⟨⟨fun y hy => (List.mem_append.1 hy).elim (hp0 y) (fun e => by rw [List.mem_singleton] at e; subst e; omega), bP1⟩, bR1⟩, hB3⟩
      case done =>
        rintro D ys W hD rfl ⟨⟨⟨hp0, bP1⟩, bR1⟩, hB3⟩ hK
        have cR1 := bR1.cell
        have fR1 := bR1.frozen
        gi_wp2
        have hmf : mayV xs true p = false := by unfold mayV; rw [decide_eq_false (may_no xs p hp0)]; rfl
        have hK' := (KeepsOthers.setCell W ⟨w.heap.size + 1, 0, none⟩ (.bool false)).same D _ hK rfl
        refine ⟨by simp, .inl ⟨_, _, rfl, run_takeDeferred hK', ?_⟩⟩
        have hc5 := cell_kept (bR1.set (.bool false)).cell (grownBy_putObj' _ D (.deferred none)) (fun r e => by cases e; exact ⟨_, hK', rfl⟩)
        refine ⟨.bool false, ?_, by rw [hmf], (hB3.setCell (p := ⟨w.heap.size + 1, 0, none⟩) (by simp) _).trans (belowK_b (w := w) (Nat.le_refl _) _ D _ _ (by omega) hK' rfl rfl)⟩
        simp [results, Try.f16, go_sem, hc5]
      case stop =>
        rintro D c pre W hD hpre ⟨⟨⟨rfl, p0, x, hpe, hy, hxp⟩, bR1⟩, hB3⟩ hK
        gi_wp2
        have hmf : mayV xs true p = pre.any (fun x => decide (x.1 = p)) := by
          unfold mayV
          rw [Bool.true_and, may_hit xs p h91 p0 x (hpe ▸ hpre) hy hxp, hpe, any_last p0 x p hy]
        refine ⟨by simp, .inl ⟨_, _, rfl, run_takeDeferred hK, ?_⟩⟩
        have hc5 := cell_kept bR1.cell (grownBy_putObj' _ D (.deferred none)) (fun r e => by cases e; exact ⟨_, hK, rfl⟩)
        refine ⟨.bool (pre.any fun x => decide (x.1 = p)), ?_, by rw [hmf], hB3.trans (belowK_b (w := w) (Nat.le_refl _) W D _ _ (by omega) hK rfl rfl)⟩
        simp [results, Try.f16, go_sem, hc5]
    · have hmf : mayV xs true p = false := by
        unfold mayV
        rw [decide_eq_false (fun h => h91 ((tvv_mem xs p).1 h).2)]; rfl
      rw [hmf]
      generalize xs.getD p 0 = v at *
      gi_wp2_with (first | (gi_at_call 26; refine (hsm _ _).mono ?_; rintro e w1 ⟨rfl, hb1⟩; have bR := hR w1 hb1; have hB := hB1 w1 hb1; have cR := fun o => (bR.alloc o).cell; have fR := fun o => (bR.alloc o).frozen; have hI1 := fun o => hmono w1 o hB) | (gi_at_call 14; refine (hat _ _ (hI1 _)).mono ?_; rintro e w2 ⟨rfl, rfl⟩))
      have hc5 := ((bR.alloc (.cells #[.int .u64 (p : Nat)] 27)).set (.bool false)).cell
      refine ⟨.bool false, by simp [results, Try.f16, go_sem, hc5], rfl, ?_⟩
      exact (hB.alloc hB.size _).setCell (p := ⟨w.heap.size + 1, 0, none⟩) (by simp) _
end Go.Proofs.Ytajgdlekngcmjaa
