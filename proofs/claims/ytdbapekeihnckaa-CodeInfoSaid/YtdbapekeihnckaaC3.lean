/-
  Bytecode (package code): Jumps, walked. No condition.
-/
import Derived.Test.YtdbapekeihnckaaC2
namespace Go.Proofs.Ytdbapekeihnckaa
set_option linter.unusedSimpArgs false
set_option linter.unusedVariables false
open Go.RowKit Go.Shelf
attribute [local go_sem] Oper.semAt_some
theorem info_u64 : (Try.prog.info? 33).map (fun i => (i.zero, i.size, i.bytes)) = some (some (.int .u64 0), 1, 8) := by kernel_rfl
/-- The places, of operations, that may be jumped to. -/
def sel (pre : List (Nat × Int)) : List Int := (pre.filter fun x => decide (x.2 = 91)).map fun x => ((x.1 : Nat) : Int)
theorem sel_hit (pre : List (Nat × Int)) {x : Nat × Int} (h : x.2 = 91) : sel (pre ++ [x]) = sel pre ++ [((x.1 : Nat) : Int)] := by simp [sel, h]
theorem sel_miss (pre : List (Nat × Int)) {x : Nat × Int} (h : ¬ x.2 = 91) : sel (pre ++ [x]) = sel pre := by simp [sel, h]
theorem sel_len (pre : List (Nat × Int)) : (sel pre).length ≤ pre.length := by unfold sel; rw [List.length_map]; exact List.length_filter_le _ _
def jmI (xs : List Int) : List Int := (jm xs 0).map fun (q : Nat) => (q : Int)
theorem sel_ops (xs : List Int) (p : Nat) : sel (ops xs p) = (jm xs p).map fun (q : Nat) => (q : Int) := by
  unfold sel ops jm
  rw [List.filter_map, List.map_map]
  rfl
set_option maxRecDepth 100000 in
set_option maxHeartbeats 4000000 in
theorem jumps_in (F : Fence) (n : Nat) (hro : F.round = none) (hf : F.fn 10) (hf0 : F.fn 13) (hf1 : F.fn 16) (hf2 : F.fn 14) (hbe : ∀ k v w, (0 ≤ v ∧ v ≤ 255) → CallsIn F k Try.prog 14 #[.int .u8 v] w (fun e w' => e = .returned (.int .u64 (beh v : Nat)) ∧ w' = w)) (hn : 6 ≤ n) (sv : Value) (hs : ∃ a len cap, sv = .slice a len cap) (xs : List Int) (hx : allB xs) (hlen : xs.length ≤ 1000000) (w : World) (hI : Byt w.heap.size w sv xs) :
    CallsIn F n Try.prog 10 #[sv] w fun e W' => ∃ v, e = .returned v ∧ W'.ownsRow w.heap.size 33 1 v (jmI xs).length ((jmI xs).map (Value.int .u64)) ∧ Below w.heap.size w W' := by
  have h1 : 1 ≤ n := by omega
  obtain ⟨i0, hi, hz0, hz1, hz2⟩ := info_parts info_u64
  refine callsIn_of_wp_marks Try.func10 rfl hf ?_ hro
  simp only [Try.ntmps10, List.size_toArray, List.length_cons, List.length_nil, Nat.reduceAdd, Nat.reduceSub, Array.replicate_succ, Array.replicate_zero, List.push_toArray, List.append_toArray, List.nil_append, List.cons_append]
  have hst := fun k w => steps_in F k hf0 hro sv hs w
  gi_wp2_with (gi_at_call 13; refine (hst _ _).mono ?_; rintro e w' ⟨rfl, rfl⟩)
  have bO := Boxed.new w 30 (.slice none 0 0)
  have bN := Boxed.new (w.alloc (.cells #[.slice none 0 0] 30)) 32 sv
  rw [World.size_alloc] at bN
  have hB0 : Below w.heap.size w ((w.alloc (.cells #[.slice none 0 0] 30)).alloc (.cells #[sv] 32)) := ((Below.refl _ w).alloc (Nat.le_refl _) _).alloc (by simp) _
  refine wpIn_rangeFunc_ownG hro h1 (gf := 16) (lb := #[.pointer (some ⟨w.heap.size + 1, 0, none⟩)]) rfl hf1 (enters_of Try.func16 (by kernel_rfl) rfl)
    (steps_stops F (n - 1) hro hf1 hf2 hbe (by omega) (w.heap.size + 1) w.heap.size sv xs hx hlen _ (by simp; omega) bN (hI.below hB0)) KpB.t (KpB.b (by simp; omega)) (Below.refl _ _) (fun _ => rfl)
    (fun pre W => (∃ v, Boxed W w.heap.size 30 v ∧ W.ownsRow w.heap.size 33 1 v (sel pre).length ((sel pre).map (Value.int .u64)) ∧ True) ∧ Below w.heap.size w W)
    (fun _ _ _ => False)
    (OwnFrom.and (Own.from (holdsRow_own w.heap.size w.heap.size 30 33 1 (fun pre => (sel pre).length) (fun pre => (sel pre).map (Value.int .u64)) (fun _ _ => True)) _) (ownFrom_below (Nat.le_refl _) (by simp; omega)))
    (fun _ _ _ _ _ hs _ _ => hs)
    ⟨⟨_, bO.alloc _, World.ownsRow_nil _ _ _ _, trivial⟩, hB0⟩
    (fun x => { tmps := #[sv, undef, .slice none 0 0, .pointer (some ⟨w.heap.size, 0, none⟩), .int .u64 (x.1 : Int), .int .u8 x.2, sv, .func (.func 16) #[] #[.pointer (some ⟨w.heap.size + 1, 0, none⟩)], .int .u64 (x.1 : Int), .int .u8 x.2, undef, undef, undef, undef, undef, undef, undef], defers := [] }) ?assign ?body ?done ?stop
  case assign =>
    intro l x W K hK
    gi_wp2
    exact hK
  case body =>
    rintro l pre x W ⟨⟨v, hv, hrow, _⟩, hB⟩ hlt
    have hc := hv.cell
    have hpl := sel_len pre
    have hmx : 1000002 ≤ maxLen := by decide
    gi_wp2_with (gi_at_builtin; refine wpListIn_append_own _ rfl _ _ 30 rfl w.heap.size 33 i0 (.int .u64 0) 1 8 Try.underlying30 hi hz0 hz1 hz2 rfl (by decide) _ _ _ rfl (hrow.alloc _) ⟨W.heap.size, 0, none⟩ 1 1 [.int .u64 (x.1 : Int)] rfl rfl (cell_one_new _ _ _) (by simp [Value.oneCell']) (by omega) (by omega) (by have := hB.size; simp; omega) ?_; intro v' w1 hown' hgrow _; obtain ⟨g', cap', rfl⟩ := ownsRow_succ hown'; obtain ⟨hv1, hv2, hr2, hk2, hb2⟩ := hv.appended (by decide) hrow hB.size (Nat.le_refl _) hown' hgrow; have hkb : ∀ u, Boxed W (w.heap.size + 1) 32 u → Boxed (w1.setCell ⟨w.heap.size, 0, none⟩ (.slice (some ⟨g', 0, none⟩) ((sel pre).length + 1) cap')) (w.heap.size + 1) 32 u := fun u hu => ((hu.alloc _).kept hgrow (hu.not_row (by decide) hrow)).kept (grownBy_setCell' _ _ _) (by simp); have hc1 := hv1.cell; have hf1 := hv1.frozen)
    · have hx : x.2 = 91 := by have h : (x.2 == 91) = true := by assumption
                               simpa using h
      exact ⟨hk2.from _, ⟨hb2, hkb⟩, ⟨_, hv2, by rw [sel_hit pre hx]; simpa using hr2, trivial⟩, hB.trans hb2⟩
    · have hx : ¬ x.2 = 91 := by have h : (x.2 == 91) = false := by assumption
                                 simpa using h
      exact ⟨KeepsFrom.refl _ _, ⟨Below.refl _ _, fun _ h => h⟩, ⟨v, hv, by rw [sel_miss pre hx]; exact hrow, trivial⟩, hB⟩
  case done =>
    rintro D ys W hD rfl ⟨⟨v, hv, hrow, _⟩, hB⟩ hK
    have hc := hv.cell
    gi_wp2
    refine ⟨by simp, .inl ⟨_, _, rfl, run_takeDeferred hK, ?_⟩⟩
    rw [sel_ops] at hrow
    exact ⟨_, results_tmp rfl _ _ _, v, rfl, ownsRow_putObj hrow _ hK rfl, hB.trans (belowK_b (w := w) (Nat.le_refl _) W D _ _ (by simp at hD; omega) hK rfl rfl)⟩
  case stop =>
    rintro D c pre W _ _ h _
    exact h.elim
end Go.Proofs.Ytdbapekeihnckaa
