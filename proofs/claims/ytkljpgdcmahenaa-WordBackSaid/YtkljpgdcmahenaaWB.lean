/-
  Values mod 2^256; Add, Sub and the shifts in their words.
-/
import Derived.Test.YtkljpgdcmahenaaWA
namespace Go.Proofs.Ytkljpgdcmahenaa
set_option linter.unusedSimpArgs false
set_option linter.unusedVariables false
open Go.RowKit
theorem WV_mod (a : Nat) : WV (a % W) = WV a := by
  unfold WV; rw [lm_mod a 0 (by decide), lm_mod a 1 (by decide), lm_mod a 2 (by decide), lm_mod a 3 (by decide)]
theorem W_pos : 0 < W := by decide
def addN (a b : Nat) : Nat := (a + b) % W
def subN (a b : Nat) : Nat := (a + W - b) % W
def mulN (a b : Nat) : Nat := (a * b) % W
def shlM (n a : Nat) : Nat := shlN n a % W
def shdM (n a f : Nat) : Nat := shdN n a f % W
def addB (a b : Nat) : Bool := decide (W ≤ a + b)
def subB (a b : Nat) : Bool := decide (a < b)
def mulB (a b : Nat) : Bool := decide (W ≤ a * b)
def negB (a : Nat) : Bool := decide (W / 2 ≤ a)
theorem addN_lt (a b : Nat) : addN a b < W := Nat.mod_lt _ W_pos
theorem subN_lt (a b : Nat) : subN a b < W := Nat.mod_lt _ W_pos
theorem mulN_lt (a b : Nat) : mulN a b < W := Nat.mod_lt _ W_pos
theorem shlM_lt (a b : Nat) : shlM a b < W := Nat.mod_lt _ W_pos
theorem shdM_lt (a b f : Nat) : shdM a b f < W := Nat.mod_lt _ W_pos
theorem shlm_any (n a : Nat) (hn : n < W) (ha : a < W) (w : World) : Calls Try.prog 38 #[WV n, WV a] w (Ret w (WV (shlM n a))) := by
  unfold shlM; rw [WV_mod]; exact shl_any n a hn ha w
theorem shrm_any (n a : Nat) (hn : n < W) (ha : a < W) (w : World) : Calls Try.prog 40 #[WV n, WV a] w (Ret w (WV (shdM n a 0))) := by
  unfold shdM; rw [WV_mod]; exact shr_any n a hn ha w
theorem sarm_any (n a : Nat) (hn : n < W) (ha : a < W) (w : World) : Calls Try.prog 42 #[WV n, WV a] w (Ret w (WV (shdM n a (sgF a)))) := by
  unfold shdM; rw [WV_mod]; exact sar_any n a hn ha w

section
attribute [local go_sem] add64_0 add64_1 add64_2 add64_3
set_option maxHeartbeats 1000000 in
theorem add_any (a b : Nat) (ha : a < W) (hb : b < W) (w : World) :
    Calls Try.prog 15 #[WV a, WV b] w (Ret w (.tuple #[WV (addN a b), .bool (addB a b)])) := by
  have h4 : (((cy4 a b : Nat) : Int) != 0) = addB a b := by
    rw [add4 ha hb]; unfold addB
    rw [Bool.eq_iff_iff, bne_iff_ne, decide_eq_true_iff]
    have : (a + b) / W = 0 ↔ a + b < W := by rw [Nat.div_eq_zero_iff]; have := W_pos; omega
    omega
  unfold addN
  rw [WV_mod]
  clear ha hb
  go_enter Try.func15, Try.ntmps15
  go_wp2
  refine wp_loop_rounds 5 ?_
  simp only [Code.rounds]
  go_wp2
  iterate 4
    (refine wp_quiet_tail 13 (by kernel_rfl) (by kernel_rfl) (by intro c a d u w h; cases d <;> exact h) ?_; simp only [List.take_succ_cons, List.take_zero, List.drop_succ_cons, List.drop_zero]; (repeat (first | go_big_quiet_step (fail) | quiet_step (fail))); refine wpQuiet_nil ?_; intro p)
    go_wp2
  exact bodyPost_ret (v := .tuple #[WV (a + b), .bool (addB a b)]) (by simp [results, Try.results15, go_sem]) rfl (Ret.of' rfl (by (repeat (first | with_reducible exact Below.refl _ _ | refine below_gw ?_ (by first | exact Nat.le_refl _ | ((repeat (first | rw [World.size_alloc] | rw [World.size_setCell] | rw [World.size_drew] | rw [gw_size])); first | done | omega)) _ | refine Below.alloc ?_ (by first | exact Nat.le_refl _ | ((repeat (first | rw [World.size_alloc] | rw [World.size_setCell] | rw [World.size_drew] | rw [gw_size])); first | done | omega)) _ | refine Below.setCell ?_ (by first | exact Nat.le_refl _ | ((repeat (first | rw [World.size_alloc] | rw [World.size_setCell] | rw [World.size_drew] | rw [gw_size])); first | done | omega)) _ | refine Below.drew ?_))))
end

def bw1 (a b : Nat) : Nat := sbB (lm a 0) (lm b 0) 0
def bw2 (a b : Nat) : Nat := sbB (lm a 1) (lm b 1) (bw1 a b)
def bw3 (a b : Nat) : Nat := sbB (lm a 2) (lm b 2) (bw2 a b)
def bw4 (a b : Nat) : Nat := sbB (lm a 3) (lm b 3) (bw3 a b)
theorem sub_num {a b : Nat} (ha : a < W) (hb : b < W) :
    subN a b = num (sbL (lm a 0) (lm b 0) 0) (sbL (lm a 1) (lm b 1) (bw1 a b)) (sbL (lm a 2) (lm b 2) (bw2 a b)) (sbL (lm a 3) (lm b 3) (bw3 a b)) ∧ bw4 a b = if a < b then 1 else 0 := by
  have e0 := sb_eq (lm_lt a 0) (lm_lt b 0) (Nat.zero_le 1)
  have e1 := sb_eq (lm_lt a 1) (lm_lt b 1) (sbB_le (lm a 0) (lm b 0) 0)
  have e2 := sb_eq (lm_lt a 2) (lm_lt b 2) (sbB_le (lm a 1) (lm b 1) (bw1 a b))
  have e3 := sb_eq (lm_lt a 3) (lm_lt b 3) (sbB_le (lm a 2) (lm b 2) (bw2 a b))
  have h4 := sbB_le (lm a 3) (lm b 3) (bw3 a b)
  have na := num_lm ha
  have nb := num_lm hb
  have hd : num (sbL (lm a 0) (lm b 0) 0) (sbL (lm a 1) (lm b 1) (bw1 a b)) (sbL (lm a 2) (lm b 2) (bw2 a b)) (sbL (lm a 3) (lm b 3) (bw3 a b)) < W := num_lt (sbL_lt _ _ _) (sbL_lt _ _ _) (sbL_lt _ _ _) (sbL_lt _ _ _)
  change lm a 0 + _ * bw1 a b = _ at e0
  change lm a 1 + _ * bw2 a b = sbL (lm a 1) (lm b 1) (bw1 a b) + lm b 1 + bw1 a b at e1
  change lm a 2 + _ * bw3 a b = sbL (lm a 2) (lm b 2) (bw2 a b) + lm b 2 + bw2 a b at e2
  change lm a 3 + _ * bw4 a b = sbL (lm a 3) (lm b 3) (bw3 a b) + lm b 3 + bw3 a b at e3
  change bw4 a b ≤ 1 at h4
  generalize sbL (lm a 0) (lm b 0) 0 = d0 at *
  generalize sbL (lm a 1) (lm b 1) (bw1 a b) = d1 at *
  generalize sbL (lm a 2) (lm b 2) (bw2 a b) = d2 at *
  generalize sbL (lm a 3) (lm b 3) (bw3 a b) = d3 at *
  generalize bw1 a b = b1 at *
  generalize bw2 a b = b2 at *
  generalize bw3 a b = b3 at *
  generalize bw4 a b = b4 at *
  have key : num d0 d1 d2 d3 + b = a + W * b4 := by
    unfold num at *; unfold W at *; omega
  generalize num d0 d1 d2 d3 = d at *
  have h01 : b4 = 0 ∨ b4 = 1 := by omega
  unfold subN
  rcases h01 with rfl | rfl
  · have : ¬ a < b := by omega
    rw [if_neg this]
    refine ⟨?_, rfl⟩
    rw [show a + W - b = d + W by omega, Nat.add_mod_right, Nat.mod_eq_of_lt hd]
  · have : a < b := by omega
    rw [if_pos this]
    refine ⟨?_, rfl⟩
    rw [show a + W - b = d by omega, Nat.mod_eq_of_lt hd]
theorem sub64_0 {a b : Nat} (ha : a < W) (hb : b < W) (w : World) : (callFunc 60 #[.int .u64 (lm a 0 : Nat), .int .u64 (lm b 0 : Nat), .int .u64 0]).run Try.prog w =
      .ok (.value (.tuple #[.int .u64 (lm (subN a b) 0 : Nat), .int .u64 (bw1 a b : Nat)])) w := by
  rw [(sub_num ha hb).1, lm0_num (sbL_lt _ _ _)]; exact ext_sub64 _ _ 0 (by omega) w
theorem sub64_1 {a b : Nat} (ha : a < W) (hb : b < W) (w : World) : (callFunc 60 #[.int .u64 (lm a 1 : Nat), .int .u64 (lm b 1 : Nat), .int .u64 (bw1 a b : Nat)]).run Try.prog w =
      .ok (.value (.tuple #[.int .u64 (lm (subN a b) 1 : Nat), .int .u64 (bw2 a b : Nat)])) w := by
  rw [(sub_num ha hb).1, lm1_num (sbL_lt _ _ _) (sbL_lt _ _ _)]; exact ext_sub64 _ _ _ (sbB_le _ _ _) w
theorem sub64_2 {a b : Nat} (ha : a < W) (hb : b < W) (w : World) : (callFunc 60 #[.int .u64 (lm a 2 : Nat), .int .u64 (lm b 2 : Nat), .int .u64 (bw2 a b : Nat)]).run Try.prog w =
      .ok (.value (.tuple #[.int .u64 (lm (subN a b) 2 : Nat), .int .u64 (bw3 a b : Nat)])) w := by
  rw [(sub_num ha hb).1, lm2_num (sbL_lt _ _ _) (sbL_lt _ _ _) (sbL_lt _ _ _)]; exact ext_sub64 _ _ _ (sbB_le _ _ _) w
theorem sub64_3 {a b : Nat} (ha : a < W) (hb : b < W) (w : World) : (callFunc 60 #[.int .u64 (lm a 3 : Nat), .int .u64 (lm b 3 : Nat), .int .u64 (bw3 a b : Nat)]).run Try.prog w =
      .ok (.value (.tuple #[.int .u64 (lm (subN a b) 3 : Nat), .int .u64 (bw4 a b : Nat)])) w := by
  rw [(sub_num ha hb).1, lm3_num (sbL_lt _ _ _) (sbL_lt _ _ _) (sbL_lt _ _ _) (sbL_lt _ _ _)]; exact ext_sub64 _ _ _ (sbB_le _ _ _) w
set_option maxHeartbeats 1000000 in
theorem sub_any (a b : Nat) (ha : a < W) (hb : b < W) (w : World) :
    Calls Try.prog 17 #[WV a, WV b] w (Ret w (.tuple #[WV (subN a b), .bool (subB a b)])) := by
  have h4 : (((bw4 a b : Nat) : Int) != 0) = subB a b := by
    rw [(sub_num ha hb).2]; unfold subB
    by_cases h : a < b <;> simp [h]
  have s0 := fun w => sub64_0 ha hb w
  have s1 := fun w => sub64_1 ha hb w
  have s2 := fun w => sub64_2 ha hb w
  have s3 := fun w => sub64_3 ha hb w
  clear ha hb
  go_enter Try.func17, Try.ntmps17
  go_wp2
  refine wp_loop_rounds 5 ?_
  simp only [Code.rounds]
  go_wp2
  iterate 4
    (refine wp_quiet_tail 13 (by kernel_rfl) (by kernel_rfl) (by intro c a d u w h; cases d <;> exact h) ?_; simp only [List.take_succ_cons, List.take_zero, List.drop_succ_cons, List.drop_zero]; (repeat (first | go_big_quiet_step (fail) | quiet_step (fail))); refine wpQuiet_nil ?_; intro p)
    go_wp2
  exact bodyPost_ret (v := .tuple #[WV (subN a b), .bool (subB a b)]) (by simp [results, Try.results17, go_sem]) rfl (Ret.of' rfl (by (repeat (first | with_reducible exact Below.refl _ _ | refine below_gw ?_ (by first | exact Nat.le_refl _ | ((repeat (first | rw [World.size_alloc] | rw [World.size_setCell] | rw [World.size_drew] | rw [gw_size])); first | done | omega)) _ | refine Below.alloc ?_ (by first | exact Nat.le_refl _ | ((repeat (first | rw [World.size_alloc] | rw [World.size_setCell] | rw [World.size_drew] | rw [gw_size])); first | done | omega)) _ | refine Below.setCell ?_ (by first | exact Nat.le_refl _ | ((repeat (first | rw [World.size_alloc] | rw [World.size_setCell] | rw [World.size_drew] | rw [gw_size])); first | done | omega)) _ | refine Below.drew ?_))))
end Go.Proofs.Ytkljpgdcmahenaa
