/-
  The product of two words, as a wide number, walked.
-/
import Derived.Test.YtdanlclhnehieaaW8
import Derived.Deep.DeepCutAuto
import Derived.Deep.CutBlock
namespace Go.Proofs.Ytdanlclhnehieaa
set_option linter.unusedSimpArgs false
set_option linter.unusedVariables false
open Go.RowKit
structure PInv (a b i j : Nat) (ps : List Nat) (c : Nat) : Prop where
  len : ps.length = 8
  ok : Ok ps
  clt : c < 18446744073709551616
  eq : val ps + c * Bp (i + j) = a % Bp i * b + Bp i * (lm a i * (b % Bp j))
  zero : ∀ k, i + 4 ≤ k → ps.getD k 0 = 0
structure RInv (a b i : Nat) (ps : List Nat) : Prop where
  len : ps.length = 8
  ok : Ok ps
  eq : val ps = a % Bp i * b
  zero : ∀ k, i + 4 ≤ k → ps.getD k 0 = 0
theorem RInv.start (a b : Nat) : RInv a b 0 [0, 0, 0, 0, 0, 0, 0, 0] :=
  ⟨rfl, fun x hx => by simp at hx; subst hx; decide, by simp [val, Bp_zero, Nat.mod_one], fun k _ => by
    rw [List.getD_eq_getElem?_getD]
    cases h : ([0, 0, 0, 0, 0, 0, 0, 0] : List Nat)[k]? with
    | none => rfl
    | some x => have := List.mem_of_getElem? h; simp at this; simpa using this⟩
theorem RInv.row {a b i : Nat} {ps : List Nat} (h : RInv a b i ps) : PInv a b i 0 ps 0 :=
  ⟨h.len, h.ok, by decide, by rw [h.eq, Bp_zero, Nat.mod_one]; simp, h.zero⟩
theorem PInv.step {a b i j c : Nat} {ps : List Nat} (h : PInv a b i j ps c) (h4 : i < 4) (hj : j < 4) :
    PInv a b i (j + 1) (ps.set (i + j) (lo (lm a i * lm b j + ps.getD (i + j) 0 + c))) (hi (lm a i * lm b j + ps.getD (i + j) 0 + c)) := by
  have hl := h.len
  have hx := lm_lt a i
  have hy := lm_lt b j
  have hp := h.ok.getD (i + j)
  have hc := h.clt
  have hm : lm a i * lm b j ≤ 18446744073709551615 * 18446744073709551615 := Nat.mul_le_mul (by omega) (by omega)
  have v1 := val_set (xs := ps) (k := i + j) (by omega) (lo (lm a i * lm b j + ps.getD (i + j) 0 + c))
  have e := h.eq
  refine ⟨by simp [hl], h.ok.set _ (lo_lt _), ?_, ?_, fun k hk => ?_⟩
  · generalize lm a i * lm b j = xy at *
    unfold hi; omega
  · have hs : lo (lm a i * lm b j + ps.getD (i + j) 0 + c) + 18446744073709551616 * hi (lm a i * lm b j + ps.getD (i + j) 0 + c) = lm a i * lm b j + ps.getD (i + j) 0 + c := by unfold lo hi; omega
    rw [mod_succ b j, show i + (j + 1) = (i + j) + 1 by omega, Bp_succ]
    generalize lo (lm a i * lm b j + ps.getD (i + j) 0 + c) = L at *
    generalize hi (lm a i * lm b j + ps.getD (i + j) 0 + c) = H at *
    have e2 : Bp (i + j) = Bp i * Bp j := Bp_add i j
    generalize ps.getD (i + j) 0 = p at *
    generalize lm a i = x at *
    generalize lm b j = y at *
    generalize val (ps.set (i + j) L) = v' at *
    generalize val ps = v at *
    generalize b % Bp j = bj at *
    generalize a % Bp i * b = A at *
    generalize Bp (i + j) = Q at *
    generalize Bp i = Pi at *
    generalize Bp j = Pj at *
    have h9 : Q * L + Q * (18446744073709551616 * H) = Q * (x * y) + Q * p + Q * c := by rw [← Nat.mul_add, hs, Nat.mul_add, Nat.mul_add]
    subst e2
    have h10 : Pi * (x * (bj + Pj * y)) = Pi * (x * bj) + Pi * Pj * (x * y) := by grind
    have h11 : H * (18446744073709551616 * (Pi * Pj)) = Pi * Pj * (18446744073709551616 * H) := by grind
    have h12 : c * (Pi * Pj) = Pi * Pj * c := Nat.mul_comm _ _
    rw [h10, h11]
    rw [h12] at e
    omega
  · rw [getD_set_off (by omega)]; exact h.zero k hk
theorem PInv.row {a b i c : Nat} {ps : List Nat} (h : PInv a b i 4 ps c) (hi : i < 4) (hb : b < W) : RInv a b (i + 1) (ps.set (i + 4) c) := by
  have hl := h.len
  have v1 := val_set (xs := ps) (k := i + 4) (by omega) c
  rw [h.zero (i + 4) (by omega), Nat.mul_zero, Nat.add_zero] at v1
  refine ⟨by simp [hl], h.ok.set _ h.clt, ?_, fun k hk => ?_⟩
  · have e := h.eq
    rw [Nat.mod_eq_of_lt (show b < Bp 4 from hb)] at e
    rw [v1, mod_succ a i, Nat.add_mul, Nat.mul_assoc, ← e, Nat.mul_comm]
  · rw [getD_set_off (by omega)]; exact h.zero k (by omega)
attribute [local go_sem] U64s_set
end Go.Proofs.Ytdanlclhnehieaa

/-
  Values mod 2^256; Add, Sub and the shifts in their words.
-/
namespace Go.Proofs.Ytdanlclhnehieaa
set_option linter.unusedSimpArgs false
set_option linter.unusedVariables false
open Go.RowKit
def subN (a b : Nat) : Nat := (a + W - b) % W
def subB (a b : Nat) : Bool := decide (a < b)
section
end

def bw1 (a b : Nat) : Nat := sbB (lm a 0) (lm b 0) 0
def bw2 (a b : Nat) : Nat := sbB (lm a 1) (lm b 1) (bw1 a b)
def bw3 (a b : Nat) : Nat := sbB (lm a 2) (lm b 2) (bw2 a b)
def bw4 (a b : Nat) : Nat := sbB (lm a 3) (lm b 3) (bw3 a b)
theorem sub_num {a b : Nat} (ha : a < W) (hb : b < W) :
    subN a b = num (sbL (lm a 0) (lm b 0) 0) (sbL (lm a 1) (lm b 1) (bw1 a b)) (sbL (lm a 2) (lm b 2) (bw2 a b)) (sbL (lm a 3) (lm b 3) (bw3 a b)) ∧ bw4 a b = if a < b then 1 else 0 := by
  have e0 := sb_eq (lm_lt a 0) (lm_lt b 0) (Nat.zero_le 1)
  have e1 := sb_eq (lm_lt a 1) (lm_lt b 1) (sbB_le (lm a 0) (lm b 0) 0)
  have e2 := sb_eq (lm_lt a 2) (lm_lt b 2) (sbB_le (lm a 1) (lm b 1) (bw1 a b))
  have e3 := sb_eq (lm_lt a 3) (lm_lt b 3) (sbB_le (lm a 2) (lm b 2) (bw2 a b))
  have h4 := sbB_le (lm a 3) (lm b 3) (bw3 a b)
  have na := num_lm ha
  have nb := num_lm hb
  have hd : num (sbL (lm a 0) (lm b 0) 0) (sbL (lm a 1) (lm b 1) (bw1 a b)) (sbL (lm a 2) (lm b 2) (bw2 a b)) (sbL (lm a 3) (lm b 3) (bw3 a b)) < W := num_lt (sbL_lt _ _ _) (sbL_lt _ _ _) (sbL_lt _ _ _) (sbL_lt _ _ _)
  change lm a 0 + _ * bw1 a b = _ at e0
  change lm a 1 + _ * bw2 a b = sbL (lm a 1) (lm b 1) (bw1 a b) + lm b 1 + bw1 a b at e1
  change lm a 2 + _ * bw3 a b = sbL (lm a 2) (lm b 2) (bw2 a b) + lm b 2 + bw2 a b at e2
  change lm a 3 + _ * bw4 a b = sbL (lm a 3) (lm b 3) (bw3 a b) + lm b 3 + bw3 a b at e3
  change bw4 a b ≤ 1 at h4
  generalize sbL (lm a 0) (lm b 0) 0 = d0 at *
  generalize sbL (lm a 1) (lm b 1) (bw1 a b) = d1 at *
  generalize sbL (lm a 2) (lm b 2) (bw2 a b) = d2 at *
  generalize sbL (lm a 3) (lm b 3) (bw3 a b) = d3 at *
  generalize bw1 a b = b1 at *
  generalize bw2 a b = b2 at *
  generalize bw3 a b = b3 at *
  generalize bw4 a b = b4 at *
  have key : num d0 d1 d2 d3 + b = a + W * b4 := by
    unfold num at *; unfold W at *; omega
  generalize num d0 d1 d2 d3 = d at *
  have h01 : b4 = 0 ∨ b4 = 1 := by omega
  unfold subN
  rcases h01 with rfl | rfl
  · have : ¬ a < b := by omega
    rw [if_neg this]
    refine ⟨?_, rfl⟩
    rw [show a + W - b = d + W by omega, Nat.add_mod_right, Nat.mod_eq_of_lt hd]
  · have : a < b := by omega
    rw [if_pos this]
    refine ⟨?_, rfl⟩
    rw [show a + W - b = d by omega, Nat.mod_eq_of_lt hd]
theorem sub64_0 {a b : Nat} (ha : a < W) (hb : b < W) (w : World) : (callFunc 46 #[.int .u64 (lm a 0 : Nat), .int .u64 (lm b 0 : Nat), .int .u64 0]).run Try.prog w =
      .ok (.value (.tuple #[.int .u64 (lm (subN a b) 0 : Nat), .int .u64 (bw1 a b : Nat)])) w := by
  rw [(sub_num ha hb).1, lm0_num (sbL_lt _ _ _)]; exact ext_sub64 _ _ 0 (by omega) w
theorem sub64_1 {a b : Nat} (ha : a < W) (hb : b < W) (w : World) : (callFunc 46 #[.int .u64 (lm a 1 : Nat), .int .u64 (lm b 1 : Nat), .int .u64 (bw1 a b : Nat)]).run Try.prog w =
      .ok (.value (.tuple #[.int .u64 (lm (subN a b) 1 : Nat), .int .u64 (bw2 a b : Nat)])) w := by
  rw [(sub_num ha hb).1, lm1_num (sbL_lt _ _ _) (sbL_lt _ _ _)]; exact ext_sub64 _ _ _ (sbB_le _ _ _) w
theorem sub64_2 {a b : Nat} (ha : a < W) (hb : b < W) (w : World) : (callFunc 46 #[.int .u64 (lm a 2 : Nat), .int .u64 (lm b 2 : Nat), .int .u64 (bw2 a b : Nat)]).run Try.prog w =
      .ok (.value (.tuple #[.int .u64 (lm (subN a b) 2 : Nat), .int .u64 (bw3 a b : Nat)])) w := by
  rw [(sub_num ha hb).1, lm2_num (sbL_lt _ _ _) (sbL_lt _ _ _) (sbL_lt _ _ _)]; exact ext_sub64 _ _ _ (sbB_le _ _ _) w
theorem sub64_3 {a b : Nat} (ha : a < W) (hb : b < W) (w : World) : (callFunc 46 #[.int .u64 (lm a 3 : Nat), .int .u64 (lm b 3 : Nat), .int .u64 (bw3 a b : Nat)]).run Try.prog w =
      .ok (.value (.tuple #[.int .u64 (lm (subN a b) 3 : Nat), .int .u64 (bw4 a b : Nat)])) w := by
  rw [(sub_num ha hb).1, lm3_num (sbL_lt _ _ _) (sbL_lt _ _ _) (sbL_lt _ _ _) (sbL_lt _ _ _)]; exact ext_sub64 _ _ _ (sbB_le _ _ _) w
set_option maxHeartbeats 1000000 in
theorem sub_any (a b : Nat) (ha : a < W) (hb : b < W) (w : World) :
    Calls Try.prog 35 #[WV a, WV b] w (Ret w (.tuple #[WV (subN a b), .bool (subB a b)])) := by
  have h4 : (((bw4 a b : Nat) : Int) != 0) = subB a b := by
    rw [(sub_num ha hb).2]; unfold subB
    by_cases h : a < b <;> simp [h]
  have s0 := fun w => sub64_0 ha hb w
  have s1 := fun w => sub64_1 ha hb w
  have s2 := fun w => sub64_2 ha hb w
  have s3 := fun w => sub64_3 ha hb w
  clear ha hb
  go_enter Try.func35, Try.ntmps35
  go_wp2
  refine wp_loop_rounds 5 ?_
  simp only [Code.rounds]
  go_wp2
  iterate 4
    (refine wp_quiet_tail 13 (by kernel_rfl) (by kernel_rfl) (by intro c a d u w h; cases d <;> exact h) ?_; simp only [List.take_succ_cons, List.take_zero, List.drop_succ_cons, List.drop_zero]; (repeat (first | go_big_quiet_step (fail) | quiet_step (fail))); refine wpQuiet_nil ?_; intro p)
    go_wp2
  exact bodyPost_ret (v := .tuple #[WV (subN a b), .bool (subB a b)]) (by simp [results, Try.results35, go_sem]) rfl (Ret.of' rfl (by (repeat (first | with_reducible exact Below.refl _ _ | refine below_gw ?_ (by first | exact Nat.le_refl _ | ((repeat (first | rw [World.size_alloc] | rw [World.size_setCell] | rw [World.size_drew] | rw [gw_size])); first | done | omega)) _ | refine Below.alloc ?_ (by first | exact Nat.le_refl _ | ((repeat (first | rw [World.size_alloc] | rw [World.size_setCell] | rw [World.size_drew] | rw [gw_size])); first | done | omega)) _ | refine Below.setCell ?_ (by first | exact Nat.le_refl _ | ((repeat (first | rw [World.size_alloc] | rw [World.size_setCell] | rw [World.size_drew] | rw [gw_size])); first | done | omega)) _ | refine Below.drew ?_))))
end Go.Proofs.Ytdanlclhnehieaa
