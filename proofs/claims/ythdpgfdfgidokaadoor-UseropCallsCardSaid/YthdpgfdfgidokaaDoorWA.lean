/-
 The product of two words, as a wide number, walked.
-/
import Derived.Test.YthdpgfdfgidokaaDoorW8
import Derived.Deep.DeepCutAuto
import Derived.Deep.CutBlock
set_option maxRecDepth 10000
set_option linter.unusedVariables false
set_option linter.unusedSimpArgs false
namespace Go.Proofs.YthdpgfdfgidokaaDoor
open Go.RowKit
theorem bXWA0 {p : Prop} (h : p := by (repeat (first | with_reducible exact Below.refl _ _ | refine below_gw ?_ (by first | exact Nat.le_refl _ | ((repeat (first | rw [World.size_alloc] | rw [World.size_setCell] | rw [World.size_drew] | rw [gw_size])); first | done | omega)) _ | refine Below.alloc ?_ (by first | exact Nat.le_refl _ | ((repeat (first | rw [World.size_alloc] | rw [World.size_setCell] | rw [World.size_drew] | rw [gw_size])); first | done | omega)) _ | refine Below.setCell ?_ (by first | exact Nat.le_refl _ | ((repeat (first | rw [World.size_alloc] | rw [World.size_setCell] | rw [World.size_drew] | rw [gw_size])); first | done | omega)) _ | refine Below.drew ?_))) : p := h
structure PInv (a b i j : Nat) (ps : List Nat) (c : Nat) : Prop where
 len : ps.length = 8
 ok : Ok ps
 clt : c < 18446744073709551616
 eq : val ps + c * Bp (i + j) = a % Bp i * b + Bp i * (lm a i * (b % Bp j))
 zero : ∀ k, i + 4 ≤ k → ps.getD k 0 = 0
structure RInv (a b i : Nat) (ps : List Nat) : Prop where
 len : ps.length = 8
 ok : Ok ps
 eq : val ps = a % Bp i * b
 zero : ∀ k, i + 4 ≤ k → ps.getD k 0 = 0
theorem RInv.start (a b : Nat) : RInv a b 0 [0, 0, 0, 0, 0, 0, 0, 0] :=
 ⟨rfl, fun x hx => by simp at hx; subst hx; decide, by simp [val, Bp_zero, Nat.mod_one], fun k _ => by
  rw [List.getD_eq_getElem?_getD]
  cases h : ([0, 0, 0, 0, 0, 0, 0, 0] : List Nat)[k]? with
  | none => rfl
  | some x => have := List.mem_of_getElem? h; simp at this; simpa using this⟩
theorem RInv.row {a b i : Nat} {ps : List Nat} (h : RInv a b i ps) : PInv a b i 0 ps 0 :=
 ⟨h.len, h.ok, by decide, by rw [h.eq, Bp_zero, Nat.mod_one]; simp, h.zero⟩
theorem PInv.step {a b i j c : Nat} {ps : List Nat} (h : PInv a b i j ps c) (h4 : i < 4) (hj : j < 4) :
  PInv a b i (j + 1) (ps.set (i + j) (lo (lm a i * lm b j + ps.getD (i + j) 0 + c))) (hi (lm a i * lm b j + ps.getD (i + j) 0 + c)) := by
 have hl := h.len
 have hx := lm_lt a i
 have hy := lm_lt b j
 have hp := h.ok.getD (i + j)
 have hc := h.clt
 have hm : lm a i * lm b j ≤ 18446744073709551615 * 18446744073709551615 := Nat.mul_le_mul (by omega) (by omega)
 have v1 := val_set (xs := ps) (k := i + j) (by omega) (lo (lm a i * lm b j + ps.getD (i + j) 0 + c))
 have e := h.eq
 refine ⟨by simp [hl], h.ok.set _ (lo_lt _), ?_, ?_, fun k hk => ?_⟩
 ·generalize lm a i * lm b j = xy at *
  unfold hi; omega
 ·have hs : lo (lm a i * lm b j + ps.getD (i + j) 0 + c) + 18446744073709551616 * hi (lm a i * lm b j + ps.getD (i + j) 0 + c) = lm a i * lm b j + ps.getD (i + j) 0 + c := by unfold lo hi; omega
  rw [mod_succ b j, show i + (j + 1) = (i + j) + 1 by omega, Bp_succ]
  generalize lo (lm a i * lm b j + ps.getD (i + j) 0 + c) = L at *
  generalize hi (lm a i * lm b j + ps.getD (i + j) 0 + c) = H at *
  have e2 : Bp (i + j) = Bp i * Bp j := Bp_add i j
  generalize ps.getD (i + j) 0 = p at *
  generalize lm a i = x at *
  generalize lm b j = y at *
  generalize val (ps.set (i + j) L) = v' at *
  generalize val ps = v at *
  generalize b % Bp j = bj at *
  generalize a % Bp i * b = A at *
  generalize Bp (i + j) = Q at *
  generalize Bp i = Pi at *
  generalize Bp j = Pj at *
  have h9 : Q * L + Q * (18446744073709551616 * H) = Q * (x * y) + Q * p + Q * c := by rw [← Nat.mul_add, hs, Nat.mul_add, Nat.mul_add]
  subst e2
  have h10 : Pi * (x * (bj + Pj * y)) = Pi * (x * bj) + Pi * Pj * (x * y) := by grind
  have h11 : H * (18446744073709551616 * (Pi * Pj)) = Pi * Pj * (18446744073709551616 * H) := by grind
  have h12 : c * (Pi * Pj) = Pi * Pj * c := Nat.mul_comm _ _
  rw [h10, h11]
  rw [h12] at e
  omega
 ·rw [getD_set_off (by omega)]; exact h.zero k hk
theorem PInv.row {a b i c : Nat} {ps : List Nat} (h : PInv a b i 4 ps c) (hi : i < 4) (hb : b < W) : RInv a b (i + 1) (ps.set (i + 4) c) := by
 have hl := h.len
 have v1 := val_set (xs := ps) (k := i + 4) (by omega) c
 rw [h.zero (i + 4) (by omega), Nat.mul_zero, Nat.add_zero] at v1
 refine ⟨by simp [hl], h.ok.set _ h.clt, ?_, fun k hk => ?_⟩
 ·have e := h.eq
  rw [Nat.mod_eq_of_lt (show b < Bp 4 from hb)] at e
  rw [v1, mod_succ a i, Nat.add_mul, Nat.mul_assoc, ← e, Nat.mul_comm]
 ·rw [getD_set_off (by omega)]; exact h.zero k (by omega)
attribute [local go_sem] U64s_set
set_option maxHeartbeats 4000000 in
theorem product_any (a b : Nat) (ha : a < W) (hb : b < W) (w : World) : Calls Tryd.prog 92 #[WV a, WV b] w (Ret w (WX (a * b))) := by
 go_enter Tryd.func92, Tryd.ntmps92
 go_wp2
 generalize hB : World.alloc (World.alloc (World.alloc w _) _) _ = BASE
 have bs : w.heap.size + 1 + 1 + 1 = BASE.heap.size := by rw [← hB]; simp
 rw [bs]
 have aA : Arr BASE w.heap.size (V4 a) 26 := by rw [← hB]; (repeat (first | (refine arr_at _ _ _ _ ?_ rfl; first | rfl | (simp only [World.size_alloc, World.size_setCell, gw_size]; done)) | refine arr_past ?_ _ | refine gw_arr ?_ _))
 have aB : Arr BASE (w.heap.size + 1) (V4 b) 26 := by rw [← hB]; (repeat (first | (refine arr_at _ _ _ _ ?_ rfl; first | rfl | (simp only [World.size_alloc, World.size_setCell, gw_size]; done)) | refine arr_past ?_ _ | refine gw_arr ?_ _))
 have hiB : w.heap.size + 1 < BASE.heap.size := by omega
 have hiB0 : w.heap.size < BASE.heap.size := by omega
 have HB := Lib.hid hB
 clear hB
 go_loopw [9] (fun i wr => ∃ k : Nat, ∃ ps : List Nat, ∃ p : Gro, k ≤ 4 ∧ i = .int .i64 k ∧ RInv a b k ps ∧ wr = gw (BASE.alloc (.cells (U64s ps) 107)) p) (fun i _ => 4 - (intOf i).toNat)
 case atStart => exact ⟨0, [0, 0, 0, 0, 0, 0, 0, 0], ⟨(BASE.alloc (.cells (U64s [0, 0, 0, 0, 0, 0, 0, 0]) 107)).drawn, #[]⟩, by omega, rfl, RInv.start a b, by unfold gw; rw [Array.append_empty]; rfl⟩
 case round =>
  obtain ⟨k, ps, p1, hk, rfl, hI, rfl⟩ := hrel
  by_cases hlt : k < 4
  ·have i1 : (k : Int) < 4 := by omega
   have cA := aA.cell (i := k) (by simp; omega)
   rw [getD_V4 a k hlt] at cA
   have HI := Lib.hid hI
   clear hI
   go_wp2
   go_loopw [7, 12] (fun c j wr => ∃ n : Nat, ∃ ps' : List Nat, ∃ c' : Nat, ∃ p : Gro, n ≤ 4 ∧ j = .int .i64 n ∧ c = .int .u64 c' ∧ PInv a b k n ps' c' ∧ wr = gw (BASE.alloc (.cells (U64s ps') 107)) p) (fun _ j _ => 4 - (intOf j).toNat)
   case atStart => exact ⟨0, ps, 0, p1, by omega, rfl, rfl, HI.out.row, rfl⟩
   case round =>
    obtain ⟨n, ps', c', p2, hn, rfl, rfl, hP, rfl⟩ := hrel
    have hcl := hP.clt
    by_cases hlt2 : n < 4
    ·have i2 : (n : Int) < 4 := by omega
     have i3 : (k : Int) + (n : Int) < 8 := by omega
     have cB := aB.cell (i := n) (by simp; omega)
     rw [getD_V4 b n hlt2] at cB
     have cP := U64s_get (xs := ps') (i := k + n) (by rw [hP.len]; omega)
     have hpl := hP.ok.getD (k + n)
     have hxl := lm_lt a k
     have hyl := lm_lt b n
     have HS := Lib.hid (hP.step hlt hlt2)
     clear hP
     generalize ps'.getD (k + n) 0 = pk at *
     generalize lm a k = xk at *
     generalize lm b n = yn at *
     go_wp2
     (refine wp_quiet_tail 20 (by kernel_rfl) (by kernel_rfl) (by intro c a d u w h; cases d <;> exact h) ?_; simp only [List.take_succ_cons, List.take_zero, List.drop_succ_cons, List.drop_zero]; (repeat (first | go_big_quiet_step ((go_at_call 118; first | (with_reducible refine quiet_same (mulAdd_any xk yn pk c' hxl hyl hpl hcl _)) | (with_reducible refine quiet_same2 (mulAdd_any xk yn pk c' hxl hyl hpl hcl _)))) | quiet_step ((go_at_call 118; first | (with_reducible refine quiet_same (mulAdd_any xk yn pk c' hxl hyl hpl hcl _)) | (with_reducible refine quiet_same2 (mulAdd_any xk yn pk c' hxl hyl hpl hcl _)))))); refine wpQuiet_nil ?_; intro p)
     go_wp2
     exact ⟨⟨n + 1, _, _, _, by omega, by go_num, rfl, HS.out, rfl⟩, by simp [intOf]; omega⟩
    ·have hn4 : n = 4 := by omega
     subst hn4
     have i2 : ¬ ((4 : Int) < 4) := by omega
     have cP := U64s_get (xs := ps') (i := k + 4) (by rw [hP.len]; omega)
     have HS := Lib.hid (hP.row hlt hb)
     clear hP
     go_wp2
     exact ⟨⟨k + 1, _, _, by omega, by go_num, HS.out, rfl⟩, by simp [intOf]; omega⟩
  ·have hk4 : k = 4 := by omega
   subst hk4
   have i2 : ¬ ((4 : Int) < 4) := by omega
   have hv : val ps = a * b := by rw [hI.eq, Nat.mod_eq_of_lt (show a < Bp 4 from ha)]
   have gx : ∀ i, i < 8 → (U64s ps)[i]? = some (.int .u64 (lm (a * b) i : Nat)) := fun i hi => by rw [U64s_get (by rw [hI.len]; exact hi), ← hv, lm_val hI.ok]
   have gx0 := gx 0 (by decide)
   have gx1 := gx 1 (by decide)
   have gx2 := gx 2 (by decide)
   have gx3 := gx 3 (by decide)
   have gx4 := gx 4 (by decide)
   have gx5 := gx 5 (by decide)
   have gx6 := gx 6 (by decide)
   have gx7 := gx 7 (by decide)
   clear gx hI hv aA aB
   go_upto_region 13 with fail
   rw [← bs, ← HB.out]
   clear HB bs hiB hiB0
   generalize a * b = ab at *
   go_wp2
   exact bodyPost_ret (v := WX ab) (by simp [results, Tryd.results92, go_sem]) rfl (Ret.of' rfl bXWA0)
end Go.Proofs.YthdpgfdfgidokaaDoor

/-
 Values mod 2^256; Add, Sub and the shifts in their words.
-/
namespace Go.Proofs.YthdpgfdfgidokaaDoor
open Go.RowKit
theorem WV_mod (a : Nat) : WV (a % W) = WV a := by
 unfold WV; rw [lm_mod a 0 (by decide), lm_mod a 1 (by decide), lm_mod a 2 (by decide), lm_mod a 3 (by decide)]
theorem W_pos : 0 < W := by decide
def addN (a b : Nat) : Nat := (a + b) % W
def subN (a b : Nat) : Nat := (a + W - b) % W
def mulN (a b : Nat) : Nat := (a * b) % W
def shlM (n a : Nat) : Nat := shlN n a % W
def shdM (n a f : Nat) : Nat := shdN n a f % W
def addB (a b : Nat) : Bool := decide (W ≤ a + b)
def subB (a b : Nat) : Bool := decide (a < b)
def mulB (a b : Nat) : Bool := decide (W ≤ a * b)
theorem addN_lt (a b : Nat) : addN a b < W := Nat.mod_lt _ W_pos
theorem mulN_lt (a b : Nat) : mulN a b < W := Nat.mod_lt _ W_pos
theorem shlM_lt (a b : Nat) : shlM a b < W := Nat.mod_lt _ W_pos
theorem shlm_any (n a : Nat) (hn : n < W) (ha : a < W) (w : World) : Calls Tryd.prog 120 #[WV n, WV a] w (Ret w (WV (shlM n a))) := by
 unfold shlM; rw [WV_mod]; exact shl_any n a hn ha w
theorem shrm_any (n a : Nat) (hn : n < W) (ha : a < W) (w : World) : Calls Tryd.prog 89 #[WV n, WV a] w (Ret w (WV (shdM n a 0))) := by
 unfold shdM; rw [WV_mod]; exact shr_any n a hn ha w
section
attribute [local go_sem] add64_0 add64_1 add64_2 add64_3
set_option maxHeartbeats 1000000 in
theorem add_any (a b : Nat) (ha : a < W) (hb : b < W) (w : World) :
  Calls Tryd.prog 53 #[WV a, WV b] w (Ret w (.tuple #[WV (addN a b), .bool (addB a b)])) := by
 have h4 : (((cy4 a b : Nat) : Int) != 0) = addB a b := by
  rw [add4 ha hb]; unfold addB
  rw [Bool.eq_iff_iff, bne_iff_ne, decide_eq_true_iff]
  have : (a + b) / W = 0 ↔ a + b < W := by rw [Nat.div_eq_zero_iff]; have := W_pos; omega
  omega
 unfold addN
 rw [WV_mod]
 clear ha hb
 go_enter Tryd.func53, Tryd.ntmps53
 go_wp2
 refine wp_loop_rounds 5 ?_
 simp only [Code.rounds]
 go_wp2
 iterate 4
  (refine wp_quiet_tail 13 (by kernel_rfl) (by kernel_rfl) (by intro c a d u w h; cases d <;> exact h) ?_; simp only [List.take_succ_cons, List.take_zero, List.drop_succ_cons, List.drop_zero]; (repeat (first | go_big_quiet_step (fail) | quiet_step (fail))); refine wpQuiet_nil ?_; intro p)
  go_wp2
 exact bodyPost_ret (v := .tuple #[WV (a + b), .bool (addB a b)]) (by simp [results, Tryd.results53, go_sem]) rfl (Ret.of' rfl bXWA0)
end

def bw1 (a b : Nat) : Nat := sbB (lm a 0) (lm b 0) 0
def bw2 (a b : Nat) : Nat := sbB (lm a 1) (lm b 1) (bw1 a b)
def bw3 (a b : Nat) : Nat := sbB (lm a 2) (lm b 2) (bw2 a b)
def bw4 (a b : Nat) : Nat := sbB (lm a 3) (lm b 3) (bw3 a b)
theorem sub_num {a b : Nat} (ha : a < W) (hb : b < W) :
  subN a b = num (sbL (lm a 0) (lm b 0) 0) (sbL (lm a 1) (lm b 1) (bw1 a b)) (sbL (lm a 2) (lm b 2) (bw2 a b)) (sbL (lm a 3) (lm b 3) (bw3 a b)) ∧ bw4 a b = if a < b then 1 else 0 := by
 have e0 := sb_eq (lm_lt a 0) (lm_lt b 0) (Nat.zero_le 1)
 have e1 := sb_eq (lm_lt a 1) (lm_lt b 1) (sbB_le (lm a 0) (lm b 0) 0)
 have e2 := sb_eq (lm_lt a 2) (lm_lt b 2) (sbB_le (lm a 1) (lm b 1) (bw1 a b))
 have e3 := sb_eq (lm_lt a 3) (lm_lt b 3) (sbB_le (lm a 2) (lm b 2) (bw2 a b))
 have h4 := sbB_le (lm a 3) (lm b 3) (bw3 a b)
 have na := num_lm ha
 have nb := num_lm hb
 have hd : num (sbL (lm a 0) (lm b 0) 0) (sbL (lm a 1) (lm b 1) (bw1 a b)) (sbL (lm a 2) (lm b 2) (bw2 a b)) (sbL (lm a 3) (lm b 3) (bw3 a b)) < W := num_lt (sbL_lt _ _ _) (sbL_lt _ _ _) (sbL_lt _ _ _) (sbL_lt _ _ _)
 change lm a 0 + _ * bw1 a b = _ at e0
 change lm a 1 + _ * bw2 a b = sbL (lm a 1) (lm b 1) (bw1 a b) + lm b 1 + bw1 a b at e1
 change lm a 2 + _ * bw3 a b = sbL (lm a 2) (lm b 2) (bw2 a b) + lm b 2 + bw2 a b at e2
 change lm a 3 + _ * bw4 a b = sbL (lm a 3) (lm b 3) (bw3 a b) + lm b 3 + bw3 a b at e3
 change bw4 a b ≤ 1 at h4
 generalize sbL (lm a 0) (lm b 0) 0 = d0 at *
 generalize sbL (lm a 1) (lm b 1) (bw1 a b) = d1 at *
 generalize sbL (lm a 2) (lm b 2) (bw2 a b) = d2 at *
 generalize sbL (lm a 3) (lm b 3) (bw3 a b) = d3 at *
 generalize bw1 a b = b1 at *
 generalize bw2 a b = b2 at *
 generalize bw3 a b = b3 at *
 generalize bw4 a b = b4 at *
 have key : num d0 d1 d2 d3 + b = a + W * b4 := by
  unfold num at *; unfold W at *; omega
 generalize num d0 d1 d2 d3 = d at *
 have h01 : b4 = 0 ∨ b4 = 1 := by omega
 unfold subN
 rcases h01 with rfl | rfl
 ·have : ¬ a < b := by omega
  rw [if_neg this]
  refine ⟨?_, rfl⟩
  rw [show a + W - b = d + W by omega, Nat.add_mod_right, Nat.mod_eq_of_lt hd]
 ·have : a < b := by omega
  rw [if_pos this]
  refine ⟨?_, rfl⟩
  rw [show a + W - b = d by omega, Nat.mod_eq_of_lt hd]
theorem sub64_0 {a b : Nat} (ha : a < W) (hb : b < W) (w : World) : (callFunc 119 #[.int .u64 (lm a 0 : Nat), .int .u64 (lm b 0 : Nat), .int .u64 0]).run Tryd.prog w =
   .ok (.value (.tuple #[.int .u64 (lm (subN a b) 0 : Nat), .int .u64 (bw1 a b : Nat)])) w := by
 rw [(sub_num ha hb).1, lm0_num (sbL_lt _ _ _)]; exact ext_sub64 _ _ 0 (by omega) w
theorem sub64_1 {a b : Nat} (ha : a < W) (hb : b < W) (w : World) : (callFunc 119 #[.int .u64 (lm a 1 : Nat), .int .u64 (lm b 1 : Nat), .int .u64 (bw1 a b : Nat)]).run Tryd.prog w =
   .ok (.value (.tuple #[.int .u64 (lm (subN a b) 1 : Nat), .int .u64 (bw2 a b : Nat)])) w := by
 rw [(sub_num ha hb).1, lm1_num (sbL_lt _ _ _) (sbL_lt _ _ _)]; exact ext_sub64 _ _ _ (sbB_le _ _ _) w
theorem sub64_2 {a b : Nat} (ha : a < W) (hb : b < W) (w : World) : (callFunc 119 #[.int .u64 (lm a 2 : Nat), .int .u64 (lm b 2 : Nat), .int .u64 (bw2 a b : Nat)]).run Tryd.prog w =
   .ok (.value (.tuple #[.int .u64 (lm (subN a b) 2 : Nat), .int .u64 (bw3 a b : Nat)])) w := by
 rw [(sub_num ha hb).1, lm2_num (sbL_lt _ _ _) (sbL_lt _ _ _) (sbL_lt _ _ _)]; exact ext_sub64 _ _ _ (sbB_le _ _ _) w
theorem sub64_3 {a b : Nat} (ha : a < W) (hb : b < W) (w : World) : (callFunc 119 #[.int .u64 (lm a 3 : Nat), .int .u64 (lm b 3 : Nat), .int .u64 (bw3 a b : Nat)]).run Tryd.prog w =
   .ok (.value (.tuple #[.int .u64 (lm (subN a b) 3 : Nat), .int .u64 (bw4 a b : Nat)])) w := by
 rw [(sub_num ha hb).1, lm3_num (sbL_lt _ _ _) (sbL_lt _ _ _) (sbL_lt _ _ _) (sbL_lt _ _ _)]; exact ext_sub64 _ _ _ (sbB_le _ _ _) w
set_option maxHeartbeats 1000000 in
theorem sub_any (a b : Nat) (ha : a < W) (hb : b < W) (w : World) :
  Calls Tryd.prog 95 #[WV a, WV b] w (Ret w (.tuple #[WV (subN a b), .bool (subB a b)])) := by
 have h4 : (((bw4 a b : Nat) : Int) != 0) = subB a b := by
  rw [(sub_num ha hb).2]; unfold subB
  by_cases h : a < b <;> simp [h]
 have s0 := fun w => sub64_0 ha hb w
 have s1 := fun w => sub64_1 ha hb w
 have s2 := fun w => sub64_2 ha hb w
 have s3 := fun w => sub64_3 ha hb w
 clear ha hb
 go_enter Tryd.func95, Tryd.ntmps95
 go_wp2
 refine wp_loop_rounds 5 ?_
 simp only [Code.rounds]
 go_wp2
 iterate 4
  (refine wp_quiet_tail 13 (by kernel_rfl) (by kernel_rfl) (by intro c a d u w h; cases d <;> exact h) ?_; simp only [List.take_succ_cons, List.take_zero, List.drop_succ_cons, List.drop_zero]; (repeat (first | go_big_quiet_step (fail) | quiet_step (fail))); refine wpQuiet_nil ?_; intro p)
  go_wp2
 exact bodyPost_ret (v := .tuple #[WV (subN a b), .bool (subB a b)]) (by simp [results, Tryd.results95, go_sem]) rfl (Ret.of' rfl bXWA0)
end Go.Proofs.YthdpgfdfgidokaaDoor
