/-
  Bytecode (package code): the traversal's iterator, walked: a contract for every loop over it. No condition.
-/
import Derived.Test.YtdbapekeihnckaaC1
namespace Go.Proofs.Ytdbapekeihnckaa
set_option linter.unusedSimpArgs false
set_option linter.unusedVariables false
open Go.RowKit Go.Shelf
attribute [local go_sem] Oper.semAt_some
/-- What a loop's body keeps: what lay below n₀, and a box. -/
def KpB (n₀ B : Nat) (t : TypeId) (W W' : World) : Prop := Below n₀ W W' ∧ ∀ v, Boxed W B t v → Boxed W' B t v
theorem KpB.t {n₀ B : Nat} {t : TypeId} {X Y Z : World} (h : KpB n₀ B t X Y) (k : KpB n₀ B t Y Z) : KpB n₀ B t X Z := ⟨h.1.trans k.1, fun v hv => k.2 v (h.2 v hv)⟩
theorem KpB.b {n₀ B : Nat} {t : TypeId} {w : World} (hn : n₀ ≤ w.heap.size) (W : World) (l : Nat) (o o' : Obj) (hl : w.heap.size ≤ l) (h : W.heap[l]? = some o) (h1 : o.isCells = false) (h2 : o.isWalk = false) : KpB n₀ B t W (W.putObj l o') :=
  ⟨belowK_b hn W l o o' hl h h1 h2, fun v hv => hv.kept (grownBy_putObj' W l o') (fun e => by
    cases e
    rw [show W.heap[B]? = _ from hv] at h; cases h; cases h1)⟩
/-- The slice value holds the bytes xs, in a block below n₀; or it is nil and there are none. -/
def Byt (n₀ : Nat) (W : World) (sv : Value) (xs : List Int) : Prop :=
  ((∃ a cap, sv = .slice a 0 cap) ∧ xs = []) ∨ ∃ b off cap, sv = .slice (some ⟨b, off, none⟩) xs.length cap ∧ b < n₀ ∧ ∀ j, j < xs.length → W.cell? ⟨b, off + j, none⟩ = some (.int .u8 (xs[j]?.getD 0))
theorem Byt.below {n₀ : Nat} {A B : World} (h : Below n₀ A B) {sv : Value} {xs : List Int} : Byt n₀ A sv xs → Byt n₀ B sv xs
  | .inl e => .inl e
  | .inr ⟨b, off, cap, e, hb, hc⟩ => .inr ⟨b, off, cap, e, hb, fun j hj => (h.cell (p := ⟨b, off + j, none⟩) hb).trans (hc j hj)⟩
set_option maxRecDepth 100000 in
set_option maxHeartbeats 4000000 in
theorem steps1_in (F : Fence) (n : Nat) (hro : F.round = none) (hf1 : F.fn 16) (hf2 : F.fn 14) (hbe : ∀ k v w, (0 ≤ v ∧ v ≤ 255) → CallsIn F k Try.prog 14 #[.int .u8 v] w (fun e w' => e = .returned (.int .u64 (beh v : Nat)) ∧ w' = w)) (hn : 2 ≤ n) (l Bs n₀ b off cap : Nat) (xs : List Int) (hx : allB xs) (hlen : xs.length ≤ 1000000) (hb : b < n₀) (J Jx : List (Nat × Int) → World → Prop)
    (hY : ∀ pre x W, J pre W → pre.length < xs.length → YieldAt F (n - 1) Try.prog l #[.int .u64 (x.1 : Int), .int .u8 x.2] W fun e W' =>
      (e = .returned (.bool true) ∧ J (pre ++ [x]) W' ∧ KpB n₀ Bs 32 W W') ∨ (e = .returned (.bool false) ∧ Jx (pre ++ [x]) W'))
    (W : World) (hBs : Boxed W Bs 32 (.slice (some ⟨b, off, none⟩) xs.length cap)) (hc : ∀ j, j < xs.length → W.cell? ⟨b, off + j, none⟩ = some (.int .u8 (xs[j]?.getD 0))) (h0 : J [] W) :
    CallsIn F n Try.prog 16 #[.func (.yield l) #[] #[], .pointer (some ⟨Bs, 0, none⟩)] W fun e W' => (∃ v, e = .returned v) ∧
      ((∃ ys, ys = ops xs 0 ∧ J ys W') ∨ (∃ pre, pre <+: ops xs 0 ∧ Jx pre W')) := by
  have hn1 : 1 ≤ n := by omega
  refine callsIn_of_wp Try.func16 rfl hf1 ?_ hro
  simp only [Try.ntmps16, List.size_toArray, List.length_cons, List.length_nil, Nat.reduceAdd, Nat.reduceSub, Array.replicate_succ, Array.replicate_zero, List.push_toArray, List.append_toArray, List.nil_append, List.cons_append]
  gi_wp2
  gi_loopw [3] (fun i wr => ∃ (p : Nat) (pre : List (Nat × Int)), p ≤ xs.length + 33 ∧ i = .int .u64 p ∧ J pre wr ∧ Below n₀ W wr ∧ Boxed wr Bs 32 (.slice (some ⟨b, off, none⟩) xs.length cap) ∧ pre ++ ops xs p = ops xs 0)
    (fun i _ => xs.length + 33 - (intOf i).toNat)
  case atStart => exact ⟨0, [], by omega, rfl, h0, Below.refl _ _, hBs, rfl⟩
  case round =>
    obtain ⟨p, pre, hp, rfl, hJs, hnx, hbx, hops⟩ := hrel
    have hbc := hbx.cell
    by_cases hlt : p < xs.length
    · obtain ⟨v, hv⟩ : ∃ v, v = xs[p]?.getD 0 := ⟨_, rfl⟩
      have hgd : xs.getD p 0 = v := by rw [hv, List.getD_eq_getElem?_getD]
      have hcx : wr.cell? ⟨b, off + p, none⟩ = some (.int .u8 v) := by rw [hv]; exact (hnx.cell (p := ⟨b, off + p, none⟩) hb).trans (hc p hlt)
      have hpl : pre.length < xs.length := by
        have h1 := congrArg List.length hops
        have h2 := ops_len xs 0
        rw [List.length_append, ops_step hlt, List.length_cons] at h1
        omega
      have hst : (pre ++ [(p, v)]) ++ ops xs (p + 1 + beh v) = ops xs 0 := by
        rw [← hops, ops_step hlt, hgd, List.append_assoc]; rfl
      have hby : 0 ≤ v ∧ v ≤ 255 := by
        rw [hv, List.getElem?_eq_getElem hlt]; exact hx _ (List.getElem_mem _)
      clear hv hgd
      have hbl := beh_le v
      obtain ⟨fn, tmps, assign, body, hy, hR⟩ := hY _ (p, v) wr hJs hpl
      dsimp only at hy hR
      have hbh := fun k w => hbe k v w hby
      clear hbe
      gi_wp2
      refine hR.mono ?_
      rintro e W3 (⟨rfl, hJ3, hk3⟩ | ⟨rfl, hJx3⟩)
      · have hbx3 := hk3.2 _ hbx
        have hbc3 := hbx3.cell
        have hc3 : W3.cell? ⟨b, off + p, none⟩ = some (.int .u8 v) := (hk3.1.cell (p := ⟨b, off + p, none⟩) hb).trans hcx
        gi_wp2_with (gi_at_call 14; refine (hbh _ _).mono ?_; rintro e w' ⟨rfl, rfl⟩)
        go_roundw
        case rel => exact ⟨p + 1 + beh v, _, by omega, by simp; omega, hJ3, hnx.trans hk3.1, hbx3, hst⟩
        case measure => simp [intOf]; omega
      · gi_wp2
        refine bodyPost_ret (results_none rfl _ _ _) rfl ?_
        exact ⟨⟨_, rfl⟩, .inr ⟨pre ++ [_], ⟨_, hst⟩, hJx3⟩⟩
    · gi_wp2
      go_end0
      exact ⟨⟨_, rfl⟩, .inl ⟨_, by rw [← hops, ops_end (by omega), List.append_nil], hJs⟩⟩
set_option maxRecDepth 100000 in
set_option maxHeartbeats 1000000 in
theorem steps1_nil_in (F : Fence) (n : Nat) (hro : F.round = none) (hf1 : F.fn 16) (l Bs : Nat) (J : List (Nat × Int) → World → Prop) (W : World) (a0 : Option Addr) (c0 : Nat) (hBs : Boxed W Bs 32 (.slice a0 0 c0)) (h0 : J [] W) :
    CallsIn F n Try.prog 16 #[.func (.yield l) #[] #[], .pointer (some ⟨Bs, 0, none⟩)] W fun e W' => (∃ v, e = .returned v) ∧ J [] W' := by
  have hbc := hBs.cell
  refine callsIn_of_wp Try.func16 rfl hf1 ?_ hro
  simp only [Try.ntmps16, List.size_toArray, List.length_cons, List.length_nil, Nat.reduceAdd, Nat.reduceSub, Array.replicate_succ, Array.replicate_zero, List.push_toArray, List.append_toArray, List.nil_append, List.cons_append]
  gi_wp2
  gi_loopw [3] (fun i wr => i = .int .u64 0 ∧ J [] wr ∧ Boxed wr Bs 32 (.slice a0 0 c0)) (fun _ _ => 0)
  case atStart => exact ⟨rfl, h0, hBs⟩
  case round =>
    obtain ⟨rfl, hJs, hbx⟩ := hrel
    have hbc := hbx.cell
    gi_wp2
    go_end0
    exact ⟨⟨_, rfl⟩, hJs⟩
set_option maxHeartbeats 1000000 in
theorem steps_in (F : Fence) (n : Nat) (hf : F.fn 13) (hro : F.round = none) (sv : Value) (hs : ∃ a len cap, sv = .slice a len cap) (w : World) :
    CallsIn F n Try.prog 13 #[sv] w fun e w' => e = .returned (.func (.func 16) #[] #[.pointer (some ⟨w.heap.size, 0, none⟩)]) ∧ w' = w.alloc (.cells #[sv] 32) := by
  obtain ⟨a, len, cap, rfl⟩ := hs
  refine callsIn_of_wp Try.func13 rfl hf ?_ hro
  simp only [Try.ntmps13, List.size_toArray, List.length_cons, List.length_nil, Nat.reduceAdd, Nat.reduceSub, Array.replicate_succ, Array.replicate_zero, List.push_toArray, List.append_toArray, List.nil_append, List.cons_append]
  gi_wp2
  go_ret
  exact ⟨rfl, rfl⟩
theorem steps_stops (F : Fence) (n : Nat) (hro : F.round = none) (hf1 : F.fn 16) (hf2 : F.fn 14) (hbe : ∀ k v w, (0 ≤ v ∧ v ≤ 255) → CallsIn F k Try.prog 14 #[.int .u8 v] w (fun e w' => e = .returned (.int .u64 (beh v : Nat)) ∧ w' = w)) (hn : 2 ≤ n) (Bs n₀ : Nat) (sv : Value) (xs : List Int) (hx : allB xs) (hlen : xs.length ≤ 1000000) (w : World) (hn₀ : n₀ ≤ w.heap.size)
    (hB : Boxed w Bs 32 sv) (hI : Byt n₀ w sv xs) :
    SeqStopsK F n Try.prog 16 #[.pointer (some ⟨Bs, 0, none⟩)] (fun x : Nat × Int => #[Value.int .u64 (x.1 : Int), .int .u8 x.2]) (KpB n₀ Bs 32) (fun ys => ys = ops xs 0) (fun pre => pre <+: ops xs 0) xs.length w := fun l J Jx W hW _ _ hY h0 => by
  have hB' : Boxed W Bs 32 sv := (hW.block Bs hB.lt).trans hB
  rcases hI.below (hW.mono hn₀) with ⟨⟨a0, c0, rfl⟩, rfl⟩ | ⟨b, off, cap, rfl, hb, hcs⟩
  · exact (steps1_nil_in F n hro hf1 l Bs J W a0 c0 hB' h0).mono fun e W' ⟨he, hj⟩ => ⟨he, .inl ⟨_, (ops_end (Nat.le_refl _)).symm, hj⟩⟩
  · exact steps1_in F n hro hf1 hf2 hbe hn l Bs n₀ b off cap xs hx hlen hb J Jx hY W hB' hcs h0
end Go.Proofs.Ytdbapekeihnckaa
