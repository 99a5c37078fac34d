/-
  RLP: the library's iterator from a slice's end (slices.Backward, at items), walked: a contract for every loop over it. No condition.
-/
import Derived.Test.YtlogpdjcgbifhaaPX
import Derived.RangeFuncNested
import Derived.RangeFuncBound
import Derived.RangeFuncCalls
import Derived.RangeFuncLeaves
import Derived.RangeFuncBox
import Derived.Shelf.Abstract
import Derived.Shelf.RegionOpen
import Derived.WalkKit
import Derived.OwnWalkIn
import Derived.TacticsInMore
import Derived.LoopNIn
import Derived.LoopIn
import Derived.Maps.AppendAt
namespace Go.Proofs.Ytlogpdjcgbifhaa
set_option linter.unusedSimpArgs false
set_option linter.unusedVariables false
open Go.RowKit Go.Shelf
attribute [local go_sem] Oper.semAt_some
/-- What a loop's body keeps: the old blocks but for those that it may turn, and a box. -/
def KpO (w0 : World) (B : List Nat) (Bs : Nat) (t : TypeId) (W W' : World) : Prop := (∀ k, k < w0.heap.size → k ∉ B → W'.heap[k]? = W.heap[k]?) ∧ ∀ v, Boxed W Bs t v → Boxed W' Bs t v
theorem KpO.t {w0 : World} {B : List Nat} {Bs : Nat} {t : TypeId} {X Y Z : World} (h : KpO w0 B Bs t X Y) (k : KpO w0 B Bs t Y Z) : KpO w0 B Bs t X Z := ⟨fun i h1 h2 => (k.1 i h1 h2).trans (h.1 i h1 h2), fun v hv => k.2 v (h.2 v hv)⟩
theorem KpO.refl (w0 : World) (B : List Nat) (Bs : Nat) (t : TypeId) (W : World) : KpO w0 B Bs t W W := ⟨fun _ _ _ => rfl, fun _ h => h⟩
theorem KpO.b {w0 : World} {B : List Nat} {Bs : Nat} {t : TypeId} {w : World} (hn : w0.heap.size ≤ w.heap.size) (W : World) (l : Nat) (o o' : Obj) (hl : w.heap.size ≤ l) (h : W.heap[l]? = some o) (h1 : o.isCells = false) (_ : o.isWalk = false) : KpO w0 B Bs t W (W.putObj l o') :=
  ⟨fun k hk _ => World.putObj_heap_other (by omega), fun v hv => hv.kept (grownBy_putObj' W l o') (fun e => by
    cases e
    rw [show W.heap[Bs]? = _ from hv] at h; cases h; cases h1)⟩
/-- Rows of three cells from an address on. -/
def Rows3 (W : World) (b off : Nat) (rs : List (List SV)) : Prop := ∀ (i : Nat) (x y z : SV), rs[i]? = some [x, y, z] → W.cell? ⟨b, off + i * 3, none⟩ = some (cv x) ∧ W.cell? ⟨b, off + i * 3 + 1, none⟩ = some (cv y) ∧ W.cell? ⟨b, off + i * 3 + 2, none⟩ = some (cv z)
theorem Rows3.kept {w0 : World} {B : List Nat} {Bs : Nat} {t : TypeId} {W W' : World} (h : KpO w0 B Bs t W W') {b off : Nat} {rs : List (List SV)} (hb : b < w0.heap.size) (hB : b ∉ B) (hr : Rows3 W b off rs) : Rows3 W' b off rs := fun i x y z hi => by
  have e : ∀ j, W'.cell? ⟨b, j, none⟩ = W.cell? ⟨b, j, none⟩ := fun j => by simp only [World.cell?, h.1 b hb hB]
  rw [e, e, e]; exact hr i x y z hi
set_option maxRecDepth 100000 in
set_option maxHeartbeats 4000000 in
theorem bw1_in (F : Fence) (n : Nat) (hro : F.round = none) (hf1 : F.fn 37) (hn : 1 ≤ n) (l Bs b off cap : Nat) (w0 : World) (B : List Nat) {α : Type} (enc3 : α → SV × SV × SV) (idx : α → Nat) (zs : List α)
    (hix : ∀ i x, zs[i]? = some x → idx x = i) (hlen : zs.length ≤ 1000000) (hb : b < w0.heap.size) (hB : b ∉ B) (J Jx : List α → World → Prop)
    (hY : ∀ pre x W, J pre W → pre.length < zs.length → YieldAt F (n - 1) Try.prog l #[.int .i64 (idx x : Int), .agg #[cv (enc3 x).1, cv (enc3 x).2.1, cv (enc3 x).2.2]] W fun e W' =>
      (e = .returned (.bool true) ∧ J (pre ++ [x]) W' ∧ KpO w0 B Bs 23 W W') ∨ (e = .returned (.bool false) ∧ Jx (pre ++ [x]) W'))
    (W : World) (hBs : Boxed W Bs 23 (.slice (some ⟨b, off, none⟩) zs.length cap)) (hc : Rows3 W b off (zs.map fun x => [(enc3 x).1, (enc3 x).2.1, (enc3 x).2.2])) (h0 : J [] W) :
    CallsIn F n Try.prog 37 #[.func (.yield l) #[] #[], .pointer (some ⟨Bs, 0, none⟩)] W fun e W' => (∃ v, e = .returned v) ∧
      ((∃ ys, ys = zs.reverse ∧ J ys W') ∨ (∃ pre, pre <+: zs.reverse ∧ Jx pre W')) := by
  have hn1 : 1 ≤ n := by omega
  have hbc := hBs.cell
  refine callsIn_of_wp Try.func37 rfl hf1 ?_ hro
  simp only [Try.ntmps37, List.size_toArray, List.length_cons, List.length_nil, Nat.reduceAdd, Nat.reduceSub, Array.replicate_succ, Array.replicate_zero, List.push_toArray, List.append_toArray, List.nil_append, List.cons_append]
  gi_wp2
  gi_loopw [3] (fun i wr => ∃ (k : Nat), k ≤ zs.length ∧ i = .int .i64 ((k : Int) - 1) ∧ J (zs.drop k).reverse wr ∧ KpO w0 B Bs 23 W wr)
    (fun i _ => (intOf i + 1).toNat)
  case atStart =>
    refine ⟨zs.length, Nat.le_refl _, ?_, ?_, KpO.refl _ _ _ _ _⟩
    · rfl
    · rw [List.drop_length]; exact h0
  case round =>
    obtain ⟨k, hk, rfl, hJs, hnx⟩ := hrel
    have hbx := hnx.2 _ hBs
    have hbc := hbx.cell
    have hcw := hc.kept hnx hb hB
    cases k with
    | zero =>
      gi_wp2
      go_end0
      exact ⟨⟨_, rfl⟩, .inl ⟨_, rfl, by rw [List.drop_zero] at hJs; exact hJs⟩⟩
    | succ k =>
      have hkl : k < zs.length := by omega
      have hgx := List.getElem?_eq_getElem hkl
      have hxi := hix k _ hgx
      have hst : (zs.drop (k + 1)).reverse ++ [zs[k]] = (zs.drop k).reverse := by rw [← List.reverse_cons]; congr 1; exact (List.drop_eq_getElem_cons hkl).symm
      obtain ⟨hc0, hc1, hc2⟩ := hcw k _ _ _ (by rw [List.getElem?_map, hgx]; rfl)
      have hpl : (zs.drop (k + 1)).reverse.length < zs.length := by rw [List.length_reverse, List.length_drop]; omega
      obtain ⟨fn, tmps, assign, body, hy, hR⟩ := hY _ zs[k] wr hJs hpl
      rw [hst] at hR
      rw [hxi] at hy
      generalize zs[k] = x at *
      (try dsimp only at hy hR)
      have hk1 : ((k + 1 : Nat) : Int) - 1 = (k : Int) := by omega
      rw [hk1]
      gi_wp2
      refine hR.mono ?_
      rintro e W3 (⟨rfl, hJ3, hk3⟩ | ⟨rfl, hJx3⟩)
      · gi_wp2
        go_roundw
        case rel => exact ⟨k, by omega, rfl, hJ3, hnx.t hk3⟩
        case measure => (simp [intOf]; try omega)
      · gi_wp2
        refine bodyPost_ret (results_none rfl _ _ _) rfl ?_
        exact ⟨⟨_, rfl⟩, .inr ⟨_, ⟨(zs.take k).reverse, by rw [← List.reverse_append, List.take_append_drop]⟩, hJx3⟩⟩
set_option maxRecDepth 100000 in
set_option maxHeartbeats 1000000 in
theorem bw1_nil_in (F : Fence) (n : Nat) (hro : F.round = none) (hf1 : F.fn 37) (l Bs : Nat) {α : Type} (J : List α → World → Prop) (W : World) (a0 : Option Addr) (c0 : Nat) (hBs : Boxed W Bs 23 (.slice a0 0 c0)) (h0 : J [] W) :
    CallsIn F n Try.prog 37 #[.func (.yield l) #[] #[], .pointer (some ⟨Bs, 0, none⟩)] W fun e W' => (∃ v, e = .returned v) ∧ J [] W' := by
  have hbc := hBs.cell
  refine callsIn_of_wp Try.func37 rfl hf1 ?_ hro
  simp only [Try.ntmps37, List.size_toArray, List.length_cons, List.length_nil, Nat.reduceAdd, Nat.reduceSub, Array.replicate_succ, Array.replicate_zero, List.push_toArray, List.append_toArray, List.nil_append, List.cons_append]
  gi_wp2
  gi_loopw [3] (fun i wr => i = .int .i64 (-1) ∧ J [] wr ∧ Boxed wr Bs 23 (.slice a0 0 c0)) (fun _ _ => 0)
  case atStart => exact ⟨rfl, h0, hBs⟩
  case round =>
    obtain ⟨rfl, hJs, hbx⟩ := hrel
    have hbc := hbx.cell
    gi_wp2
    go_end0
    exact ⟨⟨_, rfl⟩, hJs⟩
set_option maxHeartbeats 1000000 in
theorem bw_in (F : Fence) (n : Nat) (hf : F.fn 30) (hro : F.round = none) (sv : Value) (hs : ∃ a len cap, sv = .slice a len cap) (w : World) :
    CallsIn F n Try.prog 30 #[sv] w fun e w' => e = .returned (.func (.func 37) #[] #[.pointer (some ⟨w.heap.size, 0, none⟩)]) ∧ w' = w.alloc (.cells #[sv] 23) := by
  obtain ⟨a, len, cap, rfl⟩ := hs
  refine callsIn_of_wp Try.func30 rfl hf ?_ hro
  simp only [Try.ntmps30, List.size_toArray, List.length_cons, List.length_nil, Nat.reduceAdd, Nat.reduceSub, Array.replicate_succ, Array.replicate_zero, List.push_toArray, List.append_toArray, List.nil_append, List.cons_append]
  gi_wp2
  go_ret
  exact ⟨rfl, rfl⟩
/-- The slice value holds the rows, in an old block that is not turned; or there are none. -/
def Kds (w0 : World) (B : List Nat) (W : World) (sv : Value) {α : Type} (enc3 : α → SV × SV × SV) (zs : List α) : Prop :=
  ((∃ a cap, sv = .slice a 0 cap) ∧ zs = []) ∨ ∃ b off cap, sv = .slice (some ⟨b, off, none⟩) zs.length cap ∧ b < w0.heap.size ∧ b ∉ B ∧ Rows3 W b off (zs.map fun x => [(enc3 x).1, (enc3 x).2.1, (enc3 x).2.2])
theorem bw_stops (F : Fence) (n : Nat) (hro : F.round = none) (hf1 : F.fn 37) (hn : 1 ≤ n) (Bs : Nat) (w0 : World) (B : List Nat) (sv : Value) {α : Type} (enc3 : α → SV × SV × SV) (idx : α → Nat) (zs : List α)
    (hix : ∀ i x, zs[i]? = some x → idx x = i) (hlen : zs.length ≤ 1000000) (w : World) (hn₀ : w0.heap.size ≤ w.heap.size) (hB : Boxed w Bs 23 sv) (hI : Kds w0 B w sv enc3 zs) :
    SeqStopsK F n Try.prog 37 #[.pointer (some ⟨Bs, 0, none⟩)] (fun x : α => #[Value.int .i64 (idx x : Int), .agg #[cv (enc3 x).1, cv (enc3 x).2.1, cv (enc3 x).2.2]]) (KpO w0 B Bs 23) (fun ys => ys = zs.reverse) (fun pre => pre <+: zs.reverse) zs.length w := fun l J Jx W hW _ _ hY h0 => by
  have hB' : Boxed W Bs 23 sv := (hW.block Bs hB.lt).trans hB
  rcases hI with ⟨⟨a0, c0, rfl⟩, rfl⟩ | ⟨b, off, cap, rfl, hb, hbB, hcs⟩
  · exact (bw1_nil_in F n hro hf1 l Bs J W a0 c0 hB' h0).mono fun e W' ⟨he, hj⟩ => ⟨he, .inl ⟨_, rfl, hj⟩⟩
  · have hcs' : Rows3 W b off (zs.map fun x => [(enc3 x).1, (enc3 x).2.1, (enc3 x).2.2]) := fun i x y z hi => by
      have e : ∀ j, W.cell? ⟨b, j, none⟩ = w.cell? ⟨b, j, none⟩ := fun j => by simp only [World.cell?, hW.block b (by omega)]
      rw [e, e, e]; exact hcs i x y z hi
    exact bw1_in F n hro hf1 hn l Bs b off cap w0 B enc3 idx zs hix hlen hb hbB J Jx hY W hB' hcs' h0
end Go.Proofs.Ytlogpdjcgbifhaa
