/-
  A world of accounts as one part of memory: opened into its parts, shut again; what a callee that turns it comes to.
-/
import Derived.Test.YtdanlclhnehieaaEG
namespace Go.Proofs.Ytdanlclhnehieaa
set_option linter.unusedSimpArgs false
set_option linter.unusedVariables false
open Go.RowKit
structure Chg (w w' : World) (l : List Nat) : Prop where
  os : w'.os = w.os
  tape : w'.tape = w.tape
  output : w'.output = w.output
  size : w.heap.size ≤ w'.heap.size
  old : ∀ k, k < w.heap.size → k ∉ l → w'.heap[k]? = w.heap[k]?
theorem MemOk.chg {w : World} {l : List Nat} {m : List Blk} {w' : World} (h : MemOk w l m w') : Chg w w' l := ⟨h.os, h.tape, h.output, h.size, h.old⟩
theorem ok_chg {w0 : World} {B : List Nat} {w' : World} {e : Blk} : ∀ (l : List Nat) (w : World), Chg w w' l → (∀ b ∈ l, w0.heap.size ≤ b ∨ b ∈ B) → w0.heap.size ≤ w.heap.size → e.ok w0 B w → (∀ b ∈ l, b ∉ e.nums) → e.ok w0 B w'
  | [], w, h, hr, hs, he, hn => ok_grown (row := none) ⟨h.os, h.tape, h.output, h.size, fun k hk _ => h.old k hk List.not_mem_nil⟩ (fun _ h => by cases h) hs he (fun _ h => by cases h)
  | b :: l, w, h, hr, hs, he, hn => by
    by_cases hb : b < w.heap.size
    · have hb' : b < w'.heap.size := Nat.lt_of_lt_of_le hb h.size
      let w1 : World := { w with heap := w.heap.setIfInBounds b w'.heap[b] }
      have h1 : w.grownBy w1 (some b) := ⟨rfl, rfl, rfl, by simp [w1], fun k hk hkb => by
        show (w.heap.setIfInBounds b w'.heap[b])[k]? = _
        rw [Array.getElem?_setIfInBounds_ne (fun e => hkb (by rw [e]))]⟩
      have h2 : e.ok w0 B w1 := ok_grown h1 (fun k hk => by cases hk; exact hr b List.mem_cons_self) hs he (fun k hk => by cases hk; exact hn b List.mem_cons_self)
      refine ok_chg l w1 ⟨h.os, h.tape, h.output, by simp [w1]; exact h.size, fun k hk hkl => ?_⟩ (fun k hk => hr k (List.mem_cons_of_mem _ hk)) (by simp [w1]; exact hs) h2 (fun k hk => hn k (List.mem_cons_of_mem _ hk))
      show _ = (w.heap.setIfInBounds b w'.heap[b])[k]?
      by_cases hkb : k = b
      · subst hkb
        rw [Array.getElem?_setIfInBounds_self_of_lt hb, Array.getElem?_eq_getElem hb']
      · rw [Array.getElem?_setIfInBounds_ne (fun e => hkb e.symm)]
        refine h.old k (by simpa [w1] using hk) (fun hm => ?_)
        rcases List.mem_cons.1 hm with e | e
        · exact hkb e
        · exact hkl e
    · refine ok_chg l w ⟨h.os, h.tape, h.output, h.size, fun k hk hkl => h.old k hk (fun hm => ?_)⟩ (fun k hk => hr k (List.mem_cons_of_mem _ hk)) hs he (fun k hk => hn k (List.mem_cons_of_mem _ hk))
      rcases List.mem_cons.1 hm with e | e
      · omega
      · exact hkl e
theorem MemOk.turns {w0 : World} {B : List Nat} {m : List Blk} {w w' : World} (h : MemOk w0 B m w) {nm : Nat} {e0 e : Blk} (hb : bget m nm = e0) (hn : e0 ≠ .gone) (hc : Chg w w' e0.nums) (hr : ∀ b ∈ e0.nums, w0.heap.size ≤ b ∨ b ∈ B)
    (he : e.ok w0 B w') (hnum : ∀ b ∈ e.nums, b ∈ e0.nums ∨ w.heap.size ≤ b) (hee : e.nums.Nodup) : MemOk w0 B (bset m nm e) w' := by
  have hd := nodup_bset (e := e) hb hn h.nodup hee (fun b hbe => (hnum b hbe).imp id (fun h1 h2 => by
    obtain ⟨x, hx, hxb⟩ := List.mem_flatMap.1 h2
    have := bnum_lt (h.each x hx) hxb
    omega))
  refine ⟨hc.os.trans h.os, hc.tape.trans h.tape, hc.output.trans h.output, Nat.le_trans h.size hc.size, fun k hk hkb => ?_, fun x hx => ?_, hd.1⟩
  · rw [hc.old k (Nat.lt_of_lt_of_le hk h.size) (fun e => ?_)]
    · exact h.old k hk hkb
    · rcases hr k e with h4 | h4
      · omega
      · exact hkb h4
  · rcases hd.2 x hx with rfl | ⟨h1, h2⟩
    · exact he
    · exact ok_chg _ w hc hr h.size (h.each x h1) h2
def ownP : Blk → Bool
  | .blk _ _ _ => true
  | .own _ _ _ _ _ => true
  | .mp _ _ _ => true
  | _ => false
theorem ownP_chg {e : Blk} (h : ownP e = true) {w0 : World} {B : List Nat} {w : World} (he : e.ok w0 B w) {w1 : World} {B' : List Nat} (hb : ∀ b ∈ e.nums, w1.heap.size ≤ b ∨ b ∈ B') : e.ok w1 B' w := by
  cases e with
  | blk b t con => exact ⟨he.1, hb b (by simp [Blk.nums])⟩
  | own v n t es con => exact ⟨he.1, fun b h => hb b (by simp [Blk.nums, h])⟩
  | mp b ks f => exact ⟨he.1, hb b (by simp [Blk.nums])⟩
  | _ => cases h
theorem ownP_nums {e : Blk} (h : ownP e = true) {w0 : World} {B : List Nat} {w : World} (he : e.ok w0 B w) : ∀ b ∈ e.nums, w0.heap.size ≤ b ∨ b ∈ B := by
  cases e with
  | blk b t con => intro k hk; simp [Blk.nums] at hk; subst hk; exact he.2
  | own v n t es con => intro k hk; exact he.2 k (by simpa [Blk.nums] using hk)
  | mp b ks f => intro k hk; simp [Blk.nums] at hk; subst hk; exact he.2
  | _ => cases h
theorem pre_start {w0 : World} {B : List Nat} {pre rest : List Blk} {w : World} (hm : MemOk w0 B (pre ++ rest) w) (ho : ∀ e ∈ pre, ownP e = true) : MemOk w (pre.flatMap Blk.nums) pre w := by
  have hd := hm.nodup
  rw [List.flatMap_append] at hd
  exact ⟨rfl, rfl, rfl, Nat.le_refl _, fun _ _ _ => rfl, fun e he => ownP_chg (ho e he) (hm.each e (List.mem_append_left _ he)) (fun b hb => .inr (List.mem_flatMap.2 ⟨e, he, hb⟩)), (List.nodup_append.1 hd).1⟩
theorem pre_end {w0 : World} {B : List Nat} {pre rest pre' junk : List Blk} {w w' : World} (hm : MemOk w0 B (pre ++ rest) w) (ho : ∀ e ∈ pre, ownP e = true) (h : MemOk w (pre.flatMap Blk.nums) (pre' ++ junk) w') (ho' : ∀ e ∈ pre', ownP e = true) :
    MemOk w0 B (pre' ++ rest) w' := by
  have hd := hm.nodup
  rw [List.flatMap_append] at hd
  obtain ⟨hd1, hd2, hd3⟩ := List.nodup_append.1 hd
  have hd' := h.nodup
  rw [List.flatMap_append] at hd'
  have hpre : ∀ b ∈ pre.flatMap Blk.nums, w0.heap.size ≤ b ∨ b ∈ B := fun b hb => by
    obtain ⟨e, he, hbe⟩ := List.mem_flatMap.1 hb
    exact ownP_nums (ho e he) (hm.each e (List.mem_append_left _ he)) b hbe
  have hnew : ∀ e ∈ pre', ∀ b ∈ e.nums, w.heap.size ≤ b ∨ b ∈ pre.flatMap Blk.nums := fun e he b hb => ownP_nums (ho' e he) (h.each e (List.mem_append_left _ he)) b hb
  refine ⟨h.os.trans hm.os, h.tape.trans hm.tape, h.output.trans hm.output, Nat.le_trans hm.size h.size, fun k hk hkb => ?_, fun e he => ?_, ?_⟩
  · rw [h.old k (Nat.lt_of_lt_of_le hk hm.size) (fun hin => ?_)]
    · exact hm.old k hk hkb
    · rcases hpre k hin with h4 | h4
      · omega
      · exact hkb h4
  · rcases List.mem_append.1 he with he | he
    · exact ownP_chg (ho' e he) (h.each e (List.mem_append_left _ he)) (fun b hb => (hnew e he b hb).elim (fun h5 => .inl (Nat.le_trans hm.size h5)) (fun h5 => hpre b h5))
    · exact ok_chg _ w h.chg hpre hm.size (hm.each e (List.mem_append_right _ he)) (fun b hb hbe => hd3 b hb b (List.mem_flatMap.2 ⟨e, he, hbe⟩) rfl)
  · rw [List.flatMap_append]
    refine List.nodup_append.2 ⟨(List.nodup_append.1 hd').1, hd2, fun b hb c hc e => ?_⟩
    subst e
    obtain ⟨e, he, hbe⟩ := List.mem_flatMap.1 hb
    obtain ⟨e2, he2, hbe2⟩ := List.mem_flatMap.1 hc
    rcases hnew e he b hbe with h5 | h5
    · have := bnum_lt (hm.each e2 (List.mem_append_right _ he2)) hbe2
      omega
    · exact hd3 b h5 b hc rfl
end Go.Proofs.Ytdanlclhnehieaa
