/-
  A world of accounts as one part of memory: opened into its parts, shut again; what a callee that turns it comes to.
-/
import Derived.Test.YtdanlclhnehieaaEG
namespace Go.Proofs.Ytdanlclhnehieaa
set_option linter.unusedSimpArgs false
set_option linter.unusedVariables false
open Go.RowKit
structure Chg (w w' : World) (l : List Nat) : Prop where
  os : w'.os = w.os
  tape : w'.tape = w.tape
  output : w'.output = w.output
  size : w.heap.size ≤ w'.heap.size
  old : ∀ k, k < w.heap.size → k ∉ l → w'.heap[k]? = w.heap[k]?
theorem MemOk.chg {w : World} {l : List Nat} {m : List Blk} {w' : World} (h : MemOk w l m w') : Chg w w' l := ⟨h.os, h.tape, h.output, h.size, h.old⟩
theorem ok_chg {w0 : World} {B : List Nat} {w' : World} {e : Blk} : ∀ (l : List Nat) (w : World), Chg w w' l → (∀ b ∈ l, w0.heap.size ≤ b ∨ b ∈ B) → w0.heap.size ≤ w.heap.size → e.ok w0 B w → (∀ b ∈ l, b ∉ e.nums) → e.ok w0 B w'
  | [], w, h, hr, hs, he, hn => ok_grown (row := none) ⟨h.os, h.tape, h.output, h.size, fun k hk _ => h.old k hk List.not_mem_nil⟩ (fun _ h => by cases h) hs he (fun _ h => by cases h)
  | b :: l, w, h, hr, hs, he, hn => by
    by_cases hb : b < w.heap.size
    · have hb' : b < w'.heap.size := Nat.lt_of_lt_of_le hb h.size
      let w1 : World := { w with heap := w.heap.setIfInBounds b w'.heap[b] }
      have h1 : w.grownBy w1 (some b) := ⟨rfl, rfl, rfl, by simp [w1], fun k hk hkb => by
        show (w.heap.setIfInBounds b w'.heap[b])[k]? = _
        rw [Array.getElem?_setIfInBounds_ne (fun e => hkb (by rw [e]))]⟩
      have h2 : e.ok w0 B w1 := ok_grown h1 (fun k hk => by cases hk; exact hr b List.mem_cons_self) hs he (fun k hk => by cases hk; exact hn b List.mem_cons_self)
      refine ok_chg l w1 ⟨h.os, h.tape, h.output, by simp [w1]; exact h.size, fun k hk hkl => ?_⟩ (fun k hk => hr k (List.mem_cons_of_mem _ hk)) (by simp [w1]; exact hs) h2 (fun k hk => hn k (List.mem_cons_of_mem _ hk))
      show _ = (w.heap.setIfInBounds b w'.heap[b])[k]?
      by_cases hkb : k = b
      · subst hkb
        rw [Array.getElem?_setIfInBounds_self_of_lt hb, Array.getElem?_eq_getElem hb']
      · rw [Array.getElem?_setIfInBounds_ne (fun e => hkb e.symm)]
        refine h.old k (by simpa [w1] using hk) (fun hm => ?_)
        rcases List.mem_cons.1 hm with e | e
        · exact hkb e
        · exact hkl e
    · refine ok_chg l w ⟨h.os, h.tape, h.output, h.size, fun k hk hkl => h.old k hk (fun hm => ?_)⟩ (fun k hk => hr k (List.mem_cons_of_mem _ hk)) hs he (fun k hk => hn k (List.mem_cons_of_mem _ hk))
      rcases List.mem_cons.1 hm with e | e
      · omega
      · exact hkl e
theorem MemOk.turns {w0 : World} {B : List Nat} {m : List Blk} {w w' : World} (h : MemOk w0 B m w) {nm : Nat} {e0 e : Blk} (hb : bget m nm = e0) (hn : e0 ≠ .gone) (hc : Chg w w' e0.nums) (hr : ∀ b ∈ e0.nums, w0.heap.size ≤ b ∨ b ∈ B)
    (he : e.ok w0 B w') (hnum : ∀ b ∈ e.nums, b ∈ e0.nums ∨ w.heap.size ≤ b) (hee : e.nums.Nodup) : MemOk w0 B (bset m nm e) w' := by
  have hd := nodup_bset (e := e) hb hn h.nodup hee (fun b hbe => (hnum b hbe).imp id (fun h1 h2 => by
    obtain ⟨x, hx, hxb⟩ := List.mem_flatMap.1 h2
    have := bnum_lt (h.each x hx) hxb
    omega))
  refine ⟨hc.os.trans h.os, hc.tape.trans h.tape, hc.output.trans h.output, Nat.le_trans h.size hc.size, fun k hk hkb => ?_, fun x hx => ?_, hd.1⟩
  · rw [hc.old k (Nat.lt_of_lt_of_le hk h.size) (fun e => ?_)]
    · exact h.old k hk hkb
    · rcases hr k e with h4 | h4
      · omega
      · exact hkb h4
  · rcases hd.2 x hx with rfl | ⟨h1, h2⟩
    · exact he
    · exact ok_chg _ w hc hr h.size (h.each x h1) h2
end Go.Proofs.Ytdanlclhnehieaa
