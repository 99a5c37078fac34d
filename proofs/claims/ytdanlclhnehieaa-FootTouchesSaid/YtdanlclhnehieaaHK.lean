/-
  Blocks that are kept: own slices frozen, callees that made some. No condition.
-/
import Derived.Test.YtdanlclhnehieaaEG
namespace Go.Proofs.Ytdanlclhnehieaa
set_option linter.unusedSimpArgs false
set_option linter.unusedVariables false
open Go.RowKit
def Hl (l : List (Nat × Obj)) (b : Nat) (o : Obj) : Prop := (b, o) ∈ l
theorem Hl.hm {l L : List (Nat × Obj)} {m : List Blk} (hin : Blk.heap L ∈ m) (hs : ∀ p ∈ l, p ∈ L) : ∀ b o, Hl l b o → HM m b o := fun b o h => ⟨_, hin, hs _ h⟩
theorem MemOk.set {w0 : World} {B : List Nat} {m : List Blk} {w : World} (h : MemOk w0 B m w) {k : Nat} {e0 e : Blk} (hb : bget m k = e0) (hn : e0 ≠ .gone) (he : e.ok w0 B w) (hee : e.nums.Nodup)
    (hnum : ∀ b ∈ e.nums, b ∈ e0.nums ∨ b ∉ m.flatMap Blk.nums) : MemOk w0 B (bset m k e) w := by
  have hd := nodup_bset (e := e) hb hn h.nodup hee hnum
  exact ⟨h.os, h.tape, h.output, h.size, h.old, fun x hx => (hd.2 x hx).elim (fun g => g ▸ he) (fun g => h.each x g.1), hd.1⟩
theorem lies_of_ro {w : World} {a : Option Addr} {con : Con} (h : MemOk w [] [.ro a con] w) : LiesH (H0 w) a (cc con) := by
  have h1 := h.each _ List.mem_cons_self
  cases hc : cc con with
  | nil => exact .inl rfl
  | cons u0 l =>
    rw [← hc]
    obtain ⟨b, off, rfl, h3, _, h4⟩ := h1 0 u0 (by rw [hc]; rfl)
    have hcell : ∃ arr t fr, w.heap[b]? = some (.cells arr t fr) := by
      cases ho : w.heap[b]? with
      | none => simp [World.cell?, ho] at h4
      | some o =>
        cases o with
        | cells arr t fr => exact ⟨arr, t, fr, rfl⟩
        | _ => simp [World.cell?, ho] at h4
    obtain ⟨arr, t, fr, ho⟩ := hcell
    refine .inr ⟨b, off, arr, t, fr, rfl, ho, fun j u hj => ?_⟩
    obtain ⟨b', off', e1, _, _, h5⟩ := h1 j u hj
    simp only [Option.some.injEq, Addr.mk.injEq, and_true] at e1
    obtain ⟨rfl, rfl⟩ := e1
    simpa [World.cell?, ho] using h5
end Go.Proofs.Ytdanlclhnehieaa
