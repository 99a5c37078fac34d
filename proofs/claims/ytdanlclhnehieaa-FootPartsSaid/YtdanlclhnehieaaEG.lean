/-
  A symbolic walk of my own: own slices that a callee turns; slices that carry their contents; whole blocks kept. No program.
-/
import Derived.Test.YtdanlclhnehieaaEO
import Derived.Test.YtdanlclhnehieaaBS
namespace Go.Proofs.Ytdanlclhnehieaa
set_option linter.unusedSimpArgs false
set_option linter.unusedVariables false
open Go.RowKit
theorem bget_at : ∀ {m : List Blk} {e : Blk}, e ∈ m → ∃ i, bget m i = e
  | x :: m, e, h => by
    rcases List.mem_cons.1 h with rfl | h
    · exact ⟨0, rfl⟩
    · obtain ⟨i, hi⟩ := bget_at h
      exact ⟨i + 1, hi⟩
theorem bget_nums : ∀ {m : List Blk} {i b : Nat}, b ∈ (bget m i).nums → b ∈ m.flatMap Blk.nums
  | [], _, _, h => by simp [bget, Blk.nums] at h
  | x :: m, 0, b, h => by rw [List.flatMap_cons]; exact List.mem_append_left _ h
  | x :: m, i + 1, b, h => by rw [List.flatMap_cons]; exact List.mem_append_right _ (bget_nums (m := m) (i := i) h)
theorem nums_sep : ∀ {m : List Blk} {i j b : Nat}, (m.flatMap Blk.nums).Nodup → i ≠ j → b ∈ (bget m i).nums → b ∉ (bget m j).nums
  | [], _, _, _, _, _, h => by simp [bget, Blk.nums] at h
  | x :: m, 0, 0, _, _, h, _ => absurd rfl h
  | x :: m, 0, j + 1, b, hd, _, h => fun hj => by
    rw [List.flatMap_cons, List.nodup_append] at hd
    exact hd.2.2 b h b (bget_nums (m := m) (i := j) hj) rfl
  | x :: m, i + 1, 0, b, hd, _, h => fun hj => by
    rw [List.flatMap_cons, List.nodup_append] at hd
    exact hd.2.2 b hj b (bget_nums (m := m) (i := i) h) rfl
  | x :: m, i + 1, j + 1, b, hd, hij, h => by
    rw [List.flatMap_cons, List.nodup_append] at hd
    exact nums_sep (m := m) hd.2.1 (by omega) h
theorem HM.off {w0 : World} {B : List Nat} {m : List Blk} {w : World} (hm : MemOk w0 B m w) {nm : Nat} {v : Value} {n : Nat} {t : TypeId} {es : Nat} {con : Con} (hb : bget m nm = .own v n t es con) {b : Nat} {o : Obj} (h : HM m b o) :
    v.ownBlock ≠ some b := by
  intro hv
  obtain ⟨e, he, hf⟩ := h
  obtain ⟨i, hi⟩ := bget_at he
  have hne : i ≠ nm := by rintro rfl; rw [hb] at hi; subst hi; exact hf
  have h1 : b ∈ (bget m nm).nums := by rw [hb]; simp [Blk.nums, hv]
  have h2 := nums_sep hm.nodup (Ne.symm hne) h1
  rw [hi] at h2
  have hb2 := (hm.each _ (bget_mem hb (by simp))).2 b hv
  cases e with
  | blk b' t' c' => obtain ⟨rfl, _⟩ := hf; exact h2 (by simp [Blk.nums])
  | heap l => exact h2 (List.mem_map_of_mem hf)
  | old g =>
    obtain ⟨_, h4, h5⟩ := hm.each _ he b o hf
    rcases hb2 with h6 | h6
    · omega
    · exact h5 h6
  | _ => exact hf
def allOld (w : World) : Blk := .old fun b => w.heap[b]?
theorem old_start (w : World) : MemOk w [] [allOld w] w :=
  ⟨rfl, rfl, rfl, Nat.le_refl _, fun _ _ _ => rfl, fun e he => by
    rw [List.mem_singleton] at he; subst he
    exact fun b o h => ⟨h, (Array.getElem?_eq_some_iff.1 h).1, List.not_mem_nil⟩, by simp [allOld, Blk.nums]⟩
theorem HM.allOld {w0 : World} {B : List Nat} {m : List Blk} {w : World} (hm : MemOk w0 B m w) {b : Nat} {o : Obj} (h : HM m b o) {m' : List Blk} (hin : Go.Proofs.Ytdanlclhnehieaa.allOld w ∈ m') : HM m' b o := ⟨_, hin, hm.hm h⟩
theorem HM.sub {m m' : List Blk} (h : ∀ e ∈ m, (∃ b o, Hof e b o) → e ∈ m') {b : Nat} {o : Obj} (hh : HM m b o) : HM m' b o := by
  obtain ⟨e, he, hf⟩ := hh; exact ⟨e, h e he ⟨b, o, hf⟩, hf⟩
theorem cvs_sset_same : ∀ (l : List SV) (i : Nat) {x : SV}, cv x = cv (sget l i) → cvs (sset l i x) = cvs l
  | [], _, _, _ => rfl
  | y :: l, 0, x, h => by simp only [sget] at h; simp only [sset, cvs, h]
  | y :: l, i + 1, x, h => by simp only [sget] at h; simp only [sset, cvs, cvs_sset_same l i h]
def H0 (w : World) (b : Nat) (o : Obj) : Prop := w.heap[b]? = some o
theorem H0.hm {w : World} {m : List Blk} (hin : allOld w ∈ m) : ∀ b o, H0 w b o → HM m b o := fun b o h => ⟨_, hin, h⟩
theorem getD_of {rs : List (List SV)} {i : Nat} {r : List SV} (h : rs[i]? = some r) : rs.getD i [] = r := by rw [List.getD_eq_getElem?_getD, h]; rfl
end Go.Proofs.Ytdanlclhnehieaa
