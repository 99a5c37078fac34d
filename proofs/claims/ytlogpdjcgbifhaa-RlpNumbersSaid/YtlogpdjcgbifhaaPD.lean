/-
  A symbolic walk of my own: slices of one's own that are handed out as blocks kept; a callee that turns a block and adds blocks to those kept. No program.
-/
import Derived.Test.YtlogpdjcgbifhaaPC
namespace Go.Proofs.Ytlogpdjcgbifhaa
set_option linter.unusedSimpArgs false
set_option linter.unusedVariables false
open Go.RowKit
def Hl (l : List (Nat × Obj)) (b : Nat) (o : Obj) : Prop := (b, o) ∈ l
theorem Hl.hm {l L : List (Nat × Obj)} {m : List Blk} (hin : Blk.heap L ∈ m) (hs : ∀ p ∈ l, p ∈ L) : ∀ b o, Hl l b o → HM m b o := fun b o h => ⟨_, hin, hs _ h⟩
theorem MemOk.set {w0 : World} {B : List Nat} {m : List Blk} {w : World} (h : MemOk w0 B m w) {k : Nat} {e0 e : Blk} (hb : bget m k = e0) (hn : e0 ≠ .gone) (he : e.ok w0 B w) (hee : e.nums.Nodup)
    (hnum : ∀ b ∈ e.nums, b ∈ e0.nums ∨ b ∉ m.flatMap Blk.nums) : MemOk w0 B (bset m k e) w := by
  have hd := nodup_bset (e := e) hb hn h.nodup hee hnum
  exact ⟨h.os, h.tape, h.output, h.size, h.old, fun x hx => (hd.2 x hx).elim (fun g => g ▸ he) (fun g => h.each x g.1), hd.1⟩
theorem nums_nodup : ∀ {m : List Blk} {i : Nat}, (m.flatMap Blk.nums).Nodup → (bget m i).nums.Nodup
  | [], _, _ => List.nodup_nil
  | x :: m, 0, h => by rw [List.flatMap_cons, List.nodup_append] at h; exact h.1
  | x :: m, i + 1, h => by rw [List.flatMap_cons, List.nodup_append] at h; exact nums_nodup (m := m) (i := i) h.2.1
/-- An own slice, kept as it is. -/
theorem freeze {w0 : World} {B : List Nat} {m : List Blk} {w : World} (hm : MemOk w0 B m w) {i k : Nat} {v : Value} {n : Nat} {t : TypeId} {es : Nat} {con : Con} {L : List (Nat × Obj)} (hb : bget m i = .own v n t es con) (hk : bget m k = .heap L) :
    ∃ (l : List (Nat × Obj)) (a : Option Addr) (c : Nat), v = .slice a n c ∧ adr a n c ∧ n ≤ c ∧ n ≤ maxLen ∧ (cc con).length = n * es ∧ LiesH (Hl l) a (cc con) ∧ MemOk w0 B (bset (bset m i .gone) k (.heap (L ++ l))) w := by
  have hik : k ≠ i := by rintro rfl; rw [hb] at hk; cases hk
  obtain ⟨⟨ho1, ho2⟩, ho3⟩ := hm.each _ (bget_mem hb (by simp))
  have hd1 := nodup_bset (e := .gone) hb (by simp) hm.nodup List.nodup_nil (fun b h => absurd h List.not_mem_nil)
  have h1 : MemOk w0 B (bset m i .gone) w := hm.set hb (by simp) trivial List.nodup_nil (fun b h => absurd h List.not_mem_nil)
  have hk1 : bget (bset m i .gone) k = .heap L := by rw [bget_set_ne _ _ hik]; exact hk
  have hLo := hm.each _ (bget_mem hk (by simp))
  rcases ho2 with ⟨rfl, rfl⟩ | ⟨g, cap, cur, rfl, _, h3, h4, h5, h6, h7⟩
  · refine ⟨[], none, 0, rfl, .inr ⟨rfl, rfl, rfl⟩, Nat.le_refl _, Nat.zero_le _, ho1, .inl (List.length_eq_zero_iff.1 (by rw [ho1, Nat.zero_mul])), ?_⟩
    rw [List.append_nil]
    exact h1.set hk1 (by simp) hLo (by have := nums_nodup (i := k) hm.nodup; rwa [hk] at this) (fun b hb => .inl hb)
  · have hgn : g ∈ (bget m i).nums := by rw [hb]; simp [Blk.nums, Value.ownBlock]
    have hgL := nums_sep hm.nodup (Ne.symm hik) hgn
    rw [hk] at hgL
    refine ⟨[(g, .cells cur t (0, 0))], some ⟨g, 0, none⟩, cap, rfl, .inl rfl, h4, Nat.le_trans h4 h5, ho1, .inr ⟨g, 0, cur, t, (0, 0), rfl, List.mem_singleton.2 rfl, fun j u hj => ?_⟩, ?_⟩
    · rw [← h7] at hj
      rw [Nat.zero_add, ← Array.getElem?_toList]
      rw [List.getElem?_take] at hj
      split at hj
      · exact hj
      · cases hj
    · refine h1.set hk1 (by simp) (fun p hp => ?_) ?_ (fun b hbn => ?_)
      · rcases List.mem_append.1 hp with hp | hp
        · exact hLo p hp
        · rw [List.mem_singleton] at hp; subst hp
          exact ⟨h3, ho3 g rfl⟩
      · simp only [Blk.nums, List.map_append, List.map_cons, List.map_nil]
        rw [List.nodup_append]
        refine ⟨by have := nums_nodup (i := k) hm.nodup; rwa [hk] at this, by simp, fun a ha b hb2 => ?_⟩
        rw [List.mem_singleton] at hb2; subst hb2
        rintro rfl
        exact hgL ha
      · simp only [Blk.nums, List.map_append, List.map_cons, List.map_nil] at hbn
        rcases List.mem_append.1 hbn with hbn | hbn
        · exact .inl hbn
        · rw [List.mem_singleton] at hbn; subst hbn
          refine .inr fun hc => ?_
          obtain ⟨x, hx, hxb⟩ := List.mem_flatMap.1 hc
          rcases hd1.2 x hx with rfl | ⟨_, h9⟩
          · exact absurd hxb List.not_mem_nil
          · exact h9 b (by simp [Blk.nums, Value.ownBlock]) hxb
/-- A callee that turned a block, and made blocks that are kept. -/
theorem grow2 {w0 : World} {B : List Nat} {m m' : List Blk} {w w' : World} (hm : MemOk w0 B m w) {nm k i j b : Nat} {t t' : TypeId} {con con' : Con} {L l : List (Nat × Obj)} (hb : bget m nm = .blk b t con) (hk : bget m k = .heap L)
    (h : MemOk w [b] m' w') (hi : bget m' i = .blk b t' con') (hj : bget m' j = .heap l) : MemOk w0 B (bset (bset m nm (.blk b t' con')) k (.heap (L ++ l))) w' := by
  have h1 := turn_end hm hb h hi
  have hkn : k ≠ nm := by rintro rfl; rw [hb] at hk; cases hk
  have hk1 : bget (bset m nm (.blk b t' con')) k = .heap L := by rw [bget_set_ne _ _ hkn]; exact hk
  have hij : i ≠ j := by rintro rfl; rw [hi] at hj; cases hj
  have hlo := h.each _ (bget_mem hj (by simp))
  have hLo := hm.each _ (bget_mem hk (by simp))
  have hbb := bnum_lt (hm.each _ (bget_mem hb (by simp))) (b := b) (by simp [Blk.nums])
  have hfresh : ∀ x ∈ (Blk.heap l).nums, w.heap.size ≤ x := fun x hx => by
    obtain ⟨p, hp, rfl⟩ := List.mem_map.1 hx
    rcases (hlo p hp).2 with h3 | h3
    · exact h3
    · rw [List.mem_singleton] at h3
      have h4 := nums_sep h.nodup hij (b := b) (by rw [hi]; simp [Blk.nums])
      rw [hj] at h4
      exact absurd (h3 ▸ hx) h4
  refine h1.set hk1 (by simp) (fun p hp => ?_) ?_ (fun x hx => ?_)
  · rcases List.mem_append.1 hp with hp | hp
    · exact h1.each _ (bget_mem hk1 (by simp)) p hp
    · exact ⟨(hlo p hp).1, .inl (Nat.le_trans hm.size (hfresh _ (List.mem_map_of_mem hp)))⟩
  · simp only [Blk.nums, List.map_append]
    rw [List.nodup_append]
    refine ⟨by have := nums_nodup (i := k) hm.nodup; rwa [hk] at this, by have := nums_nodup (i := j) h.nodup; rwa [hj] at this, fun x hx y hy => ?_⟩
    rintro rfl
    have h3 := hfresh x hy
    have h4 := bnum_lt (e := .heap L) hLo hx
    omega
  · simp only [Blk.nums, List.map_append] at hx
    rcases List.mem_append.1 hx with hx | hx
    · exact .inl hx
    · refine .inr fun hc => ?_
      have h3 := hfresh x hx
      obtain ⟨y, hy, hyx⟩ := List.mem_flatMap.1 hc
      rcases mem_bset hy with rfl | hy
      · simp [Blk.nums] at hyx; omega
      · have := bnum_lt (hm.each y hy) hyx; omega
/-- Nothing kept as yet. -/
theorem MemOk.heap0 {w0 : World} {B : List Nat} {m : List Blk} {w : World} (h : MemOk w0 B m w) : MemOk w0 B (m ++ [.heap []]) w :=
  ⟨h.os, h.tape, h.output, h.size, h.old, fun e he => by
    rcases List.mem_append.1 he with he | he
    · exact h.each e he
    · rw [List.mem_singleton] at he; subst he
      exact fun p hp => absurd hp List.not_mem_nil, by
    rw [List.flatMap_append]; simpa [Blk.nums] using h.nodup⟩
end Go.Proofs.Ytlogpdjcgbifhaa
