/-
  Blocks that are kept: own slices frozen, callees that made some. No condition.
-/
import Derived.Test.YtdanlclhnehieaaEG
namespace Go.Proofs.Ytdanlclhnehieaa
set_option linter.unusedSimpArgs false
set_option linter.unusedVariables false
open Go.RowKit
theorem ro_front {w : World} {m : List Blk} {a : Option Addr} {c : Con} (h : MemOk w [] m w) (h1 : MemOk w [] [.ro a c] w) : MemOk w [] (.ro a c :: m) w :=
  ro_cons h fun j u hj => by
    obtain ⟨b, off, e1, e2, _, e3⟩ := h1.each _ List.mem_cons_self j u hj
    exact ⟨b, off, e1, e2, e3⟩
theorem bget_set_ne : ∀ (m : List Blk) {i j : Nat} (e : Blk), i ≠ j → bget (bset m j e) i = bget m i
  | [], _, _, _, _ => rfl
  | _ :: _, 0, 0, _, h => absurd rfl h
  | _ :: _, i + 1, 0, _, _ => rfl
  | _ :: _, 0, j + 1, _, _ => rfl
  | _ :: m, i + 1, j + 1, e, h => bget_set_ne m e (by omega)
def Hl (l : List (Nat × Obj)) (b : Nat) (o : Obj) : Prop := (b, o) ∈ l
theorem Hl.hm {l L : List (Nat × Obj)} {m : List Blk} (hin : Blk.heap L ∈ m) (hs : ∀ p ∈ l, p ∈ L) : ∀ b o, Hl l b o → HM m b o := fun b o h => ⟨_, hin, hs _ h⟩
theorem MemOk.set {w0 : World} {B : List Nat} {m : List Blk} {w : World} (h : MemOk w0 B m w) {k : Nat} {e0 e : Blk} (hb : bget m k = e0) (hn : e0 ≠ .gone) (he : e.ok w0 B w) (hee : e.nums.Nodup)
    (hnum : ∀ b ∈ e.nums, b ∈ e0.nums ∨ b ∉ m.flatMap Blk.nums) : MemOk w0 B (bset m k e) w := by
  have hd := nodup_bset (e := e) hb hn h.nodup hee hnum
  exact ⟨h.os, h.tape, h.output, h.size, h.old, fun x hx => (hd.2 x hx).elim (fun g => g ▸ he) (fun g => h.each x g.1), hd.1⟩
theorem nums_nodup : ∀ {m : List Blk} {i : Nat}, (m.flatMap Blk.nums).Nodup → (bget m i).nums.Nodup
  | [], _, _ => List.nodup_nil
  | x :: m, 0, h => by rw [List.flatMap_cons, List.nodup_append] at h; exact h.1
  | x :: m, i + 1, h => by rw [List.flatMap_cons, List.nodup_append] at h; exact nums_nodup (m := m) (i := i) h.2.1
theorem freeze {w0 : World} {B : List Nat} {m : List Blk} {w : World} (hm : MemOk w0 B m w) {i k : Nat} {v : Value} {n : Nat} {t : TypeId} {es : Nat} {con : Con} {L : List (Nat × Obj)} (hb : bget m i = .own v n t es con) (hk : bget m k = .heap L) :
    ∃ (l : List (Nat × Obj)) (a : Option Addr) (c : Nat), v = .slice a n c ∧ adr a n c ∧ n ≤ c ∧ n ≤ maxLen ∧ (cc con).length = n * es ∧ LiesH (Hl l) a (cc con) ∧ MemOk w0 B (bset (bset m i .gone) k (.heap (L ++ l))) w := by
  have hik : k ≠ i := by rintro rfl; rw [hb] at hk; cases hk
  obtain ⟨⟨ho1, ho2⟩, ho3⟩ := hm.each _ (bget_mem hb (by simp))
  have hd1 := nodup_bset (e := .gone) hb (by simp) hm.nodup List.nodup_nil (fun b h => absurd h List.not_mem_nil)
  have h1 : MemOk w0 B (bset m i .gone) w := hm.set hb (by simp) trivial List.nodup_nil (fun b h => absurd h List.not_mem_nil)
  have hk1 : bget (bset m i .gone) k = .heap L := by rw [bget_set_ne _ _ hik]; exact hk
  have hLo := hm.each _ (bget_mem hk (by simp))
  rcases ho2 with ⟨rfl, rfl⟩ | ⟨g, cap, cur, rfl, _, h3, h4, h5, h6, h7⟩
  · refine ⟨[], none, 0, rfl, .inr ⟨rfl, rfl, rfl⟩, Nat.le_refl _, Nat.zero_le _, ho1, .inl (List.length_eq_zero_iff.1 (by rw [ho1, Nat.zero_mul])), ?_⟩
    rw [List.append_nil]
    exact h1.set hk1 (by simp) hLo (by have := nums_nodup (i := k) hm.nodup; rwa [hk] at this) (fun b hb => .inl hb)
  · have hgn : g ∈ (bget m i).nums := by rw [hb]; simp [Blk.nums, Value.ownBlock]
    have hgL := nums_sep hm.nodup (Ne.symm hik) hgn
    rw [hk] at hgL
    refine ⟨[(g, .cells cur t (0, 0))], some ⟨g, 0, none⟩, cap, rfl, .inl rfl, h4, Nat.le_trans h4 h5, ho1, .inr ⟨g, 0, cur, t, (0, 0), rfl, List.mem_singleton.2 rfl, fun j u hj => ?_⟩, ?_⟩
    · rw [← h7] at hj
      rw [Nat.zero_add, ← Array.getElem?_toList]
      rw [List.getElem?_take] at hj
      split at hj
      · exact hj
      · cases hj
    · refine h1.set hk1 (by simp) (fun p hp => ?_) ?_ (fun b hbn => ?_)
      · rcases List.mem_append.1 hp with hp | hp
        · exact hLo p hp
        · rw [List.mem_singleton] at hp; subst hp
          exact ⟨h3, ho3 g rfl⟩
      · simp only [Blk.nums, List.map_append, List.map_cons, List.map_nil]
        rw [List.nodup_append]
        refine ⟨by have := nums_nodup (i := k) hm.nodup; rwa [hk] at this, by simp, fun a ha b hb2 => ?_⟩
        rw [List.mem_singleton] at hb2; subst hb2
        rintro rfl
        exact hgL ha
      · simp only [Blk.nums, List.map_append, List.map_cons, List.map_nil] at hbn
        rcases List.mem_append.1 hbn with hbn | hbn
        · exact .inl hbn
        · rw [List.mem_singleton] at hbn; subst hbn
          refine .inr fun hc => ?_
          obtain ⟨x, hx, hxb⟩ := List.mem_flatMap.1 hc
          rcases hd1.2 x hx with rfl | ⟨_, h9⟩
          · exact absurd hxb List.not_mem_nil
          · exact h9 b (by simp [Blk.nums, Value.ownBlock]) hxb
theorem MemOk.heap0 {w0 : World} {B : List Nat} {m : List Blk} {w : World} (h : MemOk w0 B m w) : MemOk w0 B (m ++ [.heap []]) w :=
  ⟨h.os, h.tape, h.output, h.size, h.old, fun e he => by
    rcases List.mem_append.1 he with he | he
    · exact h.each e he
    · rw [List.mem_singleton] at he; subst he
      exact fun p hp => absurd hp List.not_mem_nil, by
    rw [List.flatMap_append]; simpa [Blk.nums] using h.nodup⟩
theorem bget_lt : ∀ {m : List Blk} {i : Nat}, bget m i ≠ .gone → i < m.length
  | [], _, h => absurd rfl h
  | _ :: _, 0, _ => by simp
  | _ :: m, i + 1, h => by have := bget_lt (m := m) (i := i) h; simp; exact this
theorem bget_appL : ∀ {m : List Blk} {i : Nat} (x : List Blk), i < m.length → bget (m ++ x) i = bget m i
  | [], _, _, h => by simp at h
  | _ :: _, 0, _, _ => rfl
  | _ :: m, i + 1, x, h => bget_appL (m := m) x (by simpa using h)
theorem bget_appR : ∀ (m : List Blk) (x : Blk), bget (m ++ [x]) m.length = x
  | [], _ => rfl
  | _ :: m, x => bget_appR m x
theorem bset_appL : ∀ {m : List Blk} {i : Nat} (x : List Blk) (e : Blk), i < m.length → bset (m ++ x) i e = bset m i e ++ x
  | [], _, _, _, h => by simp at h
  | _ :: _, 0, _, _, _ => rfl
  | y :: m, i + 1, x, e, h => by simp only [List.cons_append, bset]; rw [bset_appL (m := m) x e (by simpa using h)]
theorem bset_appR : ∀ (m : List Blk) (x e : Blk), bset (m ++ [x]) m.length e = m ++ [e]
  | [], _, _ => rfl
  | y :: m, x, e => by simp only [List.cons_append, List.length_cons, bset]; rw [bset_appR m x e]
theorem bset_length : ∀ (m : List Blk) (i : Nat) (e : Blk), (bset m i e).length = m.length
  | [], _, _ => rfl
  | _ :: _, 0, _ => rfl
  | _ :: m, i + 1, e => by simp only [bset, List.length_cons]; rw [bset_length m i e]
theorem Vc.freeze {P : Program} {c : Code} {env : List SV} {m : List Blk} {K : Kont} (i : Nat) {v : Value} {n : Nat} {t : TypeId} {es : Nat} {con : Con} (hb : bget m i = .own v n t es con)
    (h : ∀ (a : Option Addr) (cp : Nat) (l : List (Nat × Obj)), v = .slice a n cp → adr a n cp → n ≤ cp → n ≤ maxLen → (cc con).length = n * es → LiesH (Hl l) a (cc con) → Vc P c env (bpush (bset m i .gone) (.heap l)) K) : Vc P c env m K := by
  intro w0 B ac w hf hd hm
  have hi : i < m.length := bget_lt (by rw [hb]; simp)
  obtain ⟨l, a, cp, h1, h2, h3, h4, h5, h6, h7⟩ := Go.Proofs.Ytdanlclhnehieaa.freeze hm.heap0 (i := i) (k := m.length) (by rw [bget_appL _ hi]; exact hb) (bget_appR _ _)
  refine h a cp l h1 h2 h3 h4 h5 h6 w0 B ac w hf hd ?_
  rw [bset_appL _ _ hi, List.nil_append] at h7
  rw [bpush_eq]
  have := bset_appR (bset m i .gone) (.heap []) (.heap l)
  rw [bset_length] at this
  rwa [this] at h7
theorem lies_of_ro {w : World} {a : Option Addr} {con : Con} (h : MemOk w [] [.ro a con] w) : LiesH (H0 w) a (cc con) := by
  have h1 := h.each _ List.mem_cons_self
  cases hc : cc con with
  | nil => exact .inl rfl
  | cons u0 l =>
    rw [← hc]
    obtain ⟨b, off, rfl, h3, _, h4⟩ := h1 0 u0 (by rw [hc]; rfl)
    have hcell : ∃ arr t fr, w.heap[b]? = some (.cells arr t fr) := by
      cases ho : w.heap[b]? with
      | none => simp [World.cell?, ho] at h4
      | some o =>
        cases o with
        | cells arr t fr => exact ⟨arr, t, fr, rfl⟩
        | _ => simp [World.cell?, ho] at h4
    obtain ⟨arr, t, fr, ho⟩ := hcell
    refine .inr ⟨b, off, arr, t, fr, rfl, ho, fun j u hj => ?_⟩
    obtain ⟨b', off', e1, _, _, h5⟩ := h1 j u hj
    simp only [Option.some.injEq, Addr.mk.injEq, and_true] at e1
    obtain ⟨rfl, rfl⟩ := e1
    simpa [World.cell?, ho] using h5
end Go.Proofs.Ytdanlclhnehieaa
