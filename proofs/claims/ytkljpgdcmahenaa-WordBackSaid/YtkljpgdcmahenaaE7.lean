/-
  A symbolic walk of my own: what changes memory.
-/
import Derived.Test.YtkljpgdcmahenaaE6
namespace Go.Proofs.Ytkljpgdcmahenaa
set_option linter.unusedSimpArgs false
set_option linter.unusedVariables false
open Go.RowKit

/-! ### What is known, in a world that has grown -/
theorem cell_grown {w w' : World} (h : w.grownBy w' none) {a : Addr} {v : Value} (hc : w.cell? a = some v) : w'.cell? a = some v :=
  h.cell hc (by simp)
theorem own_grown {w w' : World} {row : Option Nat} (h : w.grownBy w' row) {base : Nat} {t : TypeId} {es n : Nat} {v : Value} {xs : List Value} (ho : w.ownsRow base t es v n xs)
    (hne : ∀ b, row = some b → v.ownBlock ≠ some b) : w'.ownsRow base t es v n xs := by
  obtain ⟨hl, h0⟩ := ho
  refine ⟨hl, ?_⟩
  rcases h0 with h0 | ⟨g, cap, cur, rfl, h1, h2, h3⟩
  · exact .inl h0
  · refine .inr ⟨g, cap, cur, rfl, h1, ?_, h3⟩
    have hg : g < w.heap.size := by
      have := (Array.getElem?_eq_some_iff.1 h2).1; exact this
    rw [h.block g hg (fun e => by
      cases row with
      | none => cases e
      | some b => simp at e; exact hne b rfl (by simp [Value.ownBlock, e]))]
    exact h2
theorem bnum_lt {w0 : World} {B : List Nat} {w : World} {e : Blk} (h : e.ok w0 B w) {b : Nat} (hb : e.num? = some b) : b < w.heap.size := by
  cases e with
  | blk b' t con =>
    simp [Blk.num?] at hb; subst hb
    exact (Array.getElem?_eq_some_iff.1 h.1).1
  | own v n t es con =>
    obtain ⟨_, h⟩ := h
    rcases h with ⟨rfl, _⟩ | ⟨g, cap, cur, rfl, _, h2, _⟩
    · simp [Blk.num?, Value.ownBlock] at hb
    · simp [Blk.num?, Value.ownBlock] at hb; subst hb
      exact (Array.getElem?_eq_some_iff.1 h2).1
  | ro a con => simp [Blk.num?] at hb
  | gone => simp [Blk.num?] at hb
/-- What is known of a part stays, where another block was turned. -/
theorem ok_grown {w0 : World} {B : List Nat} {w w' : World} {row : Option Nat} (h : w.grownBy w' row) (hrow : ∀ b, row = some b → w0.heap.size ≤ b ∨ b ∈ B) (_hsz : w0.heap.size ≤ w.heap.size)
    {e : Blk} (he : e.ok w0 B w) (hne : ∀ b, row = some b → e.num? ≠ some b) : e.ok w0 B w' := by
  cases e with
  | blk b t con =>
    refine ⟨?_, he.2⟩
    have hb := bnum_lt he (b := b) rfl
    rw [h.block b hb (fun e => hne b e.symm (by simp [Blk.num?]))]
    exact he.1
  | own v n t es con => exact own_grown h he (fun b hb => by simpa [Blk.num?] using hne b hb)
  | ro a con =>
    intro j u hj
    obtain ⟨b, off, rfl, h1, h2, h3⟩ := he j u hj
    refine ⟨b, off, rfl, h1, h2, ?_⟩
    refine h.cell h3 (fun e => ?_)
    rcases hrow b e.symm with h4 | h4
    · omega
    · exact h2 h4
  | gone => trivial
theorem MemOk.grow {w0 : World} {B : List Nat} {m : List Blk} {w w' : World} (h : MemOk w0 B m w) (hg : w.grownBy w' none) : MemOk w0 B m w' :=
  ⟨hg.os.trans h.os, hg.tape.trans h.tape, hg.output.trans h.output, Nat.le_trans h.size hg.size, fun k hk hb => (hg.block k (Nat.lt_of_lt_of_le hk h.size) (by simp)).trans (h.old k hk hb),
    fun e he => ok_grown hg (by simp) h.size (h.each e he) (by simp), h.nodup⟩
/-- A new part. -/
theorem MemOk.push {w0 : World} {B : List Nat} {m : List Blk} {w w' : World} (h : MemOk w0 B m w) (hg : w.grownBy w' none) {e : Blk} (he : e.ok w0 B w') (hn : ∀ b, e.num? = some b → w.heap.size ≤ b) :
    MemOk w0 B (m ++ [e]) w' := by
  have h1 := h.grow hg
  refine ⟨h1.os, h1.tape, h1.output, h1.size, h1.old, fun x hx => ?_, ?_⟩
  · rcases List.mem_append.1 hx with hx | hx
    · exact h1.each x hx
    · rw [List.mem_singleton.1 hx]; exact he
  · rw [List.filterMap_append, List.nodup_append]
    refine ⟨h.nodup, ?_, ?_⟩
    · cases hq : e.num? <;> simp [List.filterMap, hq]
    · intro a ha b hb hab
      subst hab
      obtain ⟨x, hx, hxa⟩ := List.mem_filterMap.1 ha
      obtain ⟨y, hy, hya⟩ := List.mem_filterMap.1 hb
      rw [List.mem_singleton.1 hy] at hya
      have h2 := bnum_lt (h.each x hx) hxa
      have h3 := hn a hya
      omega
theorem mem_bset : ∀ {l : List Blk} {n : Nat} {e x : Blk}, x ∈ bset l n e → x = e ∨ x ∈ l
  | _ :: _, 0, _, _, h => by rcases List.mem_cons.1 h with h | h; exact .inl h; exact .inr (List.mem_cons_of_mem _ h)
  | _ :: _, _ + 1, _, _, h => by
    rcases List.mem_cons.1 h with h | h
    · exact .inr (h ▸ List.mem_cons_self)
    · rcases mem_bset h with h | h
      · exact .inl h
      · exact .inr (List.mem_cons_of_mem _ h)
theorem nodup_bset : ∀ {l : List Blk} {n : Nat} {e e0 : Blk}, bget l n = e0 → e0 ≠ .gone → (l.filterMap Blk.num?).Nodup →
    (∀ b, e.num? = some b → e0.num? = some b ∨ b ∉ l.filterMap Blk.num?) →
    ((bset l n e).filterMap Blk.num?).Nodup ∧ (∀ x ∈ bset l n e, x = e ∨ (x ∈ l ∧ ∀ b, e0.num? = some b → x.num? ≠ some b))
  | [], _, _, _, h, hn, _, _ => absurd h.symm hn
  | x :: l, 0, e, e0, h, hn, hd, hb => by
    simp only [bget] at h; subst h
    have hd' : (l.filterMap Blk.num?).Nodup ∧ ∀ b, x.num? = some b → b ∉ l.filterMap Blk.num? := by
      rw [List.filterMap_cons] at hd
      split at hd
      · rename_i hx; exact ⟨hd, fun b hb => by rw [hx] at hb; cases hb⟩
      · rename_i b hx
        rw [List.nodup_cons] at hd
        exact ⟨hd.2, fun b' hb' => by rw [hx] at hb'; cases hb'; exact hd.1⟩
    refine ⟨?_, fun y hy => ?_⟩
    · simp only [bset]
      rw [List.filterMap_cons]
      split
      · exact hd'.1
      · rename_i b he
        rw [List.nodup_cons]
        refine ⟨fun hm => ?_, hd'.1⟩
        rcases hb b he with h1 | h1
        · exact hd'.2 b h1 hm
        · exact h1 (by rw [List.filterMap_cons]; split <;> simp [hm])
    · simp only [bset] at hy
      rcases List.mem_cons.1 hy with hy | hy
      · exact .inl hy
      · refine .inr ⟨List.mem_cons_of_mem _ hy, fun b hxb hyb => hd'.2 b hxb (List.mem_filterMap.2 ⟨y, hy, hyb⟩)⟩
  | x :: l, n + 1, e, e0, h, hn, hd, hb => by
    simp only [bget] at h
    have hd' : (l.filterMap Blk.num?).Nodup ∧ ∀ b, x.num? = some b → b ∉ l.filterMap Blk.num? := by
      rw [List.filterMap_cons] at hd
      split at hd
      · rename_i hx; exact ⟨hd, fun b hb => by rw [hx] at hb; cases hb⟩
      · rename_i b hx
        rw [List.nodup_cons] at hd
        exact ⟨hd.2, fun b' hb' => by rw [hx] at hb'; cases hb'; exact hd.1⟩
    have he0 := bget_mem h hn
    have ih := nodup_bset (e := e) h hn hd'.1 (fun b hbe => (hb b hbe).imp id (fun h1 h2 => h1 (by rw [List.filterMap_cons]; split <;> simp [h2])))
    refine ⟨?_, fun y hy => ?_⟩
    · simp only [bset]
      rw [List.filterMap_cons]
      split
      · exact ih.1
      · rename_i b hx
        rw [List.nodup_cons]
        refine ⟨fun hm => ?_, ih.1⟩
        obtain ⟨y, hy, hyb⟩ := List.mem_filterMap.1 hm
        rcases ih.2 y hy with rfl | ⟨hy', _⟩
        · rcases hb b hyb with h1 | h1
          · exact hd'.2 b hx (List.mem_filterMap.2 ⟨e0, he0, h1⟩)
          · exact h1 (by rw [List.filterMap_cons, hx]; simp)
        · exact hd'.2 b hx (List.mem_filterMap.2 ⟨y, hy', hyb⟩)
    · simp only [bset] at hy
      rcases List.mem_cons.1 hy with hy | hy
      · subst hy
        refine .inr ⟨List.mem_cons_self, fun b hb0 hyb => hd'.2 b hyb (List.mem_filterMap.2 ⟨e0, he0, hb0⟩)⟩
      · rcases ih.2 y hy with h1 | ⟨h1, h2⟩
        · exact .inl h1
        · exact .inr ⟨List.mem_cons_of_mem _ h1, h2⟩
/-- A part turned. -/
theorem MemOk.turn {w0 : World} {B : List Nat} {m : List Blk} {w w' : World} (h : MemOk w0 B m w) {nm : Nat} {e0 e : Blk} (hb : bget m nm = e0) (hn : e0 ≠ .gone) (hg : w.grownBy w' e0.num?)
    (hr : ∀ b, e0.num? = some b → w0.heap.size ≤ b ∨ b ∈ B) (he : e.ok w0 B w') (hnum : ∀ b, e.num? = some b → e0.num? = some b ∨ w.heap.size ≤ b) : MemOk w0 B (bset m nm e) w' := by
  have hd := nodup_bset (e := e) hb hn h.nodup (fun b hbe => (hnum b hbe).imp id (fun h1 h2 => by
    obtain ⟨x, hx, hxb⟩ := List.mem_filterMap.1 h2
    have := bnum_lt (h.each x hx) hxb
    omega))
  refine ⟨hg.os.trans h.os, hg.tape.trans h.tape, hg.output.trans h.output, Nat.le_trans h.size hg.size, fun k hk hkb => ?_, fun x hx => ?_, hd.1⟩
  · rw [hg.block k (Nat.lt_of_lt_of_le hk h.size) (fun e => ?_)]
    · exact h.old k hk hkb
    · rcases hr k e.symm with h4 | h4
      · omega
      · exact hkb h4
  · rcases hd.2 x hx with rfl | ⟨h1, h2⟩
    · exact he
    · exact ok_grown hg hr h.size (h.each x h1) h2

/-! ### Stores -/
def svLen : SV → Nat
  | .word _ => 4
  | .ints _ xs => xs.length
  | .agg cs => cs.length
  | _ => 1
/-- What a store makes of a content. -/
def conStore (con : Con) (i sz j : Nat) (v : SV) : Option (Prop × Con) :=
  match con, v with
  | .ints k xs, .int k' n => match sz, sameK k k' with | 0, true => some (j < xs.length, .ints k (xs.set j n)) | _, _ => none
  | .ints k xs, .ints k' ys => match sz, sameK k k' with | 0, true => some (j = 0 ∧ ys.length = xs.length, .ints k ys) | _, _ => none
  | .ints .u64 xs, .word a => match sz with | 0 => some (j = 0 ∧ xs.length = 4, .words [a]) | _ => none
  | .words xs, .word a => match sz with
    | 0 => some (j = 0 ∧ 0 < xs.length, .words (xs.set 0 a))
    | 4 => some (j = 0 ∧ i < xs.length, .words (xs.set i a))
    | _ => none
  | .words [a], .int .u64 n => match sz with | 0 => some (j < 4, .ints .u64 (([((lm a 0 : Nat) : Int), (lm a 1 : Nat), (lm a 2 : Nat), (lm a 3 : Nat)]).set j n)) | _ => none
  | .words [_], .agg [.int .u64 x0, .int .u64 x1, .int .u64 x2, .int .u64 x3] => match sz, j with | 0, 0 => some (True, .ints .u64 [x0, x1, x2, x3]) | _, _ => none
  | .cells l, v => match cellsOf v with
    | some cs => match allOne cs, splice l (i * sz + j) cs with | true, some l' => some (True, .cells l') | _, _ => none
    | none => none
  | .rows n xs, .agg cs => match n == sz, cs.length == n, allOne cs, j with
    | true, true, true, 0 => some (i < xs.length ∧ ∀ r ∈ xs, r.length = n, .rows n (xs.set i cs))
    | _, _, _, _ => none
  | .rows n xs, v => match n == sz, cellsOf v with
    | true, some cs => match allOne cs, splice (xs.getD i []) j cs with | true, some r => some (i < xs.length ∧ ∀ r ∈ xs, r.length = n, .rows n (xs.set i r)) | _, _ => none
    | _, _ => none
  | _, _ => none
/-- Contents with a piece written over. -/
def Over (xs : List Value) (pos : Nat) (vs xs' : List Value) : Prop := pos + vs.length ≤ xs.length ∧ xs' = xs.take pos ++ vs ++ xs.drop (pos + vs.length) ∧ ∀ u ∈ vs, u.oneCell' = true
theorem over_one {xs : List Value} {pos : Nat} {u : Value} (h : pos < xs.length) (hu : u.oneCell' = true) : Over xs pos [u] (xs.set pos u) := by
  refine ⟨by simp; omega, ?_, by simpa using hu⟩
  rw [List.set_eq_take_append_cons_drop, if_pos h]
  simp
theorem over_all {xs vs : List Value} (h : vs.length = xs.length) (hu : ∀ u ∈ vs, u.oneCell' = true) : Over xs 0 vs vs := by
  refine ⟨by omega, ?_, hu⟩
  rw [Nat.zero_add, h]; simp
theorem over_flat {α : Type} (f : α → List Value) (n : Nat) : ∀ (xs : List α) (i : Nat) (y : α), (∀ r ∈ xs, (f r).length = n) → (f y).length = n → i < xs.length → (∀ u ∈ f y, u.oneCell' = true) →
    Over (xs.flatMap f) (i * n) (f y) ((xs.set i y).flatMap f)
  | [], i, y, _, _, h, _ => by simp at h
  | x :: xs, 0, y, hl, hy, _, hu => by
    have hx := hl x List.mem_cons_self
    refine ⟨by simp [hy, hx], ?_, hu⟩
    simp [hy, hx]
  | x :: xs, i + 1, y, hl, hy, hi, hu => by
    have hx := hl x List.mem_cons_self
    obtain ⟨h1, h2, h3⟩ := over_flat f n xs i y (fun r hr => hl r (List.mem_cons_of_mem _ hr)) hy (by simpa using hi) hu
    have e : (i + 1) * n = (f x).length + i * n := by rw [Nat.add_mul, hx]; omega
    rw [e]
    generalize i * n = q at *
    refine ⟨by simp only [List.flatMap_cons, List.length_append]; omega, ?_, hu⟩
    simp only [List.set_cons_succ, List.flatMap_cons, h2]
    rw [List.take_length_add_append, show (f x).length + q + (f y).length = (f x).length + (q + (f y).length) by omega, List.drop_length_add_append]
    simp [List.append_assoc]
end Go.Proofs.Ytkljpgdcmahenaa
