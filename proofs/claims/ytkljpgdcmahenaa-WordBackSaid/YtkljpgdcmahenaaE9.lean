/-
  A symbolic walk of my own: new memory, append.
-/
import Derived.Test.YtkljpgdcmahenaaE8
namespace Go.Proofs.Ytkljpgdcmahenaa
set_option linter.unusedSimpArgs false
set_option linter.unusedVariables false
open Go.RowKit

def blen : List Blk → Nat
  | [] => 0
  | _ :: l => blen l + 1
def bpush : List Blk → Blk → List Blk
  | [], e => [e]
  | x :: l, e => x :: bpush l e
theorem bpush_eq : ∀ (l : List Blk) (e : Blk), bpush l e = l ++ [e]
  | [], _ => rfl
  | x :: l, e => by simp [bpush, bpush_eq l e]
/-- What is put into a new block. -/
def boxCon (x : SV) : Option Con :=
  match x with
  | .word a => some (.words [a])
  | .ints k xs => some (.ints k xs)
  | .int k n => some (.ints k [n])
  | x => match cellsOf x with | some cs => some (.cells cs) | none => none
theorem boxCon_some {x : SV} {c : Con} (h : boxCon x = some c) : (cv x).cells = (cc c).toArray := by
  unfold boxCon at h
  split at h
  · simp at h; subst h; simp [cv, Value.cells, cc]
  · simp at h; subst h; simp [cv, Value.cells, cc]
  · simp at h; subst h; simp [cv, Value.cells, cc]
  · split at h
    · rename_i hcs; simp at h; subst h; exact cellsOf_some hcs
    · cases h
theorem alloc_new {w0 : World} {B : List Nat} {m : List Blk} {w : World} (hm : MemOk w0 B m w) (t : TypeId) (c : Con) :
    MemOk w0 B (bpush m (.blk w.heap.size t c)) (w.alloc (.cells (cc c).toArray t)) := by
  rw [bpush_eq]
  refine hm.push (World.grownBy_alloc w _ none) ⟨?_, .inl hm.size⟩ (fun b hb => by simp [Blk.num?] at hb; omega)
  exact heap_alloc_new w _
/-- So many zeros. -/
def zerosC (c : Option Con) (n : Nat) : Option Con :=
  match c with
  | some (.ints k [z]) => some (.ints k (List.replicate n z))
  | some (.words [a]) => some (.words (List.replicate n a))
  | some (.cells l) => some (.rows l.length (List.replicate n l))
  | _ => none
theorem made_flat (z : List Value) (hz : 0 < z.length) (n : Nat) : (madeCells z.toArray (n * z.length)).toList = (List.replicate n z).flatMap id := by
  apply List.ext_getElem?
  intro i
  have hlen : ((List.replicate n z).flatMap id).length = n * z.length := by simp
  by_cases hi : i < n * z.length
  · have hd : i / z.length < n := (Nat.div_lt_iff_lt_mul hz).2 hi
    have hm : i % z.length < z.length := Nat.mod_lt _ hz
    have h1 := flat_get id z.length (List.replicate n z) (i / z.length) (i % z.length) z (fun r hr => by rw [List.eq_of_mem_replicate hr]; rfl) (by simp [hd]) hm
    rw [Nat.div_add_mod' i z.length] at h1
    rw [h1]
    simp [madeCells, hi, hm]
  · rw [List.getElem?_eq_none (by simp [size_madeCells]; omega), List.getElem?_eq_none (by omega)]
theorem zerosC_cells {c c' : Con} {n : Nat} (h : zerosC (some c) n = some c') : cc c' = (List.replicate n (cc c)).flatMap id := by
  unfold zerosC at h
  split at h
  · rename_i k z hz
    simp at hz h; subst hz; subst h
    induction n with
    | zero => rfl
    | succ n ih => simp only [List.replicate_succ, List.flatMap_cons, cc, List.map_cons, List.map_nil, id] at ih ⊢; rw [← ih]; rfl
  · rename_i a hz
    simp at hz h; subst hz; subst h
    induction n with
    | zero => rfl
    | succ n ih => simp only [List.replicate_succ, List.flatMap_cons, cc, List.flatMap_nil, List.append_nil, id] at ih ⊢; rw [← ih]
  · rename_i l hz
    simp at hz h; subst hz; subst h
    induction n with
    | zero => rfl
    | succ n ih => simp only [List.replicate_succ, List.flatMap_cons, cc, id] at ih ⊢; rw [← ih]
  · cases h
def makeS (T : Tab) (t : TypeId) (l c : SV) : Option (Prop × TypeId × Nat × Nat × Con) :=
  match T.ty t, l, c with
  | .sl e es eb, .int _ n, .int _ k => match zerosC (T.zc e) n.toNat with
    | some z => some (0 ≤ n ∧ n ≤ k ∧ (eb : Int) * k ≤ 281474976710656 ∧ k ≤ 9223372036854775807, e, es, n.toNat, z)
    | none => none
  | _, _, _ => none
theorem makeS_sound {P : Program} {T : Tab} (hT : TabOk P T) {t e : TypeId} {l c : SV} {p : Prop} {es n : Nat} {z : Con} (h : makeS T t l c = some (p, e, es, n, z)) (hp : p)
    {w0 : World} {B : List Nat} {m : List Blk} {w : World} (hm : MemOk w0 B m w) :
    ∃ v w', (Instr.makeSlice t (cv l) (cv c)).run P w = .ok v w' ∧ MemOk w0 B (bpush m (.own v n e es z)) w' ∧ w.grownBy w' none := by
  unfold makeS at h
  split at h
  · rename_i e' es' eb kn n' kc k hy
    split at h
    · rename_i z' hz
      simp only [Option.some.injEq, Prod.mk.injEq] at h
      obtain ⟨rfl, rfl, rfl, rfl, rfl⟩ := h
      obtain ⟨h0, h1, h2, h3⟩ := hp
      have hty := hT.ty t
      rw [hy] at hty
      obtain ⟨g1, g2, i, zv, g3, g4, g5, g6, g7⟩ := hty
      cases hc : T.zc e' with
      | none => rw [hc] at hz; cases hz
      | some c0 =>
        rw [hc] at hz
        obtain ⟨i', zv', q1, q2, q3⟩ := hT.zc _ _ hc
        rw [g3] at q1; cases q1
        rw [g4] at q2; cases q2
        have hzc := zerosC_cells hz
        have hl : (cc c0).length = es' := by rw [← g7, q3]; simp
        have hr := run_make (P := P) w t e' i zv g1 g3 g4 kn kc n' k h0 h1 (by rw [g6]; exact h2) h3
        refine ⟨_, _, by simpa only [cv] using hr, ?_, World.grownBy_alloc w _ none⟩
        rw [bpush_eq]
        refine hm.push (World.grownBy_alloc w _ none) ?_ (fun b hb => by simp [Blk.num?, Value.ownBlock] at hb; omega)
        refine ⟨?_, .inr ⟨w.heap.size, k.toNat, _, rfl, hm.size, heap_alloc_new w _, by omega, by unfold maxLen; omega, by rw [size_madeCells, g5], ?_⟩⟩
        · rw [hzc]; simp [hl]
        · rw [q3, g5, ← hl, made_flat _ (by rw [hl]; exact g2), hzc]
          apply List.ext_getElem?
          intro j
          have hlen : ∀ q, ((List.replicate q (cc c0)).flatMap id).length = q * (cc c0).length := fun q => by simp
          by_cases hj : j < n'.toNat * (cc c0).length
          · rw [List.getElem?_take_of_lt hj]
            have hz0 : 0 < (cc c0).length := by rw [hl]; exact g2
            have hd : j / (cc c0).length < n'.toNat := (Nat.div_lt_iff_lt_mul hz0).2 hj
            have hmd : j % (cc c0).length < (cc c0).length := Nat.mod_lt _ hz0
            have f1 := flat_get id (cc c0).length (List.replicate k.toNat (cc c0)) (j / (cc c0).length) (j % (cc c0).length) (cc c0) (fun r hr => by rw [List.eq_of_mem_replicate hr]; rfl) (by rw [List.getElem?_replicate, if_pos (by omega)]) hmd
            have f2 := flat_get id (cc c0).length (List.replicate n'.toNat (cc c0)) (j / (cc c0).length) (j % (cc c0).length) (cc c0) (fun r hr => by rw [List.eq_of_mem_replicate hr]; rfl) (by simp [hd]) hmd
            rw [Nat.div_add_mod' j (cc c0).length] at f1 f2
            rw [f1, f2]
          · rw [List.getElem?_eq_none (by rw [List.length_take]; omega), List.getElem?_eq_none (by rw [hlen]; omega)]
    · cases h
  · cases h
end Go.Proofs.Ytkljpgdcmahenaa
