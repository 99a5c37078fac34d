/-
  A symbolic walk of my own: append.
-/
import Derived.Test.YtkljpgdcmahenaaE9
import Derived.Maps.AppendAt
namespace Go.Proofs.Ytkljpgdcmahenaa
set_option linter.unusedSimpArgs false
set_option linter.unusedVariables false
open Go.RowKit

def conCut (con : Con) (st len : Nat) : Option Con :=
  match con with
  | .ints k xs => some (.ints k ((xs.drop st).take len))
  | .words xs => some (.words ((xs.drop st).take len))
  | .cells l => match allOne l with | true => some (.cells ((l.drop st).take len)) | false => none
  | .rows _ _ => none
def conEs : Con → Nat
  | .ints _ _ => 1
  | .words _ => 4
  | .cells _ => 1
  | .rows n _ => n
theorem allOne_sub {l l' : List SV} (h : allOne l = true) (hs : ∀ x ∈ l', x ∈ l) : ∀ u ∈ cvs l', u.oneCell' = true := by
  intro u hu
  rw [cvs_eq] at hu
  obtain ⟨x, hx, rfl⟩ := List.mem_map.1 hu
  exact allOne_mem h _ (by rw [cvs_eq]; exact List.mem_map_of_mem (hs x hx))
theorem flat_cut {α : Type} (f : α → List Value) (n : Nat) : ∀ (xs : List α) (st len j : Nat) (u : Value), (∀ r ∈ xs, (f r).length = n) → (((xs.drop st).take len).flatMap f)[j]? = some u →
    (xs.flatMap f)[st * n + j]? = some u
  | xs, 0, len, j, u, hl, h => by
    rw [List.drop_zero] at h
    rw [Nat.zero_mul, Nat.zero_add]
    have e : xs.flatMap f = (xs.take len).flatMap f ++ (xs.drop len).flatMap f := by rw [← List.flatMap_append, List.take_append_drop]
    rw [e, List.getElem?_append_left (List.getElem?_eq_some_iff.1 h).1]
    exact h
  | [], st + 1, len, j, u, hl, h => by simp at h
  | x :: xs, st + 1, len, j, u, hl, h => by
    have hx := hl x List.mem_cons_self
    rw [List.drop_succ_cons] at h
    rw [List.flatMap_cons, show (st + 1) * n + j = (f x).length + (st * n + j) by rw [Nat.add_mul, hx]; omega, List.getElem?_append_right (by omega), Nat.add_sub_cancel_left]
    exact flat_cut f n xs st len j u (fun r hr => hl r (List.mem_cons_of_mem _ hr)) h
theorem flat_len {α : Type} (f : α → List Value) (n : Nat) : ∀ (xs : List α), (∀ r ∈ xs, (f r).length = n) → (xs.flatMap f).length = xs.length * n
  | [], _ => by simp
  | x :: xs, h => by
    have h1 := h x List.mem_cons_self
    have h2 := flat_len f n xs (fun r hr => h r (List.mem_cons_of_mem _ hr))
    simp [h1, h2, Nat.add_mul]; omega
theorem conCut_sound {con c : Con} {st len : Nat} (h : conCut con st len = some c) (hl : st + len ≤ conN con) :
    (∀ j u, (cc c)[j]? = some u → (cc con)[st * conEs con + j]? = some u) ∧ (cc c).length = len * conEs con ∧ (∀ u ∈ cc c, u.oneCell' = true) := by
  unfold conCut at h
  split at h
  · rename_i k xs
    simp at h; subst h
    simp only [conN] at hl
    refine ⟨fun j u hj => ?_, ?_, int_one _ _⟩
    · simp only [cc, conEs, Nat.mul_one, List.getElem?_map, Option.map_eq_some_iff] at hj ⊢
      obtain ⟨x, hx, rfl⟩ := hj
      refine ⟨x, ?_, rfl⟩
      rw [List.getElem?_take] at hx
      split at hx
      · rw [List.getElem?_drop] at hx; exact hx
      · cases hx
    · simp [cc, conEs]; omega
  · rename_i xs
    simp at h; subst h
    simp only [conN] at hl
    refine ⟨fun j u hj => flat_cut wcs 4 xs st len j u (fun r _ => wcs_len r) hj, ?_, fun u hu => ?_⟩
    · simp only [cc, conEs]
      rw [flat_len wcs 4 _ (fun r _ => wcs_len r)]
      simp; omega
    · obtain ⟨x, _, hx⟩ := List.mem_flatMap.1 hu; exact wcs_one x u hx
  · rename_i l
    split at h
    · rename_i ha
      simp at h; subst h
      simp only [conN] at hl
      refine ⟨fun j u hj => ?_, ?_, allOne_sub ha (fun x hx => List.mem_of_mem_drop (List.mem_of_mem_take hx))⟩
      · simp only [cc, conEs, Nat.mul_one, cvs_eq, List.getElem?_map, Option.map_eq_some_iff] at hj ⊢
        obtain ⟨x, hx, rfl⟩ := hj
        refine ⟨x, ?_, rfl⟩
        rw [List.getElem?_take] at hx
        split at hx
        · rw [List.getElem?_drop] at hx; exact hx
        · cases hx
      · simp [cc, conEs, cvs_len]; omega
    · cases h
  · cases h
/-- What an append reads: how many elements, and their cells. -/
def srcC (x : SV) (m : List Blk) : Option (Prop × Nat × Con) :=
  match x with
  | .sl nm a st _ es len cap =>
    match blkAt (blkO a) (offO a) (bget m nm) with
    | some (q, con) => match conCut con st len, conEs con == es with
      | some c, true => some (q ∧ a = some ⟨blkO a, offO a, none⟩ ∧ st + len ≤ conN con ∧ len ≤ cap, len, c)
      | _, _ => none
    | none => none
  | .own nm v n =>
    match bget m nm with
    | .own v' n' _ es con => match conCut con 0 n, conEs con == es with
      | some c, true => some (v = v' ∧ n = n' ∧ n ≤ conN con, n, c)
      | _, _ => none
    | _ => none
  | _ => none
def conApp (a b : Con) : Option Con :=
  match a, b with
  | .ints k xs, .ints k' ys => match sameK k k' with | true => some (.ints k (xs ++ ys)) | false => none
  | .words xs, .words ys => some (.words (xs ++ ys))
  | .cells xs, .cells ys => some (.cells (xs ++ ys))
  | _, _ => none
theorem conApp_cells {a b c : Con} (h : conApp a b = some c) : cc c = cc a ++ cc b := by
  unfold conApp at h
  split at h
  · split at h
    · rename_i hk; obtain rfl := sameK_eq hk; simp at h; subst h; simp [cc]
    · cases h
  · simp at h; subst h; simp [cc]
  · simp at h; subst h; simp [cc, cvs_app]
  · cases h
/-- s, with the elements of x behind it: what must hold; the part that it lies in, if any; the new part, by its value. -/
def appS (T : Tab) (t : TypeId) (s x : SV) (m : List Blk) : Option (Prop × Option Nat × Nat × TypeId × Nat × Con) :=
  match T.ty t, srcC x m with
  | .sl e es eb, some (q, k, c) => match conEs c == es with
    | true => match s with
      | .own nm v n => match bget m nm with
        | .own v' n' t' es' con => match conApp con c, es == es' with
          | some con', true => some (q ∧ v = v' ∧ n = n' ∧ t' = e ∧ (n + k) * eb ≤ 140737488355328 ∧ n + k ≤ 9223372036854775807, some nm, n + k, e, es, con')
          | _, _ => none
        | _ => none
      | .nilsl => some (q ∧ k * eb ≤ 140737488355328 ∧ k ≤ 9223372036854775807, none, k, e, es, c)
      | _ => none
    | false => none
  | _, _ => none
/-- What an append reads lies there. -/
theorem srcC_sound {x : SV} {m : List Blk} {q : Prop} {k : Nat} {c : Con} (h : srcC x m = some (q, k, c)) (hq : q) {w0 : World} {B : List Nat} {w : World} (hm : MemOk w0 B m w) :
    (cc c).length = k * conEs c ∧ (∀ u ∈ cc c, u.oneCell' = true) ∧
    ((∃ a cp, cv x = .slice (some a) k cp ∧ ∀ j u, (cc c)[j]? = some u → w.cell? (a.add j) = some u) ∨ (cv x = .slice none 0 0 ∧ k = 0)) := by
  have hes : ∀ {con c : Con} {st len : Nat}, conCut con st len = some c → conEs c = conEs con := by
    intro con c st len h
    unfold conCut at h
    split at h
    · simp at h; subst h; rfl
    · simp at h; subst h; rfl
    · split at h
      · simp at h; subst h; rfl
      · cases h
    · cases h
  unfold srcC at h
  split at h
  · rename_i nm a st st0 es len cap
    split at h
    · rename_i q' con hb
      split at h
      · rename_i c' hc he
        simp only [Option.some.injEq, Prod.mk.injEq] at h
        obtain ⟨rfl, rfl, rfl⟩ := h
        obtain ⟨h1, h2, h3, h4⟩ := hq
        have he' : conEs con = es := by simpa using he
        obtain ⟨g1, g2, g3⟩ := conCut_sound hc h3
        rw [hes hc]
        refine ⟨g2, g3, .inl ?_⟩
        generalize blkO a = b at *
        generalize offO a = o at *
        subst h2
        refine ⟨_, _, rfl, fun j u hj => ?_⟩
        have hjl := (List.getElem?_eq_some_iff.1 hj).1
        have hc0 : cap ≠ 0 := by
          rintro rfl
          have : len = 0 := by omega
          subst this
          rw [g2, Nat.zero_mul] at hjl
          omega
        dsimp only
        rw [if_neg hc0, addr_add, addr_add]
        have h5 := hm.cell hb h1 (g1 j u hj)
        rw [he'] at h5
        rw [Nat.add_assoc]; exact h5
      · cases h
    · cases h
  · rename_i nm v n
    split at h
    · rename_i v' n' t' es con hbg
      split at h
      · rename_i c' hc he
        simp only [Option.some.injEq, Prod.mk.injEq] at h
        obtain ⟨rfl, rfl, rfl⟩ := h
        obtain ⟨rfl, rfl, h3⟩ := hq
        have he' : conEs con = es := by simpa using he
        obtain ⟨g1, g2, g3⟩ := conCut_sound hc (by omega)
        rw [hes hc]
        refine ⟨g2, g3, ?_⟩
        have h4 := hm.each _ (bget_mem hbg (by simp))
        rcases h4.2 with ⟨rfl, rfl⟩ | ⟨g, cap, cur, rfl, h5⟩
        · exact .inr ⟨rfl, rfl⟩
        · refine .inl ⟨⟨g, 0, none⟩, cap, rfl, fun j u hj => ?_⟩
          have h6 := g1 j u hj
          rw [Nat.zero_mul, Nat.zero_add] at h6
          obtain ⟨g', cap', e1, e2⟩ := own_cell h4 h6
          simp only [Value.slice.injEq, Option.some.injEq, Addr.mk.injEq, and_true, true_and] at e1
          rw [addr_add, Nat.zero_add, e1.1]; exact e2
      · cases h
    · cases h
  · cases h
theorem appS_sound {P : Program} {T : Tab} (hT : TabOk P T) {t e ty : TypeId} {s x : SV} {m : List Blk} {p : Prop} {o : Option Nat} {k es : Nat} {con : Con}
    (h : appS T t s x m = some (p, o, k, e, es, con)) (hp : p) {w0 : World} {B : List Nat} {w : World} (hm : MemOk w0 B m w) :
    ∃ v w', (Builtin.append_ #[t, t] ty #[cv s, cv x]).run P w = .ok v w' ∧
      MemOk w0 B (match o with | some nm => bset m nm (.own v k e es con) | none => bpush m (.own v k e es con)) w' := by
  unfold appS at h
  split at h
  · rename_i e' es' eb q kx c hty hsrc
    have hy := hT.ty t
    rw [hty] at hy
    obtain ⟨g1, g2, i, z, g3, g4, g5, g6, g7⟩ := hy
    split at h
    · rename_i he
      have he' : conEs c = es' := by simpa using he
      split at h
      · rename_i nm v n _
        split at h
        · rename_i v' n' t' es2 con0 hbg
          split at h
          · rename_i con1 hca hes
            simp only [Option.some.injEq, Prod.mk.injEq] at h
            obtain ⟨rfl, rfl, rfl, rfl, rfl, rfl⟩ := h
            obtain ⟨hq, rfl, rfl, rfl, h1, h2⟩ := hp
            have hes' : es' = es2 := by simpa using hes
            subst hes'
            obtain ⟨s1, s2, s3⟩ := srcC_sound hsrc hq hm
            have hown := hm.each _ (bget_mem hbg (by simp))
            rw [he'] at s1
            rcases s3 with ⟨a, cp, s4, s5⟩ | ⟨s4, rfl⟩
            · obtain ⟨v1, w1, r1, r2, r3, _, r4⟩ := run_append_own_at (P := P) (w := w) w0.heap.size t ty t' i z es' eb g1 g3 g4 g5 g6 (by rw [← g5]; rw [g7, g5]) g2 v n (cc con0) hown a kx cp (cc c) s1 s5 s2
                (by unfold maxLen; omega) h1 hm.size
              refine ⟨v1, w1, by rw [s4]; simpa only [cv] using r1, ?_⟩
              refine hm.turn hbg (by simp) (by simpa [Blk.num?] using r3) (fun b hb => ?_) (by show w1.ownsRow _ _ _ _ _ _; rw [conApp_cells hca]; exact r2) (fun b hb => ?_)
              · simp only [Blk.num?] at hb
                obtain ⟨_, hv | ⟨g, cap, cur, rfl, hg, _⟩⟩ := hown
                · rw [hv.1] at hb; simp [Value.ownBlock] at hb
                · simp [Value.ownBlock] at hb; subst hb; exact .inl hg
              · simp only [Blk.num?] at hb ⊢
                rcases r4 with r4 | r4
                · exact .inl (r4 ▸ hb)
                · rw [r4] at hb; simp at hb; exact .inr (by omega)
            · have hce : cc c = [] := List.eq_nil_of_length_eq_zero (by rw [s1, Nat.zero_mul])
              refine ⟨v, w, by rw [s4]; simpa only [cv] using run_append_owned_none (P := P) w w0.heap.size t ty t' i es' g1 g3 v n (cc con0) hown, ?_⟩
              refine hm.turn hbg (by simp) ⟨rfl, rfl, rfl, Nat.le_refl _, fun _ _ _ => rfl⟩ (fun b hb => ?_) (by show w.ownsRow _ _ _ _ _ _; rw [conApp_cells hca, hce, List.append_nil, Nat.add_zero]; exact hown) (fun b hb => .inl hb)
              simp only [Blk.num?] at hb
              obtain ⟨_, hv | ⟨g, cap, cur, rfl, hg, _⟩⟩ := hown
              · rw [hv.1] at hb; simp [Value.ownBlock] at hb
              · simp [Value.ownBlock] at hb; subst hb; exact .inl hg
          · cases h
        · cases h
      · simp only [Option.some.injEq, Prod.mk.injEq] at h
        obtain ⟨rfl, rfl, rfl, rfl, rfl, rfl⟩ := h
        obtain ⟨hq, h1, h2⟩ := hp
        obtain ⟨s1, s2, s3⟩ := srcC_sound hsrc hq hm
        rw [he'] at s1
        have hown := World.ownsRow_nil w w0.heap.size e' es'
        rcases s3 with ⟨a, cp, s4, s5⟩ | ⟨s4, rfl⟩
        · obtain ⟨v1, w1, r1, r2, r3, _, r4⟩ := run_append_own_at (P := P) (w := w) w0.heap.size t ty e' i z es' eb g1 g3 g4 g5 g6 (by rw [← g5]; rw [g7, g5]) g2 (.slice none 0 0) 0 [] hown a kx cp (cc c) s1 s5 s2
            (by unfold maxLen; omega) (by rw [Nat.zero_add]; exact h1) hm.size
          refine ⟨v1, w1, by rw [s4]; simpa only [cv] using r1, ?_⟩
          rw [Nat.zero_add] at r2
          show MemOk w0 B (bpush m _) w1
          rw [bpush_eq]
          refine hm.push (by simpa [Value.ownBlock] using r3) r2 (fun b hb => ?_)
          simp only [Blk.num?] at hb
          rcases r4 with r4 | r4
          · rw [r4] at hb; simp [Value.ownBlock] at hb
          · rw [r4] at hb; simp at hb; omega
        · have hce : cc c = [] := List.eq_nil_of_length_eq_zero (by rw [s1, Nat.zero_mul])
          refine ⟨.slice none 0 0, w, by rw [s4]; simpa only [cv] using run_append_owned_none (P := P) w w0.heap.size t ty e' i es' g1 g3 _ 0 [] hown, ?_⟩
          show MemOk w0 B (bpush m _) w
          rw [bpush_eq]
          refine hm.push ⟨rfl, rfl, rfl, Nat.le_refl _, fun _ _ _ => rfl⟩ (by show w.ownsRow _ _ _ _ _ _; rw [hce]; exact hown) (fun b hb => by simp [Blk.num?, Value.ownBlock] at hb)
      · cases h
    · cases h
  · cases h
end Go.Proofs.Ytkljpgdcmahenaa
