/-
  A symbolic walk of my own: append.
-/
import Derived.Test.YtkljpgdcmahenaaE9
import Derived.Maps.AppendAt
namespace Go.Proofs.Ytkljpgdcmahenaa
set_option linter.unusedSimpArgs false
set_option linter.unusedVariables false
open Go.RowKit

def conApp (a b : Con) : Option Con :=
  match a, b with
  | .ints k xs, .ints k' ys => match sameK k k' with | true => some (.ints k (xs ++ ys)) | false => none
  | .words xs, .words ys => some (.words (xs ++ ys))
  | .cells xs, .cells ys => some (.cells (xs ++ ys))
  | _, _ => none
theorem conApp_cells {a b c : Con} (h : conApp a b = some c) : cc c = cc a ++ cc b := by
  unfold conApp at h
  split at h
  · split at h
    · rename_i hk; obtain rfl := sameK_eq hk; simp at h; subst h; simp [cc]
    · cases h
  · simp at h; subst h; simp [cc]
  · simp at h; subst h; simp [cc, cvs_app]
  · cases h
/-- s, with the elements of x behind it: what must hold; the part that it lies in, if any; the new part, by its value. -/
def appS (T : Tab) (t : TypeId) (s x : SV) (m : List Blk) : Option (Prop × Option Nat × Nat × TypeId × Nat × Con) :=
  match T.ty t, srcC x m with
  | .sl e es eb, some (q, k, c) => match conEs c == es with
    | true => match s with
      | .own nm v n => match bget m nm with
        | .own v' n' t' es' con => match conApp con c, es == es' with
          | some con', true => some (q ∧ v = v' ∧ n = n' ∧ t' = e ∧ (n + k) * eb ≤ 140737488355328 ∧ n + k ≤ 9223372036854775807, some nm, n + k, e, es, con')
          | _, _ => none
        | _ => none
      | .nilsl => some (q ∧ k * eb ≤ 140737488355328 ∧ k ≤ 9223372036854775807, none, k, e, es, c)
      | _ => none
    | false => none
  | _, _ => none
theorem appS_sound {P : Program} {T : Tab} (hT : TabOk P T) {t e ty : TypeId} {s x : SV} {m : List Blk} {p : Prop} {o : Option Nat} {k es : Nat} {con : Con}
    (h : appS T t s x m = some (p, o, k, e, es, con)) (hp : p) {w0 : World} {B : List Nat} {w : World} (hm : MemOk w0 B m w) :
    ∃ v w', (Builtin.append_ #[t, t] ty #[cv s, cv x]).run P w = .ok v w' ∧
      MemOk w0 B (match o with | some nm => bset m nm (.own v k e es con) | none => bpush m (.own v k e es con)) w' := by
  unfold appS at h
  split at h
  · rename_i e' es' eb q kx c hty hsrc
    have hy := hT.ty t
    rw [hty] at hy
    obtain ⟨g1, g2, i, z, g3, g4, g5, g6, g7⟩ := hy
    split at h
    · rename_i he
      have he' : conEs c = es' := by simpa using he
      split at h
      · rename_i nm v n _
        split at h
        · rename_i v' n' t' es2 con0 hbg
          split at h
          · rename_i con1 hca hes
            simp only [Option.some.injEq, Prod.mk.injEq] at h
            obtain ⟨rfl, rfl, rfl, rfl, rfl, rfl⟩ := h
            obtain ⟨hq, rfl, rfl, rfl, h1, h2⟩ := hp
            have hes' : es' = es2 := by simpa using hes
            subst hes'
            obtain ⟨s1, s2, s3⟩ := srcC_sound hsrc hq hm
            have hown := hm.each _ (bget_mem hbg (by simp))
            rw [he'] at s1
            rcases s3 with ⟨a, cp, s4, s5⟩ | ⟨s4, rfl⟩
            · obtain ⟨v1, w1, r1, r2, r3, _, r4⟩ := run_append_own_at (P := P) (w := w) w0.heap.size t ty t' i z es' eb g1 g3 g4 g5 g6 (by rw [← g5]; rw [g7, g5]) g2 v n (cc con0) hown a kx cp (cc c) s1 s5 s2
                (by unfold maxLen; omega) h1 hm.size
              refine ⟨v1, w1, by rw [s4]; simpa only [cv] using r1, ?_⟩
              refine hm.turn hbg (by simp) (by simpa [Blk.num?] using r3) (fun b hb => ?_) (by show w1.ownsRow _ _ _ _ _ _; rw [conApp_cells hca]; exact r2) (fun b hb => ?_)
              · simp only [Blk.num?] at hb
                obtain ⟨_, hv | ⟨g, cap, cur, rfl, hg, _⟩⟩ := hown
                · rw [hv.1] at hb; simp [Value.ownBlock] at hb
                · simp [Value.ownBlock] at hb; subst hb; exact .inl hg
              · simp only [Blk.num?] at hb ⊢
                rcases r4 with r4 | r4
                · exact .inl (r4 ▸ hb)
                · rw [r4] at hb; simp at hb; exact .inr (by omega)
            · have hce : cc c = [] := List.eq_nil_of_length_eq_zero (by rw [s1, Nat.zero_mul])
              refine ⟨v, w, by rw [s4]; simpa only [cv] using run_append_owned_none (P := P) w w0.heap.size t ty t' i es' g1 g3 v n (cc con0) hown, ?_⟩
              refine hm.turn hbg (by simp) ⟨rfl, rfl, rfl, Nat.le_refl _, fun _ _ _ => rfl⟩ (fun b hb => ?_) (by show w.ownsRow _ _ _ _ _ _; rw [conApp_cells hca, hce, List.append_nil, Nat.add_zero]; exact hown) (fun b hb => .inl hb)
              simp only [Blk.num?] at hb
              obtain ⟨_, hv | ⟨g, cap, cur, rfl, hg, _⟩⟩ := hown
              · rw [hv.1] at hb; simp [Value.ownBlock] at hb
              · simp [Value.ownBlock] at hb; subst hb; exact .inl hg
          · cases h
        · cases h
      · simp only [Option.some.injEq, Prod.mk.injEq] at h
        obtain ⟨rfl, rfl, rfl, rfl, rfl, rfl⟩ := h
        obtain ⟨hq, h1, h2⟩ := hp
        obtain ⟨s1, s2, s3⟩ := srcC_sound hsrc hq hm
        rw [he'] at s1
        have hown := World.ownsRow_nil w w0.heap.size e' es'
        rcases s3 with ⟨a, cp, s4, s5⟩ | ⟨s4, rfl⟩
        · obtain ⟨v1, w1, r1, r2, r3, _, r4⟩ := run_append_own_at (P := P) (w := w) w0.heap.size t ty e' i z es' eb g1 g3 g4 g5 g6 (by rw [← g5]; rw [g7, g5]) g2 (.slice none 0 0) 0 [] hown a kx cp (cc c) s1 s5 s2
            (by unfold maxLen; omega) (by rw [Nat.zero_add]; exact h1) hm.size
          refine ⟨v1, w1, by rw [s4]; simpa only [cv] using r1, ?_⟩
          rw [Nat.zero_add] at r2
          show MemOk w0 B (bpush m _) w1
          rw [bpush_eq]
          refine hm.push (by simpa [Value.ownBlock] using r3) r2 (fun b hb => ?_)
          simp only [Blk.num?] at hb
          rcases r4 with r4 | r4
          · rw [r4] at hb; simp [Value.ownBlock] at hb
          · rw [r4] at hb; simp at hb; omega
        · have hce : cc c = [] := List.eq_nil_of_length_eq_zero (by rw [s1, Nat.zero_mul])
          refine ⟨.slice none 0 0, w, by rw [s4]; simpa only [cv] using run_append_owned_none (P := P) w w0.heap.size t ty e' i es' g1 g3 _ 0 [] hown, ?_⟩
          show MemOk w0 B (bpush m _) w
          rw [bpush_eq]
          refine hm.push ⟨rfl, rfl, rfl, Nat.le_refl _, fun _ _ _ => rfl⟩ (by show w.ownsRow _ _ _ _ _ _; rw [hce]; exact hown) (fun b hb => by simp [Blk.num?, Value.ownBlock] at hb)
      · cases h
    · cases h
  · cases h
end Go.Proofs.Ytkljpgdcmahenaa
