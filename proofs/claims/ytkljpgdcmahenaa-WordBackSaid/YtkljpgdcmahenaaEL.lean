/-
  A symbolic walk of my own: a slice's literal.
-/
import Derived.Test.YtkljpgdcmahenaaEA
import Derived.Great.BuildSlice
namespace Go.Proofs.Ytkljpgdcmahenaa
set_option linter.unusedSimpArgs false
set_option linter.unusedVariables false
open Go.RowKit
/-- The parts of a literal that names all its places in order. -/
def ordL : Nat → List (Nat × SV) → Option (List SV)
  | _, [] => some []
  | i, (j, x) :: l => match Nat.beq j i, ordL (i + 1) l with | true, some r => some (x :: r) | _, _ => none
theorem ordL_some : ∀ {i : Nat} {l : List (Nat × SV)} {r : List SV}, ordL i l = some r → l.map (fun p => (p.1, cv p.2)) = (((r.map cv).zipIdx i).map fun x => (x.2, x.1))
  | _, [], r, h => by simp [ordL] at h; subst h; rfl
  | i, (j, x) :: l, r, h => by
    simp only [ordL] at h
    split at h
    · rename_i r' hj hr
      simp only [Option.some.injEq] at h
      subst h
      have hj' : j = i := Nat.eq_of_beq_eq_true hj
      subst hj'
      simp [List.zipIdx_cons, ordL_some hr]
    · cases h
def intL (k : IntKind) : List SV → Option (List Int)
  | [] => some []
  | .int k' n :: l => match sameK k k', intL k l with | true, some r => some (n :: r) | _, _ => none
  | _ :: _ => none
def wordL : List SV → Option (List Nat)
  | [] => some []
  | .word a :: l => match wordL l with | some r => some (a :: r) | none => none
  | _ :: _ => none
def rowL (s : Nat) : List SV → Option (List (List SV))
  | [] => some []
  | x :: l => match cellsOf x, rowL s l with | some cs, some r => (match Nat.beq cs.length s, allOne cs with | true, true => some (cs :: r) | _, _ => none) | _, _ => none
/-- What a literal's elements make. -/
def litC (y : Ty) (es : Nat) (xs : List SV) : Option Con :=
  match y with
  | .int k => match Nat.beq es 1, intL k xs with | true, some zs => some (.ints k zs) | _, _ => none
  | .word => match Nat.beq es 4, wordL xs with | true, some as => some (.words as) | _, _ => none
  | .struct s _ => match Nat.beq es s, rowL s xs with | true, some r => some (.rows s r) | _, _ => none
  | .other => none
  | .arr _ _ _ _ => none
  | _ => match Nat.beq es 1, allOne xs with | true, true => some (.cells xs) | _, _ => none
theorem intL_some {k : IntKind} : ∀ {xs : List SV} {zs : List Int}, intL k xs = some zs → xs.map cv = zs.map (Value.int k)
  | [], zs, h => by simp [intL] at h; subst h; rfl
  | x :: l, zs, h => by
    cases x <;> simp only [intL, reduceCtorEq] at h
    split at h
    · rename_i r hk hr
      obtain rfl := sameK_eq hk
      simp only [Option.some.injEq] at h
      subst h
      simp [intL_some hr, cv]
    · cases h
theorem wordL_some : ∀ {xs : List SV} {as : List Nat}, wordL xs = some as → xs.map cv = as.map fun a => Value.agg (wcs a).toArray
  | [], as, h => by simp [wordL] at h; subst h; rfl
  | x :: l, as, h => by
    cases x <;> simp only [wordL, reduceCtorEq] at h
    split at h
    · rename_i r hr
      simp only [Option.some.injEq] at h
      subst h
      simp [wordL_some hr, cv]
    · cases h
theorem rowL_some {s : Nat} : ∀ {xs : List SV} {rs : List (List SV)}, rowL s xs = some rs → (∀ v ∈ xs.map cv, v.cells.size = s) ∧ ((xs.map cv).flatMap fun v => v.cells.toList) = rs.flatMap cvs
  | [], rs, h => by simp [rowL] at h; subst h; simp
  | x :: l, rs, h => by
    simp only [rowL] at h
    split at h
    · rename_i cs r hc hr
      split at h
      · rename_i hs _
        simp only [Option.some.injEq] at h
        subst h
        obtain ⟨h1, h2⟩ := rowL_some hr
        have h3 := cellsOf_some hc
        have h4 : cs.length = s := Nat.eq_of_beq_eq_true hs
        refine ⟨fun v hv => ?_, ?_⟩
        · rcases List.mem_cons.1 (by simpa using hv : v ∈ cv x :: l.map cv) with rfl | hv
          · rw [h3]; simp [cvs_len, h4]
          · exact h1 v hv
        · simp only [List.map_cons, List.flatMap_cons, h2, h3]
      · cases h
    · cases h
theorem one_cells {x : SV} (h : oneS x = true) : (cv x).cells = #[cv x] := by cases x <;> first | rfl | exact Bool.noConfusion h
theorem litC_some {y : Ty} {es : Nat} {xs : List SV} {con : Con} (h : litC y es xs = some con) : (∀ v ∈ xs.map cv, v.cells.size = es) ∧ ((xs.map cv).flatMap fun v => v.cells.toList) = cc con := by
  have one : ∀ {es : Nat} {xs : List SV} {con : Con}, (match Nat.beq es 1, allOne xs with | true, true => some (Con.cells xs) | _, _ => none) = some con → (∀ v ∈ xs.map cv, v.cells.size = es) ∧ ((xs.map cv).flatMap fun v => v.cells.toList) = cc con := by
    intro es xs con h
    split at h
    · rename_i he ha
      obtain rfl := Nat.eq_of_beq_eq_true he
      simp only [Option.some.injEq] at h
      subst h
      have hall : ∀ {xs : List SV}, allOne xs = true → ∀ x ∈ xs, oneS x = true := by
        intro xs
        induction xs with
        | nil => intro _ x hx; cases hx
        | cons z l ih =>
          intro h x hx
          simp only [allOne] at h
          split at h
          · rename_i hz
            rcases List.mem_cons.1 hx with rfl | hx
            · exact hz
            · exact ih h x hx
          · cases h
      have h1 := hall ha
      refine ⟨fun v hv => ?_, ?_⟩
      · obtain ⟨x, hx, rfl⟩ := List.mem_map.1 hv
        rw [one_cells (h1 x hx)]; rfl
      · simp only [cc, cvs_eq]
        clear ha
        induction xs with
        | nil => rfl
        | cons x l ih =>
          rw [List.map_cons, List.flatMap_cons, ih (fun y hy => h1 y (List.mem_cons_of_mem _ hy)), one_cells (h1 x List.mem_cons_self)]
          rfl
    · cases h
  unfold litC at h
  split at h
  · rename_i k
    split at h
    · rename_i zs he hz
      obtain rfl := Nat.eq_of_beq_eq_true he
      simp only [Option.some.injEq] at h
      subst h
      rw [intL_some hz]
      refine ⟨fun v hv => ?_, ?_⟩
      · obtain ⟨z, _, rfl⟩ := List.mem_map.1 hv; rfl
      · simp only [cc]
        clear hz
        induction zs with
        | nil => rfl
        | cons z l ih => rw [List.map_cons, List.flatMap_cons, ih]; rfl
    · cases h
  · split at h
    · rename_i as he hz
      obtain rfl := Nat.eq_of_beq_eq_true he
      simp only [Option.some.injEq] at h
      subst h
      rw [wordL_some hz]
      refine ⟨fun v hv => ?_, ?_⟩
      · obtain ⟨z, _, rfl⟩ := List.mem_map.1 hv; rfl
      · simp only [cc]
        clear hz
        induction as with
        | nil => rfl
        | cons z l ih => rw [List.map_cons, List.flatMap_cons, ih, List.flatMap_cons]; rfl
    · cases h
  · split at h
    · rename_i r he hr
      obtain rfl := Nat.eq_of_beq_eq_true he
      simp only [Option.some.injEq] at h
      subst h
      exact rowL_some hr
    · cases h
  · cases h
  · cases h
  · exact one h
def litS (T : Tab) (t : TypeId) (n : Nat) (parts : List (Nat × SV)) : Option (TypeId × Nat × Con) :=
  match T.ty t with
  | .sl e es _ => match ordL 0 parts with
    | some xs => match Nat.beq xs.length n, Nat.ble (n * es) 16777216, Nat.ble 1 n, litC (T.ty e) es xs with
      | true, true, true, some con => some (e, es, con)
      | _, _, _, _ => none
    | none => none
  | _ => none
theorem litS_sound {P : Program} {T : Tab} (hT : TabOk P T) {t e : TypeId} {n es : Nat} {parts : List (Nat × SV)} {con : Con} (h : litS T t n parts = some (e, es, con)) (w : World) :
    (Instr.buildSlice t n (parts.map fun p => (p.1, cv p.2)).toArray).run P w = .ok (.slice (some ⟨w.heap.size, 0, none⟩) n n) (w.alloc (.cells (cc con).toArray e)) := by
  unfold litS at h
  split at h
  · rename_i e' es' eb hy
    split at h
    · rename_i xs ho
      split at h
      · rename_i con' hl hb h1 hc
        simp only [Option.some.injEq, Prod.mk.injEq] at h
        obtain ⟨rfl, rfl, rfl⟩ := h
        have hty := hT.ty t
        rw [hy] at hty
        obtain ⟨g1, g2, i, z, g3, g4, g5, g6, g7⟩ := hty
        obtain ⟨c1, c2⟩ := litC_some hc
        have hl' : xs.length = n := Nat.eq_of_beq_eq_true hl
        have hb' : n * es' ≤ 16777216 := Nat.le_of_ble_eq_true hb
        have h1' : 1 ≤ n := Nat.le_of_ble_eq_true h1
        refine run_buildSlice w t e' n _ _ i z g1 g3 g4 (by rw [g5]; omega) (by rw [g5]; exact Nat.ne_of_gt (Nat.mul_pos h1' g2)) ?_
        have hm : ((parts.map fun p => (p.1, cv p.2)).toArray).toList = ((xs.map cv).zipIdx 0).map fun x => (x.2, x.1) := ordL_some ho
        rw [hm, g5]
        have := Go.Great.fill_whole g2 (xs.map cv) ((Array.range (n * es')).map (z.cells[· % z.cells.size]!)) c1 (by simp [hl'])
        rw [this, c2]
      · cases h
    · cases h
  · cases h
end Go.Proofs.Ytkljpgdcmahenaa
