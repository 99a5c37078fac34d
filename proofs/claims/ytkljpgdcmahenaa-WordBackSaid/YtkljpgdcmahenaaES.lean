/-
  A symbolic walk of my own: what a slice holds; a string of bytes.
-/
import Derived.Test.YtkljpgdcmahenaaE5
import Derived.Laws.BytesString
import Derived.Maps.AppendAt
namespace Go.Proofs.Ytkljpgdcmahenaa
set_option linter.unusedSimpArgs false
set_option linter.unusedVariables false
open Go.RowKit

def oneS : SV → Bool
  | .int _ _ => true | .bool _ => true | .str _ => true | .ptr _ _ _ _ _ _ => true | .sl _ _ _ _ _ _ _ => true | .nilsl => true | .fn _ _ _ => true
  | _ => false
def allOne : List SV → Bool
  | [] => true
  | x :: l => match oneS x with | true => allOne l | false => false
theorem oneS_cell {x : SV} (h : oneS x = true) : (cv x).oneCell' = true := by cases x <;> first | rfl | exact Bool.noConfusion h
theorem allOne_mem : ∀ {l : List SV}, allOne l = true → ∀ u ∈ cvs l, u.oneCell' = true
  | [], _, u, hu => by simp [cvs] at hu
  | x :: l, h, u, hu => by
    simp only [allOne] at h
    split at h
    · rename_i hx
      simp only [cvs, List.mem_cons] at hu
      rcases hu with rfl | hu
      · exact oneS_cell hx
      · exact allOne_mem h u hu
    · cases h
theorem int_one (k : IntKind) (xs : List Int) : ∀ u ∈ xs.map (Value.int k), u.oneCell' = true := by
  intro u hu; obtain ⟨x, _, rfl⟩ := List.mem_map.1 hu; rfl
theorem wcs_one (a : Nat) : ∀ u ∈ wcs a, u.oneCell' = true := by
  intro u hu; rw [wcs_ints] at hu; exact int_one _ _ u hu
def conCut (con : Con) (st len : Nat) : Option Con :=
  match con with
  | .ints k xs => some (.ints k ((xs.drop st).take len))
  | .words xs => some (.words ((xs.drop st).take len))
  | .cells l => match allOne l with | true => some (.cells ((l.drop st).take len)) | false => none
  | .rows _ _ => none
def conEs : Con → Nat
  | .ints _ _ => 1
  | .words _ => 4
  | .cells _ => 1
  | .rows n _ => n
theorem allOne_sub {l l' : List SV} (h : allOne l = true) (hs : ∀ x ∈ l', x ∈ l) : ∀ u ∈ cvs l', u.oneCell' = true := by
  intro u hu
  rw [cvs_eq] at hu
  obtain ⟨x, hx, rfl⟩ := List.mem_map.1 hu
  exact allOne_mem h _ (by rw [cvs_eq]; exact List.mem_map_of_mem (hs x hx))
theorem flat_cut {α : Type} (f : α → List Value) (n : Nat) : ∀ (xs : List α) (st len j : Nat) (u : Value), (∀ r ∈ xs, (f r).length = n) → (((xs.drop st).take len).flatMap f)[j]? = some u →
    (xs.flatMap f)[st * n + j]? = some u
  | xs, 0, len, j, u, hl, h => by
    rw [List.drop_zero] at h
    rw [Nat.zero_mul, Nat.zero_add]
    have e : xs.flatMap f = (xs.take len).flatMap f ++ (xs.drop len).flatMap f := by rw [← List.flatMap_append, List.take_append_drop]
    rw [e, List.getElem?_append_left (List.getElem?_eq_some_iff.1 h).1]
    exact h
  | [], st + 1, len, j, u, hl, h => by simp at h
  | x :: xs, st + 1, len, j, u, hl, h => by
    have hx := hl x List.mem_cons_self
    rw [List.drop_succ_cons] at h
    rw [List.flatMap_cons, show (st + 1) * n + j = (f x).length + (st * n + j) by rw [Nat.add_mul, hx]; omega, List.getElem?_append_right (by omega), Nat.add_sub_cancel_left]
    exact flat_cut f n xs st len j u (fun r hr => hl r (List.mem_cons_of_mem _ hr)) h
theorem flat_len {α : Type} (f : α → List Value) (n : Nat) : ∀ (xs : List α), (∀ r ∈ xs, (f r).length = n) → (xs.flatMap f).length = xs.length * n
  | [], _ => by simp
  | x :: xs, h => by
    have h1 := h x List.mem_cons_self
    have h2 := flat_len f n xs (fun r hr => h r (List.mem_cons_of_mem _ hr))
    simp [h1, h2, Nat.add_mul]; omega
theorem conCut_sound {con c : Con} {st len : Nat} (h : conCut con st len = some c) (hl : st + len ≤ conN con) :
    (∀ j u, (cc c)[j]? = some u → (cc con)[st * conEs con + j]? = some u) ∧ (cc c).length = len * conEs con ∧ (∀ u ∈ cc c, u.oneCell' = true) := by
  unfold conCut at h
  split at h
  · rename_i k xs
    simp at h; subst h
    simp only [conN] at hl
    refine ⟨fun j u hj => ?_, ?_, int_one _ _⟩
    · simp only [cc, conEs, Nat.mul_one, List.getElem?_map, Option.map_eq_some_iff] at hj ⊢
      obtain ⟨x, hx, rfl⟩ := hj
      refine ⟨x, ?_, rfl⟩
      rw [List.getElem?_take] at hx
      split at hx
      · rw [List.getElem?_drop] at hx; exact hx
      · cases hx
    · simp [cc, conEs]; omega
  · rename_i xs
    simp at h; subst h
    simp only [conN] at hl
    refine ⟨fun j u hj => flat_cut wcs 4 xs st len j u (fun r _ => wcs_len r) hj, ?_, fun u hu => ?_⟩
    · simp only [cc, conEs]
      rw [flat_len wcs 4 _ (fun r _ => wcs_len r)]
      simp; omega
    · obtain ⟨x, _, hx⟩ := List.mem_flatMap.1 hu; exact wcs_one x u hx
  · rename_i l
    split at h
    · rename_i ha
      simp at h; subst h
      simp only [conN] at hl
      refine ⟨fun j u hj => ?_, ?_, allOne_sub ha (fun x hx => List.mem_of_mem_drop (List.mem_of_mem_take hx))⟩
      · simp only [cc, conEs, Nat.mul_one, cvs_eq, List.getElem?_map, Option.map_eq_some_iff] at hj ⊢
        obtain ⟨x, hx, rfl⟩ := hj
        refine ⟨x, ?_, rfl⟩
        rw [List.getElem?_take] at hx
        split at hx
        · rw [List.getElem?_drop] at hx; exact hx
        · cases hx
      · simp [cc, conEs, cvs_len]; omega
    · cases h
  · cases h
/-- What an append reads: how many elements, and their cells. -/
def srcC (x : SV) (m : List Blk) : Option (Prop × Nat × Con) :=
  match x with
  | .sl nm a st _ es len cap =>
    match blkAt (blkO a) (offO a) (bget m nm) with
    | some (q, con) => match conCut con st len, conEs con == es with
      | some c, true => some (q ∧ a = some ⟨blkO a, offO a, none⟩ ∧ st + len ≤ conN con ∧ len ≤ cap, len, c)
      | _, _ => none
    | none => none
  | .own nm v n =>
    match bget m nm with
    | .own v' n' _ es con => match conCut con 0 n, conEs con == es with
      | some c, true => some (v = v' ∧ n = n' ∧ n ≤ conN con, n, c)
      | _, _ => none
    | _ => none
  | _ => none
/-- What an append reads lies there. -/
theorem srcC_sound {x : SV} {m : List Blk} {q : Prop} {k : Nat} {c : Con} (h : srcC x m = some (q, k, c)) (hq : q) {w0 : World} {B : List Nat} {w : World} (hm : MemOk w0 B m w) :
    (cc c).length = k * conEs c ∧ (∀ u ∈ cc c, u.oneCell' = true) ∧
    ((∃ a cp, cv x = .slice (some a) k cp ∧ ∀ j u, (cc c)[j]? = some u → w.cell? (a.add j) = some u) ∨ (cv x = .slice none 0 0 ∧ k = 0)) := by
  have hes : ∀ {con c : Con} {st len : Nat}, conCut con st len = some c → conEs c = conEs con := by
    intro con c st len h
    unfold conCut at h
    split at h
    · simp at h; subst h; rfl
    · simp at h; subst h; rfl
    · split at h
      · simp at h; subst h; rfl
      · cases h
    · cases h
  unfold srcC at h
  split at h
  · rename_i nm a st st0 es len cap
    split at h
    · rename_i q' con hb
      split at h
      · rename_i c' hc he
        simp only [Option.some.injEq, Prod.mk.injEq] at h
        obtain ⟨rfl, rfl, rfl⟩ := h
        obtain ⟨h1, h2, h3, h4⟩ := hq
        have he' : conEs con = es := by simpa using he
        obtain ⟨g1, g2, g3⟩ := conCut_sound hc h3
        rw [hes hc]
        refine ⟨g2, g3, .inl ?_⟩
        generalize blkO a = b at *
        generalize offO a = o at *
        subst h2
        refine ⟨_, _, rfl, fun j u hj => ?_⟩
        have hjl := (List.getElem?_eq_some_iff.1 hj).1
        have hc0 : cap ≠ 0 := by
          rintro rfl
          have : len = 0 := by omega
          subst this
          rw [g2, Nat.zero_mul] at hjl
          omega
        dsimp only
        rw [if_neg hc0, addr_add, addr_add]
        have h5 := hm.cell hb h1 (g1 j u hj)
        rw [he'] at h5
        rw [Nat.add_assoc]; exact h5
      · cases h
    · cases h
  · rename_i nm v n
    split at h
    · rename_i v' n' t' es con hbg
      split at h
      · rename_i c' hc he
        simp only [Option.some.injEq, Prod.mk.injEq] at h
        obtain ⟨rfl, rfl, rfl⟩ := h
        obtain ⟨rfl, rfl, h3⟩ := hq
        have he' : conEs con = es := by simpa using he
        obtain ⟨g1, g2, g3⟩ := conCut_sound hc (by omega)
        rw [hes hc]
        refine ⟨g2, g3, ?_⟩
        have h4 := hm.each _ (bget_mem hbg (by simp))
        rcases h4.2 with ⟨rfl, rfl⟩ | ⟨g, cap, cur, rfl, h5⟩
        · exact .inr ⟨rfl, rfl⟩
        · refine .inl ⟨⟨g, 0, none⟩, cap, rfl, fun j u hj => ?_⟩
          have h6 := g1 j u hj
          rw [Nat.zero_mul, Nat.zero_add] at h6
          obtain ⟨g', cap', e1, e2⟩ := own_cell h4 h6
          simp only [Value.slice.injEq, Option.some.injEq, Addr.mk.injEq, and_true, true_and] at e1
          rw [addr_add, Nat.zero_add, e1.1]; exact e2
      · cases h
    · cases h
  · cases h
/-- The string of bytes. -/
def bytesOf (xs : List Int) : ByteArray := xs.foldl (fun r n => r.push (UInt8.ofNat n.toNat)) ByteArray.empty
theorem bytesOf_app (xs : List Int) : ∀ s : ByteArray, (xs.foldl (fun r n => r.push (UInt8.ofNat n.toNat)) s).data.toList = s.data.toList ++ xs.map fun n => UInt8.ofNat n.toNat := by
  induction xs with
  | nil => intro s; simp
  | cons x xs ih => intro s; rw [List.foldl_cons, ih]; simp [ByteArray.push]
theorem bytesOf_data (xs : List Int) : (bytesOf xs).data.toList = xs.map fun n => UInt8.ofNat n.toNat := by
  unfold bytesOf; rw [bytesOf_app]; rfl
/-- A conversion of bytes that lie in memory to a string. -/
def convM (T : Tab) (a b : Ty) (x : SV) (m : List Blk) : Option (Prop × SV) :=
  match a, b with
  | .sl e _ _, .str => match T.ty e with
    | .int .u8 => match x with
      | .nilsl => some (True, .str ByteArray.empty)
      | x => match srcC x m with
        | some (q, _, .ints .u8 xs) => some (q, .str (bytesOf xs))
        | _ => none
    | _ => none
  | _, _ => none
theorem convM_sound {P : Program} {T : Tab} (hT : TabOk P T) {s d : TypeId} {x : SV} {m : List Blk} {p : Prop} {v : SV} (h : convM T (T.ty s) (T.ty d) x m = some (p, v)) (hp : p)
    {w0 : World} {B : List Nat} {w : World} (hm : MemOk w0 B m w) : (convert s d (cv x)).run P w = .ok (cv v) w := by
  unfold convM at h
  split at h
  · rename_i e es eb hs hd
    split at h
    · rename_i he
      have h1 := hT.ty s
      rw [hs] at h1
      have h2 := hT.ty d
      rw [hd] at h2
      have h3 := hT.ty e
      rw [he] at h3
      split at h
      · simp only [Option.some.injEq, Prod.mk.injEq] at h; obtain ⟨rfl, rfl⟩ := h
        simp only [cv]
        rw [run_convert_bytes_string w s d e none 0 0 h1.1 h3 h2]
        rfl
      · split at h
        · rename_i q k xs hsrc
          simp only [Option.some.injEq, Prod.mk.injEq] at h; obtain ⟨rfl, rfl⟩ := h
          obtain ⟨g1, g2, g3⟩ := srcC_sound hsrc hp hm
          rcases g3 with ⟨a, cp, g4, g5⟩ | ⟨g4, g5⟩
          · rw [g4, run_convert_bytes_string w s d e (some a) k cp h1.1 h3 h2]
            refine run_bytesToString w a k cp xs ?_
            have h6 := run_loadCells_list (P := P) w a (xs.map (Value.int .u8)) (fun r u hu => g5 r u hu)
            have h7 : (xs.map (Value.int .u8)).length = k := by simpa [cc, conEs] using g1
            rw [h7] at h6
            exact h6
          · subst g5
            have h7 : xs = [] := by
              have : (xs.map (Value.int .u8)).length = 0 := by simpa [cc, conEs] using g1
              simpa using this
            subst h7
            rw [g4, run_convert_bytes_string w s d e none 0 0 h1.1 h3 h2]
            rfl
        · cases h
    · cases h
  · cases h
end Go.Proofs.Ytkljpgdcmahenaa
