/-
  A symbolic walk of my own: loads, places, pieces of slices; the step of an operation that leaves the world alone, and that it is right.
-/
import Derived.Test.YtkljpgdcmahenaaE2
namespace Go.Proofs.Ytkljpgdcmahenaa
set_option linter.unusedSimpArgs false
set_option linter.unusedVariables false
open Go.RowKit

def blkAt (b base : Nat) : Blk → Option (Prop × Con)
  | .blk b' _ con => some (b = b' ∧ base = 0, con)
  | .own v _ _ _ con => some (b = blkOf v ∧ base = 0, con)
  | .ro a con => some (b = blkO a ∧ base = offO a, con)
  | .gone => none
theorem own_cell {w : World} {base : Nat} {t : TypeId} {es n : Nat} {v : Value} {xs : List Value} (h : w.ownsRow base t es v n xs) {j : Nat} {u : Value} (hj : xs[j]? = some u) :
    ∃ g cap, v = .slice (some ⟨g, 0, none⟩) n cap ∧ w.cell? ⟨g, j, none⟩ = some u := by
  obtain ⟨hl, h⟩ := h
  have hjl := (List.getElem?_eq_some_iff.1 hj).1
  rcases h with ⟨_, rfl⟩ | ⟨g, cap, cur, rfl, _, hg, _, _, _, hx⟩
  · rw [Nat.zero_mul] at hl; omega
  · refine ⟨g, cap, rfl, ?_⟩
    rw [← hx] at hj
    simp only [List.getElem?_take] at hj
    split at hj
    · simp only [World.cell?, hg]; simpa using hj
    · cases hj
theorem MemOk.cell {w0 : World} {B : List Nat} {m : List Blk} {w : World} (h : MemOk w0 B m w) {nm b base : Nat} {q : Prop} {con : Con} (hb : blkAt b base (bget m nm) = some (q, con)) (hq : q)
    {j : Nat} {u : Value} (hj : (cc con)[j]? = some u) : w.cell? ⟨b, base + j, none⟩ = some u := by
  cases he : bget m nm with
  | gone => rw [he] at hb; cases hb
  | blk b' t con' =>
    have h1 := h.each _ (bget_mem he (by simp))
    rw [he] at hb
    simp only [blkAt, Option.some.injEq, Prod.mk.injEq] at hb
    obtain ⟨rfl, rfl⟩ := hb
    obtain ⟨rfl, rfl⟩ := hq
    simp only [World.cell?, h1.1]
    simpa using hj
  | own v n t es con' =>
    have h1 := h.each _ (bget_mem he (by simp))
    rw [he] at hb
    simp only [blkAt, Option.some.injEq, Prod.mk.injEq] at hb
    obtain ⟨rfl, rfl⟩ := hb
    obtain ⟨rfl, rfl⟩ := hq
    obtain ⟨g, cap, rfl, h2⟩ := own_cell h1 hj
    simpa [blkOf, blkO] using h2
  | ro a con' =>
    have h1 := h.each _ (bget_mem he (by simp))
    rw [he] at hb
    simp only [blkAt, Option.some.injEq, Prod.mk.injEq] at hb
    obtain ⟨rfl, rfl⟩ := hb
    obtain ⟨rfl, rfl⟩ := hq
    obtain ⟨b, off, rfl, _, _, h2⟩ := h1 j u hj
    exact h2
def loadS (y : Ty) (x : SV) (m : List Blk) : Option (Prop × SV) :=
  match x with
  | .ptr nm b base i sz j =>
    match blkAt b base (bget m nm) with
    | some (q, con) => addp q (match aggN y with | some none => conOne con i sz j | some (some n) => conMany y n con i sz j | none => none)
    | none => none
  | _ => none
theorem loadS_sound {P : Program} {t : TypeId} {y : Ty} (hy : TyOk1 P t y) {x : SV} {m : List Blk} {p : Prop} {v : SV} (h : loadS y x m = some (p, v)) (hp : p)
    {w0 : World} {B : List Nat} {w : World} (hm : MemOk w0 B m w) : (Instr.loadAt t (cv x)).run P w = .ok (cv v) w := by
  unfold loadS at h
  split at h
  · rename_i nm b base i sz j
    split at h
    · rename_i q con hq
      obtain ⟨p', h', hpp⟩ := addp_some h
      obtain ⟨hq1, hp'⟩ := hpp hp
      simp only [cv, Instr.loadAt, Instr.sureAddr, loadVar, Sem.run_bind, Sem.run_pure, Result.andThen_ok]
      cases ha : aggN y with
      | none => rw [ha] at h'; cases h'
      | some o =>
        rw [ha] at h'
        cases o with
        | none =>
          have h1 := hm.cell hq hq1 (conOne_sound h' hp')
          simp only [isAgg_one hy ha, Result.andThen_ok, Bool.false_eq_true, if_false, run_load, h1]
        | some n =>
          obtain ⟨cs, hcs, hl, hc⟩ := conMany_sound ha h' hp'
          obtain ⟨g1, g2⟩ := isAgg_many hy ha
          have h2 := run_loadCells_list (P := P) w ⟨b, base + (i * sz + j), none⟩ cs (fun r u hu => by
            have h3 := hm.cell hq hq1 (hc r u hu)
            have e : (⟨b, base + (i * sz + j), none⟩ : Addr).add r = ⟨b, base + (i * sz + j + r), none⟩ := by
              unfold Addr.add; split
              · rename_i h0; subst h0; rfl
              · simp only [Addr.mk.injEq, and_true, true_and]; omega
            rw [e]; exact h3)
          rw [hl] at h2
          simp only [g1, Result.andThen_ok, if_true, Sem.run_bind, g2.run, h2, Sem.run_pure, hcs]
    · cases h
  · cases h

def addIx : Nat → Nat → Nat
  | 0, n => n
  | k, n => k + n
theorem addIx_eq (a b : Nat) : addIx a b = a + b := by unfold addIx; split <;> simp
def conN : Con → Nat
  | .ints _ xs => xs.length
  | .words xs => xs.length
  | .cells l => l.length
  | .rows _ xs => xs.length
/-- The place of an element. -/
def idxS (y : Ty) (x i : SV) (m : List Blk) : Option (Prop × SV) :=
  match x, i with
  | .ptr nm b base i0 sz j0, .int _ n =>
    match y with
    | .word => some (0 ≤ n ∧ n < 4, .ptr nm b base i0 sz (addIx j0 n.toNat))
    | .arr N _ es _ => match es with
      | 1 => some (0 ≤ n ∧ n < (N : Int), .ptr nm b base i0 sz (addIx j0 n.toNat))
      | es => match i0, sz, j0 with
        | 0, 0, 0 => some (0 ≤ n ∧ n < (N : Int), .ptr nm b base n.toNat es 0)
        | i0, sz, j0 => some (0 ≤ n ∧ n < (N : Int), .ptr nm b base i0 sz (j0 + n.toNat * es))
    | _ => none
  | .sl nm a st _ es len cap, .int _ n =>
    match y with
    | .sl _ es' _ => match es == es' with
      | true => match es with
        | 1 => some (0 ≤ n ∧ n < (len : Int) ∧ len ≤ cap ∧ a = some ⟨blkO a, offO a, none⟩, .ptr nm (blkO a) (offO a) 0 0 (addIx st n.toNat))
        | es => some (0 ≤ n ∧ n < (len : Int) ∧ len ≤ cap ∧ a = some ⟨blkO a, offO a, none⟩, .ptr nm (blkO a) (offO a) (addIx st n.toNat) es 0)
      | false => none
    | _ => none
  | .own nm v len, .int _ n =>
    match y, bget m nm with
    | .sl _ es _, .own v' len' _ es' _ => match es == es' with
      | true => match es with
        | 1 => some (0 ≤ n ∧ n < (len : Int) ∧ v = v' ∧ len = len', .ptr nm (blkOf v) 0 0 0 n.toNat)
        | es => some (0 ≤ n ∧ n < (len : Int) ∧ v = v' ∧ len = len', .ptr nm (blkOf v) 0 n.toNat es 0)
      | false => none
    | _, _ => none
  | _, _ => none
theorem own_pos {w : World} {base : Nat} {t : TypeId} {es n : Nat} {v : Value} {xs : List Value} (h : w.ownsRow base t es v n xs) (hn : 0 < n) :
    ∃ g cap, v = .slice (some ⟨g, 0, none⟩) n cap := by
  obtain ⟨hl, h⟩ := h
  rcases h with ⟨_, rfl⟩ | ⟨g, cap, cur, rfl, _⟩
  · omega
  · exact ⟨g, cap, rfl⟩
theorem addr_add (b o n : Nat) : (⟨b, o, none⟩ : Addr).add n = ⟨b, o + n, none⟩ := by
  unfold Addr.add; split
  · rename_i h0; subst h0; rfl
  · rfl
theorem run_idx_arr {P : Program} {t e : TypeId} {N es b o : Nat} {k : IntKind} {n : Int} (h1 : P.underlying t = some (.array N e)) (h2 : Sz P e es) (h0 : 0 ≤ n) (hn : n < (N : Int)) (w : World) :
    (Instr.indexAt t (.pointer (some ⟨b, o, none⟩)) (.int k n)).run P w = .ok (.pointer (some ⟨b, o + n.toNat * es, none⟩)) w := by
  unfold Instr.indexAt
  simp only [asIntOf, Sem.run_bind, Sem.run_pure, Result.andThen_ok, run_underlying h1, Instr.sureAddr]
  simp only [h0, hn, and_self, if_true, Sem.run_bind, h2.run, Result.andThen_ok, Sem.run_pure, addr_add]
theorem run_idx_sl {P : Program} {t e : TypeId} {es len cap : Nat} {a : Addr} {k : IntKind} {n : Int} (h1 : P.underlying t = some (.slice e)) (h2 : Sz P e es) (h0 : 0 ≤ n) (hn : n < (len : Int)) (w : World) :
    (Instr.indexAt t (.slice (some a) len cap) (.int k n)).run P w = .ok (.pointer (some (a.add (n.toNat * es)))) w := by
  unfold Instr.indexAt
  simp only [asIntOf, Sem.run_bind, Sem.run_pure, Result.andThen_ok, run_underlying h1]
  simp only [h0, hn, and_self, if_true, Sem.run_bind, h2.run, Result.andThen_ok, Sem.run_pure]
theorem sl_sz {P : Program} {t e : TypeId} {es eb : Nat} (h : TyOk1 P t (.sl e es eb)) : P.underlying t = some (.slice e) ∧ Sz P e es := by
  obtain ⟨h1, _, i, z, hi, _, hs, _⟩ := h
  exact ⟨h1, by unfold Sz; rw [hi]; simp [hs]⟩
theorem none_of {α : Type} {x : α} {q : Prop} (h : (none : Option α) = some x) : q := by cases h
theorem idxS_sound {P : Program} {t : TypeId} {y : Ty} (hy : TyOk1 P t y) {x i : SV} {m : List Blk} {p : Prop} {v : SV} (h : idxS y x i m = some (p, v)) (hp : p)
    {w0 : World} {B : List Nat} {w : World} (hm : MemOk w0 B m w) : (Instr.indexAt t (cv x) (cv i)).run P w = .ok (cv v) w := by
  unfold idxS at h
  split at h
  · split at h
    · simp only [Option.some.injEq, Prod.mk.injEq] at h
      obtain ⟨rfl, rfl⟩ := h
      obtain ⟨u, h1, _, h3, _⟩ := hy
      simp only [cv]
      rw [run_idx_arr h1 h3 hp.1 hp.2, addIx_eq]
      simp only [Nat.mul_one, Result.ok.injEq, Value.pointer.injEq, Option.some.injEq, Addr.mk.injEq, and_true, true_and]; omega
    · rename_i N e es ek
      obtain ⟨h1, h2, _⟩ := hy
      split at h
      · simp only [Option.some.injEq, Prod.mk.injEq] at h
        obtain ⟨rfl, rfl⟩ := h
        simp only [cv]
        rw [run_idx_arr h1 h2 hp.1 hp.2, addIx_eq]
        simp only [Nat.mul_one, Result.ok.injEq, Value.pointer.injEq, Option.some.injEq, Addr.mk.injEq, and_true, true_and]; omega
      · split at h
        · simp only [Option.some.injEq, Prod.mk.injEq] at h
          obtain ⟨rfl, rfl⟩ := h
          simp only [cv]
          rw [run_idx_arr h1 h2 hp.1 hp.2]
          simp only [Result.ok.injEq, Value.pointer.injEq, Option.some.injEq, Addr.mk.injEq, and_true, true_and]; omega
        · simp only [Option.some.injEq, Prod.mk.injEq] at h
          obtain ⟨rfl, rfl⟩ := h
          simp only [cv]
          rw [run_idx_arr h1 h2 hp.1 hp.2]
          simp only [Result.ok.injEq, Value.pointer.injEq, Option.some.injEq, Addr.mk.injEq, and_true, true_and]; omega
    · exact none_of h
  · rename_i nm a st st0 es len cap k n
    split at h
    · rename_i e es' eb
      split at h
      · rename_i he
        have he' : es = es' := by simpa using he
        subst he'
        obtain ⟨h1, h2⟩ := sl_sz hy
        have key : ∀ (u : Value), 0 ≤ n ∧ n < (len : Int) ∧ len ≤ cap ∧ a = some ⟨blkO a, offO a, none⟩ → u = .pointer (some ⟨blkO a, offO a + (st + n.toNat) * es, none⟩) →
            (Instr.indexAt t (.slice (a.map (·.add ((if cap = 0 then st0 else st) * es))) len cap) (.int k n)).run P w = .ok u w := by
          intro u ⟨q1, q2, q3, q4⟩ hu
          rw [hu, if_neg (by omega)]
          generalize blkO a = b at *
          generalize offO a = o at *
          subst q4
          simp only [Option.map_some]
          rw [run_idx_sl h1 h2 q1 q2, addr_add, addr_add]
          simp only [Result.ok.injEq, Value.pointer.injEq, Option.some.injEq, Addr.mk.injEq, and_true, true_and, Nat.add_mul]; omega
        split at h
        · simp only [Option.some.injEq, Prod.mk.injEq] at h
          obtain ⟨rfl, rfl⟩ := h
          simp only [cv]
          exact key _ hp (by rw [addIx_eq]; simp)
        · simp only [Option.some.injEq, Prod.mk.injEq] at h
          obtain ⟨rfl, rfl⟩ := h
          simp only [cv]
          exact key _ hp (by rw [addIx_eq]; simp)
      · exact none_of h
    · exact none_of h
  · rename_i nm u len k n
    split at h
    · rename_i e es eb v' len' t' es' con hbg
      split at h
      · rename_i he
        have he' : es = es' := by simpa using he
        subst he'
        obtain ⟨h1, h2⟩ := sl_sz hy
        have h3 := hm.each _ (bget_mem hbg (by simp))
        have key : 0 ≤ n ∧ n < (len : Int) ∧ u = v' ∧ len = len' → (Instr.indexAt t u (.int k n)).run P w = .ok (.pointer (some ⟨blkOf u, 0 + n.toNat * es, none⟩)) w := by
          intro ⟨q1, q2, q3, q4⟩
          subst q3; subst q4
          obtain ⟨g, cap, rfl⟩ := own_pos h3 (by omega)
          rw [run_idx_sl h1 h2 q1 q2, addr_add]
          rfl
        split at h
        · simp only [Option.some.injEq, Prod.mk.injEq] at h
          obtain ⟨rfl, rfl⟩ := h
          simp only [cv]
          rw [key hp]; simp
        · simp only [Option.some.injEq, Prod.mk.injEq] at h
          obtain ⟨rfl, rfl⟩ := h
          simp only [cv]
          rw [key hp]; simp
      · exact none_of h
    · exact none_of h
  · exact none_of h
end Go.Proofs.Ytkljpgdcmahenaa
