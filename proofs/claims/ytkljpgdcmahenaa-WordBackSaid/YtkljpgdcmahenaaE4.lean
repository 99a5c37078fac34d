/-
  A symbolic walk of my own: pieces of slices, builtins that only read, values put together; the step of an operation that leaves the world alone.
-/
import Derived.Test.YtkljpgdcmahenaaE3
namespace Go.Proofs.Ytkljpgdcmahenaa
set_option linter.unusedSimpArgs false
set_option linter.unusedVariables false
open Go.RowKit

/-! ### Pieces -/
def bnd (d : Int) : Option SV → Option Int
  | none => some d
  | some (.int _ n) => some n
  | _ => none
def curSt (cap st0 st : Nat) : Nat := if cap = 0 then st0 else st
def capOf : Value → Nat
  | .slice _ _ c => c
  | _ => 0
def sliceP (l h : Int) (lo : Nat) (cap : Nat) (f : Nat → Nat → Nat → SV) : Option (Prop × SV) :=
  some (0 ≤ l ∧ l ≤ h ∧ h ≤ (cap : Int) ∧ lo ≤ cap, f l.toNat (h.toNat - l.toNat) (cap - l.toNat))
def sliceS (y : Ty) (x : SV) (lo hi : Option SV) (m : List Blk) : Option (Prop × SV) :=
  match x with
  | .ptr nm b base i sz j =>
    match y with
    | .word => match sz, bnd 0 lo, bnd 4 hi with
      | 0, some l, some h => sliceP l h 0 4 fun l n c => .sl nm (some ⟨b, base, none⟩) (addIx j l) j 1 n c
      | _, _, _ => none
    | .arr N _ es _ => match es with
      | 1 => match sz, bnd 0 lo, bnd N hi with
        | 0, some l, some h => sliceP l h 0 N fun l n c => .sl nm (some ⟨b, base, none⟩) (addIx j l) j 1 n c
        | _, _, _ => none
      | es => match i, sz, j, bnd 0 lo, bnd N hi with
        | 0, 0, 0, some l, some h => sliceP l h 0 N fun l n c => .sl nm (some ⟨b, base, none⟩) l 0 es n c
        | _, _, _, _, _ => none
    | _ => none
  | .sl nm a st st0 es len cap =>
    match y with
    | .sl _ es' _ => match es == es', bnd 0 lo, bnd len hi with
      | true, some l, some h => sliceP l h len cap fun l n c => .sl nm a (addIx st l) (curSt cap st0 st) es n c
      | _, _, _ => none
    | _ => none
  | .own nm v n =>
    match y, bget m nm with
    | .sl _ es' _, .own v' n' _ es _ => match es == es', bnd 0 lo, bnd n hi with
      | true, some l, some h => addp (v = v' ∧ n = n' ∧ 0 < n ∧ h ≤ (n : Int)) (sliceP l h n (capOf v) fun l n c => .sl nm (some ⟨blkOf v, 0, none⟩) l 0 es n c)
      | _, _, _ => none
    | _, _ => none
  | _ => none
theorem run_sliceBounds {P : Program} {w : World} {isS : Bool} {len cap : Nat} {lo hi : Option SV} {l h : Int} (hl : bnd 0 lo = some l) (hh : bnd len hi = some h)
    (h0 : 0 ≤ l) (h1 : l ≤ h) (h2 : h ≤ (cap : Int)) (_hle : len ≤ cap) :
    (Instr.sliceBounds isS len cap (lo.map cv) (hi.map cv) none).run P w = .ok (l.toNat, h.toNat, cap) w := by
  have hb : ∀ (k : IntKind) (i : Int) (y : Nat) (c : BoundsCode), 0 ≤ i → i ≤ (y : Int) → (Instr.sliceBound (.int k i) y c).run P w = .ok i.toNat w := fun k i y c a b => run_sliceBound w k i y c a b
  unfold Instr.sliceBounds
  cases hi with
  | none =>
    simp [bnd] at hh; subst hh
    cases lo with
    | none => simp [bnd] at hl; subst hl; simp
    | some x => cases x <;> simp [bnd] at hl; subst hl; simp [cv, hb _ _ _ _ h0 h1]
  | some y =>
    cases y <;> simp [bnd] at hh
    rename_i ky ny
    subst hh
    cases lo with
    | none =>
      simp [bnd] at hl; subst hl
      cases isS <;> simp [cv, hb _ _ _ _ h1 h2]
    | some x =>
      cases x <;> simp [bnd] at hl
      rename_i kx nx
      subst hl
      have h5 : nx ≤ ((ny.toNat : Nat) : Int) := by omega
      cases isS <;> simp [cv, hb _ _ _ _ (show 0 ≤ ny by omega) h2, hb _ _ _ _ h0 h5]
theorem sliceP_some {l h : Int} {lo cap : Nat} {f : Nat → Nat → Nat → SV} {p : Prop} {v : SV} (e : sliceP l h lo cap f = some (p, v)) :
    (p → 0 ≤ l ∧ l ≤ h ∧ h ≤ (cap : Int) ∧ lo ≤ cap) ∧ v = f l.toNat (h.toNat - l.toNat) (cap - l.toNat) := by
  simp only [sliceP, Option.some.injEq, Prod.mk.injEq] at e
  obtain ⟨rfl, rfl⟩ := e
  exact ⟨id, rfl⟩
theorem run_slice_arr {P : Program} {t e : TypeId} {N es b o : Nat} {lo hi : Option SV} {l h : Int} (h1 : P.underlying t = some (.array N e)) (h2 : Sz P e es)
    (hl : bnd 0 lo = some l) (hh : bnd N hi = some h) (h0 : 0 ≤ l) (h3 : l ≤ h) (h4 : h ≤ (N : Int)) (w : World) :
    (Instr.sliceAt t (.pointer (some ⟨b, o, none⟩)) (lo.map cv) (hi.map cv) none).run P w =
      .ok (.slice (some ⟨b, o + (if N - l.toNat = 0 then 0 else l.toNat) * es, none⟩) (h.toNat - l.toNat) (N - l.toNat)) w := by
  unfold Instr.sliceAt
  simp only [Sem.run_bind, run_underlying h1, Result.andThen_ok, Instr.sureAddr, Sem.run_pure, run_sliceBounds hl hh h0 h3 h4 (Nat.le_refl _), h2.run]
  simp only [Result.ok.injEq, Value.slice.injEq, Option.some.injEq, and_true]
  by_cases hc : N = l.toNat
  · rw [if_pos hc, if_pos (by omega)]; simp
  · rw [if_neg hc, if_neg (by omega), addr_add]
theorem run_slice_sl {P : Program} {t e : TypeId} {es len cap : Nat} {a : Option Addr} {lo hi : Option SV} {l h : Int} (h1 : P.underlying t = some (.slice e)) (h2 : Sz P e es)
    (hl : bnd 0 lo = some l) (hh : bnd len hi = some h) (h0 : 0 ≤ l) (h3 : l ≤ h) (h4 : h ≤ (cap : Int)) (hle : len ≤ cap) (w : World) :
    (Instr.sliceAt t (.slice a len cap) (lo.map cv) (hi.map cv) none).run P w =
      .ok (.slice (if cap = l.toNat then a else a.map (·.add (l.toNat * es))) (h.toNat - l.toNat) (cap - l.toNat)) w := by
  unfold Instr.sliceAt
  simp only [Sem.run_bind, run_underlying h1, Result.andThen_ok]
  unfold Instr.slice
  simp only [Sem.run_bind, run_underlying h1, Result.andThen_ok, run_sliceBounds hl hh h0 h3 h4 hle, h2.run, Sem.run_pure]
theorem map_add_add (a : Option Addr) (n k : Nat) : (a.map (·.add n)).map (·.add k) = a.map (·.add (n + k)) := by
  cases a with
  | none => rfl
  | some a =>
    simp only [Option.map_some, Option.some.injEq]
    unfold Addr.add
    obtain ⟨b, o, s⟩ := a
    by_cases hn : n = 0 <;> by_cases hk : k = 0 <;> simp [hn, hk]
    omega
theorem sliceS_sound {P : Program} {t : TypeId} {y : Ty} (hy : TyOk1 P t y) {x : SV} {lo hi : Option SV} {m : List Blk} {p : Prop} {v : SV} (h : sliceS y x lo hi m = some (p, v)) (hp : p)
    {w0 : World} {B : List Nat} {w : World} (hm : MemOk w0 B m w) : (Instr.sliceAt t (cv x) (lo.map cv) (hi.map cv) none).run P w = .ok (cv v) w := by
  unfold sliceS at h
  split at h
  · rename_i nm b base i sz j
    split at h
    · split at h
      · rename_i l h' hl hh
        obtain ⟨q1, rfl⟩ := sliceP_some h
        obtain ⟨q1, q2, q3, _⟩ := q1 hp
        obtain ⟨u, h1, _, h3, _⟩ := hy
        simp only [cv]
        rw [run_slice_arr h1 h3 hl hh q1 q2 q3]
        simp only [Option.map_some, addr_add, addIx_eq, Result.ok.injEq, Value.slice.injEq, Option.some.injEq, Addr.mk.injEq, and_true, true_and]
        split <;> omega
      · exact none_of h
    · rename_i N e es ek
      obtain ⟨h1, h2, _⟩ := hy
      split at h
      · split at h
        · rename_i l h' hl hh
          obtain ⟨q1, rfl⟩ := sliceP_some h
          obtain ⟨q1, q2, q3, _⟩ := q1 hp
          simp only [cv]
          rw [run_slice_arr h1 h2 hl hh q1 q2 q3]
          simp only [Option.map_some, addr_add, addIx_eq, Result.ok.injEq, Value.slice.injEq, Option.some.injEq, Addr.mk.injEq, and_true, true_and]
          split <;> omega
        · exact none_of h
      · split at h
        · rename_i l h' hl hh
          obtain ⟨q1, rfl⟩ := sliceP_some h
          obtain ⟨q1, q2, q3, _⟩ := q1 hp
          simp only [cv]
          rw [run_slice_arr h1 h2 hl hh q1 q2 q3]
          simp only [Option.map_some, addr_add, Result.ok.injEq, Value.slice.injEq, Option.some.injEq, Addr.mk.injEq, and_true, true_and]
          split <;> omega
        · exact none_of h
    · exact none_of h
  · rename_i nm a st st0 es len cap
    split at h
    · split at h
      · rename_i l h' he hl hh
        have he' := eq_of_beq he
        subst he'
        obtain ⟨h1, h2⟩ := sl_sz hy
        obtain ⟨q1, rfl⟩ := sliceP_some h
        obtain ⟨q1, q2, q3, q4⟩ := q1 hp
        simp only [cv]
        rw [run_slice_sl h1 h2 hl hh q1 q2 q3 q4]
        simp only [Result.ok.injEq, Value.slice.injEq, and_true]
        unfold curSt
        by_cases hc : cap = l.toNat
        · rw [if_pos hc, if_pos (show cap - l.toNat = 0 by omega)]
        · rw [if_neg hc, if_neg (show ¬ cap - l.toNat = 0 by omega), if_neg (by omega), map_add_add, addIx_eq]
          simp only [Nat.add_mul]
      · exact none_of h
    · exact none_of h
  · rename_i nm u n
    split at h
    · rename_i e es' eb v' n' t' es con hbg
      split at h
      · rename_i l h' he hl hh
        obtain ⟨p', hs, hpp⟩ := addp_some h
        obtain ⟨⟨rfl, rfl, hn, hle⟩, hp'⟩ := hpp hp
        have he' := eq_of_beq he
        subst he'
        obtain ⟨h1, h2⟩ := sl_sz hy
        obtain ⟨q0, rfl⟩ := sliceP_some hs
        obtain ⟨q1, q2, q3, q4⟩ := q0 hp'
        clear q0
        have h3 := hm.each _ (bget_mem hbg (by simp))
        obtain ⟨g, cap, rfl⟩ := own_pos h3 hn
        change h' ≤ ((cap : Nat) : Int) at q3
        change n ≤ cap at q4
        change (Instr.sliceAt t (.slice (some ⟨g, 0, none⟩) n cap) (lo.map cv) (hi.map cv) none).run P w = .ok (.slice (some ((⟨g, 0, none⟩ : Addr).add ((if cap - l.toNat = 0 then 0 else l.toNat) * es))) (h'.toNat - l.toNat) (cap - l.toNat)) w
        rw [run_slice_sl h1 h2 hl hh q1 q2 q3 q4]
        simp only [Option.map_some, addr_add, Result.ok.injEq, Value.slice.injEq, and_true]
        by_cases hc : cap = l.toNat
        · rw [if_pos hc, if_pos (show cap - l.toNat = 0 by omega)]; simp
        · rw [if_neg hc, if_neg (show ¬ cap - l.toNat = 0 by omega)]
      · exact none_of h
    · exact none_of h
  · exact none_of h

/-! ### Small ones -/
def pickS (c a b : SV) : Option (Prop × SV) :=
  match c, a, b with
  | .bool c, .bool p, .bool q => some (True, .bool (cond c p q))
  | .bool true, a, _ => some (True, a)
  | .bool false, _, b => some (True, b)
  | _, _, _ => none
def extS (x : SV) (i : Nat) : Option (Prop × SV) :=
  match x with
  | .tup vs => match nth? vs i with | some v => some (True, v) | none => none
  | _ => none
def convS (y : Ty) (x : SV) : Option (Prop × SV) :=
  match y, x with
  | .int k, .int _ n => some (True, .int k (k.wrap n))
  | _, _ => none
def nilS (x : SV) : Option (Prop × SV) :=
  match x with
  | .ptr nm b base i sz j => some (True, .ptr nm b base i sz j)
  | .fn (.func f) a c => some (True, .fn (.func f) a c)
  | _ => none
def arrPS (y : Ty) (x : SV) : Option (Prop × SV) :=
  match x with
  | .sl nm a st _ es len cap =>
    match y with
    | .word => match es with | 1 => some (4 ≤ len ∧ len ≤ cap ∧ a = some ⟨blkO a, offO a, none⟩, .ptr nm (blkO a) (offO a) 0 0 st) | _ => none
    | .arr N _ es' _ => match es, es == es' with
      | 1, true => some (N ≤ len ∧ 0 < N ∧ len ≤ cap ∧ a = some ⟨blkO a, offO a, none⟩, .ptr nm (blkO a) (offO a) 0 0 st)
      | _, _ => none
    | _ => none
  | _ => none
def bltS (b : Builtin) (ts : List Ty) (xs : List SV) : Option (Prop × SV) :=
  match b, ts, xs with
  | .len, [.sl _ _ _], [.sl _ _ _ _ _ len _] => some (True, .int .i64 len)
  | .len, [.sl _ _ _], [.nilsl] => some (True, .int .i64 0)
  | .len, [.str], [.str s] => some (True, .int .i64 s.size)
  | .cap, [.sl _ _ _], [.sl _ _ _ _ _ _ cap] => some (True, .int .i64 cap)
  | .min, _, [.int k a, .int _ b] => some (True, .int k (if b < a then b else a))
  | .max, _, [.int k a, .int _ b] => some (True, .int k (if a < b then b else a))
  | _, _, _ => none
/-- len of an own slice wants what lies in memory. -/
def lenOwn (b : Builtin) (ts : List Ty) (xs : List SV) (m : List Blk) : Option (Prop × SV) :=
  match b, ts, xs with
  | .len, [.sl _ _ _], [.own nm v n] => match bget m nm with | .own v' n' _ _ _ => some (v = v' ∧ n = n', .int .i64 n) | _ => none
  | _, _, _ => none
/-- The cells of a value. -/
def cellsOf : SV → Option (List SV)
  | .word a => some [.int .u64 (lm a 0 : Nat), .int .u64 (lm a 1 : Nat), .int .u64 (lm a 2 : Nat), .int .u64 (lm a 3 : Nat)]
  | .agg cs => some cs
  | .int k n => some [.int k n]
  | .bool b => some [.bool b]
  | .str s => some [.str s]
  | .ptr nm b base i sz j => some [.ptr nm b base i sz j]
  | .sl nm a st st0 es len cap => some [.sl nm a st st0 es len cap]
  | .nilsl => some [.nilsl]
  | .fn f a c => some [.fn f a c]
  | _ => none
theorem cellsOf_some {x : SV} {cs : List SV} (h : cellsOf x = some cs) : (cv x).cells = (cvs cs).toArray := by
  cases x <;> simp only [cellsOf, Option.some.injEq, reduceCtorEq] at h <;> subst h <;> rfl
def splice : List SV → Nat → List SV → Option (List SV)
  | l, 0, [] => some l
  | _ :: l, 0, y :: ys => match splice l 0 ys with | some r => some (y :: r) | none => none
  | x :: l, n + 1, ys => match splice l n ys with | some r => some (x :: r) | none => none
  | _, _, _ => none
theorem splice_some : ∀ {l : List SV} {n : Nat} {ys r : List SV}, splice l n ys = some r → n + ys.length ≤ l.length ∧ r = l.take n ++ ys ++ l.drop (n + ys.length)
  | l, 0, [], r, h => by cases l <;> simp [splice] at h <;> subst h <;> simp
  | x :: l, 0, y :: ys, r, h => by
    simp only [splice] at h
    cases hs : splice l 0 ys with
    | none => rw [hs] at h; cases h
    | some q =>
      rw [hs] at h; simp at h; subst h
      obtain ⟨h1, h2⟩ := splice_some hs
      refine ⟨by simp at h1 ⊢; omega, ?_⟩
      rw [h2]; simp
  | x :: l, n + 1, ys, r, h => by
    have h' : (match splice l n ys with | some r => some (x :: r) | none => none) = some r := by cases ys <;> simpa [splice] using h
    cases hs : splice l n ys with
    | none => rw [hs] at h'; cases h'
    | some q =>
      rw [hs] at h'; simp at h'; subst h'
      obtain ⟨h1, h2⟩ := splice_some hs
      refine ⟨by simp; omega, ?_⟩
      rw [h2]; simp [show n + 1 + ys.length = (n + ys.length) + 1 by omega]
  | [], n + 1, ys, r, h => by cases ys <;> simp [splice] at h
  | [], 0, y :: ys, r, h => by simp [splice] at h
/-- Parts put over the zero. -/
def placeOf (y : Ty) (i : Nat) : Option (Nat × Nat) :=
  match y with
  | .word => some (i, 1)
  | .arr _ _ es _ => some (i * es, es)
  | _ => none
def fillS (y : Ty) (l : List SV) : List (Nat × SV) → Option (List SV)
  | [] => some l
  | (i, x) :: rest => match placeOf y i, cellsOf x with
    | some (off, size), some cs => match cs.length == size, splice l off cs with
      | true, some l' => fillS y l' rest
      | _, _ => none
    | _, _ => none
def toW : List SV → Option (List Int)
  | [.int .u64 x0, .int .u64 x1, .int .u64 x2, .int .u64 x3] => some [x0, x1, x2, x3]
  | _ => none
def buildS (y : Ty) (zr : List SV) (parts : List (Nat × SV)) : Option (Prop × SV) :=
  match zr with
  | [] => none
  | zr => match fillS y zr parts with
    | some l => match y with
      | .word => match toW l with | some xs => some (allU xs, .word (numI xs)) | none => none
      | .arr _ _ _ _ => some (True, .agg l)
      | _ => none
    | none => none
theorem set_splice : ∀ (vs l : List Value) (off k : Nat), off + k + vs.length ≤ l.length →
    (vs.zipIdx k).foldl (fun (a : List Value) (c : Value × Nat) => a.set (off + c.2) c.1) l = l.take (off + k) ++ vs ++ l.drop (off + k + vs.length)
  | [], l, off, k, h => by simp
  | v :: vs, l, off, k, h => by
    simp only [List.length_cons] at h
    rw [List.zipIdx_cons, List.foldl_cons, set_splice vs (l.set (off + k) v) off (k + 1) (by simp; omega)]
    apply List.ext_getElem?
    intro i
    simp only [List.getElem?_append, List.length_take, List.length_set, List.getElem?_take, List.getElem?_drop, List.getElem?_set, List.length_append, List.length_cons, List.getElem?_cons]
    have e1 : min (off + k) l.length = off + k := by omega
    have e2 : min (off + (k + 1)) l.length = off + k + 1 := by omega
    simp only [e1, e2]
    by_cases h1 : i < off + k
    · rw [if_pos (by omega), if_pos (by omega), if_pos (by omega), if_neg (by omega), if_pos (by omega), if_pos (by omega), if_pos h1]
    · by_cases h2 : i = off + k
      · subst h2
        rw [if_pos (by omega), if_pos (by omega), if_pos (by omega), if_pos rfl, if_pos (by omega), if_pos (by omega), if_neg (by omega), if_pos (by omega)]
      · by_cases h3 : i < off + k + 1 + vs.length
        · rw [if_pos (by omega), if_neg (by omega), if_pos (by omega), if_neg (by omega), if_neg (by omega)]
          congr 1 <;> omega
        · rw [if_neg (by omega), if_neg (by omega), if_neg (by omega)]
          congr 1 <;> omega
theorem arr_splice (vs l : List Value) (off : Nat) (h : off + vs.length ≤ l.length) :
    vs.toArray.zipIdx.foldl (fun (cs : Array Value) (c : Value × Nat) => cs.setIfInBounds (off + c.2) c.1) l.toArray = (l.take off ++ vs ++ l.drop (off + vs.length)).toArray := by
  have h1 := set_splice vs l off 0 (by omega)
  rw [Nat.add_zero] at h1
  rw [← h1]
  have key : ∀ (ps : List (Value × Nat)) (l : List Value), ps.foldl (fun (cs : Array Value) (c : Value × Nat) => cs.setIfInBounds (off + c.2) c.1) l.toArray = (ps.foldl (fun (a : List Value) (c : Value × Nat) => a.set (off + c.2) c.1) l).toArray := by
    intro ps
    induction ps with
    | nil => intro l; rfl
    | cons p ps ih => intro l; simp only [List.foldl_cons, List.setIfInBounds_toArray, ih]
  rw [← key]
  have e : vs.toArray.zipIdx = (vs.zipIdx).toArray := by simp
  rw [e]
  simp
theorem fillS_some {y : Ty} {place : Nat → Option (Nat × Nat)} (hp : ∀ i p, placeOf y i = some p → place i = some p) : ∀ {parts : List (Nat × SV)} {l r : List SV}, fillS y l parts = some r →
    Instr.fill place (cvs l).toArray (parts.map fun p => (p.1, cv p.2)) = some (cvs r).toArray
  | [], l, r, h => by simp [fillS] at h; subst h; rfl
  | (i, x) :: rest, l, r, h => by
    simp only [fillS] at h
    split at h
    · rename_i off size cs hpl hcs
      split at h
      · rename_i l' hl hs
        obtain ⟨h1, h2⟩ := splice_some hs
        have hl' : cs.length = size := by simpa using hl
        have hc := cellsOf_some hcs
        simp only [List.map_cons, Instr.fill, hp i _ hpl, hc]
        have e1 : (cvs cs).toArray.size = size := by simp [cvs_len, hl']
        rw [if_neg (by simp [e1, cvs_len]; omega)]
        rw [arr_splice (cvs cs) (cvs l) off (by simp [cvs_len]; omega)]
        have e2 : (cvs l).take off ++ cvs cs ++ (cvs l).drop (off + (cvs cs).length) = cvs l' := by
          rw [h2]; simp [cvs_eq]
        rw [e2]
        exact fillS_some hp h
      · exact none_of h
    · exact none_of h
theorem toW_some {l : List SV} {xs : List Int} (h : toW l = some xs) : xs.length = 4 ∧ cvs l = xs.map (Value.int .u64) := by
  unfold toW at h
  split at h
  · simp at h; subst h; simp [cvs, cv]
  · cases h
theorem buildS_sound {P : Program} {T : Tab} (hT : TabOk P T) {t : TypeId} {parts : List (Nat × SV)} {p : Prop} {v : SV} (h : buildS (T.ty t) (T.zr t) parts = some (p, v)) (hp : p) (w : World) :
    (Instr.build t (parts.map fun p => (p.1, cv p.2)).toArray).run P w = .ok (cv v) w := by
  unfold buildS at h
  split at h
  · exact none_of h
  · rename_i zr hz
    obtain ⟨i, z, hi, hzz, hzc⟩ := hT.zr t (fun e => hz e)
    have hy := hT.ty t
    have z1 : ∀ w, (zeroValue t).run P w = .ok z w := fun w => by simp [zeroValue, typeInfo, hi, hzz]
    split at h
    · rename_i l hl
      unfold Instr.build
      simp only [Sem.run_bind, z1, Result.andThen_ok, hzc]
      split at h
      · rename_i hyw
        rw [hyw] at hy hl
        obtain ⟨u, h1, h2, h3, h4, h5⟩ := hy
        split at h
        · rename_i xs hxs
          simp only [Option.some.injEq, Prod.mk.injEq] at h
          obtain ⟨rfl, rfl⟩ := h
          obtain ⟨g1, g2⟩ := toW_some hxs
          have hf := fillS_some (place := fun i => some (i * 1, 1)) (fun i p hp => by simpa [placeOf] using hp) hl
          simp only [run_underlying h1, Sem.run_bind, Result.andThen_ok, h3.run]
          rw [hf]
          simp only [Sem.run_pure, cv]
          rw [numI_cells g1 hp, g2]
        · exact none_of h
      · rename_i n e es ek hya
        rw [hya] at hy hl
        obtain ⟨h1, h2, _⟩ := hy
        simp only [Option.some.injEq, Prod.mk.injEq] at h
        obtain ⟨rfl, rfl⟩ := h
        have hf := fillS_some (place := fun i => some (i * es, es)) (fun i p hp => by simpa [placeOf] using hp) hl
        simp only [run_underlying h1, Sem.run_bind, Result.andThen_ok, h2.run]
        rw [hf]
        simp only [Sem.run_pure, cv]
      · exact none_of h
    · exact none_of h
end Go.Proofs.Ytkljpgdcmahenaa
