/-
  A symbolic walk of my own: what is asked of a table of types; operations that leave the world alone.
-/
import Derived.Test.YtkljpgdcmahenaaE1
namespace Go.Proofs.Ytkljpgdcmahenaa
set_option linter.unusedSimpArgs false
set_option linter.unusedVariables false
open Go.RowKit

/-- A type has so many cells. -/
def Sz (P : Program) (t : TypeId) (n : Nat) : Prop := (P.info? t).map (·.size) = some n
theorem Sz.run {P : Program} {t : TypeId} {n : Nat} (h : Sz P t n) (w : World) : (sizeOf t).run P w = .ok n w := by
  unfold Sz at h
  unfold sizeOf typeInfo
  cases hi : P.info? t with
  | none => rw [hi] at h; cases h
  | some i => rw [hi] at h; simp at h; simp [hi, h]
def TyOk1 (P : Program) (t : TypeId) : Ty → Prop
  | .int k => P.underlying t = some (.int k)
  | .bool => P.underlying t = some .bool
  | .str => P.underlying t = some .string
  | .word => ∃ u, P.underlying t = some (.array 4 u) ∧ P.underlying u = some (.int .u64) ∧ Sz P u 1 ∧ Sz P t 4 ∧ P.eqGuardType P.depth t = false
  | .arr n e es ek => P.underlying t = some (.array n e) ∧ Sz P e es ∧ Sz P t (n * es) ∧ P.eqGuardType P.depth t = false ∧ ∀ k, ek = some k → P.underlying e = some (.int k)
  | .struct size fs => ∃ fields, P.underlying t = some (.struct fields) ∧ Sz P t size ∧ fields.toList.map (fun f => (f.offset, f.type)) = fs
  | .sl e es eb => P.underlying t = some (.slice e) ∧ 0 < es ∧ ∃ i z, P.info? e = some i ∧ i.zero = some z ∧ i.size = es ∧ i.bytes = eb ∧ z.cells.size = es
  | .ptr e => P.underlying t = some (.pointer e)
  | .cell => ∀ w, (isAgg t).run P w = .ok false w
  | .other => True
/-- How many cells a type's values have. -/
def tsz : Ty → Option Nat
  | .word => some 4
  | .arr n _ es _ => some (n * es)
  | .struct s _ => some s
  | .other => none
  | _ => some 1
structure TabOk (P : Program) (T : Tab) : Prop where
  sz : ∀ t n, tsz (T.ty t) = some n → Sz P t n
  zc : ∀ t c, T.zc t = some c → ∃ i z, P.info? t = some i ∧ i.zero = some z ∧ z.cells = (cc c).toArray
  ty : ∀ t, TyOk1 P t (T.ty t)
  gl : ∀ g, cv (T.gl g) = .pointer (some ⟨g, 0, none⟩)
  zr : ∀ t, T.zr t ≠ [] → ∃ i z, P.info? t = some i ∧ i.zero = some z ∧ z.cells = (cvs (T.zr t)).toArray
/-- How many cells a value of a type has, if it is no single one. -/
def aggN : Ty → Option (Option Nat)
  | .word => some (some 4)
  | .arr n _ es _ => some (some (n * es))
  | .struct s _ => some (some s)
  | .other => none
  | _ => some none
theorem isAgg_one {P : Program} {t : TypeId} {y : Ty} (h : TyOk1 P t y) (ha : aggN y = some none) (w : World) : (isAgg t).run P w = .ok false w := by
  have key : ∀ d, P.underlying t = some d → (∀ fs, d ≠ .struct fs) → (∀ n e, d ≠ .array n e) → (isAgg t).run P w = .ok false w := by
    intro d hd h1 h2
    unfold isAgg
    simp only [Sem.run_bind, run_underlying hd, Result.andThen_ok]
    cases d <;> first | rfl | exact absurd rfl (h1 _) | exact absurd rfl (h2 _ _)
  cases y <;> first | (cases ha; done) | skip
  · exact key _ h (by simp) (by simp)
  · exact key _ h (by simp) (by simp)
  · exact key _ h (by simp) (by simp)
  · exact key _ h.1 (by simp) (by simp)
  · exact key _ h (by simp) (by simp)
  · exact h w
theorem isAgg_many {P : Program} {t : TypeId} {y : Ty} {n : Nat} (h : TyOk1 P t y) (ha : aggN y = some (some n)) : (∀ w, (isAgg t).run P w = .ok true w) ∧ Sz P t n := by
  cases y <;> simp only [aggN, Option.some.injEq, reduceCtorEq] at ha
  · obtain ⟨u, h1, h2, h3, h4, h5⟩ := h
    subst ha
    exact ⟨fun w => by unfold isAgg; simp [run_underlying h1], h4⟩
  · obtain ⟨h1, h2, h3, h4⟩ := h
    subst ha
    exact ⟨fun w => by unfold isAgg; simp [run_underlying h1], h3⟩
  · obtain ⟨fields, h1, h2, h3⟩ := h
    subst ha
    exact ⟨fun w => by unfold isAgg; simp [run_underlying h1], h2⟩

def blkO : Option Addr → Nat
  | some a => a.block
  | none => 0
def offO : Option Addr → Nat
  | some a => a.off
  | none => 0
def blkOf : Value → Nat
  | .slice a _ _ => blkO a
  | _ => 0
def addp (p : Prop) : Option (Prop × SV) → Option (Prop × SV)
  | some (q, v) => some (p ∧ q, v)
  | none => none
theorem addp_some {p q : Prop} {r : Option (Prop × SV)} {v : SV} (h : addp p r = some (q, v)) : ∃ q', r = some (q', v) ∧ (q → p ∧ q') := by
  cases r with
  | none => cases h
  | some x => obtain ⟨q', u⟩ := x; simp only [addp, Option.some.injEq, Prod.mk.injEq] at h; obtain ⟨rfl, rfl⟩ := h; exact ⟨q', rfl, id⟩
def nth? : List SV → Nat → Option SV
  | [], _ => none
  | x :: _, 0 => some x
  | _ :: l, n + 1 => nth? l n
theorem nth?_some : ∀ {l : List SV} {n : Nat} {v : SV}, nth? l n = some v → (cvs l)[n]? = some (cv v)
  | x :: l, 0, v, h => by simp [nth?] at h; subst h; simp [cvs]
  | x :: l, n + 1, v, h => by simp [nth?] at h; simp [cvs]; exact nth?_some h
def takeN : List SV → Nat → Nat → Option (List SV)
  | _, 0, 0 => some []
  | [], _, _ => none
  | x :: l, 0, n + 1 => match takeN l 0 n with | some r => some (x :: r) | none => none
  | _ :: l, j + 1, n => takeN l j n
theorem takeN_some : ∀ {l : List SV} {j n : Nat} {r : List SV}, takeN l j n = some r → r.length = n ∧ ∀ i u, (cvs r)[i]? = some u → (cvs l)[j + i]? = some u
  | [], 0, 0, r, h => by simp [takeN] at h; subst h; simp [cvs]
  | x :: l, 0, 0, r, h => by simp [takeN] at h; subst h; simp [cvs]
  | x :: l, 0, n + 1, r, h => by
    simp only [takeN] at h
    cases ht : takeN l 0 n with
    | none => rw [ht] at h; cases h
    | some q =>
      rw [ht] at h
      simp at h
      subst h
      obtain ⟨h1, h2⟩ := takeN_some ht
      refine ⟨by simp [h1], fun i u hu => ?_⟩
      cases i with
      | zero => simpa [cvs] using hu
      | succ i =>
        simp only [cvs, List.getElem?_cons_succ] at hu
        have := h2 i u hu
        simp only [Nat.zero_add] at this ⊢
        simpa [cvs] using this
  | x :: l, j + 1, n, r, h => by
    simp only [takeN] at h
    obtain ⟨h1, h2⟩ := takeN_some h
    refine ⟨h1, fun i u hu => ?_⟩
    have := h2 i u hu
    rw [show j + 1 + i = (j + i) + 1 by omega]
    simpa [cvs] using this
  | [], 0, _ + 1, r, h => by simp [takeN] at h
  | [], _ + 1, _, r, h => by simp [takeN] at h

/-- The number of four parts. -/
def numI : List Int → Nat
  | [x0, x1, x2, x3] => num x0.toNat x1.toNat x2.toNat x3.toNat
  | _ => 0
def allU : List Int → Prop
  | [] => True
  | x :: l => (0 ≤ x ∧ x ≤ 18446744073709551615) ∧ allU l
theorem numI_cells {xs : List Int} (hl : xs.length = 4) (h : allU xs) : wcs (numI xs) = xs.map (Value.int .u64) := by
  match xs, hl with
  | [x0, x1, x2, x3], _ =>
    obtain ⟨h0, h1, h2, h3, _⟩ := h
    unfold wcs numI
    rw [lm0_num (by omega), lm1_num (by omega) (by omega), lm2_num (by omega) (by omega) (by omega), lm3_num (by omega) (by omega) (by omega) (by omega)]
    simp only [List.map, Int.toNat_of_nonneg h0.1, Int.toNat_of_nonneg h1.1, Int.toNat_of_nonneg h2.1, Int.toNat_of_nonneg h3.1]

/-- A single cell read. -/
def conOne (con : Con) (i sz j : Nat) : Option (Prop × SV) :=
  match con with
  | .ints k xs => match sz with | 0 => some (j < xs.length, .int k (xs.getD j 0)) | _ => none
  | .words xs => match sz with
    | 0 => some (0 < xs.length ∧ j < 4, .int .u64 (lm (xs.getD 0 0) j : Nat))
    | 4 => some (i < xs.length ∧ j < 4, .int .u64 (lm (xs.getD i 0) j : Nat))
    | _ => none
  | .cells l => match nth? l (i * sz + j) with | some v => some (True, v) | none => none
  | .rows n xs => match n == sz with
    | true => match nth? (xs.getD i []) j with | some v => some (i < xs.length ∧ j < n ∧ ∀ r ∈ xs, r.length = n, v) | none => none
    | false => none
/-- Several cells read. -/
def conMany (y : Ty) (n : Nat) (con : Con) (i sz j : Nat) : Option (Prop × SV) :=
  match con with
  | .ints k xs => match sz with
    | 0 => match y with
      | .word => match k with | .u64 => some (j = 0 ∧ xs.length = 4 ∧ allU xs, .word (numI xs)) | _ => none
      | .arr _ _ _ _ => match j with | 0 => some (xs.length = n, .ints k xs) | j => some (j + n ≤ xs.length, .ints k ((xs.drop j).take n))
      | _ => none
    | _ => none
  | .words xs => match y with
    | .word => match sz with
      | 0 => some (0 < xs.length ∧ j = 0, .word (xs.getD 0 0))
      | 4 => some (i < xs.length ∧ j = 0, .word (xs.getD i 0))
      | _ => none
    | _ => none
  | .cells l => match takeN l (i * sz + j) n with | some r => some (True, .agg r) | none => none
  | .rows m xs => match m == sz, m == n, j with
    | true, true, 0 => some (i < xs.length ∧ ∀ r ∈ xs, r.length = m, .agg (xs.getD i []))
    | _, _, _ => none
theorem flat_get {α : Type} (f : α → List Value) (n : Nat) : ∀ (xs : List α) (i j : Nat) (x : α), (∀ r ∈ xs, (f r).length = n) → xs[i]? = some x → j < n → (xs.flatMap f)[i * n + j]? = (f x)[j]?
  | [], i, j, x, _, h, _ => by simp at h
  | y :: xs, 0, j, x, hl, h, hj => by
    simp at h; subst h
    have := hl y List.mem_cons_self
    rw [List.flatMap_cons, List.getElem?_append_left (by omega)]
    simp
  | y :: xs, i + 1, j, x, hl, h, hj => by
    have h1 := hl y List.mem_cons_self
    rw [List.flatMap_cons, List.getElem?_append_right (by rw [h1, Nat.add_mul]; omega), h1]
    rw [show (i + 1) * n + j - n = i * n + j by rw [Nat.add_mul]; omega]
    exact flat_get f n xs i j x (fun r hr => hl r (List.mem_cons_of_mem _ hr)) (by simpa using h) hj
theorem wcs_len (a : Nat) : (wcs a).length = 4 := rfl
theorem wcs_get (a j : Nat) (h : j < 4) : (wcs a)[j]? = some (.int .u64 (lm a j : Nat)) := by
  have : j = 0 ∨ j = 1 ∨ j = 2 ∨ j = 3 := by omega
  rcases this with rfl | rfl | rfl | rfl <;> rfl
theorem getD_get {α : Type} {xs : List α} {i : Nat} (d : α) (h : i < xs.length) : xs[i]? = some (xs.getD i d) := by
  rw [List.getD_eq_getElem?_getD, List.getElem?_eq_getElem h]; rfl
theorem cvs_len (l : List SV) : (cvs l).length = l.length := by rw [cvs_eq, List.length_map]
theorem words_get {xs : List Nat} {i j : Nat} (hi : i < xs.length) (hj : j < 4) : (cc (.words xs))[i * 4 + j]? = some (.int .u64 (lm (xs.getD i 0) j : Nat)) := by
  unfold cc
  rw [flat_get wcs 4 xs i j _ (fun r _ => wcs_len r) (getD_get 0 hi) hj, wcs_get _ _ hj]
theorem conOne_sound {con : Con} {i sz j : Nat} {p : Prop} {v : SV} (h : conOne con i sz j = some (p, v)) (hp : p) : (cc con)[i * sz + j]? = some (cv v) := by
  cases con with
  | ints k xs =>
    simp only [conOne] at h
    split at h
    · simp only [Option.some.injEq, Prod.mk.injEq] at h
      obtain ⟨rfl, rfl⟩ := h
      rw [Nat.mul_zero, Nat.zero_add]
      unfold cc
      rw [List.getElem?_map, getD_get 0 hp]
      rfl
    · cases h
  | words xs =>
    simp only [conOne] at h
    split at h
    · simp only [Option.some.injEq, Prod.mk.injEq] at h
      obtain ⟨rfl, rfl⟩ := h
      have := words_get hp.1 hp.2
      simpa [cv] using this
    · simp only [Option.some.injEq, Prod.mk.injEq] at h
      obtain ⟨rfl, rfl⟩ := h
      exact words_get hp.1 hp.2
    · cases h
  | cells l =>
    simp only [conOne] at h
    split at h
    · rename_i u hu
      simp only [Option.some.injEq, Prod.mk.injEq] at h
      obtain ⟨rfl, rfl⟩ := h
      exact nth?_some hu
    · cases h
  | rows n xs =>
    simp only [conOne] at h
    split at h
    · rename_i hn
      split at h
      · rename_i u hu
        simp only [Option.some.injEq, Prod.mk.injEq] at h
        obtain ⟨rfl, rfl⟩ := h
        obtain ⟨h1, h2, h3⟩ := hp
        have hn' : n = sz := by simpa using hn
        subst hn'
        unfold cc
        rw [flat_get cvs n xs i j _ (fun r hr => by rw [cvs_len]; exact h3 r hr) (getD_get [] h1) h2]
        exact nth?_some hu
      · cases h
    · cases h
theorem conMany_sound {y : Ty} {n : Nat} {con : Con} {i sz j : Nat} {p : Prop} {v : SV} (hy : aggN y = some (some n)) 
    (h : conMany y n con i sz j = some (p, v)) (hp : p) : ∃ cs : List Value, cv v = .agg cs.toArray ∧ cs.length = n ∧ ∀ r u, cs[r]? = some u → (cc con)[i * sz + j + r]? = some u := by
  cases con with
  | ints k xs =>
    simp only [conMany] at h
    split at h
    · split at h
      · split at h
        · simp only [Option.some.injEq, Prod.mk.injEq] at h
          obtain ⟨rfl, rfl⟩ := h
          obtain ⟨rfl, h2, h3⟩ := hp
          simp only [aggN, Option.some.injEq] at hy
          refine ⟨wcs (numI xs), rfl, by rw [wcs_len]; exact hy, fun r u hu => ?_⟩
          rw [numI_cells h2 h3] at hu
          simpa [cc] using hu
        · cases h
      · split at h
        · simp only [Option.some.injEq, Prod.mk.injEq] at h
          obtain ⟨rfl, rfl⟩ := h
          exact ⟨xs.map (Value.int k), rfl, by simpa using hp, fun r u hu => by simpa [cc] using hu⟩
        · simp only [Option.some.injEq, Prod.mk.injEq] at h
          obtain ⟨rfl, rfl⟩ := h
          refine ⟨((xs.drop j).take n).map (Value.int k), rfl, by simp; omega, fun r u hu => ?_⟩
          simp only [List.getElem?_map, List.getElem?_take, List.getElem?_drop, Option.map_eq_some_iff] at hu
          obtain ⟨x, hx, rfl⟩ := hu
          split at hx
          · simp [cc, hx]
          · cases hx
      · cases h
    · cases h
  | words xs =>
    simp only [conMany] at h
    split at h
    · simp only [aggN, Option.some.injEq] at hy
      split at h
      · simp only [Option.some.injEq, Prod.mk.injEq] at h
        obtain ⟨rfl, rfl⟩ := h
        obtain ⟨h1, rfl⟩ := hp
        refine ⟨wcs (xs.getD 0 0), rfl, by rw [wcs_len]; exact hy, fun r u hu => ?_⟩
        have hr : r < 4 := by
          have := (List.getElem?_eq_some_iff.1 hu).1; rwa [wcs_len] at this
        have h5 := words_get h1 hr
        rw [wcs_get _ _ hr] at hu
        rw [Nat.zero_mul, Nat.zero_add] at h5
        rw [Nat.mul_zero, Nat.add_zero, Nat.zero_add, h5]; exact hu
      · simp only [Option.some.injEq, Prod.mk.injEq] at h
        obtain ⟨rfl, rfl⟩ := h
        obtain ⟨h1, rfl⟩ := hp
        refine ⟨wcs (xs.getD i 0), rfl, by rw [wcs_len]; exact hy, fun r u hu => ?_⟩
        have hr : r < 4 := by
          have := (List.getElem?_eq_some_iff.1 hu).1; rwa [wcs_len] at this
        have := words_get h1 hr
        rw [wcs_get _ _ hr] at hu
        rw [Nat.add_zero, this]; exact hu
      · cases h
    · cases h
  | cells l =>
    simp only [conMany] at h
    split at h
    · rename_i q hq
      simp only [Option.some.injEq, Prod.mk.injEq] at h
      obtain ⟨rfl, rfl⟩ := h
      obtain ⟨h1, h2⟩ := takeN_some hq
      exact ⟨cvs q, rfl, by rw [cvs_len]; exact h1, fun r u hu => h2 r u hu⟩
    · cases h
  | rows m xs =>
    simp only [conMany] at h
    split at h
    · rename_i hm hn
      simp only [Option.some.injEq, Prod.mk.injEq] at h
      obtain ⟨rfl, rfl⟩ := h
      obtain ⟨h1, h3⟩ := hp
      have hm' : m = sz := by simpa using hm
      have hn' : m = n := by simpa using hn
      subst hm'; subst hn'
      have hmem : xs.getD i [] ∈ xs := List.mem_of_getElem? (getD_get [] h1)
      refine ⟨cvs (xs.getD i []), rfl, by rw [cvs_len]; exact h3 _ hmem, fun r u hu => ?_⟩
      have hr : r < m := by
        have := (List.getElem?_eq_some_iff.1 hu).1; rwa [cvs_len, h3 _ hmem] at this
      unfold cc
      rw [Nat.add_zero, flat_get cvs m xs i r _ (fun r hr => by rw [cvs_len]; exact h3 r hr) (getD_get [] h1) hr]
      exact hu
    · cases h
end Go.Proofs.Ytkljpgdcmahenaa
