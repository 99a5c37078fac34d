/-
  A symbolic walk of my own: a store is right.
-/
import Derived.Test.YtkljpgdcmahenaaE7
namespace Go.Proofs.Ytkljpgdcmahenaa
set_option linter.unusedSimpArgs false
set_option linter.unusedVariables false
open Go.RowKit

theorem cvs_app (a b : List SV) : cvs (a ++ b) = cvs a ++ cvs b := by simp [cvs_eq]
theorem cvs_take (l : List SV) (n : Nat) : cvs (l.take n) = (cvs l).take n := by simp [cvs_eq]
theorem cvs_drop (l : List SV) (n : Nat) : cvs (l.drop n) = (cvs l).drop n := by simp [cvs_eq]
theorem over_splice {l : List SV} {n : Nat} {ys r : List SV} (h : splice l n ys = some r) (h1 : allOne ys = true) : Over (cvs l) n (cvs ys) (cvs r) := by
  obtain ⟨h2, h3⟩ := splice_some h
  refine ⟨by rw [cvs_len, cvs_len]; exact h2, ?_, allOne_mem h1⟩
  rw [h3, cvs_app, cvs_app, cvs_take, cvs_drop, cvs_len]
theorem over_flat_in {α : Type} (f : α → List Value) (n : Nat) : ∀ (xs : List α) (i j : Nat) (x y : α) (vs : List Value), (∀ r ∈ xs, (f r).length = n) → xs[i]? = some x → Over (f x) j vs (f y) →
    Over (xs.flatMap f) (i * n + j) vs ((xs.set i y).flatMap f)
  | [], i, j, x, y, vs, _, h, _ => by simp at h
  | z :: xs, 0, j, x, y, vs, hl, h, ho => by
    simp at h; subst h
    obtain ⟨h1, h2, h3⟩ := ho
    refine ⟨by simp; omega, ?_, h3⟩
    simp only [List.set_cons_zero, List.flatMap_cons, h2, Nat.zero_mul, Nat.zero_add]
    rw [List.take_append_of_le_length (by omega), List.drop_append_of_le_length h1]
    simp [List.append_assoc]
  | z :: xs, i + 1, j, x, y, vs, hl, h, ho => by
    have hx := hl z List.mem_cons_self
    obtain ⟨h1, h2, h3⟩ := over_flat_in f n xs i j x y vs (fun r hr => hl r (List.mem_cons_of_mem _ hr)) (by simpa using h) ho
    have e : (i + 1) * n + j = (f z).length + (i * n + j) := by rw [Nat.add_mul, hx]; omega
    rw [e]
    generalize i * n + j = q at *
    refine ⟨by simp only [List.flatMap_cons, List.length_append]; omega, ?_, h3⟩
    simp only [List.set_cons_succ, List.flatMap_cons, h2]
    rw [List.take_length_add_append, show (f z).length + q + vs.length = (f z).length + (q + vs.length) by omega, List.drop_length_add_append]
    simp [List.append_assoc]
theorem cvs_ints4 (x0 x1 x2 x3 : Int) : cvs [.int .u64 x0, .int .u64 x1, .int .u64 x2, .int .u64 x3] = [x0, x1, x2, x3].map (Value.int .u64) := rfl
theorem conStore_sound {con con' : Con} {i sz j : Nat} {v : SV} {p : Prop} (h : conStore con i sz j v = some (p, con')) (hp : p) : Over (cc con) (i * sz + j) (cv v).cells.toList (cc con') := by
  unfold conStore at h
  split at h
  · rename_i k xs k' n
    split at h
    · rename_i hk
      obtain rfl := sameK_eq hk
      simp only [Option.some.injEq, Prod.mk.injEq] at h; obtain ⟨rfl, rfl⟩ := h
      have := over_one (xs := xs.map (Value.int k)) (pos := j) (u := .int k n) (by simpa using hp) rfl
      simpa [cc, cv, Value.cells] using this
    · exact none_of h
  · rename_i k xs k' ys
    split at h
    · rename_i hk
      obtain rfl := sameK_eq hk
      simp only [Option.some.injEq, Prod.mk.injEq] at h; obtain ⟨rfl, rfl⟩ := h
      obtain ⟨rfl, h2⟩ := hp
      have := over_all (xs := xs.map (Value.int k)) (vs := ys.map (Value.int k)) (by simpa using h2) (int_one _ _)
      simpa [cc, cv, Value.cells] using this
    · exact none_of h
  · rename_i xs a
    split at h
    · simp only [Option.some.injEq, Prod.mk.injEq] at h; obtain ⟨rfl, rfl⟩ := h
      obtain ⟨rfl, h2⟩ := hp
      have := over_all (xs := xs.map (Value.int .u64)) (vs := wcs a) (by rw [wcs_len]; simpa using h2.symm) (wcs_one a)
      simpa [cc, cv, Value.cells] using this
    · exact none_of h
  · rename_i xs a
    split at h
    · simp only [Option.some.injEq, Prod.mk.injEq] at h; obtain ⟨rfl, rfl⟩ := h
      obtain ⟨rfl, h2⟩ := hp
      have := over_flat wcs 4 xs 0 a (fun r _ => wcs_len r) (wcs_len a) h2 (wcs_one a)
      simpa [cc, cv, Value.cells] using this
    · simp only [Option.some.injEq, Prod.mk.injEq] at h; obtain ⟨rfl, rfl⟩ := h
      obtain ⟨rfl, h2⟩ := hp
      have := over_flat wcs 4 xs i a (fun r _ => wcs_len r) (wcs_len a) h2 (wcs_one a)
      simpa [cc, cv, Value.cells] using this
    · exact none_of h
  · rename_i a n
    split at h
    · simp only [Option.some.injEq, Prod.mk.injEq] at h; obtain ⟨rfl, rfl⟩ := h
      have := over_one (xs := wcs a) (pos := j) (u := .int .u64 n) (by rw [wcs_len]; exact hp) rfl
      simpa [cc, cv, Value.cells, wcs_ints] using this
    · exact none_of h
  · rename_i a x0 x1 x2 x3
    split at h
    · simp only [Option.some.injEq, Prod.mk.injEq] at h; obtain ⟨rfl, rfl⟩ := h
      have := over_all (xs := wcs a) (vs := [x0, x1, x2, x3].map (Value.int .u64)) rfl (int_one _ _)
      simpa [cc, cv, Value.cells, cvs_ints4] using this
    · exact none_of h
  · split at h
    · rename_i cs hcs
      split at h
      · rename_i l' h1 hs
        simp only [Option.some.injEq, Prod.mk.injEq] at h; obtain ⟨rfl, rfl⟩ := h
        rw [cellsOf_some hcs]
        exact over_splice hs h1
      · exact none_of h
    · exact none_of h
  · rename_i n xs cs
    split at h
    · rename_i hn hl h1
      simp only [Option.some.injEq, Prod.mk.injEq] at h; obtain ⟨rfl, rfl⟩ := h
      have hn' : n = sz := by simpa using hn
      have hl' : cs.length = n := by simpa using hl
      subst hn'
      have := over_flat cvs n xs i cs (fun r hr => by rw [cvs_len]; exact hp.2 r hr) (by rw [cvs_len]; exact hl') hp.1 (allOne_mem h1)
      simpa [cc, cv, Value.cells] using this
    · exact none_of h
  · rename_i n xs _
    split at h
    · rename_i cs hn hcs
      split at h
      · rename_i r h1 hs
        simp only [Option.some.injEq, Prod.mk.injEq] at h; obtain ⟨rfl, rfl⟩ := h
        have hn' : n = sz := by simpa using hn
        subst hn'
        rw [cellsOf_some hcs]
        exact over_flat_in cvs n xs i j _ _ _ (fun r hr => by rw [cvs_len]; exact hp.2 r hr) (getD_get [] hp.1) (over_splice hs h1)
      · exact none_of h
    · exact none_of h
  · exact none_of h

/-- What a store makes of memory. -/
def storeS (y : Ty) (x v : SV) (m : List Blk) : Option (Prop × List Blk) :=
  match x with
  | .ptr nm b base i sz j =>
    match bget m nm with
    | .blk b' t con => match tsz y, conStore con i sz j v with
      | some n, some (q, con') => some (b = b' ∧ base = 0 ∧ svLen v = n ∧ q, bset m nm (.blk b' t con'))
      | _, _ => none
    | .own u n t es con => match tsz y, conStore con i sz j v with
      | some k, some (q, con') => some (b = blkOf u ∧ base = 0 ∧ svLen v = k ∧ 0 < k ∧ q, bset m nm (.own u n t es con'))
      | _, _ => none
    | _ => none
  | _ => none
theorem svLen_cells {con con' : Con} {i sz j : Nat} {v : SV} {p : Prop} (h : conStore con i sz j v = some (p, con')) : (cv v).cells.size = svLen v := by
  unfold conStore at h
  have hc : ∀ {v : SV} {cs : List SV}, cellsOf v = some cs → (cv v).cells.size = svLen v := by
    intro v cs h
    rw [cellsOf_some h]
    cases v <;> simp only [cellsOf, Option.some.injEq, reduceCtorEq] at h <;> subst h <;> simp [svLen, cvs_len]
  split at h <;> first | (simp [cv, Value.cells, svLen, wcs_len, cvs_len]; done) | skip
  · split at h
    · rename_i hcs; exact hc hcs
    · exact none_of h
  · split at h
    · rename_i hcs; exact hc hcs
    · exact none_of h
  · exact none_of h
theorem setRow_grown (w : World) (g : Nat) (cs : Array Value) : w.grownBy (w.setRow g cs) (some g) :=
  ⟨rfl, rfl, rfl, by simp [World.setRow], fun k _ hk => by
    simp only [World.setRow, Array.getElem?_modify]
    rw [if_neg (fun e => hk (by rw [e]))]⟩
theorem setRow_E {w : World} {g : Nat} {c cs : Array Value} {t : TypeId} (h : w.heap[g]? = some (.cells c t (0, 0))) : (w.setRow g cs).heap[g]? = some (.cells cs t (0, 0)) := by
  simp only [World.setRow, Array.getElem?_modify, if_true, h, Option.map_some]
theorem run_storeAt {P : Program} {t : TypeId} {n : Nat} (hs : Sz P t n) {b off : Nat} {v : SV} (hn : svLen v = n) (hv : (cv v).cells.size = svLen v) {w : World} {cur : Array Value} {et : TypeId}
    (hb : w.heap[b]? = some (.cells cur et (0, 0))) (hl : off + (cv v).cells.toList.length ≤ cur.size) (h1 : ∀ u ∈ (cv v).cells.toList, u.oneCell' = true) :
    (Instr.storeAt t (.pointer (some ⟨b, off, none⟩)) (cv v)).run P w = .ok () (w.setRow b (cur.toList.take off ++ (cv v).cells.toList ++ cur.toList.drop (off + (cv v).cells.toList.length)).toArray) := by
  have := run_storeCells_at (P := P) b off et (cv v).cells.toList 0 cur w hb (by simpa using hl) h1
  simp only [Nat.add_zero] at this
  simp only [Instr.storeAt, Instr.sureAddr, storeVar, Sem.run_bind, Sem.run_pure, Result.andThen_ok, hs.run]
  rw [if_neg (by rw [hv, hn]; simp)]
  exact this
theorem take_over {l vs : List Value} {q L : Nat} (h : q + vs.length ≤ L) (hL : L ≤ l.length) :
    (l.take q ++ vs ++ l.drop (q + vs.length)).take L = (l.take L).take q ++ vs ++ (l.take L).drop (q + vs.length) := by
  rw [List.take_take, Nat.min_eq_left (by omega), List.drop_take]
  rw [List.take_append, List.take_of_length_le (by simp; omega)]
  congr 2
  simp; omega
theorem storeS_sound {P : Program} {T : Tab} (hT : TabOk P T) {t : TypeId} {x v : SV} {m m' : List Blk} {p : Prop} (h : storeS (T.ty t) x v m = some (p, m')) (hp : p)
    {w0 : World} {B : List Nat} {w : World} (hm : MemOk w0 B m w) : ∃ w', (Instr.storeAt t (cv x) (cv v)).run P w = .ok () w' ∧ MemOk w0 B m' w' := by
  unfold storeS at h
  split at h
  · rename_i nm b base i sz j
    split at h
    · rename_i b' et con hbg
      split at h
      · rename_i n q con' hn hc
        simp only [Option.some.injEq, Prod.mk.injEq] at h; obtain ⟨rfl, rfl⟩ := h
        obtain ⟨rfl, rfl, h2, h3⟩ := hp
        have h4 := hm.each _ (bget_mem hbg (by simp))
        obtain ⟨o1, o2, o3⟩ := conStore_sound hc h3
        refine ⟨_, run_storeAt (hT.sz _ _ hn) h2 (svLen_cells hc) h4.1 (by simpa using o1) o3, ?_⟩
        refine hm.turn hbg (by simp) (setRow_grown _ _ _) (fun b hb => by simp [Blk.num?] at hb; subst hb; exact h4.2) ⟨?_, h4.2⟩ (fun b hb => .inl (by simpa [Blk.num?] using hb))
        rw [setRow_E h4.1, o2]
        simp
      · exact none_of h
    · rename_i u n et es con hbg
      split at h
      · rename_i k q con' hn hc
        simp only [Option.some.injEq, Prod.mk.injEq] at h; obtain ⟨rfl, rfl⟩ := h
        obtain ⟨rfl, rfl, h2, h2p, h3⟩ := hp
        have h4 := hm.each _ (bget_mem hbg (by simp))
        obtain ⟨o1, o2, o3⟩ := conStore_sound hc h3
        obtain ⟨hl, h5⟩ := h4
        rcases h5 with ⟨rfl, rfl⟩ | ⟨g, cap, cur, rfl, g1, g2, g3, g4, g5, g6⟩
        · exfalso
          rw [Nat.zero_mul] at hl
          have e : (cv v).cells.toList.length = 0 := by omega
          have e2 : (cv v).cells.toList.length = svLen v := by rw [← svLen_cells hc]; simp
          omega
        · have hcl : (cc con).length ≤ cur.size := by rw [hl, g5]; exact Nat.mul_le_mul_right _ g3
          refine ⟨_, run_storeAt (hT.sz _ _ hn) h2 (svLen_cells hc) g2 (by simp at o1 ⊢; omega) o3, ?_⟩
          refine hm.turn hbg (by simp) (setRow_grown _ _ _) (fun b hb => by simp [Blk.num?, Value.ownBlock] at hb; subst hb; exact .inl g1) ⟨?_, .inr ⟨g, cap, _, rfl, g1, setRow_E g2, g3, g4, ?_, ?_⟩⟩ (fun b hb => .inl (by simpa [Blk.num?, Value.ownBlock] using hb))
          · rw [o2]; simp; simp at o1; omega
          · simp at o1 ⊢; omega
          · rw [o2, Nat.zero_add]
            rw [← g6] at o1 ⊢
            rw [List.length_take] at o1
            generalize (cv v).cells.toList = vs at *
            have hL : i * sz + j + vs.length ≤ n * es := by omega
            have hL2 : n * es ≤ cur.toList.length := by simp; rw [g5]; exact Nat.mul_le_mul_right _ g3
            generalize i * sz + j = q at *
            generalize n * es = L at *
            rw [List.toList_toArray]
            exact take_over hL hL2
      · exact none_of h
    · exact none_of h
  · exact none_of h
end Go.Proofs.Ytkljpgdcmahenaa
