/-
  slices.SortFunc over an own slice of rows: what it leaves. No condition.
-/
import Derived.Test.YtdanlclhnehieaaHK
import Derived.Test.YtdanlclhnehieaaDT
namespace Go.Proofs.Ytdanlclhnehieaa
set_option linter.unusedSimpArgs false
set_option linter.unusedVariables false
open Go.RowKit
open Go.Sort
theorem sort_world {w : World} {g cap n k : Nat} {t : TypeId} {cur : Array Value} (h : w.heap[g]? = some (.cells cur t (0, 0))) (hsz : cur.size = cap * k) (hn : n ≤ cap) (F : Array Value) (hF : F.size = n * k) (m : Nat) (os : Array Obj) :
    (Sort.grow (Sort.putRow id (Sort.ahead w m) g 0 F) os).heap[g]? = some (.cells (Sort.putCells id 0 F cur) t (0, 0)) ∧ (Sort.putCells id 0 F cur).size = cur.size ∧ (Sort.putCells id 0 F cur).toList.take (n * k) = F.toList ∧ w.grownBy (Sort.grow (Sort.putRow id (Sort.ahead w m) g 0 F) os) (some g) := by
  have hg : g < w.heap.size := by
    rcases Nat.lt_or_ge g w.heap.size with h1 | h1
    · exact h1
    · rw [Array.getElem?_eq_none h1] at h; cases h
  have hs : (Sort.putRow id (Sort.ahead w m) g 0 F).heap.size = w.heap.size := by simp [Sort.putRow, Sort.mapBlock, Sort.ahead]
  have hnk : n * k ≤ cur.size := by rw [hsz]; exact Nat.mul_le_mul_right k hn
  refine ⟨?_, by simp [Sort.putCells], ?_, ⟨rfl, rfl, rfl, ?_, fun q hq hne => ?_⟩⟩
  · unfold Sort.grow
    rw [Array.getElem?_append_left (by rw [hs]; exact hg)]
    simp only [Sort.putRow, Sort.mapBlock, Sort.ahead, Array.getElem?_modify, if_true, h, Option.map_some, Sort.onCells]
  · apply List.ext_getElem?
    intro i
    rw [List.getElem?_take]
    by_cases hi : i < n * k
    · rw [if_pos hi, Array.getElem?_toList, Array.getElem?_toList]
      simp only [Sort.putCells, Array.getElem?_mapIdx]
      rw [Array.getElem?_eq_getElem (show i < cur.size by omega), Array.getElem?_eq_getElem (show i < F.size by omega)]
      simp only [Option.map_some, Nat.zero_le, Nat.zero_add, true_and, Nat.sub_zero, id]
      rw [if_pos (by omega), getElem!_pos F i (by omega)]
    · rw [if_neg hi, Array.getElem?_toList, Array.getElem?_eq_none (by omega)]
  · show w.heap.size ≤ (_ ++ os).size
    rw [Array.size_append, hs]; omega
  · unfold Sort.grow
    rw [Array.getElem?_append_left (by rw [hs]; exact hq)]
    simp only [Sort.putRow, Sort.mapBlock, Sort.ahead, Array.getElem?_modify]
    rw [if_neg (fun e => hne (by rw [e]))]
theorem flat_rows {α : Type} [Inhabited α] (row : α → List SV) (k : Nat) (hk : ∀ x, (row x).length = k) (h0 : 0 < k) (L : List α) : (flatK (fun x => cvs (row x)) k L.toArray).toList = cc (.rows k (L.map row)) := by
  have hfl : ∀ L : List α, (cc (.rows k (L.map row))).length = L.length * k := by
    intro L
    simp only [cc]
    induction L with
    | nil => simp
    | cons x L ih => rw [List.map_cons, List.flatMap_cons, List.length_append, ih, cvs_eq, List.length_map, hk, List.length_cons, Nat.add_mul]; omega
  apply List.ext_getElem?
  intro t
  by_cases ht : t < L.length * k
  · have h1 : t < (flatK (fun x => cvs (row x)) k L.toArray).size := by rw [size_flatK]; simpa using ht
    have h2 := get_flatK (fun x => cvs (row x)) k L.toArray t (by simpa using ht)
    rw [Array.getElem?_toList, Array.getElem?_eq_getElem h1, ← getElem!_pos _ t h1, h2]
    have hd : t / k < L.length := (Nat.div_lt_iff_lt_mul h0).2 ht
    have hm : t % k < k := Nat.mod_lt _ h0
    have e1 := flat_get cvs k (L.map row) (t / k) (t % k) (row L[t / k]) (fun r hr => by
      obtain ⟨x, _, rfl⟩ := List.mem_map.1 hr
      rw [cvs_eq, List.length_map, hk]) (by rw [List.getElem?_map, List.getElem?_eq_getElem hd]; rfl) hm
    rw [Nat.div_add_mod' t k] at e1
    have e2 : (L.toArray[t / k]! : α) = L[t / k] := by rw [getElem!_pos _ _ (by simpa using hd)]; simp
    show _ = ((L.map row).flatMap cvs)[t]?
    rw [e1, e2]
    have hl : t % k < (cvs (row L[t / k])).length := by rw [cvs_eq, List.length_map, hk]; exact hm
    rw [List.getElem?_eq_getElem hl]
    congr 1
    exact getElem!_pos (cvs (row L[t / k])) (t % k) hl
  · rw [Array.getElem?_toList, Array.getElem?_eq_none (by rw [size_flatK]; simpa using ht), List.getElem?_eq_none (by rw [hfl]; omega)]
theorem frozen_no {w : World} {g : Nat} {cur : Array Value} {t : TypeId} (h : w.heap[g]? = some (.cells cur t (0, 0))) (o : Nat) : w.frozen? ⟨g, o, none⟩ = false := by
  simp [World.frozen?, h]
set_option maxHeartbeats 1000000 in
theorem sort_own {P : Program} {ρ : Go.Shelf.Ren} (L : SlLaysF0.n6 P ρ) {α : Type} [Inhabited α] (k : Nat) (h0 : 0 < k) (aE : ∀ w, (isAgg (ρ.t 24)).run P w = .ok true w) (zE : ∀ w, (Go.sizeOf (ρ.t 24)).run P w = .ok k w)
    (row : α → List SV) (hk : ∀ x, (row x).length = k) (h1 : ∀ x, ∀ v ∈ cvs (row x), v.oneCell' = true) (cf : α → α → Int) (hO : Sort.SWO (ltOf cf)) (hT : ∀ x y, (ltOf cf) x y = false → (ltOf cf) y x = false → x = y) (g : Nat) (cb : Array Value)
    (eg : ∀ args w, (callFunc g args).run P w = .ok (.enter g args) w)
    (hcmp : ∀ (x y : α) (W : World), Calls P g (#[.agg (cvs (row x)).toArray, .agg (cvs (row y)).toArray] ++ cb) W fun e w' => e = .returned (.int .i64 (cf x y)) ∧ ∃ q os', w' = Sort.grow (W.drewN q) os')
    (v : Value) (n : Nat) (t : TypeId) (b : Nat) (d : List α) (hsz : n < 4611686018427387904) (w : World) (how : w.ownsRow b t k v n (cc (.rows k (d.map row)))) :
    Calls P (ρ.f 6) #[slV v n, .func (.func g) #[] cb] w fun e w' => e = .returned (.tuple #[]) ∧ w'.ownsRow b t k v n (cc (.rows k ((d.mergeSort fun x y => !(ltOf cf) y x).map row))) ∧ w.grownBy w' v.ownBlock := by
  obtain ⟨ho1, ho2⟩ := how
  have hfl := flat_rows row k hk h0 d
  have hlen : d.length = n := by
    rw [← hfl, Array.length_toList, size_flatK, List.size_toArray] at ho1
    exact Nat.eq_of_mul_eq_mul_right h0 ho1
  rcases ho2 with ⟨rfl, rfl⟩ | ⟨gb, cap, cur, rfl, hb, h3, h4, h5, h6, h7⟩
  · refine (AnyF.slices_SortFunc_none L none 0 (.func (.func g) #[] cb) w).mono fun e w' ⟨he, hw⟩ => ?_
    subst hw
    have hd : d = [] := List.length_eq_zero_iff.1 hlen
    subst hd
    exact ⟨he, ⟨by simp [cc], .inl ⟨rfl, rfl⟩⟩, World.grownBy.refl _ _⟩
  · have hgs : gb < w.heap.size := by
      rcases Nat.lt_or_ge gb w.heap.size with h | h
      · exact h
      · rw [Array.getElem?_eq_none h] at h3; cases h3
    have hH : HoldsK (fun x => cvs (row x)) k w gb 0 d.toArray := by
      intro j hj
      refine ⟨?_, frozen_no h3 _⟩
      have hj2 : j < (cc (.rows k (d.map row))).length := by rw [← hfl, Array.length_toList]; exact hj
      have e1 : cur[j]? = (cc (.rows k (d.map row)))[j]? := by
        rw [← h7, List.getElem?_take, if_pos (by rw [ho1] at hj2; exact hj2), Array.getElem?_toList]
      have e2 : (cc (.rows k (d.map row)))[j]? = some ((flatK (fun x => cvs (row x)) k d.toArray)[j]!) := by
        rw [← hfl, Array.getElem?_toList, Array.getElem?_eq_getElem hj, getElem!_pos (flatK (fun x => cvs (row x)) k d.toArray) j hj]
      simp only [World.cell?, h3, Nat.zero_add]
      rw [e1, e2]; rfl
    have hs := AnyQ.slices_SortFunc_total L k aE zE (fun x => cvs (row x)) (fun x => by rw [cvs_eq, List.length_map, hk]) h1 cf hO g cb gb 0 cap d.toArray w eg (fun _ _ _ _ x y => hcmp x y _) hH hgs (by rw [List.size_toArray, hlen]; exact hsz) hT
    rw [show slV (.slice (some ⟨gb, 0, none⟩) n cap) n = .slice (some ⟨gb, 0, none⟩) d.toArray.size cap by rw [List.size_toArray, hlen]; rfl]
    refine hs.mono fun e w' ⟨he, q, os, hw⟩ => ⟨he, ?_⟩
    subst hw
    have hfl2 := flat_rows row k hk h0 (d.mergeSort fun x y => !(ltOf cf) y x)
    have hl2 : (d.mergeSort fun x y => !(ltOf cf) y x).length = n := by rw [List.length_mergeSort, hlen]
    obtain ⟨q1, q2, q3, q4⟩ := sort_world (n := n) (k := k) h3 h6 h4 (flatK (fun x => cvs (row x)) k (d.mergeSort fun x y => !(ltOf cf) y x).toArray) (by rw [size_flatK, List.size_toArray, hl2]) q os
    refine ⟨⟨by rw [← hfl2, Array.length_toList, size_flatK, List.size_toArray, hl2], .inr ⟨gb, cap, _, rfl, hb, q1, h4, h5, by rw [q2]; exact h6, by rw [q3]; exact hfl2⟩⟩, q4⟩
theorem calls_sort {P : Program} {ρ : Go.Shelf.Ren} (L : SlLaysF0.n6 P ρ) {fn : Func} (hf : P.funcs[ρ.f 6]? = some fn) (hn : (fn.name == "runtime.NumGoroutine") = false) (hbd : fn.body.isNone = false) {α : Type} [Inhabited α] (k : Nat) (h0 : 0 < k) (aE : ∀ w, (isAgg (ρ.t 24)).run P w = .ok true w) (zE : ∀ w, (Go.sizeOf (ρ.t 24)).run P w = .ok k w)
    (row : α → List SV) (hk : ∀ x, (row x).length = k) (h1 : ∀ x, ∀ v ∈ cvs (row x), v.oneCell' = true) (cf : α → α → Int) (hO : Sort.SWO (ltOf cf)) (hT : ∀ x y, (ltOf cf) x y = false → (ltOf cf) y x = false → x = y) (g : Nat) (cb : List SV)
    (eg : ∀ args w, (callFunc g args).run P w = .ok (.enter g args) w)
    (hcmp : ∀ (x y : α) (W : World), Calls P g (#[.agg (cvs (row x)).toArray, .agg (cvs (row y)).toArray] ++ (cvs cb).toArray) W fun e w' => e = .returned (.int .i64 (cf x y)) ∧ ∃ q os', w' = Sort.grow (W.drewN q) os')
    {w0 w : World} {B : List Nat} {m : List Blk} (hm : MemOk w0 B m w) {nm : Nat} {v : Value} {n : Nat} {t : TypeId} {d : List α} (hb : bget m nm = .own v n t k (.rows k (d.map row))) (hsz : n < 4611686018427387904) :
    Enters P (ρ.f 6) (cvs [.own nm v n, .fn (.func g) [] cb]).toArray w fun u w' => u = cv (.tup []) ∧ MemOk w0 B (bset m nm (.own v n t k (.rows k ((d.mergeSort fun x y => !(ltOf cf) y x).map row)))) w' := by
  obtain ⟨ho1, ho2⟩ := hm.each _ (bget_mem hb (by simp))
  refine .inr ⟨enter_run hf hn hbd _ w, (sort_own L k h0 aE zE row hk h1 cf hO hT g (cvs cb).toArray eg hcmp v n t 0 d hsz w ho1).mono fun e w' ⟨he, hw, hg⟩ => ⟨_, he, rfl, ?_⟩⟩
  refine hm.turn hb (by simp) hg (fun b h => ?_) (fun b h => ?_) ⟨hw, ho2⟩ (fun b h => .inl h)
  · simp only [Blk.nums, h]; simp
  · exact ho2 b (by simpa [Blk.nums] using h)
theorem calls_sortV {P : Program} {ρ : Go.Shelf.Ren} (L : SlLaysF0.n6 P ρ) {fn fg : Func} (hf : P.funcs[ρ.f 6]? = some fn) (hn : (fn.name == "runtime.NumGoroutine") = false) (hbd : fn.body.isNone = false) {α : Type} [Inhabited α] (k : Nat) (h0 : 0 < k) (aE : ∀ w, (isAgg (ρ.t 24)).run P w = .ok true w) (zE : ∀ w, (Go.sizeOf (ρ.t 24)).run P w = .ok k w)
    (row : α → List SV) (hk : ∀ x, (row x).length = k) (h1 : ∀ x, ∀ v ∈ cvs (row x), v.oneCell' = true) (cf : α → α → Int) (hO : Sort.SWO (ltOf cf)) (hT : ∀ x y, (ltOf cf) x y = false → (ltOf cf) y x = false → x = y) (g : Nat)
    (hg : P.funcs[g]? = some fg) (hgn : (fg.name == "runtime.NumGoroutine") = false) (hgb : fg.body.isNone = false)
    (hcmp : ∀ (x y : α) (W : World), Calls P g (cvs [.agg (row x), .agg (row y)]).toArray W fun en w' => ∃ u, en = .returned u ∧ ∃ v' m', u = cv v' ∧ MemOk W [] m' w' ∧ v' = .int .i64 (cf x y))
    {w0 w : World} {B : List Nat} {m : List Blk} (hm : MemOk w0 B m w) {nm : Nat} {v : Value} {n : Nat} {t : TypeId} {d : List α} (hb : bget m nm = .own v n t k (.rows k (d.map row))) (hsz : n < 4611686018427387904) :
    Enters P (ρ.f 6) (cvs [.own nm v n, .fn (.func g) [] []]).toArray w fun u w' => u = cv (.tup []) ∧ MemOk w0 B (bset m nm (.own v n t k (.rows k ((d.mergeSort fun x y => !(ltOf cf) y x).map row)))) w' :=
  calls_sort L hf hn hbd k h0 aE zE row hk h1 cf hO hT g [] (fun args w => enter_run hg hgn hgb args w) (fun x y W => calls_grows rfl (hcmp x y W)) hm hb hsz
end Go.Proofs.Ytdanlclhnehieaa
