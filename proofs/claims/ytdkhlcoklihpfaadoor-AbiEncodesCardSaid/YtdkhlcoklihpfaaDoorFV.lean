/-
  Slices of words as a law is handed them: opened and shut. No condition.
-/
import Derived.Test.YtdkhlcoklihpfaaDoorFB
import Derived.Deep.Slices
namespace Go.Proofs.YtdkhlcoklihpfaaDoor
set_option linter.unusedSimpArgs false
set_option linter.unusedVariables false
set_option maxRecDepth 10000
open Go.RowKit Go.ChangeShapes Go.WideShapes Go.ChangeAt
section
variable {H : Type} {enc : TypeId × Value → H} {w : World} {base : Nat} {spare : Nat → Bool} {held : Bool}
theorem word_cells {fuel : Nat} {cs : List Value} {x : DataW H × List MemPlace} (hf : DataW.trod enc Tryd.prog w base spare held fuel 42 cs = some x) (hl : cs.length = 4) :
    ∃ a, cs = wcs a ∧ x = (DV a, []) ∧ a < W := by
  obtain ⟨c0, c1, c2, c3, rfl⟩ := list4 cs hl
  obtain ⟨y0, y1, y2, y3, m, hx, hy0, hy1, hy2, hy3⟩ := trod_array4 Tryd.underlying42 cellsU hf
  obtain ⟨x0, e0, rfl, w0⟩ := DataW.trod_int Tryd.underlying40 hy0
  obtain ⟨x1, e1, rfl, w1⟩ := DataW.trod_int Tryd.underlying40 hy1
  obtain ⟨x2, e2, rfl, w2⟩ := DataW.trod_int Tryd.underlying40 hy2
  obtain ⟨x3, e3, rfl, w3⟩ := DataW.trod_int Tryd.underlying40 hy3
  simp at e0 e1 e2 e3
  subst e0 e1 e2 e3
  subst hx
  obtain ⟨n0, rfl, h0⟩ := of_wf w0
  obtain ⟨n1, rfl, h1⟩ := of_wf w1
  obtain ⟨n2, rfl, h2⟩ := of_wf w2
  obtain ⟨n3, rfl, h3⟩ := of_wf w3
  refine ⟨num n0 n1 n2 n3, ?_, ?_, num_lt h0 h1 h2 h3⟩
  · unfold wcs; rw [lm0_num h0, lm1_num h0 h1, lm2_num h0 h1 h2, lm3_num h0 h1 h2 h3]
  · unfold DV; rw [lm0_num h0, lm1_num h0 h1, lm2_num h0 h1 h2, lm3_num h0 h1 h2 h3]; rfl
theorem word_trod (a : Nat) : ∃ n, DataW.trod enc Tryd.prog w base spare held n 42 (wcs a) = some (DV a, []) := word_shut (w := w) (base := base) (spare := spare) (held := held) a
end
theorem words_cells_len : ∀ xs : List Nat, (cc (.words xs)).length = xs.length * 4
  | [] => rfl
  | x :: xs => by
    have := words_cells_len xs
    simp only [cc] at *
    rw [List.flatMap_cons, List.length_append, this, wcs_len, List.length_cons]; omega
theorem words_open {H : Type} {enc : TypeId × Value → H} {W0 : World} {r : Reach} {b0 : Nat} {v : Value} {d : DataW H} {ps : List MemPlace} (hval : Value.okWide Tryd.prog W0 r b0 46 v) (hd : DataW.Trod enc Tryd.prog W0 0 (fun _ => true) true 46 v d ps) :
    ∃ (a : Option Addr) (len cap : Nat) (xs : List Nat), v = .slice a len cap ∧ xs.length = len ∧ len ≤ cap ∧ cap ≤ maxLen ∧ adr a len cap ∧ (∀ x ∈ xs, x < W) ∧ RoOk W0 a (.words xs) ∧
      ∀ (q : Gro) (sp : Nat → Bool), (∀ p ∈ ps, sp p.block = true) → DataW.Trod enc Tryd.prog (gw W0 q) 0 sp true 46 v d ps := by
  obtain ⟨fuel, hf⟩ := hd
  have ht := Tryd.underlying46
  obtain ⟨a0, n0, c0, rfl⟩ := sl_form ht hval
  rcases Go.Deep.open_slice ht hf with ⟨h1, h2⟩ | ⟨a, len, cap, m, n, D, Pl, h1, _, h3, h4, h5, h6, h7⟩
  · rw [wrap_cells] at h1
    simp only [List.cons.injEq, Value.slice.injEq, and_true] at h1
    obtain ⟨rfl, rfl, rfl⟩ := h1
    simp only [Prod.mk.injEq] at h2
    obtain ⟨rfl, rfl⟩ := h2
    exact ⟨none, 0, 0, [], rfl, rfl, Nat.le_refl _, Nat.zero_le _, .inr ⟨rfl, rfl, rfl⟩, by simp, by intro j u hj; simp [cc] at hj, fun q sp _ => shut_slice_nil ht⟩
  · rw [wrap_cells] at h1
    simp only [List.cons.injEq, Value.slice.injEq, and_true] at h1
    obtain ⟨rfl, rfl, rfl⟩ := h1
    have hs := sl_spot ht hval
    obtain ⟨b, off, sp0⟩ := a
    simp only at hs
    subst hs
    rw [if_pos rfl] at h5
    subst h5
    rw [cellsWord] at h6 h7
    have each : ∀ i, i < m → ∃ x : Nat, x < W ∧ D i = DV x ∧ Pl i = [] ∧ ∀ j u, (wcs x)[j]? = some u → W0.cell? ⟨b, off + (i * 4 + j), none⟩ = some u := by
      intro i hi
      obtain ⟨cs', g1, g2⟩ := h7 i hi
      obtain ⟨_, g3, g4⟩ := World.cells?_some g1
      obtain ⟨x, rfl, g5, g6⟩ := word_cells g2 g3
      simp only [Prod.mk.injEq] at g5
      refine ⟨x, g6, g5.1, g5.2, fun j u hj => ?_⟩
      have hj4 : j < 4 := by have := (List.getElem?_eq_some_iff.1 hj).1; rwa [wcs_len] at this
      have := g4 j hj4
      rw [hj, addr_add, addr_add] at this
      rw [← this]; congr 2; omega
    obtain ⟨X, hX⟩ := Go.Deep.choose_lt (α := Nat) each
    have hcell : ∀ i, i < m → ∀ j u, (wcs (X i))[j]? = some u → W0.cell? ⟨b, off + (i * 4 + j), none⟩ = some u := fun i hi => (hX i hi).2.2.2
    have hblk : 0 < m → b < W0.heap.size := fun hm => World.block_lt_of_cell? W0 ⟨b, off + (0 * 4 + 0), none⟩ (hcell 0 hm 0 _ rfl)
    simp only [Prod.mk.injEq] at h6
    obtain ⟨rfl, rfl⟩ := h6
    have hD : ∀ (q : Gro) (sp : Nat → Bool) (i : Nat), i < m → ∃ cs n, (gw W0 q).cells? 0 ((⟨b, off, none⟩ : Addr).add (i * Tryd.prog.cellsOf 42)) (Tryd.prog.cellsOf 42) = some cs ∧ DataW.trod enc Tryd.prog (gw W0 q) 0 sp true n 42 cs = some (D i, Pl i) := by
      intro q sp i hi
      obtain ⟨k, hk⟩ := word_trod (enc := enc) (w := gw W0 q) (base := 0) (spare := sp) (held := true) (X i)
      refine ⟨wcs (X i), k, ?_, by rw [hk, (hX i hi).2.1, (hX i hi).2.2.1]⟩
      rw [cellsWord, addr_add]
      refine cells?_of (Nat.zero_le _) rfl (fun j hj => ?_)
      have hj' : j < (wcs (X i)).length := hj
      rw [List.getElem?_eq_getElem hj', gw_cell W0 q b _ (hblk (by omega)), ← hcell i hi j _ (List.getElem?_eq_getElem hj')]
      congr 2; omega
    refine ⟨some ⟨b, off, none⟩, n0, m, (List.range n0).map X, rfl, by simp, h3, h4, .inl rfl, fun x hx => ?_, fun j u hj => ?_, fun q sp hsp => ?_⟩
    · obtain ⟨i, hi, rfl⟩ := List.mem_map.1 hx
      exact (hX i (by have := List.mem_range.1 hi; omega)).1
    · have hjl := (List.getElem?_eq_some_iff.1 hj).1
      have hlen : (cc (.words ((List.range n0).map X))).length = n0 * 4 := by rw [words_cells_len, List.length_map, List.length_range]
      have hj4 : j / 4 < n0 := by omega
      have e1 : (cc (.words ((List.range n0).map X)))[j]? = (wcs (X (j / 4)))[j % 4]? := by
        simp only [cc]
        have := flat_get wcs 4 ((List.range n0).map X) (j / 4) (j % 4) (X (j / 4)) (fun r _ => wcs_len r) (by rw [List.getElem?_map, List.getElem?_range hj4]; rfl) (by omega)
        rwa [show j / 4 * 4 + j % 4 = j by omega] at this
      rw [e1] at hj
      refine ⟨b, off, rfl, hblk (by omega), ?_⟩
      have := hcell (j / 4) (by omega) (j % 4) u hj
      rwa [show j / 4 * 4 + j % 4 = j by omega] at this
    · by_cases hm : 0 < m
      · have hsb : sp b = true := hsp (.cell b (off + 0)) (by
          refine List.mem_append_left _ ?_
          exact List.mem_map.2 ⟨0, List.mem_range.2 (by omega), rfl⟩)
        have := Go.Deep.shut_slice_whole (enc := enc) (P := Tryd.prog) (w := gw W0 q) (base := 0) (spare := sp) (held := true) (a := ⟨b, off, none⟩) ht (Nat.zero_le _) h3 h4 hsb D Pl (hD q sp)
        rw [cellsWord] at this
        exact this
      · have hm0 : m = 0 := by omega
        subst hm0
        obtain rfl : n0 = 0 := by omega
        cases hsb : sp b with
        | true =>
          have := Go.Deep.shut_slice_whole (enc := enc) (P := Tryd.prog) (w := gw W0 q) (base := 0) (spare := sp) (held := true) (a := ⟨b, off, none⟩) ht (Nat.zero_le _) h3 h4 hsb D Pl (hD q sp)
          rw [cellsWord] at this
          exact this
        | false =>
          have := Go.Deep.shut_slice (enc := enc) (P := Tryd.prog) (w := gw W0 q) (base := 0) (spare := sp) (held := true) (a := ⟨b, off, none⟩) ht (Nat.zero_le _) h3 h4 hsb D Pl (hD q sp)
          rw [cellsWord] at this
          exact this
end Go.Proofs.YtdkhlcoklihpfaaDoor
