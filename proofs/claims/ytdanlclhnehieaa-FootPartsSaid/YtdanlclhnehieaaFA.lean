/-
  Arrays of numbers as a law is handed them: opened and shut. No condition.
-/
import Derived.Test.YtdanlclhnehieaaFR
import Derived.Test.YtdanlclhnehieaaRD
namespace Go.Proofs.Ytdanlclhnehieaa
set_option linter.unusedSimpArgs false
set_option linter.unusedVariables false
set_option maxRecDepth 10000
open Go.RowKit Go.ChangeShapes Go.WideShapes Go.ChangeAt
theorem mapM_all {α β : Type} {f : α → Option β} : ∀ {l : List α} {ys : List β}, l.mapM f = some ys → ys.length = l.length ∧ ∀ (i : Nat) (x : α), l[i]? = some x → ∃ y, ys[i]? = some y ∧ f x = some y
  | [], ys, h => by simp at h; subst h; simp
  | a :: l, ys, h => by
    rw [List.mapM_cons] at h
    cases ha : f a with
    | none => rw [ha] at h; cases h
    | some y =>
      rw [ha] at h
      cases hl : l.mapM f with
      | none => rw [hl] at h; cases h
      | some zs =>
        rw [hl] at h
        simp at h
        subst h
        obtain ⟨h1, h2⟩ := mapM_all hl
        refine ⟨by simp [h1], fun i x hx => ?_⟩
        cases i with
        | zero => simp at hx; subst hx; exact ⟨y, by simp, ha⟩
        | succ i => simpa using h2 i x (by simpa using hx)
section
variable {H : Type} {enc : TypeId × Value → H} {P : Program} {w : World} {base : Nat} {spare : Nat → Bool} {held : Bool}
theorem arr_open {t e : TypeId} {n : Nat} {k : IntKind} {fuel : Nat} {cs : List Value} {x : DataW H × List MemPlace} (ht : P.underlying t = some (.array n e)) (he : P.underlying e = some (.int k)) (ce : P.cellsOf e = 1) (ct : P.cellsOf t = n)
    (h : DataW.trod enc P w base spare held fuel t cs = some x) : ∃ zs : List Int, zs.length = n ∧ cs = zs.map (Value.int k) ∧ x = (.agg (zs.map fun z => .lit (.int k z)), []) ∧ ∀ z ∈ zs, (Lit.int k z).wf = true := by
  cases fuel with
  | zero => simp [DataW.trod] at h
  | succ fuel =>
    unfold DataW.trod at h
    simp only [ht, ct, ce, Nat.mul_one] at h
    split at h
    · rename_i hl
      simp only [Option.map_eq_some_iff] at h
      obtain ⟨ys, hy, rfl⟩ := h
      obtain ⟨h1, h2⟩ := mapM_all hy
      simp only [List.length_range] at h1
      have each : ∀ i, i < n → ∃ z, cs[i]? = some (Value.int k z) ∧ ys[i]? = some (.lit (.int k z), []) ∧ (Lit.int k z).wf = true := by
        intro i hi
        obtain ⟨y, hy1, hy2⟩ := h2 i i (by simp [hi])
        obtain ⟨z, g1, g2, g3⟩ := DataW.trod_int he hy2
        refine ⟨z, ?_, by rw [hy1, g2], g3⟩
        have h0 : ((cs.drop i).take 1)[0]? = some (Value.int k z) := by rw [g1]; rfl
        simpa using h0
      refine ⟨ys.map numOf, by simp [h1], ?_, ?_, ?_⟩
      · apply List.ext_getElem?
        intro i
        by_cases hi : i < n
        · obtain ⟨z, g1, g2, _⟩ := each i hi
          rw [g1, List.getElem?_map, List.getElem?_map, g2]; rfl
        · rw [List.getElem?_eq_none (by omega), List.getElem?_eq_none (by simp; omega)]
      · have hys : ys = (ys.map numOf).map fun z => (DataW.lit (.int k z), []) := by
          apply List.ext_getElem?
          intro i
          by_cases hi : i < n
          · obtain ⟨z, _, g2, _⟩ := each i hi
            rw [List.getElem?_map, List.getElem?_map, g2]; rfl
          · rw [List.getElem?_eq_none (by omega), List.getElem?_eq_none (by simp; omega)]
        generalize ys.map numOf = zs at hys
        subst hys
        simp [List.map_map, Function.comp_def]
      · intro z hz
        obtain ⟨y, hy, rfl⟩ := List.mem_map.1 hz
        obtain ⟨i, hi⟩ := List.getElem?_of_mem hy
        have hin : i < n := by have := (List.getElem?_eq_some_iff.1 hi).1; omega
        obtain ⟨z', _, g2, g3⟩ := each i hin
        rw [hi] at g2
        simp only [Option.some.injEq] at g2
        rw [g2]; exact g3
    · cases h
end
theorem addr_cells : Try.prog.cellsOf 33 = 20 := by kernel_rfl
theorem byte_cells : Try.prog.cellsOf 5 = 1 := by kernel_rfl
section
variable {H : Type} {enc : TypeId × Value → H} {w : World} {base : Nat} {spare : Nat → Bool} {held : Bool} {r : Reach} {b0 : Nat} {v : Value} {d : DataW H} {ps : List MemPlace}
theorem allB_wf {zs : List Int} (hw : ∀ z ∈ zs, (Lit.int .u8 z).wf = true) : allB zs := fun z hz => by have := wf_u8 z (hw z hz); omega
end
end Go.Proofs.Ytdanlclhnehieaa
