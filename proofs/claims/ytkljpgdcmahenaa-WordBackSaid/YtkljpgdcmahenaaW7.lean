/-
  A word made wide, walked.
-/
import Derived.Test.YtkljpgdcmahenaaW6
namespace Go.Proofs.Ytkljpgdcmahenaa
set_option linter.unusedSimpArgs false
set_option linter.unusedVariables false
open Go.RowKit
/-- A wide number. -/
abbrev WX (u : Nat) : Value := .agg #[.int .u64 (lm u 0 : Nat), .int .u64 (lm u 1 : Nat), .int .u64 (lm u 2 : Nat), .int .u64 (lm u 3 : Nat), .int .u64 (lm u 4 : Nat), .int .u64 (lm u 5 : Nat), .int .u64 (lm u 6 : Nat), .int .u64 (lm u 7 : Nat)]
theorem lm_high {a : Nat} (h : a < W) (i : Nat) (hi : 4 ≤ i) : lm a i = 0 := by
  unfold lm
  rw [Nat.div_eq_of_lt, Nat.zero_mod]
  refine Nat.lt_of_lt_of_le h ?_
  rw [show W = 18446744073709551616 ^ 4 from rfl]
  exact Nat.pow_le_pow_right (by decide) hi
theorem gw_setRow (w : World) (p : Gro) {b : Nat} (cs : Array Value) (h : b < w.heap.size) : (gw w p).setRow b cs = gw (w.setRow b cs) p := by
  simp only [gw, World.setRow]
  congr 1
  apply Array.ext_getElem?
  intro k
  simp only [Array.getElem?_modify, Array.getElem?_append, Array.size_modify]
  by_cases hk : b = k
  · subst hk; simp [h]
  · simp [hk]
theorem setRow_at (w : World) (c cs : Array Value) (t : TypeId) (n : Nat) (h : n = w.heap.size) : (w.alloc (.cells c t)).setRow n cs = w.alloc (.cells cs t) := by
  subst h
  simp only [World.alloc, World.setRow]
  congr 1
  apply Array.ext_getElem?
  intro k
  simp only [Array.getElem?_modify, Array.getElem?_push]
  by_cases hk : w.heap.size = k
  · subst hk; simp
  · simp [hk, Ne.symm hk]
theorem setRow_past (w : World) (o : Obj) (cs : Array Value) (n : Nat) (h : n < w.heap.size) : (w.alloc o).setRow n cs = (w.setRow n cs).alloc o := by
  simp only [World.alloc, World.setRow]
  congr 1
  apply Array.ext_getElem?
  intro k
  simp only [Array.getElem?_modify, Array.getElem?_push, Array.size_modify]
  by_cases hk : n = k
  · subst hk
    rw [if_pos rfl, if_neg (by omega), if_neg (by omega), if_pos rfl]
  · simp [hk]
theorem block_past (w : World) (o : Obj) (n : Nat) (h : n < w.heap.size) : (w.alloc o).heap[n]? = w.heap[n]? := Below.heap_alloc w o n h
theorem block_at (w : World) (o : Obj) (n : Nat) (h : n = w.heap.size) : (w.alloc o).heap[n]? = some o := by subst h; show (w.heap.push o)[w.heap.size]? = some o; simp
set_option maxHeartbeats 1000000 in
theorem widen_any (a : Nat) (h : a < W) (w : World) : Calls Try.prog 69 #[WV a] w (Ret w (WX a)) := by
  have h4 := lm_high h 4 (by decide)
  have h5 := lm_high h 5 (by decide)
  have h6 := lm_high h 6 (by decide)
  have h7 := lm_high h 7 (by decide)
  unfold WX
  rw [h4, h5, h6, h7]
  clear h4 h5 h6 h7
  have hcp : ∀ (o : Obj) (p : Gro), (Builtin.copy_ #[57, 57] 3 #[.slice (some ⟨w.heap.size + 1 + 1, 0, none⟩) 8 8, .slice (some ⟨w.heap.size, 0, none⟩) 4 4]).run Try.prog
      (gw (((w.alloc (.cells #[.int .u64 (lm a 0 : Nat), .int .u64 (lm a 1 : Nat), .int .u64 (lm a 2 : Nat), .int .u64 (lm a 3 : Nat)] 24)).alloc o).alloc (.cells #[.int .u64 0, .int .u64 0, .int .u64 0, .int .u64 0, .int .u64 0, .int .u64 0, .int .u64 0, .int .u64 0] 55)) p) =
      .ok (goInt 4) (gw (((w.alloc (.cells #[.int .u64 (lm a 0 : Nat), .int .u64 (lm a 1 : Nat), .int .u64 (lm a 2 : Nat), .int .u64 (lm a 3 : Nat)] 24)).alloc o).alloc (.cells #[.int .u64 (lm a 0 : Nat), .int .u64 (lm a 1 : Nat), .int .u64 (lm a 2 : Nat), .int .u64 (lm a 3 : Nat), .int .u64 0, .int .u64 0, .int .u64 0, .int .u64 0] 55)) p) := by
    intro o p
    rw [run_copy_row (P := Try.prog) _ _ _ _ 22 _ _ _ _ _ _ _ #[.int .u64 0, .int .u64 0, .int .u64 0, .int .u64 0, .int .u64 0, .int .u64 0, .int .u64 0, .int .u64 0] 55 [.int .u64 (lm a 0 : Nat), .int .u64 (lm a 1 : Nat), .int .u64 (lm a 2 : Nat), .int .u64 (lm a 3 : Nat)] Try.underlying57 (by kernel_rfl) ?_ rfl ?_ (by simp) (by simp [Value.oneCell'])]
    · rw [gw_setRow _ _ _ (by simp), setRow_at _ _ _ _ _ (by simp)]
      simp
    · rw [gw_block _ _ (by simp), block_at _ _ _ (by simp)]
    · intro j v hj
      have hj4 : j < 4 := by
        have := (List.getElem?_eq_some_iff.1 hj).1
        simpa using this
      have h4 : j = 0 ∨ j = 1 ∨ j = 2 ∨ j = 3 := by omega
      rcases h4 with rfl | rfl | rfl | rfl <;> (simp at hj; subst hj; rw [Addr.add_lit, gw_cell _ _ _ _ (by first | (simp only [World.size_alloc]; omega) | (simp only [gw_size]; omega) | (simp only [World.size_alloc, gw_size]; omega)), World.cell?_alloc_lt _ _ _ (by first | (simp only [World.size_alloc]; omega) | (simp only [gw_size]; omega) | (simp only [World.size_alloc, gw_size]; omega)), World.cell?_alloc_lt _ _ _ (by first | (simp only [World.size_alloc]; omega) | (simp only [gw_size]; omega) | (simp only [World.size_alloc, gw_size]; omega)), World.cell?_alloc_new]; rfl)
  go_enter Try.func69, Try.ntmps69
  go_wp2
  (refine wp_quiet_tail 2 (by kernel_rfl) (by kernel_rfl) (by intro c a d u w h; cases d <;> exact h) ?_; simp only [List.take_succ_cons, List.take_zero, List.drop_succ_cons, List.drop_zero]; (repeat (first | go_big_quiet_step (fail) | quiet_step (fail))); refine wpQuiet_nil ?_; intro p)
  go_wp2
  exact bodyPost_ret (v := .agg #[.int .u64 (lm a 0 : Nat), .int .u64 (lm a 1 : Nat), .int .u64 (lm a 2 : Nat), .int .u64 (lm a 3 : Nat), .int .u64 0, .int .u64 0, .int .u64 0, .int .u64 0]) (by simp [results, Try.results69, go_sem]) rfl (Ret.of' rfl (by (repeat (first | with_reducible exact Below.refl _ _ | refine below_gw ?_ (by first | exact Nat.le_refl _ | ((repeat (first | rw [World.size_alloc] | rw [World.size_setCell] | rw [World.size_drew] | rw [gw_size])); first | done | omega)) _ | refine Below.alloc ?_ (by first | exact Nat.le_refl _ | ((repeat (first | rw [World.size_alloc] | rw [World.size_setCell] | rw [World.size_drew] | rw [gw_size])); first | done | omega)) _ | refine Below.setCell ?_ (by first | exact Nat.le_refl _ | ((repeat (first | rw [World.size_alloc] | rw [World.size_setCell] | rw [World.size_drew] | rw [gw_size])); first | done | omega)) _ | refine Below.drew ?_))))
end Go.Proofs.Ytkljpgdcmahenaa
