/-
 Law TraceMore, walked. No condition.
-/
import Derived.Test.YtpebhddacbdicaaVD
import Derived.Test.YtpebhddacbdicaaU5
import Derived.Test.YtpebhddacbdicaaT7
import Derived.Test.YtpebhddacbdicaaT8
import Derived.Test.YtpebhddacbdicaaT9
set_option maxHeartbeats 4000000
set_option linter.defProp false
set_option linter.unusedVariables false
set_option linter.unusedSimpArgs false
namespace Go.Proofs.Ytpebhddacbdicaa
open Go.RowKit
theorem lies_rtake {H : Nat → Obj → Prop} {a : Option Addr} {m : Nat} {rs : List (List SV)} (k : Nat) (h : LiesH H a (cc (.rows m rs))) : LiesH H a (cc (.rows m (rs.take k))) := by
 have e : cc (.rows m rs) = cc (.rows m (rs.take k)) ++ cc (.rows m (rs.drop k)) := by simp only [cc]; rw [← List.flatMap_append, List.take_append_drop]
 rcases h with h | ⟨b, off, arr, t, fr, rfl, h2, h3⟩
 ·exact .inl (by rw [e] at h; exact (List.append_eq_nil_iff.1 h).1)
 ·refine .inr ⟨b, off, arr, t, fr, rfl, h2, fun j u hj => h3 j u ?_⟩
  rw [e, List.getElem?_append_left (List.getElem?_eq_some_iff.1 hj).1]; exact hj
theorem EvsR.take {H : Nat → Obj → Prop} {rs : List (List SV)} {l : List Evt} (h : EvsR H rs l) (k : Nat) : EvsR H (rs.take k) (l.take k) :=
 ⟨by rw [List.length_take, List.length_take, h.1], fun r hr => h.2.1 r (List.mem_of_mem_take hr), fun i r e h1 h2 => by
  rw [List.getElem?_take] at h1 h2
  by_cases hi : i < k
  ·rw [if_pos hi] at h1 h2; exact h.2.2 i r e h1 h2
  ·rw [if_neg hi] at h1; cases h1⟩
theorem EvL.take {H : Nat → Obj → Prop} {a : Option Addr} {n c : Nat} {rs : List (List SV)} {l : List Evt} (h : EvL H a n c rs l) {k : Nat} (hk : k ≤ n) : EvL H a k c (rs.take k) (l.take k) := by
 have h1 := h.len; have h2 := h.le; have h3 := h.max
 exact ⟨by rw [List.length_take]; omega, by omega, h.adr.imp id fun h => ⟨h.1, by omega, by omega⟩, by omega, lies_rtake k h.lies, h.rows.take k⟩
theorem SetL.sub {R R' l k : List (List Int)} (h : SetL (addF noF R) l) (h' : SetL (addF noF R') k) (hs : ∀ z ∈ R, z ∈ R') : ∀ z ∈ l, z ∈ k := fun z hz =>
 (h'.mem z (h.ok z hz)).2 ((addF_some _ _).2 (hs z ((addF_some _ _).1 ((h.mem z (h.ok z hz)).1 hz))))
end Go.Proofs.Ytpebhddacbdicaa
