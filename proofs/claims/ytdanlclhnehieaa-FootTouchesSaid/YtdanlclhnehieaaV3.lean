/-
  slices.AppendSeq at places, over maps.Keys' iterator, walked. No condition.
-/
import Derived.Test.YtdanlclhnehieaaV2
namespace Go.Proofs.Ytdanlclhnehieaa
set_option linter.unusedSimpArgs false
set_option linter.unusedVariables false
open Go.RowKit Go.Shelf
theorem nodup_le {α : Type} [DecidableEq α] : ∀ {xs l : List α}, xs.Nodup → (∀ x ∈ xs, x ∈ l) → xs.length ≤ l.length
  | [], _, _, _ => Nat.zero_le _
  | x :: xs, l, hn, hs => by
    have hx := hs x List.mem_cons_self
    rw [List.nodup_cons] at hn
    have h1 := nodup_le (l := l.erase x) hn.2 (fun y hy => (List.mem_erase_of_ne (fun e => hn.1 (by rw [← e]; exact hy))).2 (hs y (List.mem_cons_of_mem _ hy)))
    have h2 := List.length_erase_of_mem hx
    have h3 := List.length_pos_of_mem hx
    simp only [List.length_cons]; omega
instance : DecidableEq PlT := fun x y => decidable_of_iff (x.1 = y.1) ⟨fun h => Subtype.ext h, fun h => congrArg Subtype.val h⟩
end Go.Proofs.Ytdanlclhnehieaa
