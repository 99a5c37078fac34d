/-
  Package places: compare, a set's places sorted (maps.Keys, slices.Collect, slices.SortFunc, slices.SortedFunc, Sorted), walked. No condition.
-/
import Derived.Test.YtdanlclhnehieaaT1
import Derived.Test.YtdanlclhnehieaaG1
import Derived.Test.YtdanlclhnehieaaEI
import Derived.Test.YtdanlclhnehieaaBase
import Derived.Test.YtdanlclhnehieaaA1
import Derived.Laws.Bits64b
import Derived.Laws.Bits64
import Derived.Test.YtdanlclhnehieaaWC
import Derived.Test.YtdanlclhnehieaaEO
import Derived.Test.YtdanlclhnehieaaBS
import Derived.Test.YtdanlclhnehieaaT8
import Derived.Laws.Externs
import Derived.Test.YtdanlclhnehieaaV3
import Derived.Test.YtdanlclhnehieaaHK
import Derived.Shelf.SlSortCmp.NoneTotal
import Derived.Test.YtdanlclhnehieaaProg
namespace Go.Proofs.Ytdanlclhnehieaa
set_option linter.unusedSimpArgs false
set_option linter.unusedVariables false
set_option maxHeartbeats 4000000
set_option linter.defProp false
open Go.RowKit
instance : Inhabited PlT := ⟨⟨[0, 0, 0, 0, 0, 0, 0, 0, 0, 0, 0, 0, 0, 0, 0, 0, 0, 0, 0, 0, 0, 0, 0, 0, 0], by unfold okP; simp only [ck_38, inCs, inC]; (repeat' apply And.intro) <;> first | rfl | exact trivial | exact .inl rfl | exact .inl trivial⟩⟩
theorem Enters.of {P : Program} {f : FuncId} {args args' : Array Value} {w : World} {R R' : Value → World → Prop} (h : Enters P f args w R) (e : args = args') (hr : ∀ u w', R u w' → R' u w') : Enters P f args' w R' := by
  subst e
  rcases h with ⟨u, h1, h2⟩ | ⟨h1, h2⟩
  · exact .inl ⟨u, h1, hr _ _ h2⟩
  · exact .inr ⟨h1, h2.mono fun e w' ⟨u, h3, h4⟩ => ⟨u, h3, hr _ _ h4⟩⟩
def InS (f : List Int → Option SV) (ss : List PlT) : Prop := ss.Nodup ∧ ∀ x : PlT, x ∈ ss ↔ (f x.1).isSome = true
def Few (f : List Int → Option SV) : Prop := ∃ LL : List PlT, (∀ x : PlT, (f x.1).isSome = true → x ∈ LL) ∧ LL.length ≤ 1000000
theorem InS.le {f : List Int → Option SV} {ss : List PlT} (h : InS f ss) (hf : Few f) : ss.length ≤ 1000000 := by
  obtain ⟨LL, h1, h2⟩ := hf
  have := nodup_le h.1 (fun x hx => h1 x ((h.2 x).1 hx))
  omega
theorem mo_old {w0 w : World} {B : List Nat} {m : List Blk} (_hm : MemOk w0 B m w) {b : Nat} {ks : List CK} {f : List Int → Option SV} (hM : MapIs w b ks (fun c => (f c).map cv)) : MemOk w [] [.mo b ks f, allOld w] w :=
  ⟨rfl, rfl, rfl, Nat.le_refl _, fun _ _ _ => rfl, fun e he => by
    simp only [List.mem_cons, List.not_mem_nil, or_false] at he
    rcases he with rfl | rfl
    · exact ⟨hM, map_lt hM, List.not_mem_nil⟩
    · exact (old_start w).each _ List.mem_cons_self, by simp [Blk.nums, allOld]⟩
end Go.Proofs.Ytdanlclhnehieaa
