/-
  A symbolic walk of my own: what a callee reads of its caller's memory; a content told in another way.
-/
import Derived.Test.YtkljpgdcmahenaaEJ
namespace Go.Proofs.Ytkljpgdcmahenaa
set_option linter.unusedSimpArgs false
set_option linter.unusedVariables false
open Go.RowKit
theorem srcC_cap {x : SV} {m : List Blk} {q : Prop} {k : Nat} {c : Con} (h : srcC x m = some (q, k, c)) (hq : q) {w0 : World} {B : List Nat} {w : World} (hm : MemOk w0 B m w) {a : Option Addr} {cp : Nat} (hv : cv x = .slice a k cp) : k ≤ cp := by
  unfold srcC at h
  split at h
  · rename_i nm a st st0 es len cap
    split at h
    · split at h
      · simp only [Option.some.injEq, Prod.mk.injEq] at h
        obtain ⟨rfl, rfl, rfl⟩ := h
        simp only [cv, Value.slice.injEq] at hv
        obtain ⟨_, _, rfl⟩ := hv
        exact hq.2.2.2
      · cases h
    · cases h
  · rename_i nm v n
    split at h
    · rename_i v' n' t' es con hbg
      split at h
      · simp only [Option.some.injEq, Prod.mk.injEq] at h
        obtain ⟨rfl, rfl, rfl⟩ := h
        obtain ⟨rfl, rfl, h3⟩ := hq
        have h4 := hm.each _ (bget_mem hbg (by simp))
        simp only [cv] at hv
        rcases h4.2 with ⟨h5, h6⟩ | ⟨g, cap, cur, h5, h6⟩
        · omega
        · rw [h5] at hv
          simp only [Value.slice.injEq] at hv
          obtain ⟨_, _, rfl⟩ := hv
          obtain ⟨_, _, h7, _⟩ := h6
          exact h7
      · cases h
    · cases h
  · cases h
/-- What a slice holds, as a callee finds it that only reads. -/
theorem src_ro {x : SV} {m : List Blk} {q : Prop} {k : Nat} {c : Con} (h : srcC x m = some (q, k, c)) (hq : q) {w0 : World} {B : List Nat} {w : World} (hm : MemOk w0 B m w) :
    (cc c).length = k * conEs c ∧ ∃ a cp, cv x = cv (.sl 0 a 0 0 (conEs c) k cp) ∧ k ≤ cp ∧ MemOk w [] [.ro a c] w ∧ (0 < (cc c).length → a = some ⟨blkO a, offO a, none⟩) := by
  obtain ⟨h1, h2, h3⟩ := srcC_sound h hq hm
  refine ⟨h1, ?_⟩
  have mk : ∀ a : Option Addr, (∀ j u, (cc c)[j]? = some u → ∃ b off, a = some ⟨b, off, none⟩ ∧ b < w.heap.size ∧ w.cell? ⟨b, off + j, none⟩ = some u) → MemOk w [] [.ro a c] w := fun a ha =>
    ⟨rfl, rfl, rfl, Nat.le_refl _, fun _ _ _ => rfl, fun e he => by
      rw [List.mem_singleton] at he
      subst he
      intro j u hj
      obtain ⟨b, off, g1, g2, g3⟩ := ha j u hj
      exact ⟨b, off, g1, g2, List.not_mem_nil, g3⟩, List.nodup_nil⟩
  rcases h3 with ⟨a, cp, hx, hc⟩ | ⟨hx, hk⟩
  · refine ⟨some a, cp, ?_, srcC_cap h hq hm hx, ?_⟩
    · rw [hx]
      simp only [cv, ite_self, Nat.zero_mul, Option.map_some]
      unfold Addr.add; rw [if_pos rfl]
    · have hs : ∀ u, (cc c)[0]? = some u → a = ⟨a.block, a.off, none⟩ ∧ a.block < w.heap.size := by
        intro u hu
        have h4 := hc 0 u hu
        have e : a.add 0 = a := by unfold Addr.add; rw [if_pos rfl]
        rw [e] at h4
        unfold World.cell? at h4
        split at h4
        · rename_i c' _ _ hh
          split at h4
          · cases h4
          · rename_i hsp
            obtain ⟨b, off, sp⟩ := a
            simp at hsp
            subst hsp
            exact ⟨rfl, (Array.getElem?_eq_some_iff.1 hh).1⟩
        · cases h4
      refine ⟨mk _ fun j u hj => ?_, fun hl => ?_⟩
      · have hlen := (List.getElem?_eq_some_iff.1 hj).1
        obtain ⟨v0, hv0⟩ : ∃ v, (cc c)[0]? = some v := ⟨_, List.getElem?_eq_getElem (by omega)⟩
        obtain ⟨g1, g2⟩ := hs v0 hv0
        refine ⟨a.block, a.off, congrArg some g1, g2, ?_⟩
        have h4 := hc j u hj
        rw [g1] at h4
        rw [addr_add] at h4
        exact h4
      · obtain ⟨v0, hv0⟩ : ∃ v, (cc c)[0]? = some v := ⟨_, List.getElem?_eq_getElem hl⟩
        exact congrArg some (hs v0 hv0).1
  · subst hk
    refine ⟨none, 0, hx, Nat.le_refl _, mk _ fun j u hj => ?_, fun hl => ?_⟩
    · have := (List.getElem?_eq_some_iff.1 hj).1
      rw [h1, Nat.zero_mul] at this; omega
    · rw [h1, Nat.zero_mul] at hl; omega
/-- A content told in another way. -/
theorem MemOk.recon {w0 : World} {B : List Nat} {m : List Blk} {w : World} (h : MemOk w0 B m w) {nm b : Nat} {t : TypeId} {con con' : Con} (hb : bget m nm = .blk b t con) (hc : cc con' = cc con) :
    MemOk w0 B (bset m nm (.blk b t con')) w := by
  have h1 := h.each _ (bget_mem hb (by simp))
  refine h.turn hb (by simp) (e := .blk b t con') ⟨rfl, rfl, rfl, Nat.le_refl _, fun _ _ _ => rfl⟩ (fun b' hb' => ?_) ?_ (fun b' hb' => .inl hb')
  · simp only [Blk.num?, Option.some.injEq] at hb'
    subst hb'
    exact h1.2
  · exact ⟨by rw [hc]; exact h1.1, h1.2⟩
theorem Vc.recon {P : Program} {c : Code} {env : List SV} {m : List Blk} {K : Kont} (nm : Nat) {b : Nat} {t : TypeId} {con : Con} (con' : Con) (hb : bget m nm = .blk b t con) (hc : cc con' = cc con)
    (h : Vc P c env (bset m nm (.blk b t con')) K) : Vc P c env m K := fun w0 B a w hf hd hm => h w0 B a w hf hd (hm.recon hb hc)
/-- A contract of a callee that only reads what it is handed, as its walk told it. -/
theorem calls_pure {P : Program} {f : FuncId} {fn : Func} {args : Array Value} {w : World} {v : SV} (hf : P.funcs[f]? = some fn) (hn : (fn.name == "runtime.NumGoroutine") = false) (hb : fn.body.isNone = false)
    (h : Calls P f args w (fun e w' => ∃ u, e = .returned u ∧ ∃ v' m', u = cv v' ∧ MemOk w [] m' w' ∧ v' = v)) : Enters P f args w fun u w' => u = cv v ∧ w.grownBy w' none :=
  .inr ⟨enter_run hf hn hb _ w, h.mono fun e w' ⟨u, he, v', m', hu, hm, hv⟩ => ⟨u, he, by rw [hu, hv], hm.grown⟩⟩
end Go.Proofs.Ytkljpgdcmahenaa
