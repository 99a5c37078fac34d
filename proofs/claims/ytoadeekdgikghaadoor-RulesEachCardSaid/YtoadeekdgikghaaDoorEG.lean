/-
 A symbolic walk of my own: own slices that a callee turns; slices that carry their contents; whole blocks kept. No program.
-/
import Derived.Test.YtoadeekdgikghaaDoorEO
import Derived.Test.YtoadeekdgikghaaDoorW3
set_option maxRecDepth 10000
set_option linter.unusedVariables false
set_option linter.unusedSimpArgs false
namespace Go.Proofs.YtoadeekdgikghaaDoor
open Go.RowKit
theorem bget_at : ∀ {m : List Blk} {e : Blk}, e ∈ m → ∃ i, bget m i = e
 | x :: m, e, h => by
  rcases List.mem_cons.1 h with rfl | h
  ·exact ⟨0, rfl⟩
  ·obtain ⟨i, hi⟩ := bget_at h
   exact ⟨i + 1, hi⟩
theorem bget_nums : ∀ {m : List Blk} {i b : Nat}, b ∈ (bget m i).nums → b ∈ m.flatMap Blk.nums
 | [], _, _, h => by simp [bget, Blk.nums] at h
 | x :: m, 0, b, h => by rw [List.flatMap_cons]; exact List.mem_append_left _ h
 | x :: m, i + 1, b, h => by rw [List.flatMap_cons]; exact List.mem_append_right _ (bget_nums (m := m) (i := i) h)
theorem nums_sep : ∀ {m : List Blk} {i j b : Nat}, (m.flatMap Blk.nums).Nodup → i ≠ j → b ∈ (bget m i).nums → b ∉ (bget m j).nums
 | [], _, _, _, _, _, h => by simp [bget, Blk.nums] at h
 | x :: m, 0, 0, _, _, h, _ => absurd rfl h
 | x :: m, 0, j + 1, b, hd, _, h => fun hj => by
  rw [List.flatMap_cons, List.nodup_append] at hd
  exact hd.2.2 b h b (bget_nums (m := m) (i := j) hj) rfl
 | x :: m, i + 1, 0, b, hd, _, h => fun hj => by
  rw [List.flatMap_cons, List.nodup_append] at hd
  exact hd.2.2 b hj b (bget_nums (m := m) (i := i) h) rfl
 | x :: m, i + 1, j + 1, b, hd, hij, h => by
  rw [List.flatMap_cons, List.nodup_append] at hd
  exact nums_sep (m := m) hd.2.1 (by omega) h
theorem HM.off {w0 : World} {B : List Nat} {m : List Blk} {w : World} (hm : MemOk w0 B m w) {nm : Nat} {v : Value} {n : Nat} {t : TypeId} {es : Nat} {con : Con} (hb : bget m nm = .own v n t es con) {b : Nat} {o : Obj} (h : HM m b o) :
  v.ownBlock ≠ some b := by
 intro hv
 obtain ⟨e, he, hf⟩ := h
 obtain ⟨i, hi⟩ := bget_at he
 have hne : i ≠ nm := by rintro rfl; rw [hb] at hi; subst hi; exact hf
 have h1 : b ∈ (bget m nm).nums := by rw [hb]; simp [Blk.nums, hv]
 have h2 := nums_sep hm.nodup (Ne.symm hne) h1
 rw [hi] at h2
 have hb2 := (hm.each _ (bget_mem hb (by simp))).2 b hv
 cases e with
 | blk b' t' c' => obtain ⟨rfl, _⟩ := hf; exact h2 (by simp [Blk.nums])
 | heap l => exact h2 (List.mem_map_of_mem hf)
 | old g =>
  obtain ⟨_, h4, h5⟩ := hm.each _ he b o hf
  rcases hb2 with h6 | h6
  ·omega
  ·exact h5 h6
 | _ => exact hf
def allOld (w : World) : Blk := .old fun b => w.heap[b]?
theorem old_start (w : World) : MemOk w [] [allOld w] w :=
 ⟨rfl, rfl, rfl, Nat.le_refl _, fun _ _ _ => rfl, fun e he => by
  rw [List.mem_singleton] at he; subst he
  exact fun b o h => ⟨h, (Array.getElem?_eq_some_iff.1 h).1, List.not_mem_nil⟩, by simp [allOld, Blk.nums]⟩
theorem HM.allOld {w0 : World} {B : List Nat} {m : List Blk} {w : World} (hm : MemOk w0 B m w) {b : Nat} {o : Obj} (h : HM m b o) {m' : List Blk} (hin : Go.Proofs.YtoadeekdgikghaaDoor.allOld w ∈ m') : HM m' b o := ⟨_, hin, hm.hm h⟩
theorem HM.sub {m m' : List Blk} (h : ∀ e ∈ m, (∃ b o, Hof e b o) → e ∈ m') {b : Nat} {o : Obj} (hh : HM m b o) : HM m' b o := by
 obtain ⟨e, he, hf⟩ := hh; exact ⟨e, h e he ⟨b, o, hf⟩, hf⟩
theorem cvs_sset_same : ∀ (l : List SV) (i : Nat) {x : SV}, cv x = cv (sget l i) → cvs (sset l i x) = cvs l
 | [], _, _, _ => rfl
 | y :: l, 0, x, h => by simp only [sget] at h; simp only [sset, cvs, h]
 | y :: l, i + 1, x, h => by simp only [sget] at h; simp only [sset, cvs, cvs_sset_same l i h]
theorem turn_start {w0 : World} {B : List Nat} {m : List Blk} {w : World} (hm : MemOk w0 B m w) {nm b : Nat} {t : TypeId} {con : Con} (hb : bget m nm = .blk b t con) : MemOk w [b] [.blk b t con] w :=
 ⟨rfl, rfl, rfl, Nat.le_refl _, fun _ _ _ => rfl, fun e he => by
  rw [List.mem_singleton] at he
  subst he
  exact ⟨(hm.each _ (bget_mem hb (by simp))).1, .inr List.mem_cons_self⟩, by simp [Blk.nums]⟩
theorem turn_ro {w : World} {b : Nat} {m : List Blk} (h : MemOk w [b] m w) {w0 : World} {B : List Nat} {M : List Blk} (hm : MemOk w0 B M w) {nm nr : Nat} {t : TypeId} {con c : Con} {a : Option Addr} (hb : bget M nm = .blk b t con) (hr : bget M nr = .ro a c) : MemOk w [b] (.ro a c :: m) w :=
 ⟨h.os, h.tape, h.output, h.size, h.old, fun x hx => by
  rcases List.mem_cons.1 hx with rfl | hx
  ·intro j u hj
   obtain ⟨b', off, h1, h2, h3, h4⟩ := hm.each _ (bget_mem hr (by simp)) j u hj
   have hbb := (hm.each _ (bget_mem hb (by simp))).2
   refine ⟨b', off, h1, Nat.lt_of_lt_of_le h2 hm.size, ?_, h4⟩
   rw [List.mem_singleton]
   rintro rfl
   rcases hbb with hbb | hbb
   ·omega
   ·exact h3 hbb
  ·exact h.each x hx, by rw [List.flatMap_cons]; exact h.nodup⟩
theorem turn_end {w0 : World} {B : List Nat} {m m' : List Blk} {w w' : World} (hm : MemOk w0 B m w) {nm k b : Nat} {t t' : TypeId} {con con' : Con} (hb : bget m nm = .blk b t con) (h : MemOk w [b] m' w') (hb' : bget m' k = .blk b t' con') : MemOk w0 B (bset m nm (.blk b t' con')) w' := by
 have h4 := hm.each _ (bget_mem hb (by simp))
 have h5 := h.each _ (bget_mem hb' (by simp))
 refine hm.turn hb (by simp) (row := some b) ⟨h.os, h.tape, h.output, h.size, fun k hk hkb => h.old k hk (by rw [List.mem_singleton]; intro e; apply hkb; simp [e])⟩ (fun b hb => by cases hb; simp [Blk.nums]) (fun b hb => by simp [Blk.nums] at hb; subst hb; exact h4.2) ⟨h5.1, h4.2⟩ (fun b hb => .inl (by simpa [Blk.nums] using hb))
theorem calls_turn {P : Program} {f : FuncId} {fn : Func} {args args' : List SV} {w0 w : World} {B : List Nat} {m : List Blk} {nm k b : Nat} {t : TypeId} {con con' : Con} {v : SV} (hf : P.funcs[f]? = some fn) (hn : (fn.name == "runtime.NumGoroutine") = false) (hb : fn.body.isNone = false)
  (hm : MemOk w0 B m w) (hbg : bget m nm = .blk b t con) (he : cvs args = cvs args') (h : Calls P f (cvs args').toArray w (fun en w' => ∃ u, en = .returned u ∧ ∃ v' m', u = cv v' ∧ MemOk w [b] m' w' ∧ v' = v ∧ bget m' k = .blk b t con')) :
  Enters P f (cvs args).toArray w fun u w' => u = cv v ∧ MemOk w0 B (bset m nm (withCon (bget m nm) con')) w' := by
 rw [he]
 refine .inr ⟨enter_run hf hn hb _ w, h.mono fun e w' ⟨u, hu, v', m', hv, hm', hvv, hk⟩ => ⟨u, hu, by rw [hv, hvv], ?_⟩⟩
 rw [hbg]
 exact turn_end hm hbg hm' hk
theorem Vc.nameS {P : Program} {c : Code} {env : List SV} {m : List Blk} {K : Kont} (i : Nat) (x : SV) (hx : cv x = cv (sget env i)) (h : Vc P c (sset env i x) m K) : Vc P c env m K :=
 fun w0 B a w hf hd hm => h w0 B a w (by unfold Fr at *; rw [cvs_sset_same env i hx]; exact hf) hd hm
theorem vcOps_pre {P : Program} {T : Tab} (hT : TabOk P T) {G : Ctr} (hG : GOk P G) {all : List Oper} {w0 : World} {B : List Nat} {Q : Exit → Act → World → Prop} {ds : List Deferred} {K : List SV → List Blk → Prop} {l2 : List Oper}
  (hQ : ∀ env m a w, Fr env a → a.defers = ds → MemOk w0 B m w → K env m → wpList P all.toArray Q l2 a w) : ∀ (l : List Oper) (env : List SV) (m : List Blk) (a : Act) (w : World), vcOps T G all l env m K → Fr env a → a.defers = ds → MemOk w0 B m w →
  wpList P all.toArray Q (l ++ l2) a w
 | [], env, m, a, w, h, hf, hd, hm => hQ env m a w hf hd hm h
 | o :: rest, env, m, a, w, h, hf, hd, hm => by
  rw [List.cons_append]
  unfold wpList
  rcases vcOps_step h hf with ⟨h1, h2⟩ | ⟨h1, h2⟩
  ·rw [if_pos h1]
   refine .inl (Oper.wp_mono (fun a' w' ⟨v, m', he, hm', hk⟩ => ?_) (stepK_sound hT hG h2 hf hm))
   subst he
   exact vcOps_pre hT hG hQ rest _ _ _ _ hk (hf.put o.dst v) (by rw [← hd]; cases o.dst <;> rfl) hm'
  ·rw [if_neg (by rw [h1]; simp)]
   exact vcOps_pre hT hG hQ rest _ _ _ _ h2 (hf.put o.dst .undef) (by rw [← hd]; cases o.dst <;> rfl) hm
def H0 (w : World) (b : Nat) (o : Obj) : Prop := w.heap[b]? = some o
theorem H0.hm {w : World} {m : List Blk} (hin : allOld w ∈ m) : ∀ b o, H0 w b o → HM m b o := fun b o h => ⟨_, hin, h⟩
theorem getD_of {rs : List (List SV)} {i : Nat} {r : List SV} (h : rs[i]? = some r) : rs.getD i [] = r := by rw [List.getD_eq_getElem?_getD, h]; rfl
theorem own_new {P : Program} {f : FuncId} {fn : Func} {args : Array Value} {w : World} {w0 : World} {B : List Nat} {m : List Blk} {t : TypeId} {n : Nat} {con : Con} (hf : P.funcs[f]? = some fn) (hn : (fn.name == "runtime.NumGoroutine") = false) (hb : fn.body.isNone = false) (_hm : MemOk w0 B m w)
  (h : Calls P f args w (fun e w' => ∃ u, e = .returned u ∧ ∃ v' m', u = cv v' ∧ MemOk w [] m' w' ∧ ∃ k s, v' = .own k s n ∧ bget m' k = .own s n t 1 con)) : Enters P f args w fun u w' => ∃ v, u = cv (.own (blen m) v n) ∧ w.grownBy w' .none ∧ w'.ownsRow w.heap.size t 1 v n (cc con) :=
 .inr ⟨enter_run hf hn hb _ w, h.mono fun e w' ⟨u, he, v', m', hu, hm, k, s, hv, hs⟩ => ⟨u, he, s, by rw [hu, hv]; rfl, hm.grown, own_ok0 (hm.each _ (bget_mem hs (by simp)))⟩⟩
theorem take_more {α : Type} {rs : List α} {i : Nat} {r : α} (h : rs[i]? = some r) : rs.take (i + 1) = rs.take i ++ [r] := by rw [List.take_add_one, h]; rfl
theorem adr_shA {a : Option Addr} {n c k es : Nat} (h : adr a n c) (hk : k ≤ n) (hn : n ≤ c) : adr (shA a c k es) (n - k) (c - k) := by
 unfold shA
 rcases h with h | ⟨h1, h2, h3⟩
 ·split
  ·exact .inl h
  ·refine .inl ?_
   generalize blkO a = b at *
   generalize offO a = o at *
   subst h
   simp only [Option.map_some, addr_add, blkO, offO]
 ·exact .inr ⟨rfl, by omega, by omega⟩
theorem lies_take {H : Nat → Obj → Prop} {a : Option Addr} {xs : List Int} {kd : IntKind} (k : Nat) (h : LiesH H a (cc (.ints kd xs))) : LiesH H a (cc (.ints kd (xs.take k))) := by
 rcases h with h | ⟨b, off, arr, t, fr, rfl, h2, h3⟩
 ·refine .inl ?_
  have : (cc (.ints kd xs)).length = 0 := by rw [h]; rfl
  simp [cc] at this; subst this; simp [cc]
 ·refine .inr ⟨b, off, arr, t, fr, rfl, h2, fun j u hj => h3 j u ?_⟩
  simp only [cc, List.getElem?_map, List.getElem?_take] at hj ⊢
  split at hj
  ·exact hj
  ·cases hj
end Go.Proofs.YtoadeekdgikghaaDoor
