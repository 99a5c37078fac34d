/-
 A symbolic walk of my own: own slices that a callee turns; slices that carry their contents; whole blocks kept. No program.
-/
import Derived.Test.YthdpgfdfgidokaaDoorEO
import Derived.Test.YthdpgfdfgidokaaDoorW8
set_option maxRecDepth 10000
set_option linter.unusedVariables false
set_option linter.unusedSimpArgs false
namespace Go.Proofs.YthdpgfdfgidokaaDoor
open Go.RowKit
theorem bget_at : ∀ {m : List Blk} {e : Blk}, e ∈ m → ∃ i, bget m i = e
 | x :: m, e, h => by
  rcases List.mem_cons.1 h with rfl | h
  ·exact ⟨0, rfl⟩
  ·obtain ⟨i, hi⟩ := bget_at h
   exact ⟨i + 1, hi⟩
theorem bget_nums : ∀ {m : List Blk} {i b : Nat}, b ∈ (bget m i).nums → b ∈ m.flatMap Blk.nums
 | [], _, _, h => by simp [bget, Blk.nums] at h
 | x :: m, 0, b, h => by rw [List.flatMap_cons]; exact List.mem_append_left _ h
 | x :: m, i + 1, b, h => by rw [List.flatMap_cons]; exact List.mem_append_right _ (bget_nums (m := m) (i := i) h)
theorem nums_sep : ∀ {m : List Blk} {i j b : Nat}, (m.flatMap Blk.nums).Nodup → i ≠ j → b ∈ (bget m i).nums → b ∉ (bget m j).nums
 | [], _, _, _, _, _, h => by simp [bget, Blk.nums] at h
 | x :: m, 0, 0, _, _, h, _ => absurd rfl h
 | x :: m, 0, j + 1, b, hd, _, h => fun hj => by
  rw [List.flatMap_cons, List.nodup_append] at hd
  exact hd.2.2 b h b (bget_nums (m := m) (i := j) hj) rfl
 | x :: m, i + 1, 0, b, hd, _, h => fun hj => by
  rw [List.flatMap_cons, List.nodup_append] at hd
  exact hd.2.2 b hj b (bget_nums (m := m) (i := i) h) rfl
 | x :: m, i + 1, j + 1, b, hd, hij, h => by
  rw [List.flatMap_cons, List.nodup_append] at hd
  exact nums_sep (m := m) hd.2.1 (by omega) h
theorem HM.off {w0 : World} {B : List Nat} {m : List Blk} {w : World} (hm : MemOk w0 B m w) {nm : Nat} {v : Value} {n : Nat} {t : TypeId} {es : Nat} {con : Con} (hb : bget m nm = .own v n t es con) {b : Nat} {o : Obj} (h : HM m b o) :
  v.ownBlock ≠ some b := by
 intro hv
 obtain ⟨e, he, hf⟩ := h
 obtain ⟨i, hi⟩ := bget_at he
 have hne : i ≠ nm := by rintro rfl; rw [hb] at hi; subst hi; exact hf
 have h1 : b ∈ (bget m nm).nums := by rw [hb]; simp [Blk.nums, hv]
 have h2 := nums_sep hm.nodup (Ne.symm hne) h1
 rw [hi] at h2
 have hb2 := (hm.each _ (bget_mem hb (by simp))).2 b hv
 cases e with
 | blk b' t' c' => obtain ⟨rfl, _⟩ := hf; exact h2 (by simp [Blk.nums])
 | heap l => exact h2 (List.mem_map_of_mem hf)
 | old g =>
  obtain ⟨_, h4, h5⟩ := hm.each _ he b o hf
  rcases hb2 with h6 | h6
  ·omega
  ·exact h5 h6
 | _ => exact hf
theorem own_start {w0 : World} {B : List Nat} {m : List Blk} {w : World} (hm : MemOk w0 B m w) {nm : Nat} {v : Value} {n : Nat} {t : TypeId} {es : Nat} {con : Con} (hb : bget m nm = .own v n t es con) :
  MemOk w v.ownBlock.toList [.own v n t es con] w :=
 ⟨rfl, rfl, rfl, Nat.le_refl _, fun _ _ _ => rfl, fun e he => by
  rw [List.mem_singleton] at he; subst he
  exact ⟨(hm.each _ (bget_mem hb (by simp))).1, fun b hv => .inr (by simp [hv])⟩, by
  rw [List.flatMap_cons]; simp only [Blk.nums, List.flatMap_nil, List.append_nil]; cases v.ownBlock <;> simp⟩
theorem nil_start (w : World) (t : TypeId) (es : Nat) (k : IntKind) : MemOk w [] [.own (.slice none 0 0) 0 t es (.ints k [])] w :=
 ⟨rfl, rfl, rfl, Nat.le_refl _, fun _ _ _ => rfl, fun e he => by
  rw [List.mem_singleton] at he; subst he
  exact ⟨⟨by simp [cc], .inl ⟨rfl, rfl⟩⟩, fun b hv => by simp [Value.ownBlock] at hv⟩, by simp [Blk.nums, Value.ownBlock]⟩
theorem grown_own {w w' : World} {v : Value} {m' : List Blk} (h : MemOk w v.ownBlock.toList m' w') : w.grownBy w' v.ownBlock :=
 ⟨h.os, h.tape, h.output, h.size, fun b hb hne => h.old b hb (by
  rw [Option.mem_toList]; exact fun e => hne (by rw [e]))⟩
theorem own_end {w0 : World} {B : List Nat} {m : List Blk} {w w' : World} (hm : MemOk w0 B m w) {nm : Nat} {v : Value} {n : Nat} {t : TypeId} {es : Nat} {con : Con} (hb : bget m nm = .own v n t es con)
  {m' : List Blk} (h : MemOk w v.ownBlock.toList m' w') {v' : Value} {n' : Nat} {con' : Con} (he : Blk.ok w v.ownBlock.toList w' (.own v' n' t es con')) : MemOk w0 B (bset m nm (.own v' n' t es con')) w' := by
 have h1 := hm.each _ (bget_mem hb (by simp))
 refine hm.turn hb (by simp) (grown_own h) (fun b hb => by simp [Blk.nums, hb]) (fun b hb => h1.2 b (by simpa [Blk.nums] using hb)) ⟨he.1, fun b hv => ?_⟩ (fun b hv => ?_)
 ·rcases he.2 b hv with h2 | h2
  ·exact .inl (Nat.le_trans hm.size h2)
  ·exact h1.2 b (by simpa using h2)
 ·rcases he.2 b (by simpa [Blk.nums] using hv) with h2 | h2
  ·exact .inr h2
  ·exact .inl (by simpa [Blk.nums] using h2)
theorem ro_add {w0 : World} {B : List Nat} {m : List Blk} {w : World} (h : MemOk w0 B m w) {a : Option Addr} {c : Con}
  (hr : ∀ j u, (cc c)[j]? = some u → ∃ b off, a = some ⟨b, off, none⟩ ∧ b < w0.heap.size ∧ b ∉ B ∧ w.cell? ⟨b, off + j, none⟩ = some u) : MemOk w0 B (m ++ [.ro a c]) w :=
 h.push (grown_refl w) hr (fun b hb => by simp [Blk.nums] at hb)
theorem src_off {x : SV} {m : List Blk} {q : Prop} {k : Nat} {c : Con} (h : srcC x m = some (q, k, c)) (hq : q) {w0 : World} {B : List Nat} {w : World} (hm : MemOk w0 B m w)
  {nm : Nat} {v : Value} {n : Nat} {t : TypeId} {es : Nat} {con : Con} (hb : bget m nm = .own v n t es con) (ha : noAlias nm x) {a : Addr} {cp : Nat} (hx : cv x = .slice (some a) k cp) (hc : cc c ≠ []) : v.ownBlock ≠ some a.block := by
 intro hv
 have hlen : (cc c).length ≠ 0 := fun e => hc (List.eq_nil_of_length_eq_zero e)
 have hb2 := (hm.each _ (bget_mem hb (by simp))).2 _ hv
 have s1 := (srcC_sound h hq hm).1
 have hk0 : 0 < k := by
  rcases Nat.eq_zero_or_pos k with h0 | h0
  ·rw [h0, Nat.zero_mul] at s1; exact absurd s1 hlen
  ·exact h0
 have h1 : a.block ∈ (bget m nm).nums := by rw [hb]; simp [Blk.nums, hv]
 unfold srcC at h
 split at h
 ·rename_i nm' a' st st0 es' len cap
  simp only [noAlias] at ha
  have hsep := nums_sep hm.nodup (Ne.symm ha) h1
  split at h
  ·rename_i q' con0 hbl
   split at h
   ·rename_i c' hcc hes
    simp only [Option.some.injEq, Prod.mk.injEq] at h
    obtain ⟨rfl, rfl, rfl⟩ := h
    obtain ⟨g1, g2, g3, g4⟩ := hq
    have ha' := adr_pos g2 hk0
    have hblk : a.block = blkO a' := by
     simp only [cv, Value.slice.injEq] at hx
     obtain ⟨e1, _, _⟩ := hx
     rw [ha'] at e1
     simp only [Option.map_some, Option.some.injEq] at e1
     rw [← e1, addr_add]
    cases he : bget m nm' with
    | gone => rw [he] at hbl; cases hbl
    | heap l => rw [he] at hbl; cases hbl
    | old g => rw [he] at hbl; cases hbl
    | mp b ks f => rw [he] at hbl; cases hbl
    | rg b r ks f left cnt last => rw [he] at hbl; cases hbl
    | wd τ p S l => rw [he] at hbl; cases hbl
    | mo b ks f => rw [he] at hbl; cases hbl
    | blk b' t' c0 =>
     rw [he] at hbl hsep
     simp only [blkAt, Option.some.injEq, Prod.mk.injEq] at hbl
     obtain ⟨rfl, rfl⟩ := hbl
     exact hsep (by simp [Blk.nums, hblk, g1.1])
    | own v' n' t' es0 c0 =>
     rw [he] at hbl hsep
     simp only [blkAt, Option.some.injEq, Prod.mk.injEq] at hbl
     obtain ⟨rfl, rfl⟩ := hbl
     have hw := (hm.each _ (bget_mem he (by simp))).1
     obtain ⟨_, hw⟩ := hw
     rcases hw with ⟨h5, h6⟩ | ⟨g, cap', cur, h5, _⟩
     ·subst h6
      rename_i hl
      rw [Nat.zero_mul] at hl
      obtain ⟨cu1, cu2, _⟩ := conCut_sound hcc g3
      have h7 : 0 < (cc c').length := by omega
      have h8 := (List.getElem?_eq_some_iff.1 (cu1 0 _ (List.getElem?_eq_getElem h7))).1
      omega
     ·have e5 := g1.1
      rw [h5] at e5
      exact hsep (by rw [hblk, e5]; simp [Blk.nums, h5, Value.ownBlock, blkOf, blkO])
    | ro a0 c0 =>
     rw [he] at hbl
     simp only [blkAt, Option.some.injEq, Prod.mk.injEq] at hbl
     obtain ⟨rfl, rfl⟩ := hbl
     obtain ⟨cu1, cu2, _⟩ := conCut_sound hcc g3
     have h7 : 0 < (cc c').length := by omega
     have h8 := cu1 0 _ (List.getElem?_eq_getElem h7)
     obtain ⟨b, off, e1, e2, e3, _⟩ := hm.each _ (bget_mem he (by simp)) _ _ h8
     have e4 : a.block = b := by rw [hblk, g1.1, e1]; rfl
     rw [e4] at hb2
     rcases hb2 with h6 | h6
     ·omega
     ·exact e3 h6
   ·cases h
  ·cases h
 ·rename_i nm' v' n'
  simp only [noAlias] at ha
  have hsep := nums_sep hm.nodup (Ne.symm ha) h1
  split at h
  ·rename_i v2 n2 t2 es2 con2 hbg
   split at h
   ·simp only [Option.some.injEq, Prod.mk.injEq] at h
    obtain ⟨rfl, rfl, rfl⟩ := h
    obtain ⟨rfl, rfl, _⟩ := hq
    have hw := (hm.each _ (bget_mem hbg (by simp))).1
    simp only [cv, own_slV hw] at hx
    rw [hbg] at hsep
    apply hsep
    obtain ⟨_, hw⟩ := hw
    rcases hw with ⟨h5, _⟩ | ⟨g, cap', cur, h5, _⟩
    ·rw [h5] at hx; simp at hx
    ·rw [h5] at hx
     simp only [Value.slice.injEq, Option.some.injEq] at hx
     obtain ⟨rfl, _⟩ := hx
     simp [Blk.nums, h5, Value.ownBlock]
   ·cases h
  ·cases h
 ·split at h
  ·rename_i c' hcc
   simp only [Option.some.injEq, Prod.mk.injEq] at h
   obtain ⟨rfl, rfl, rfl⟩ := h
   obtain ⟨g1, g2, g3, g4⟩ := hq
   simp only [cv, Value.slice.injEq] at hx
   obtain ⟨e1, _, _⟩ := hx
   obtain ⟨cu1, cu2, _⟩ := conCut_sound hcc (by omega)
   rcases g1 with g1 | ⟨b, off, arr, t', fr, e2, e3, e4⟩
   ·have h7 : 0 < (cc c').length := by omega
    have h8 := cu1 0 _ (List.getElem?_eq_getElem h7)
    rw [g1] at h8; cases h8
   ·rw [e1] at e2
    simp only [Option.some.injEq] at e2
    subst e2
    exact HM.off hm hb e3 hv
  ·cases h
 ·cases h
theorem own_src {x : SV} {m : List Blk} {q : Prop} {k : Nat} {c : Con} (h : srcC x m = some (q, k, c)) (hq : q) {w0 : World} {B : List Nat} {w : World} (hm : MemOk w0 B m w)
  {nm : Nat} {v : Value} {n : Nat} {t : TypeId} {es : Nat} {con : Con} (hb : bget m nm = .own v n t es con) (ha : noAlias nm x) :
  (cc c).length = k * conEs c ∧ ∃ a cp, cv x = cv (.sl 1 a 0 0 (conEs c) k cp) ∧ k ≤ cp ∧ MemOk w v.ownBlock.toList [.own v n t es con, .ro a c] w ∧ adr a k cp := by
 obtain ⟨s1, a, cp, s2, s3, s4, s5⟩ := src_ro h hq hm
 have e0 : cv (.sl 0 a 0 0 (conEs c) k cp) = .slice a k cp := by
  simp only [cv, ite_self, Nat.zero_mul]
  cases a with
  | none => rfl
  | some a => simp [Addr.add]
 refine ⟨s1, a, cp, s2, s3, ?_, s5⟩
 refine ro_add (own_start hm hb) fun j u hj => ?_
 obtain ⟨b, off, e1, e2, e3, e4⟩ := s4.each _ List.mem_cons_self j u hj
 refine ⟨b, off, e1, e2, ?_, e4⟩
 rw [Option.mem_toList]
 exact src_off h hq hm hb ha (a := ⟨b, off, none⟩) (cp := cp) (by rw [s2, e0, e1]) (fun e => by rw [e] at hj; cases hj)
theorem nil_src {x : SV} {m : List Blk} {q : Prop} {k : Nat} {c : Con} (h : srcC x m = some (q, k, c)) (hq : q) {w0 : World} {B : List Nat} {w : World} (hm : MemOk w0 B m w) (t : TypeId) (es : Nat) (kk : IntKind) :
  (cc c).length = k * conEs c ∧ ∃ a cp, cv x = cv (.sl 1 a 0 0 (conEs c) k cp) ∧ k ≤ cp ∧ MemOk w [] [.own (.slice none 0 0) 0 t es (.ints kk []), .ro a c] w ∧ adr a k cp := by
 obtain ⟨s1, a, cp, s2, s3, s4, s5⟩ := src_ro h hq hm
 exact ⟨s1, a, cp, s2, s3, ro_add (nil_start w t es kk) (s4.each _ List.mem_cons_self), s5⟩
def ApR (t : TypeId) (k : IntKind) (w : World) (B : List Nat) (ys : List Int) (e : Ending) (w' : World) : Prop :=
 ∃ u, e = .returned u ∧ ∃ v1 m', u = cv v1 ∧ MemOk w B m' w' ∧ ∃ s, v1 = .own 0 s ys.length ∧ bget m' 0 = .own s ys.length t 1 (.ints k ys)
theorem own_ints_len {w0 w : World} {B : List Nat} {v : Value} {n : Nat} {t : TypeId} {k : IntKind} {xs : List Int} (h : Blk.ok w0 B w (.own v n t 1 (.ints k xs))) : xs.length = n := by
 have := h.1.1; simpa [cc] using this
theorem aps_ok {P : Program} {f : FuncId} {fn : Func} (hf : P.funcs[f]? = some fn) (hn : (fn.name == "runtime.NumGoroutine") = false) (hb : fn.body.isNone = false) {t : TypeId} {k : IntKind} {x y : SV} {rest : List SV} {p : List Int → List Int → Prop} {F : List Int → List Int → List Int}
  (h : ∀ (w : World) (B : List Nat) (v : Value) (xs ys : List Int) (a : Option Addr) (n cp : Nat), p xs ys → ys.length = n → n ≤ cp → adr a n cp → MemOk w B [.own v xs.length t 1 (.ints k xs), .ro a (.ints k ys)] w → Calls P f (cvs (.own 0 v xs.length :: .sl 1 a 0 0 1 n cp :: rest)).toArray w (ApR t k w B (F xs ys)))
  (w0 : World) (B : List Nat) (m : List Blk) : CROk P w0 B f (x :: y :: rest) m (apS t k m x y p F) := by
 unfold apS
 split
 ·rename_i q n0 k' ys hsrc
  split
  ·rename_i nm v n
   split
   ·rename_i v' n' t' es k2 xs hbg
    intro ⟨hq, h1, h2, h3, h4, h5, h5b, h7, h6⟩ w hm
    subst h1; subst h2; subst h3; subst h4; subst h5; subst h5b
    obtain rfl := own_ints_len (hm.each _ (bget_mem hbg (by simp)))
    obtain ⟨l1, a, cp, e1, e2, e3, e4⟩ := own_src hsrc hq hm hbg h7
    have hl : ys.length = n0 := by simpa [cc, conEs] using l1
    have e5 : cvs (.own nm v xs.length :: y :: rest) = cvs (.own 0 v xs.length :: .sl 1 a 0 0 1 n0 cp :: rest) := by simp only [cvs]; rw [e1]; rfl
    rw [e5]
    refine .inr ⟨enter_run hf hn hb _ w, (h w _ v xs ys a n0 cp h6 hl e2 e4 e3).mono fun e w' ⟨u, he, v1, m', hu, hm', s, hv1, hs⟩ => ⟨u, he, s, trivial, ?_, ?_⟩⟩
    ·rw [hu, hv1]; rfl
    ·exact own_end hm hbg hm' (hm'.each _ (bget_mem hs (by simp)))
   ·exact trivial
  ·intro ⟨hq, h5, h6⟩ w hm
   subst h5
   obtain ⟨l1, a, cp, e1, e2, e3, e4⟩ := nil_src hsrc hq hm t 1 k'
   have hl : ys.length = n0 := by simpa [cc, conEs] using l1
   have e5 : cvs (.nilsl :: y :: rest) = cvs (.own 0 (.slice none 0 0) 0 :: .sl 1 a 0 0 1 n0 cp :: rest) := by simp only [cvs]; rw [e1]; rfl
   rw [e5]
   refine .inr ⟨enter_run hf hn hb _ w, (h w [] (.slice none 0 0) [] ys a n0 cp h6 hl e2 e4 e3).mono fun e w' ⟨u, he, v1, m', hu, hm', s, hv1, hs⟩ => ⟨u, he, s, ?_, hm'.grown, own_ok0 (hm'.each _ (bget_mem hs (by simp)))⟩⟩
   rw [hu, hv1]; rfl
  ·exact trivial
 ·exact trivial
def allOld (w : World) : Blk := .old fun b => w.heap[b]?
theorem old_start (w : World) : MemOk w [] [allOld w] w :=
 ⟨rfl, rfl, rfl, Nat.le_refl _, fun _ _ _ => rfl, fun e he => by
  rw [List.mem_singleton] at he; subst he
  exact fun b o h => ⟨h, (Array.getElem?_eq_some_iff.1 h).1, List.not_mem_nil⟩, by simp [allOld, Blk.nums]⟩
theorem HM.allOld {w0 : World} {B : List Nat} {m : List Blk} {w : World} (hm : MemOk w0 B m w) {b : Nat} {o : Obj} (h : HM m b o) {m' : List Blk} (hin : Go.Proofs.YthdpgfdfgidokaaDoor.allOld w ∈ m') : HM m' b o := ⟨_, hin, hm.hm h⟩
theorem HM.sub {m m' : List Blk} (h : ∀ e ∈ m, (∃ b o, Hof e b o) → e ∈ m') {b : Nat} {o : Obj} (hh : HM m b o) : HM m' b o := by
 obtain ⟨e, he, hf⟩ := hh; exact ⟨e, h e he ⟨b, o, hf⟩, hf⟩
theorem cvs_sset_same : ∀ (l : List SV) (i : Nat) {x : SV}, cv x = cv (sget l i) → cvs (sset l i x) = cvs l
 | [], _, _, _ => rfl
 | y :: l, 0, x, h => by simp only [sget] at h; simp only [sset, cvs, h]
 | y :: l, i + 1, x, h => by simp only [sget] at h; simp only [sset, cvs, cvs_sset_same l i h]
theorem turn_start {w0 : World} {B : List Nat} {m : List Blk} {w : World} (hm : MemOk w0 B m w) {nm b : Nat} {t : TypeId} {con : Con} (hb : bget m nm = .blk b t con) : MemOk w [b] [.blk b t con] w :=
 ⟨rfl, rfl, rfl, Nat.le_refl _, fun _ _ _ => rfl, fun e he => by
  rw [List.mem_singleton] at he
  subst he
  exact ⟨(hm.each _ (bget_mem hb (by simp))).1, .inr List.mem_cons_self⟩, by simp [Blk.nums]⟩
theorem turn_ro {w : World} {b : Nat} {m : List Blk} (h : MemOk w [b] m w) {w0 : World} {B : List Nat} {M : List Blk} (hm : MemOk w0 B M w) {nm nr : Nat} {t : TypeId} {con c : Con} {a : Option Addr} (hb : bget M nm = .blk b t con) (hr : bget M nr = .ro a c) : MemOk w [b] (.ro a c :: m) w :=
 ⟨h.os, h.tape, h.output, h.size, h.old, fun x hx => by
  rcases List.mem_cons.1 hx with rfl | hx
  ·intro j u hj
   obtain ⟨b', off, h1, h2, h3, h4⟩ := hm.each _ (bget_mem hr (by simp)) j u hj
   have hbb := (hm.each _ (bget_mem hb (by simp))).2
   refine ⟨b', off, h1, Nat.lt_of_lt_of_le h2 hm.size, ?_, h4⟩
   rw [List.mem_singleton]
   rintro rfl
   rcases hbb with hbb | hbb
   ·omega
   ·exact h3 hbb
  ·exact h.each x hx, by rw [List.flatMap_cons]; exact h.nodup⟩
theorem turn_end {w0 : World} {B : List Nat} {m m' : List Blk} {w w' : World} (hm : MemOk w0 B m w) {nm k b : Nat} {t t' : TypeId} {con con' : Con} (hb : bget m nm = .blk b t con) (h : MemOk w [b] m' w') (hb' : bget m' k = .blk b t' con') : MemOk w0 B (bset m nm (.blk b t' con')) w' := by
 have h4 := hm.each _ (bget_mem hb (by simp))
 have h5 := h.each _ (bget_mem hb' (by simp))
 refine hm.turn hb (by simp) (row := some b) ⟨h.os, h.tape, h.output, h.size, fun k hk hkb => h.old k hk (by rw [List.mem_singleton]; intro e; apply hkb; simp [e])⟩ (fun b hb => by cases hb; simp [Blk.nums]) (fun b hb => by simp [Blk.nums] at hb; subst hb; exact h4.2) ⟨h5.1, h4.2⟩ (fun b hb => .inl (by simpa [Blk.nums] using hb))
theorem calls_turn {P : Program} {f : FuncId} {fn : Func} {args args' : List SV} {w0 w : World} {B : List Nat} {m : List Blk} {nm k b : Nat} {t : TypeId} {con con' : Con} {v : SV} (hf : P.funcs[f]? = some fn) (hn : (fn.name == "runtime.NumGoroutine") = false) (hb : fn.body.isNone = false)
  (hm : MemOk w0 B m w) (hbg : bget m nm = .blk b t con) (he : cvs args = cvs args') (h : Calls P f (cvs args').toArray w (fun en w' => ∃ u, en = .returned u ∧ ∃ v' m', u = cv v' ∧ MemOk w [b] m' w' ∧ v' = v ∧ bget m' k = .blk b t con')) :
  Enters P f (cvs args).toArray w fun u w' => u = cv v ∧ MemOk w0 B (bset m nm (withCon (bget m nm) con')) w' := by
 rw [he]
 refine .inr ⟨enter_run hf hn hb _ w, h.mono fun e w' ⟨u, hu, v', m', hv, hm', hvv, hk⟩ => ⟨u, hu, by rw [hv, hvv], ?_⟩⟩
 rw [hbg]
 exact turn_end hm hbg hm' hk
theorem Vc.nameM {P : Program} {c : Code} {env : List SV} {m : List Blk} {K : Kont} (m' : List Blk) (hs : (m'.flatMap Blk.nums).Sublist (m.flatMap Blk.nums)) (he : ∀ e ∈ m', e ∈ m ∨ e = .gone) (h : Vc P c env m' K) : Vc P c env m K :=
 fun w0 B a w hf hd hm => h w0 B a w hf hd ⟨hm.os, hm.tape, hm.output, hm.size, hm.old, fun e hx => by
  rcases he e hx with h1 | rfl
  ·exact hm.each e h1
  ·trivial, hm.nodup.sublist hs⟩
theorem Vc.nameS {P : Program} {c : Code} {env : List SV} {m : List Blk} {K : Kont} (i : Nat) (x : SV) (hx : cv x = cv (sget env i)) (h : Vc P c (sset env i x) m K) : Vc P c env m K :=
 fun w0 B a w hf hd hm => h w0 B a w (by unfold Fr at *; rw [cvs_sset_same env i hx]; exact hf) hd hm
theorem Vc.regionOwn {P : Program} {T : Tab} (hT : TabOk P T) {G : Ctr} (hG : GOk P G) {id : Nat} {d : Option Tmp} {t : TypeId} {n : Nat} {parts : Array (Nat × Operand)} {ty : TypeId} {pos : String} {af : Array Edge} {rest : List Oper} {env : List SV} {m : List Blk} {K : Kont} {e : TypeId} {k : IntKind} {xs : List Int}
  (hz : litS T t n (evp T env parts.toList) = some (e, 1, .ints k xs)) (hn : xs.length = n) (hmax : n ≤ maxLen)
  (h : ∀ v : Value, vcOpst .go T G (⟨d, .buildSlice t n parts, ty, pos, af, none⟩ :: rest) rest (upd env d (.own (blen m) v n)) (bpush m (.own v n e 1 (.ints k xs))) (fun _ => K .normal)) :
  Vc P (.region id (⟨d, .buildSlice t n parts, ty, pos, af, none⟩ :: rest).toArray false) env m K := by
 intro w0 B a w hf hd hm
 refine wp_region_lit ?_
 unfold wpList
 rw [if_pos (by simp [Region.wanted])]
 refine .inl ?_
 have e1 : (parts.map fun (i, x) => (i, a.eval x)) = ((evp T env parts.toList).map fun p => (p.1, cv p.2)).toArray := by
  rw [← evp_map hT.gl hf]
  apply Array.ext'
  simp
 have hr := litS_sound (P := P) hT hz w
 rw [← e1] at hr
 have hrow : (w.alloc (.cells (cc (.ints k xs)).toArray e)).ownsRow w.heap.size e 1 (.slice (some ⟨w.heap.size, 0, none⟩) n n) n (cc (.ints k xs)) := by
  have hl : (cc (.ints k xs)).length = n := by simp only [cc, List.length_map, hn]
  have hh : (w.alloc (.cells (cc (.ints k xs)).toArray e)).heap[w.heap.size]? = some (.cells (cc (.ints k xs)).toArray e (0, 0)) := by simp only [World.alloc, Array.getElem?_push_size]
  refine ⟨by rw [hl, Nat.mul_one], .inr ⟨w.heap.size, n, (cc (.ints k xs)).toArray, rfl, Nat.le_refl _, hh, Nat.le_refl _, hmax, by rw [List.size_toArray, hl, Nat.mul_one], ?_⟩⟩
  rw [List.toList_toArray, List.take_of_length_le (by rw [hl, Nat.mul_one]; exact Nat.le_refl _)]
 refine wp_of_run (w' := w.alloc (.cells (cc (.ints k xs)).toArray e)) (u := .slice (some ⟨w.heap.size, 0, none⟩) n n) (by simp only [execOp, Sem.run_bind, hr, Result.andThen_ok, Sem.run_pure]) ?_
 have hm' := hm.push (World.grownBy_alloc w (.cells (cc (.ints k xs)).toArray e) none) (e := .own (.slice (some ⟨w.heap.size, 0, none⟩) n n) n e 1 (.ints k xs)) (own_ok hrow hm.size) (fun b hb => own_fresh hrow (by simpa [Blk.nums] using hb))
 rw [← bpush_eq] at hm'
 refine vcOps_sound hT hG (ds := []) (fun e m a w h1 h2 h3 h4 => ⟨e, m, h1, h2, h3, h4⟩) rest _ _ _ _ (h (.slice (some ⟨w.heap.size, 0, none⟩) n n)) (hf.put d (.own (blen m) (.slice (some ⟨w.heap.size, 0, none⟩) n n) n)) (by rw [← hd]; cases d <;> rfl) hm'
theorem cv_sl0 (nm : Nat) (a : Option Addr) (es n c : Nat) : cv (.sl nm a 0 0 es n c) = .slice a n c := by
 simp only [cv, ite_self, Nat.zero_mul, Value.slice.injEq, and_true]
 cases a with
 | none => rfl
 | some a => simp [Addr.add]
theorem vcOps_pre {P : Program} {T : Tab} (hT : TabOk P T) {G : Ctr} (hG : GOk P G) {all : List Oper} {w0 : World} {B : List Nat} {Q : Exit → Act → World → Prop} {ds : List Deferred} {K : List SV → List Blk → Prop} {l2 : List Oper}
  (hQ : ∀ env m a w, Fr env a → a.defers = ds → MemOk w0 B m w → K env m → wpList P all.toArray Q l2 a w) : ∀ (l : List Oper) (env : List SV) (m : List Blk) (a : Act) (w : World), vcOps T G all l env m K → Fr env a → a.defers = ds → MemOk w0 B m w →
  wpList P all.toArray Q (l ++ l2) a w
 | [], env, m, a, w, h, hf, hd, hm => hQ env m a w hf hd hm h
 | o :: rest, env, m, a, w, h, hf, hd, hm => by
  rw [List.cons_append]
  unfold wpList
  rcases vcOps_step h hf with ⟨h1, h2⟩ | ⟨h1, h2⟩
  ·rw [if_pos h1]
   refine .inl (Oper.wp_mono (fun a' w' ⟨v, m', he, hm', hk⟩ => ?_) (stepK_sound hT hG h2 hf hm))
   subst he
   exact vcOps_pre hT hG hQ rest _ _ _ _ hk (hf.put o.dst v) (by rw [← hd]; cases o.dst <;> rfl) hm'
  ·rw [if_neg (by rw [h1]; simp)]
   exact vcOps_pre hT hG hQ rest _ _ _ _ h2 (hf.put o.dst .undef) (by rw [← hd]; cases o.dst <;> rfl) hm
def H0 (w : World) (b : Nat) (o : Obj) : Prop := w.heap[b]? = some o
theorem H0.hm {w : World} {m : List Blk} (hin : allOld w ∈ m) : ∀ b o, H0 w b o → HM m b o := fun b o h => ⟨_, hin, h⟩
theorem getD_of {rs : List (List SV)} {i : Nat} {r : List SV} (h : rs[i]? = some r) : rs.getD i [] = r := by rw [List.getD_eq_getElem?_getD, h]; rfl
theorem own_new {P : Program} {f : FuncId} {fn : Func} {args : Array Value} {w : World} {w0 : World} {B : List Nat} {m : List Blk} {t : TypeId} {n : Nat} {con : Con} (hf : P.funcs[f]? = some fn) (hn : (fn.name == "runtime.NumGoroutine") = false) (hb : fn.body.isNone = false) (_hm : MemOk w0 B m w)
  (h : Calls P f args w (fun e w' => ∃ u, e = .returned u ∧ ∃ v' m', u = cv v' ∧ MemOk w [] m' w' ∧ ∃ k s, v' = .own k s n ∧ bget m' k = .own s n t 1 con)) : Enters P f args w fun u w' => ∃ v, u = cv (.own (blen m) v n) ∧ w.grownBy w' .none ∧ w'.ownsRow w.heap.size t 1 v n (cc con) :=
 .inr ⟨enter_run hf hn hb _ w, h.mono fun e w' ⟨u, he, v', m', hu, hm, k, s, hv, hs⟩ => ⟨u, he, s, by rw [hu, hv]; rfl, hm.grown, own_ok0 (hm.each _ (bget_mem hs (by simp)))⟩⟩
end Go.Proofs.YthdpgfdfgidokaaDoor
