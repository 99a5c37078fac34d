/-
 Blocks that are kept: own slices frozen, callees that made some. No condition.
-/
import Derived.Test.YtoadeekdgikghaaDoorK6
import Derived.Test.YtoadeekdgikghaaDoorTie
import Derived.Lib.LaidTab
import Derived.Test.YtoadeekdgikghaaDoorEG
import Derived.Test.YtoadeekdgikghaaDoorRE
set_option maxRecDepth 10000
set_option linter.defProp false
set_option linter.unusedVariables false
set_option linter.unusedSimpArgs false
namespace Go.Proofs.YtoadeekdgikghaaDoor
open Go.ChangeShapes Go.WideShapes Go.ChangeAt Go.RowKit
def arrOf (P : Program) (g : Nat) (k : IntKind) : Bool :=
 match P.globals[g]? with
 | some v => match P.underlying v.type with
  | some (.array n e) => (match P.underlying e with | some (.int k') => decide (k' = k) | _ => false) && P.cellsOf e == 1 && P.cellsOf v.type == n
  | _ => false
 | none => false
theorem ro_of_laid {P : Program} {w : World} {name : String} {g : Nat} {k : IntKind} {zs : List Int} {t : TypeId} {cs : Array Value} {fuel : Nat} {p : List MemPlace} {H : Type} {enc : TypeId × Value → H} (hg : P.globalNamed name = some g) (ha : arrOf P g k = true)
  (h1 : ∃ g', P.globalNamed name = some g' ∧ (P.globals[g']?).map (·.type) = some t) (h3 : w.var? P name = some cs) (h4 : DataW.trod enc P w 0 (fun _ => true) false fuel t cs.toList = some (Lib.tabData k zs, p)) : RoOk w (some ⟨g, 0, none⟩) (.ints k zs) := by
 obtain ⟨g', h1, h2⟩ := h1
 rw [hg] at h1; cases h1
 unfold arrOf at ha
 split at ha
 ·rename_i v hv
  rw [hv] at h2
  cases h2
  split at ha
  ·rename_i n e hu
   simp only [Bool.and_eq_true, beq_iff_eq] at ha
   have he : P.underlying e = some (.int k) := by
    have h5 := ha.1.1
    split at h5
    ·rename_i k' hk
     rw [hk, of_decide_eq_true h5]
    ·cases h5
   have e1 := Lib.cells_of_tab hu he ha.1.2 ha.2 h4
   unfold World.var? at h3
   rw [hg] at h3
   simp only [Option.bind_some] at h3
   split at h3
   ·rename_i cs' a b hh
    cases h3
    intro j u hj
    refine ⟨g, 0, rfl, (Array.getElem?_eq_some_iff.1 hh).1, ?_⟩
    unfold World.cell?
    simp only [hh, Nat.zero_add]
    rw [← Array.getElem?_toList, e1]
    exact hj
   ·cases h3
  ·cases ha
 ·cases ha
theorem laid_two {P : Program} {w : World} {n1 n2 : String} {g1 g2 : Nat} {k1 k2 : IntKind} {z1 z2 : List Int} (h : laidMetH P [(n1, Lib.tabData k1 z1), (n2, Lib.tabData k2 z2)] w) (a1 : P.globalNamed n1 = some g1) (b1 : arrOf P g1 k1 = true) (a2 : P.globalNamed n2 = some g2) (b2 : arrOf P g2 k2 = true)
  (c1 : (Lib.tabData k1 z1 : DataW Unit).handleName? = none) (c2 : (Lib.tabData k2 z2 : DataW Unit).handleName? = none) : RoOk w (some ⟨g1, 0, none⟩) (.ints k1 z1) ∧ RoOk w (some ⟨g2, 0, none⟩) (.ints k2 z2) := by
 have h0 : laidMet P [(n1, Lib.tabData k1 z1), (n2, Lib.tabData k2 z2)] w := by
  unfold laidMetH at h
  simpa [c1, c2] using h
 obtain ⟨ps, hv, _⟩ := h0
 obtain ⟨g, t, cs, fuel, p, q, d1, d2, d3, d4, hv2, _⟩ := hv
 obtain ⟨g', t', cs', fuel', p', q', d1', d2', d3', d4', _, _⟩ := hv2
 exact ⟨ro_of_laid a1 b1 ⟨g, d1, d2⟩ d3 d4, ro_of_laid a2 b2 ⟨g', d1', d2'⟩ d3' d4'⟩
end Go.Proofs.YtoadeekdgikghaaDoor
namespace Go.Proofs.YtoadeekdgikghaaDoor
open Go.RowKit
structure Prt where
 d : Bool
 w : Nat
 bs : List Int
def PtR (H : Nat → Obj → Prop) (r : List SV) (p : Prt) : Prop :=
 ∃ (x0 x1 x2 x3 : Int) (a : Option Addr) (n c : Nat), r = [.bool p.d, .int .u64 x0, .int .u64 x1, .int .u64 x2, .int .u64 x3, .gh a n c (.ints .u8 p.bs)] ∧ allU [x0, x1, x2, x3] ∧ numI [x0, x1, x2, x3] = p.w ∧
  p.bs.length = n ∧ n ≤ c ∧ adr a n c ∧ LiesH H a (cc (.ints .u8 p.bs)) ∧ allB p.bs ∧ n ≤ maxLen
def PsR (H : Nat → Obj → Prop) (rs : List (List SV)) (l : List Prt) : Prop :=
 rs.length = l.length ∧ (∀ r ∈ rs, r.length = 6) ∧ ∀ (i : Nat) (r : List SV) (p : Prt), rs[i]? = some r → l[i]? = some p → PtR H r p
theorem numI_lt {x0 x1 x2 x3 : Int} (h : allU [x0, x1, x2, x3]) : numI [x0, x1, x2, x3] < W := by
 obtain ⟨h0, h1, h2, h3, _⟩ := h
 simp only [numI, num]
 unfold W
 omega
theorem PsR.mono {H H' : Nat → Obj → Prop} (hh : ∀ b o, H b o → H' b o) {rs : List (List SV)} {l : List Prt} (h : PsR H rs l) : PsR H' rs l :=
 ⟨h.1, h.2.1, fun i r p h1 h2 => by
  obtain ⟨x0, x1, x2, x3, a, n, c, e, g1, g2, g3, g4, g5, g6, g7, g8⟩ := h.2.2 i r p h1 h2
  exact ⟨x0, x1, x2, x3, a, n, c, e, g1, g2, g3, g4, g5, g6.mono hh, g7, g8⟩⟩
theorem PsR.uniq {H H' : Nat → Obj → Prop} {rs : List (List SV)} {l l' : List Prt} (h : PsR H rs l) (h' : PsR H' rs l') : l = l' := by
 apply List.ext_getElem?
 intro i
 by_cases hi : i < rs.length
 ·have e1 := List.getElem?_eq_getElem hi
  obtain ⟨⟨pd, pw, ps⟩, hp⟩ : ∃ p, l[i]? = some p := ⟨_, List.getElem?_eq_getElem (show i < l.length by rw [← h.1]; exact hi)⟩
  obtain ⟨⟨pd', pw', ps'⟩, hp'⟩ : ∃ p, l'[i]? = some p := ⟨_, List.getElem?_eq_getElem (show i < l'.length by rw [← h'.1]; exact hi)⟩
  rw [hp, hp']
  obtain ⟨x0, x1, x2, x3, a, n, c, e, g1, g2, g3, g4, g5, g6, g7, g8⟩ := h.2.2 i _ _ e1 hp
  obtain ⟨y0, y1, y2, y3, b, m, d, f, k1, k2, k3, k4, k5, k6, k7, k8⟩ := h'.2.2 i _ _ e1 hp'
  rw [e] at f
  simp only [List.cons.injEq, SV.bool.injEq, SV.int.injEq, SV.gh.injEq, Con.ints.injEq, true_and, and_true] at f g2 k2
  obtain ⟨rfl, rfl, rfl, rfl, rfl, f1, f2, f3, rfl⟩ := f
  rw [← g2, ← k2]
 ·rw [List.getElem?_eq_none (by rw [← h.1]; omega), List.getElem?_eq_none (by rw [← h'.1]; omega)]
end Go.Proofs.YtoadeekdgikghaaDoor
namespace Go.Proofs.YtoadeekdgikghaaDoor
open Go.RowKit
theorem ro_front {w : World} {m : List Blk} {a : Option Addr} {c : Con} (h : MemOk w [] m w) (h1 : MemOk w [] [.ro a c] w) : MemOk w [] (.ro a c :: m) w :=
 ro_cons h fun j u hj => by
  obtain ⟨b, off, e1, e2, _, e3⟩ := h1.each _ List.mem_cons_self j u hj
  exact ⟨b, off, e1, e2, e3⟩
theorem ro_ro {w0 : World} {B : List Nat} {m : List Blk} {w : World} (hm : MemOk w0 B m w) {nr : Nat} {a : Option Addr} {c : Con} (hr : bget m nr = .ro a c) : MemOk w [] [.ro a c] w :=
 ro_cons (ro_nil w) fun j u hj => by
  obtain ⟨b, off, e1, e2, _, e3⟩ := hm.each _ (bget_mem hr (by simp)) j u hj
  exact ⟨b, off, e1, Nat.lt_of_lt_of_le e2 hm.size, e3⟩
theorem bget_set_ne : ∀ (m : List Blk) {i j : Nat} (e : Blk), i ≠ j → bget (bset m j e) i = bget m i
 | [], _, _, _, _ => rfl
 | _ :: _, 0, 0, _, h => absurd rfl h
 | _ :: _, i + 1, 0, _, _ => rfl
 | _ :: _, 0, j + 1, _, _ => rfl
 | _ :: m, i + 1, j + 1, e, h => bget_set_ne m e (by omega)
def Hl (l : List (Nat × Obj)) (b : Nat) (o : Obj) : Prop := (b, o) ∈ l
theorem Hl.hm {l L : List (Nat × Obj)} {m : List Blk} (hin : Blk.heap L ∈ m) (hs : ∀ p ∈ l, p ∈ L) : ∀ b o, Hl l b o → HM m b o := fun b o h => ⟨_, hin, hs _ h⟩
theorem MemOk.set {w0 : World} {B : List Nat} {m : List Blk} {w : World} (h : MemOk w0 B m w) {k : Nat} {e0 e : Blk} (hb : bget m k = e0) (hn : e0 ≠ .gone) (he : e.ok w0 B w) (hee : e.nums.Nodup)
  (hnum : ∀ b ∈ e.nums, b ∈ e0.nums ∨ b ∉ m.flatMap Blk.nums) : MemOk w0 B (bset m k e) w := by
 have hd := nodup_bset (e := e) hb hn h.nodup hee hnum
 exact ⟨h.os, h.tape, h.output, h.size, h.old, fun x hx => (hd.2 x hx).elim (fun g => g ▸ he) (fun g => h.each x g.1), hd.1⟩
theorem nums_nodup : ∀ {m : List Blk} {i : Nat}, (m.flatMap Blk.nums).Nodup → (bget m i).nums.Nodup
 | [], _, _ => List.nodup_nil
 | x :: m, 0, h => by rw [List.flatMap_cons, List.nodup_append] at h; exact h.1
 | x :: m, i + 1, h => by rw [List.flatMap_cons, List.nodup_append] at h; exact nums_nodup (m := m) (i := i) h.2.1
theorem freeze {w0 : World} {B : List Nat} {m : List Blk} {w : World} (hm : MemOk w0 B m w) {i k : Nat} {v : Value} {n : Nat} {t : TypeId} {es : Nat} {con : Con} {L : List (Nat × Obj)} (hb : bget m i = .own v n t es con) (hk : bget m k = .heap L) :
  ∃ (l : List (Nat × Obj)) (a : Option Addr) (c : Nat), v = .slice a n c ∧ adr a n c ∧ n ≤ c ∧ n ≤ maxLen ∧ (cc con).length = n * es ∧ LiesH (Hl l) a (cc con) ∧ MemOk w0 B (bset (bset m i .gone) k (.heap (L ++ l))) w := by
 have hik : k ≠ i := by rintro rfl; rw [hb] at hk; cases hk
 obtain ⟨⟨ho1, ho2⟩, ho3⟩ := hm.each _ (bget_mem hb (by simp))
 have hd1 := nodup_bset (e := .gone) hb (by simp) hm.nodup List.nodup_nil (fun b h => absurd h List.not_mem_nil)
 have h1 : MemOk w0 B (bset m i .gone) w := hm.set hb (by simp) trivial List.nodup_nil (fun b h => absurd h List.not_mem_nil)
 have hk1 : bget (bset m i .gone) k = .heap L := by rw [bget_set_ne _ _ hik]; exact hk
 have hLo := hm.each _ (bget_mem hk (by simp))
 rcases ho2 with ⟨rfl, rfl⟩ | ⟨g, cap, cur, rfl, _, h3, h4, h5, h6, h7⟩
 ·refine ⟨[], none, 0, rfl, .inr ⟨rfl, rfl, rfl⟩, Nat.le_refl _, Nat.zero_le _, ho1, .inl (List.length_eq_zero_iff.1 (by rw [ho1, Nat.zero_mul])), ?_⟩
  rw [List.append_nil]
  exact h1.set hk1 (by simp) hLo (by have := nums_nodup (i := k) hm.nodup; rwa [hk] at this) (fun b hb => .inl hb)
 ·have hgn : g ∈ (bget m i).nums := by rw [hb]; simp [Blk.nums, Value.ownBlock]
  have hgL := nums_sep hm.nodup (Ne.symm hik) hgn
  rw [hk] at hgL
  refine ⟨[(g, .cells cur t (0, 0))], some ⟨g, 0, none⟩, cap, rfl, .inl rfl, h4, Nat.le_trans h4 h5, ho1, .inr ⟨g, 0, cur, t, (0, 0), rfl, List.mem_singleton.2 rfl, fun j u hj => ?_⟩, ?_⟩
  ·rw [← h7] at hj
   rw [Nat.zero_add, ← Array.getElem?_toList]
   rw [List.getElem?_take] at hj
   split at hj
   ·exact hj
   ·cases hj
  ·refine h1.set hk1 (by simp) (fun p hp => ?_) ?_ (fun b hbn => ?_)
   ·rcases List.mem_append.1 hp with hp | hp
    ·exact hLo p hp
    ·rw [List.mem_singleton] at hp; subst hp
     exact ⟨h3, ho3 g rfl⟩
   ·simp only [Blk.nums, List.map_append, List.map_cons, List.map_nil]
    rw [List.nodup_append]
    refine ⟨by have := nums_nodup (i := k) hm.nodup; rwa [hk] at this, by simp, fun a ha b hb2 => ?_⟩
    rw [List.mem_singleton] at hb2; subst hb2
    rintro rfl
    exact hgL ha
   ·simp only [Blk.nums, List.map_append, List.map_cons, List.map_nil] at hbn
    rcases List.mem_append.1 hbn with hbn | hbn
    ·exact .inl hbn
    ·rw [List.mem_singleton] at hbn; subst hbn
     refine .inr fun hc => ?_
     obtain ⟨x, hx, hxb⟩ := List.mem_flatMap.1 hc
     rcases hd1.2 x hx with rfl | ⟨_, h9⟩
     ·exact absurd hxb List.not_mem_nil
     ·exact h9 b (by simp [Blk.nums, Value.ownBlock]) hxb
theorem MemOk.heap0 {w0 : World} {B : List Nat} {m : List Blk} {w : World} (h : MemOk w0 B m w) : MemOk w0 B (m ++ [.heap []]) w :=
 ⟨h.os, h.tape, h.output, h.size, h.old, fun e he => by
  rcases List.mem_append.1 he with he | he
  ·exact h.each e he
  ·rw [List.mem_singleton] at he; subst he
   exact fun p hp => absurd hp List.not_mem_nil, by
  rw [List.flatMap_append]; simpa [Blk.nums] using h.nodup⟩
theorem bget_lt : ∀ {m : List Blk} {i : Nat}, bget m i ≠ .gone → i < m.length
 | [], _, h => absurd rfl h
 | _ :: _, 0, _ => by simp
 | _ :: m, i + 1, h => by have := bget_lt (m := m) (i := i) h; simp; exact this
theorem bget_appL : ∀ {m : List Blk} {i : Nat} (x : List Blk), i < m.length → bget (m ++ x) i = bget m i
 | [], _, _, h => by simp at h
 | _ :: _, 0, _, _ => rfl
 | _ :: m, i + 1, x, h => bget_appL (m := m) x (by simpa using h)
theorem bget_appR : ∀ (m : List Blk) (x : Blk), bget (m ++ [x]) m.length = x
 | [], _ => rfl
 | _ :: m, x => bget_appR m x
theorem bset_appL : ∀ {m : List Blk} {i : Nat} (x : List Blk) (e : Blk), i < m.length → bset (m ++ x) i e = bset m i e ++ x
 | [], _, _, _, h => by simp at h
 | _ :: _, 0, _, _, _ => rfl
 | y :: m, i + 1, x, e, h => by simp only [List.cons_append, bset]; rw [bset_appL (m := m) x e (by simpa using h)]
theorem bset_appR : ∀ (m : List Blk) (x e : Blk), bset (m ++ [x]) m.length e = m ++ [e]
 | [], _, _ => rfl
 | y :: m, x, e => by simp only [List.cons_append, List.length_cons, bset]; rw [bset_appR m x e]
theorem bset_length : ∀ (m : List Blk) (i : Nat) (e : Blk), (bset m i e).length = m.length
 | [], _, _ => rfl
 | _ :: _, 0, _ => rfl
 | _ :: m, i + 1, e => by simp only [bset, List.length_cons]; rw [bset_length m i e]
theorem Vc.freeze {P : Program} {c : Code} {env : List SV} {m : List Blk} {K : Kont} (i : Nat) {v : Value} {n : Nat} {t : TypeId} {es : Nat} {con : Con} (hb : bget m i = .own v n t es con)
  (h : ∀ (a : Option Addr) (cp : Nat) (l : List (Nat × Obj)), v = .slice a n cp → adr a n cp → n ≤ cp → n ≤ maxLen → (cc con).length = n * es → LiesH (Hl l) a (cc con) → Vc P c env (bpush (bset m i .gone) (.heap l)) K) : Vc P c env m K := by
 intro w0 B ac w hf hd hm
 have hi : i < m.length := bget_lt (by rw [hb]; simp)
 obtain ⟨l, a, cp, h1, h2, h3, h4, h5, h6, h7⟩ := Go.Proofs.YtoadeekdgikghaaDoor.freeze hm.heap0 (i := i) (k := m.length) (by rw [bget_appL _ hi]; exact hb) (bget_appR _ _)
 refine h a cp l h1 h2 h3 h4 h5 h6 w0 B ac w hf hd ?_
 rw [bset_appL _ _ hi, List.nil_append] at h7
 rw [bpush_eq]
 have := bset_appR (bset m i .gone) (.heap []) (.heap l)
 rw [bset_length] at this
 rwa [this] at h7
theorem Vc.pushnil {P : Program} {c : Code} {env : List SV} {m : List Blk} {K : Kont} (t : TypeId) (es : Nat) (h : Vc P c env (bpush m (.own (.slice none 0 0) 0 t es (.rows es []))) K) : Vc P c env m K := by
 intro w0 B a w hf hd hm
 refine h w0 B a w hf hd ?_
 rw [bpush_eq]
 refine hm.push (grown_refl w) ⟨⟨by simp [cc], .inl ⟨rfl, rfl⟩⟩, fun b hb => by simp [Value.ownBlock] at hb⟩ (fun b hb => ?_)
 simp [Blk.nums, Value.ownBlock] at hb
theorem lies_of_ro {w : World} {a : Option Addr} {con : Con} (h : MemOk w [] [.ro a con] w) : LiesH (H0 w) a (cc con) := by
 have h1 := h.each _ List.mem_cons_self
 cases hc : cc con with
 | nil => exact .inl rfl
 | cons u0 l =>
  rw [← hc]
  obtain ⟨b, off, rfl, h3, _, h4⟩ := h1 0 u0 (by rw [hc]; rfl)
  have hcell : ∃ arr t fr, w.heap[b]? = some (.cells arr t fr) := by
   cases ho : w.heap[b]? with
   | none => simp [World.cell?, ho] at h4
   | some o =>
    cases o with
    | cells arr t fr => exact ⟨arr, t, fr, rfl⟩
    | _ => simp [World.cell?, ho] at h4
  obtain ⟨arr, t, fr, ho⟩ := hcell
  refine .inr ⟨b, off, arr, t, fr, rfl, ho, fun j u hj => ?_⟩
  obtain ⟨b', off', e1, _, _, h5⟩ := h1 j u hj
  simp only [Option.some.injEq, Addr.mk.injEq, and_true] at e1
  obtain ⟨rfl, rfl⟩ := e1
  simpa [World.cell?, ho] using h5
theorem calls_grw {P : Program} {f : FuncId} {fn : Func} {args args' : List SV} {w0 w : World} {B : List Nat} {m : List Blk} {i : Nat} {A : Type} {Q : A → Prop} {F : A → SV} {l : A → List (Nat × Obj)}
  (hf : P.funcs[f]? = some fn) (hn : (fn.name == "runtime.NumGoroutine") = false) (hb : fn.body.isNone = false)
  (hm : MemOk w0 B m w) (he : cvs args = cvs args') (h : Calls P f (cvs args').toArray w (fun en w' => ∃ u, en = .returned u ∧ ∃ m' x, MemOk w [] m' w' ∧ Q x ∧ u = cv (F x) ∧ bget m' i = .heap (l x))) :
  Enters P f (cvs args).toArray w fun u w' => ∃ a : A, Q a ∧ u = cv (F a) ∧ w.grownBy w' .none ∧ (Blk.heap (l a)).ok w0 B w' ∧ (∀ b ∈ (Blk.heap (l a)).nums, w.heap.size ≤ b) ∧ (Blk.heap (l a)).nums.Nodup := by
 rw [he]
 refine .inr ⟨enter_run hf hn hb _ w, h.mono fun e w' ⟨u, hu, m', x, hm', hx, hv, hk⟩ => ⟨u, hu, x, hx, hv, hm'.grown, ?_⟩⟩
 have hl := hm'.each _ (bget_mem hk (by simp))
 have hfresh : ∀ p ∈ l x, w.heap.size ≤ p.1 := fun p hp => (hl p hp).2.resolve_right List.not_mem_nil
 refine ⟨fun p hp => ⟨(hl p hp).1, .inl (Nat.le_trans hm.size (hfresh p hp))⟩, fun b hb => ?_, by have := nums_nodup (i := i) hm'.nodup; rwa [hk] at this⟩
 obtain ⟨p, hp, rfl⟩ := List.mem_map.1 hb
 exact hfresh p hp
end Go.Proofs.YtoadeekdgikghaaDoor
