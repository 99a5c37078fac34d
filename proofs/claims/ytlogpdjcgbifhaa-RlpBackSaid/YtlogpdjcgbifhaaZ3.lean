/-
  RLP: appendItem of a list, behind one's own bytes, walked: a recursion through a range over a function. No condition.
-/
import Derived.Test.YtlogpdjcgbifhaaZ2
namespace Go.Proofs.Ytlogpdjcgbifhaa
set_option linter.unusedSimpArgs false
set_option linter.unusedVariables false
open Go.RowKit Go.Shelf
attribute [local go_sem] Oper.semAt_some
mutual
/-- How many nodes an item has. -/
def cntI : Itm → Nat
  | .mk _ _ ks => 1 + cntL ks
def cntL : List Itm → Nat
  | [] => 0
  | k :: ks => cntI k + cntL ks
end
theorem cntL_get : ∀ {ks : List Itm} {i : Nat} {k : Itm}, ks[i]? = some k → cntI k ≤ cntL ks
  | [], _, _, h => by simp at h
  | x :: ks, 0, k, h => by simp at h; subst h; simp only [cntL]; omega
  | x :: ks, i + 1, k, h => by simp at h; have := cntL_get h; simp only [cntL]; omega
theorem cntI_pos (t : Itm) : 1 ≤ cntI t := by cases t; simp only [cntI]; omega
theorem cntL_len : ∀ ks : List Itm, ks.length ≤ cntL ks
  | [] => Nat.zero_le _
  | k :: ks => by have h1 := cntL_len ks; have h2 := cntI_pos k; simp only [List.length_cons, cntL]; omega
/-- What appendItem does with an item. -/
def ApIt (t : Itm) : Prop := ∀ (w : World) (B : List Nat) (v : Value) (ys : List Int) (l : List SV), ItR (HB w B) l t → ys.length + 1000000 * (cntI t * cntI t) ≤ 140000000000000 → isz t ≤ 100000 →
  MemOk w B [.own v ys.length 5 1 (.ints .u8 ys)] w → Calls Try.prog 21 (cvs [.own 0 v ys.length, .agg l]).toArray w (ApR 5 .u8 w B (ys ++ (enc t).reverse))
theorem memok_own2 {w W W' : World} {B : List Nat} {v : Value} {n : Nat} {t : TypeId} {es : Nat} {con : Con} {row : Option Nat} (h : MemOk w B [.own v n t es con] W) (hg : W.grownBy W' row)
    (hr : ∀ r, row = some r → w.heap.size ≤ r ∧ v.ownBlock ≠ some r) : MemOk w B [.own v n t es con] W' := by
  have h1 := h.each _ List.mem_cons_self
  refine ⟨hg.os.trans h.os, hg.tape.trans h.tape, hg.output.trans h.output, Nat.le_trans h.size hg.size, fun k hk hkB => ?_, fun e he => ?_, h.nodup⟩
  · rw [hg.block k (Nat.lt_of_lt_of_le hk h.size) (fun e => by have := (hr k e.symm).1; omega)]
    exact h.old k hk hkB
  · rw [List.mem_singleton] at he; subst he
    exact ⟨own_grown hg h1.1 (fun b hb e => (hr b hb).2 e), h1.2⟩
theorem not_own {W : World} {v : Value} {n : Nat} {t : TypeId} {es : Nat} {xs : List Value} (h : W.ownsRow 0 t es v n xs) {r : Nat} {o : Obj} (ho : W.heap[r]? = some o) (hc : o.isCells = false) : v.ownBlock ≠ some r := fun e => by
  obtain ⟨_, h2⟩ := h
  rcases h2 with ⟨h2, _⟩ | ⟨g, cap, cur, h2, _, h3, _⟩
  · rw [h2] at e; simp [Value.ownBlock] at e
  · rw [h2] at e
    simp only [Value.ownBlock, Option.some.injEq] at e
    subst e
    rw [ho] at h3; cases h3; cases hc
theorem memok_own {w W W' : World} {B : List Nat} {v : Value} {n : Nat} {t : TypeId} {es : Nat} {con : Con} {row : Option Nat} (h : MemOk w B [.own v n t es con] W) (hg : W.grownBy W' row)
    (hr : ∀ r, row = some r → w.heap.size ≤ r ∧ ∃ o : Obj, W.heap[r]? = some o ∧ o.isCells = false) : MemOk w B [.own v n t es con] W' :=
  memok_own2 h hg fun r e => by
    obtain ⟨h1, o, h2, h3⟩ := hr r e
    exact ⟨h1, not_own (h.each _ List.mem_cons_self).1 h2 h3⟩
theorem hb_next {w W : World} {B : List Nat} {v : Value} {n : Nat} {t : TypeId} {es : Nat} {con : Con} (h : MemOk w B [.own v n t es con] W) : ∀ b o, HB w B b o → HB W v.ownBlock.toList b o := fun b o ⟨h1, h2⟩ => by
  have hlt := (Array.getElem?_eq_some_iff.1 h1).1
  refine ⟨(h.old b hlt h2).trans h1, fun hb => ?_⟩
  rw [Option.mem_toList] at hb
  rcases (h.each _ List.mem_cons_self).2 b hb with h3 | h3
  · omega
  · exact h2 h3
theorem own_form {w W : World} {B : List Nat} {v : Value} {n : Nat} {t : TypeId} {es : Nat} {con : Con} (h : MemOk w B [.own v n t es con] W) : ∃ a c, v = .slice a n c := by
  obtain ⟨⟨_, h2⟩, _⟩ := h.each _ List.mem_cons_self
  rcases h2 with ⟨rfl, rfl⟩ | ⟨g, cap, cur, rfl, _⟩
  · exact ⟨_, _, rfl⟩
  · exact ⟨_, _, rfl⟩
theorem own_form1 {w W : World} {B : List Nat} {m : List Blk} {i : Nat} {v : Value} {n : Nat} {t : TypeId} {es : Nat} {con : Con} (h : MemOk w B m W) (hb : bget m i = .own v n t es con) : ∃ a c, v = .slice a n c := by
  obtain ⟨⟨_, h2⟩, _⟩ := h.each _ (bget_mem hb (by simp))
  rcases h2 with ⟨rfl, rfl⟩ | ⟨g, cap, cur, rfl, _⟩
  · exact ⟨_, _, rfl⟩
  · exact ⟨_, _, rfl⟩
/-- A kid, with its place and what it is. -/
abbrev Kid (w : World) (B : List Nat) (d c : Nat) := { p : Nat × List SV × Itm // ItR (HB w B) p.2.1 p.2.2 ∧ isz p.2.2 < d ∧ cntI p.2.2 ≤ c ∧ isz p.2.2 ≤ 100000 }
def kid3 {w : World} {B : List Nat} {d c0 : Nat} (x : Kid w B d c0) : SV × SV × SV := (sget x.1.2.1 0, sget x.1.2.1 1, sget x.1.2.1 2)
theorem kid_cells {w : World} {B : List Nat} {d c0 : Nat} (x : Kid w B d c0) : #[cv (kid3 x).1, cv (kid3 x).2.1, cv (kid3 x).2.2] = (cvs x.1.2.1).toArray := by
  obtain ⟨⟨i, l, t⟩, hI, hd⟩ := x
  cases hI with
  | mk => rfl
theorem kid_vals {w : World} {B : List Nat} {d c0 : Nat} (x : Kid w B d c0) : ∃ lb a n c a' n' c', cv (kid3 x).1 = .bool lb ∧ cv (kid3 x).2.1 = .slice a n c ∧ cv (kid3 x).2.2 = .slice a' n' c' := by
  obtain ⟨⟨i, l, t⟩, hI, hd⟩ := x
  cases hI with
  | mk => exact ⟨_, _, _, _, _, _, _, rfl, rfl, rfl⟩
/-- What has come behind the bytes. -/
def catK {w : World} {B : List Nat} {d c0 : Nat} (ys : List Int) (pre : List (Kid w B d c0)) : List Int := ys ++ (pre.map fun x => (enc x.1.2.2).reverse).flatten
theorem catK_s {w : World} {B : List Nat} {d c0 : Nat} (ys : List Int) (pre : List (Kid w B d c0)) (x : Kid w B d c0) : catK ys (pre ++ [x]) = catK ys pre ++ (enc x.1.2.2).reverse := by
  unfold catK
  rw [List.map_append, List.flatten_append, ← List.append_assoc]
  simp
theorem catK_0 {w : World} {B : List Nat} {d c0 : Nat} (ys : List Int) : catK (w := w) (B := B) (d := d) (c0 := c0) ys [] = ys := by unfold catK; simp
theorem sq_add (c : Nat) : (1 + c) * (1 + c) = 1 + 2 * c + c * c := by rw [Nat.add_mul, Nat.mul_add, Nat.mul_add]; omega
theorem catK_len {w : World} {B : List Nat} {d c0 : Nat} (ys : List Int) : ∀ pre : List (Kid w B d c0), (catK ys pre).length ≤ ys.length + 1000000 * pre.length := fun pre => by
  unfold catK
  rw [List.length_append]
  suffices h : ((pre.map fun x => (enc x.1.2.2).reverse).flatten).length ≤ 1000000 * pre.length by omega
  induction pre with
  | nil => simp
  | cons x pre ih =>
    have h1 := enc_len x.1.2.2
    have h2 := x.2.2.2.2
    simp only [List.map_cons, List.flatten_cons, List.length_append, List.length_reverse, List.length_cons]
    omega
theorem catK_all {w : World} {B : List Nat} {d c0 : Nat} (ys : List Int) (zs : List (Kid w B d c0)) : catK ys zs.reverse = ys ++ (encL (zs.map fun x => x.1.2.2)).reverse := by
  unfold catK
  congr 1
  induction zs with
  | nil => simp [encL]
  | cons z zs ih => simp only [List.reverse_cons, List.map_append, List.flatten_append, ih, List.map_cons, encL, List.reverse_append]; simp
theorem rows_at : ∀ {rs : List (List SV)} {i : Nat} {x y z : SV}, (∀ r ∈ rs, r.length = 3) → rs[i]? = some [x, y, z] → (rs.flatMap cvs)[i * 3]? = some (cv x) ∧ (rs.flatMap cvs)[i * 3 + 1]? = some (cv y) ∧ (rs.flatMap cvs)[i * 3 + 2]? = some (cv z)
  | [], _, _, _, _, _, h => by simp at h
  | r :: rs, 0, x, y, z, _, h => by
    simp at h; subst h
    simp [cvs]
  | r :: rs, i + 1, x, y, z, ha, h => by
    have h3 := ha r List.mem_cons_self
    have hc : (cvs r).length = 3 := by rw [cvs_eq, List.length_map, h3]
    have ih := rows_at (rs := rs) (i := i) (fun r hr => ha r (List.mem_cons_of_mem _ hr)) (by simpa using h)
    have e : ∀ j, ((r :: rs).flatMap cvs)[(i + 1) * 3 + j]? = (rs.flatMap cvs)[i * 3 + j]? := fun j => by
      rw [List.flatMap_cons, List.getElem?_append_right (by omega), hc]
      congr 1; omega
    have e0 := e 0
    rw [Nat.add_zero, Nat.add_zero] at e0
    rw [e0, e 1, e 2]; exact ih
theorem isz_cnt : ∀ ks : List Itm, ks.length ≤ iszL ks
  | [] => Nat.zero_le _
  | k :: ks => by have h1 := isz_cnt ks; have h2 := isz_pos k; simp only [List.length_cons, iszL]; omega
set_option maxRecDepth 100000 in
set_option maxHeartbeats 4000000 in
theorem apItL_vc (d : Nat) (IH : ∀ t, isz t < d → ApIt t) (bs : List Int) (ks : List Itm) (hd : isz (.mk true bs ks) ≤ d) : ApIt (.mk true bs ks) := by
  intro w B v ys l hI hbd hmx hm
  cases hI with
  | @mk _ a a' n c n' c' _ rs _ h1 h2 h3 h4 h5 h6 h7 h8 h9 h10 h11 h12 h13 h14 =>
    obtain ⟨av, cp, rfl⟩ := own_form hm
    have hargs : (cvs [.own 0 (.slice av ys.length cp) ys.length, .agg [.bool true, .gh a n c (.ints .u8 bs), .gh a' n' c' (.rows 3 rs)]]).toArray = #[.slice av ys.length cp, .agg #[.bool true, .slice a n c, .slice a' n' c']] := rfl
    rw [hargs]
    refine (callsIn_wide (n := 6)).1 ?_
    have hro : Fence.wide.round = none := rfl
    have hb := fun k w => bw_in Fence.wide k trivial rfl (.slice a' n' c') ⟨_, _, _, rfl⟩ w
    refine callsIn_of_wp_marks Try.func21 rfl trivial ?_ hro
    simp only [Try.ntmps21, List.size_toArray, List.length_cons, List.length_nil, Nat.reduceAdd, Nat.reduceSub, Array.replicate_succ, Array.replicate_zero, List.push_toArray, List.append_toArray, List.nil_append, List.cons_append]
    gi_wp2_with (refine ⟨trivial, ?_⟩; gi_at_call 30; refine (hb _ _).mono ?_; rintro e w' ⟨rfl, rfl⟩)
    obtain ⟨W0, hW0⟩ : ∃ W0, (((w.alloc (.cells #[.slice av ys.length cp] 22)).alloc (.cells #[.bool true, .slice a n c, .slice a' n' c'] 25)).alloc (.cells #[.slice a' n' c'] 23)) = W0 := ⟨_, rfl⟩
    have hsz : W0.heap.size = w.heap.size + 3 := by rw [← hW0]; simp
    have hg0 : w.grownBy W0 none := by rw [← hW0]; exact ((World.grownBy_alloc w _ none).trans (World.grownBy_alloc _ _ none)).trans (World.grownBy_alloc _ _ none)
    have bB : Boxed W0 w.heap.size 22 (.slice av ys.length cp) := by rw [← hW0]; exact ((Boxed.new w _ _).alloc _).alloc _
    have bS : Boxed W0 (w.heap.size + 1 + 1) 23 (.slice a' n' c') := by
      rw [← hW0]
      have := Boxed.new ((w.alloc (.cells #[.slice av ys.length cp] 22)).alloc (.cells #[.bool true, .slice a n c, .slice a' n' c'] 25)) 23 (.slice a' n' c')
      simpa using this
    have hm0 := memok_own hm hg0 (fun r e => by cases e)
    rw [hW0]
    have hlr : ∀ i : _root_.Fin n', i.val < rs.length := fun i => by have := i.2; omega
    have hlk : ∀ i : _root_.Fin n', i.val < ks.length := fun i => by have := i.2; omega
    obtain ⟨zs, hzs⟩ : ∃ zs : List (Kid w B d (cntL ks)), zs = List.ofFn fun i : _root_.Fin n' => ⟨(i.val, rs[i.val]'(hlr i), ks[i.val]'(hlk i)), h12 i.val _ _ (List.getElem?_eq_getElem (hlr i)) (List.getElem?_eq_getElem (hlk i)), by
      have := iszL_get (List.getElem?_eq_getElem (hlk i)); simp only [isz] at hd; exact ⟨show isz ks[i.val] < d by omega, cntL_get (List.getElem?_eq_getElem (hlk i)), show isz ks[i.val] ≤ 100000 by simp only [isz] at hmx; omega⟩⟩ := ⟨_, rfl⟩
    have hzl : zs.length = n' := by rw [hzs, List.length_ofFn]
    have hzg : ∀ i (hi : i < n'), ∃ x : Kid w B d (cntL ks), zs[i]? = some x ∧ x.1 = (i, rs[i]'(hlr ⟨i, hi⟩), ks[i]'(hlk ⟨i, hi⟩)) := fun i hi => by
      rw [hzs, List.getElem?_ofFn, dif_pos hi]; exact ⟨_, rfl, rfl⟩
    have hzi : ∀ (i : Nat) (x : Kid w B d (cntL ks)), zs[i]? = some x → x.1.1 = i := fun i x hx => by
      have hi : i < n' := by rw [← hzl]; exact (List.getElem?_eq_some_iff.1 hx).1
      obtain ⟨y, hy1, hy2⟩ := hzg i hi
      rw [hx] at hy1; cases hy1; rw [hy2]
    have hzk : zs.map (fun x => x.1.2.2) = ks := by
      apply List.ext_getElem?
      intro i
      by_cases hi : i < n'
      · obtain ⟨y, hy1, hy2⟩ := hzg i hi
        rw [List.getElem?_map, hy1, Option.map_some, hy2, List.getElem?_eq_getElem (hlk ⟨i, hi⟩)]
      · rw [List.getElem?_eq_none (by rw [List.length_map, hzl]; omega), List.getElem?_eq_none (by omega)]
    have hzr : zs.map (fun x => [(kid3 x).1, (kid3 x).2.1, (kid3 x).2.2]) = rs := by
      apply List.ext_getElem?
      intro i
      by_cases hi : i < n'
      · obtain ⟨y, hy1, hy2⟩ := hzg i hi
        rw [List.getElem?_map, hy1, Option.map_some, List.getElem?_eq_getElem (hlr ⟨i, hi⟩)]
        have h3 := h9 _ (List.getElem_mem (hlr ⟨i, hi⟩))
        have hs : ∀ r : List SV, r.length = 3 → [sget r 0, sget r 1, sget r 2] = r := fun r hr => by
          match r, hr with
          | [p, q, s], _ => rfl
        show some [sget y.1.2.1 0, sget y.1.2.1 1, sget y.1.2.1 2] = _
        rw [hy2]
        exact congrArg some (hs _ h3)
      · rw [List.getElem?_eq_none (by rw [List.length_map, hzl]; omega), List.getElem?_eq_none (by omega)]
    have hKd : Kds w B W0 (.slice a' n' c') kid3 zs := by
      by_cases hn0 : n' = 0
      · exact .inl ⟨⟨_, _, by rw [hn0]⟩, List.length_eq_zero_iff.1 (by rw [hzl, hn0])⟩
      · rcases h10 with h10 | ⟨b, off, arr, t, fr, e1, ⟨e2, e3⟩, e4⟩
        · exfalso
          have := congrArg List.length h10
          match rs, h6, h9, h10 with
          | [], h6, _, _ => simp at h6; omega
          | r :: rs, _, h9, h10 =>
            have hr := h9 r List.mem_cons_self
            match r, hr, h10 with
            | [p, q, s], _, h10 => simp [cc, cvs] at h10
        · subst e1
          have hlt := (Array.getElem?_eq_some_iff.1 e2).1
          refine .inr ⟨b, off, c', by rw [hzl], hlt, e3, ?_⟩
          rw [hzr]
          intro i x y z hi
          obtain ⟨g1, g2, g3⟩ := rows_at h9 hi
          have hblk : W0.heap[b]? = some (.cells arr t fr) := (hg0.block b hlt (by simp)).trans e2
          refine ⟨?_, ?_, ?_⟩
          · simp only [World.cell?, hblk]; exact e4 _ _ g1
          · simp only [World.cell?, hblk]; rw [Nat.add_assoc]; exact e4 _ _ g2
          · simp only [World.cell?, hblk]; rw [Nat.add_assoc]; exact e4 _ _ g3
    refine wpIn_rangeFunc_ownH hro (by omega) (gf := 37) (lb := #[.pointer (some ⟨w.heap.size + 1 + 1, 0, none⟩)]) rfl trivial (enters_of Try.func37 (by kernel_rfl) rfl)
      (bw_stops Fence.wide 5 hro trivial (by omega) (w.heap.size + 1 + 1) w B (.slice a' n' c') kid3 (fun x => x.1.1) zs hzi (by have := isz_cnt ks; simp only [isz] at hmx; omega) W0 (by omega) bS hKd) KpO.t (KpO.b (by omega)) (Below.refl _ _) (fun _ => rfl)
      (fun pre W => ∃ v, Boxed W w.heap.size 22 v ∧ MemOk w B [.own v (catK ys pre).length 5 1 (.ints .u8 (catK ys pre))] W)
      (fun _ _ _ => False)
      ?hI (fun _ _ _ _ _ hs _ _ => hs) ⟨_, bB, by rw [catK_0]; exact hm0⟩
      (fun x a2 W => ∃ Bx, W.heap[Bx]? = some (.cells #[cv (kid3 x).1, cv (kid3 x).2.1, cv (kid3 x).2.2] 25 (0, 0)) ∧ w.heap.size < Bx ∧ a2 = { tmps := #[.slice av ys.length cp, .agg #[.bool true, .slice a n c, .slice a' n' c'], .pointer (some ⟨w.heap.size, 0, none⟩), .pointer (some ⟨w.heap.size + 1, 0, none⟩), .slice none 0 0, .int .i64 (ys.length : Nat), undef, .pointer (some ⟨Bx, 0, none⟩), .pointer (some ⟨w.heap.size + 1, 0, none⟩), .bool true, .bool false, undef, undef, undef, undef, .slice av ys.length cp, .int .i64 (ys.length : Nat), .pointer (some ⟨w.heap.size + 1, 2, none⟩), .slice a' n' c', .func (.func 37) #[] #[.pointer (some ⟨w.heap.size + 1 + 1, 0, none⟩)], .int .i64 (x.1.1 : Nat), .agg #[cv (kid3 x).1, cv (kid3 x).2.1, cv (kid3 x).2.2], undef, undef, undef, undef, undef, undef, undef, undef, undef], defers := [] })
      ?hAx ?assign ?body ?done ?stop
    case hI =>
      rintro s W W' row ⟨v, hv, hmW⟩ hg hr
      exact ⟨v, hv.kept hg (fun e => by have := (hr _ e.symm).1; omega), memok_own hmW hg (fun r e => ⟨by have := (hr r e).1; omega, (hr r e).2⟩)⟩
    case hAx =>
      rintro x a2 _ W W' row ⟨Bx, b1, b2, b3⟩ hg hr
      refine ⟨Bx, (hg.block Bx (Array.getElem?_eq_some_iff.1 b1).1 (fun e => ?_)).trans b1, b2, b3⟩
      obtain ⟨_, o, ho, hc⟩ := hr Bx e.symm
      rw [ho] at b1; cases b1; cases hc
    case assign =>
      rintro l pre x W K ⟨v, hv, hmW⟩ hK
      obtain ⟨lb, xa, xn, xc, xa', xn', xc', e1, e2, e3⟩ := kid_vals x
      rw [e1, e2, e3] at hK ⊢
      gi_wp2
      exact hK _ _ ((KeepsOthers.alloc _ _).from _) ⟨fun k hk _ => Below.heap_alloc W _ k (Nat.lt_of_lt_of_le hk hmW.size), fun u hu => hu.alloc _⟩ ⟨v, hv.alloc _, memok_own hmW (World.grownBy_alloc _ _ none) (fun r e => by cases e)⟩ ⟨W.heap.size, World.alloc_heap_new W _, hv.lt, rfl⟩
    case body =>
      rintro l pre x a2 W hl ⟨r, hr⟩ ⟨v, hv, hmW⟩ ⟨Bx, bX, hBx, rfl⟩ hlt
      obtain ⟨av2, cp2, rfl⟩ := own_form hmW
      have hc := hv.cell
      have hown := hmW.each _ List.mem_cons_self
      have hnb := hv.not_row (by decide) hown.1
      have hcl := catK_len ys pre
      have hkl := cntL_len ks
      have hkk : cntI x.1.2.2 * cntI x.1.2.2 ≤ cntL ks * cntL ks := Nat.mul_le_mul x.2.2.2.1 x.2.2.2.1
      have hcall := IH x.1.2.2 x.2.2.1 W _ _ (catK ys pre) x.1.2.1 (x.2.1.mono (hb_next hmW)) (by
        simp only [cntI] at hbd
        rw [sq_add] at hbd
        omega) x.2.2.2.2 (own_start (nm := 0) hmW rfl)
      have hca : (cvs [.own 0 (.slice av2 (catK ys pre).length cp2) (catK ys pre).length, .agg x.1.2.1]).toArray = #[.slice av2 (catK ys pre).length cp2, .agg #[cv (kid3 x).1, cv (kid3 x).2.1, cv (kid3 x).2.2]] := by
        rw [kid_cells]; rfl
      rw [hca, ← catK_s] at hcall
      have c0 : W.cell? ⟨Bx, 0, none⟩ = some (cv (kid3 x).1) := by simp only [World.cell?, bX]; rfl
      have c1 : W.cell? ⟨Bx, 1, none⟩ = some (cv (kid3 x).2.1) := by simp only [World.cell?, bX]; rfl
      have c2 : W.cell? ⟨Bx, 2, none⟩ = some (cv (kid3 x).2.2) := by simp only [World.cell?, bX]; rfl
      gi_wp2_with (refine ⟨trivial, ?_⟩; gi_at_call 21; refine (CallsIn.inRound l (callsIn_wide.2 hcall)).mono ?_; rintro e w2 ⟨u, rfl, v1, m2, rfl, hm2, s, rfl, hs⟩; obtain ⟨sa, sc, rfl⟩ := own_form1 hm2 hs; have hv2 := (hm2.old w.heap.size hv.lt (fun h => hnb (by rw [Option.mem_toList] at h; exact h.symm))).trans hv; have hc2 := Boxed.cell hv2; have hf2 := Boxed.frozen hv2; simp only [cv, slV])
      have hg2 := grown_own hm2
      have ho2 := hm2.each _ (bget_mem hs (by simp))
      have hm3 := own_end (nm := 0) hmW rfl hm2 ho2
      simp only [bset] at hm3
      have hn2 := Boxed.not_row hv2 (by decide) ho2.1
      refine ⟨((KeepsOthers.of_grownBy hg2 fun j o ej hj => ?_).trans (KeepsOthers.setCell _ _ _)).from _, ⟨fun k hk hkB => ?_, fun u hu => ?_⟩, _, Boxed.set _ hv2, memok_own2 hm3 (grownBy_setCell' _ _ _) fun r e => ?_⟩
      · cases hc : o.isCells with
        | true => rfl
        | false => exact absurd ej (not_own hown.1 hj hc)
      · have h1 : k ≠ w.heap.size := by omega
        have h2 := hm2.old k (Nat.lt_of_lt_of_le hk hmW.size) (fun h => by
          rw [Option.mem_toList] at h
          rcases hown.2 k h with h3 | h3
          · omega
          · exact hkB h3)
        rw [← h2]
        exact (grownBy_setCell' w2 w.heap.size _).block k (Nat.lt_of_lt_of_le hk (Nat.le_trans hmW.size hm2.size)) (fun e => h1 (by cases e; rfl))
      · have h1 : Boxed w2 (w.heap.size + 1 + 1) 23 u := (hm2.old _ hu.lt (fun h => hu.not_row (by decide) hown.1 (by rw [Option.mem_toList] at h; exact h.symm))).trans hu
        exact h1.other (by omega) _
      · cases e
        exact ⟨Nat.le_refl _, fun e => hn2 e.symm⟩
    case done =>
      rintro D xs W hD rfl ⟨v, hv, hmW⟩ hK
      rw [catK_all, hzk] at hmW
      obtain ⟨av2, cp2, rfl⟩ := own_form hmW
      have hc := hv.cell
      have hown := hmW.each _ List.mem_cons_self
      have hel := encL_len ks
      have hsq := sq_add (cntL ks)
      have hll : (ys ++ (encL ks).reverse).length = ys.length + (encL ks).length := by rw [List.length_append, List.length_reverse]
      have hfin : ys ++ (enc (.mk true bs ks)).reverse = (ys ++ (encL ks).reverse) ++ hdR 192 (encL ks).length := by
        rw [enc_list, List.reverse_append, List.append_assoc]; unfold hdB; rw [List.reverse_reverse]
      replace hfin := And.intro hfin True.intro
      generalize ys ++ (encL ks).reverse = Y at *
      simp only [isz] at hmx
      simp only [cntI] at hbd
      have hcall := apHead_vc 192 (encL ks).length (by omega) (by omega) Y _ (by omega) _ W (own_start (nm := 0) hmW rfl)
      have hca : (cvs [.own 0 (.slice av2 Y.length cp2) Y.length, .int .u8 192, .int .i64 ((encL ks).length : Nat)]).toArray = #[.slice av2 Y.length cp2, .int .u8 192, .int .i64 ((encL ks).length : Nat)] := rfl
      have hdif : ((Y.length : Nat) : Int) - (ys.length : Nat) = ((encL ks).length : Nat) := by omega
      rw [hca] at hcall
      clear hll
      gi_wp2_with (refine ⟨trivial, ?_⟩; gi_at_call 31; (try rw [hdif]); refine (callsIn_wide.2 hcall).mono ?_; rintro e w2 ⟨u, rfl, v1, m2, rfl, hm2, s, rfl, hs⟩; obtain ⟨sa, sc, rfl⟩ := own_form1 hm2 hs; simp only [cv, slV])
      have hg2 := grown_own hm2
      have ho2 := hm2.each _ (bget_mem hs (by simp))
      have hm3 := own_end (nm := 0) hmW rfl hm2 ho2
      simp only [bset] at hm3
      have hDn : D ∉ (Value.slice av2 Y.length cp2).ownBlock.toList := fun h => by
        rw [Option.mem_toList] at h
        exact not_own hown.1 hK rfl h
      have hK2 : w2.heap[D]? = some (.deferred (some [])) := (hm2.old D (Array.getElem?_eq_some_iff.1 hK).1 hDn).trans hK
      refine ⟨by simp, .inl ⟨_, _, rfl, run_takeDeferred hK2, ?_⟩⟩
      have hm4 := memok_own hm3 (grownBy_putObj' w2 D (.deferred none)) (fun r e => by cases e; exact ⟨by omega, _, hK2, rfl⟩)
      refine ⟨_, results_tmp rfl _ _ _, ?_⟩
      refine ⟨.slice sa (Y ++ hdR 192 (encL ks).length).length sc, rfl, .own 0 (.slice sa (Y ++ hdR 192 (encL ks).length).length sc) (Y ++ hdR 192 (encL ks).length).length, _, rfl, hm4, .slice sa (Y ++ hdR 192 (encL ks).length).length sc, ?_, ?_⟩
      · rw [hfin.1]
      · rw [hfin.1]; rfl
    case stop =>
      rintro D c pre W _ _ h _
      exact h.elim
end Go.Proofs.Ytlogpdjcgbifhaa
