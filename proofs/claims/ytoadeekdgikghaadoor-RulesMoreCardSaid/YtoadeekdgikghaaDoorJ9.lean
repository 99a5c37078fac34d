/-
 Package rules: what a role's events violate, as cells and as data. No condition.
-/
import Derived.Test.YtoadeekdgikghaaDoorJ8
set_option maxRecDepth 20000
set_option linter.unusedVariables false
set_option linter.unusedSimpArgs false
namespace Go.Proofs.YtoadeekdgikghaaDoor
open Go.RowKit
def oldBut (w : World) (b : Nat) : Blk := .old fun b' => if b' = b then none else w.heap[b']?
def HBut (w : World) (b b' : Nat) (o : Obj) : Prop := b' ≠ b ∧ w.heap[b']? = some o
theorem HBut.hm {w : World} {b : Nat} {m : List Blk} (hin : oldBut w b ∈ m) : ∀ b' o, HBut w b b' o → HM m b' o := fun b' o h => ⟨_, hin, by
 show (if b' = b then none else w.heap[b']?) = some o
 rw [if_neg h.1]; exact h.2⟩
theorem turn_old {w0 : World} {B : List Nat} {m : List Blk} {w : World} (hm : MemOk w0 B m w) {nm b : Nat} {t : TypeId} {con : Con} (hb : bget m nm = .blk b t con) : MemOk w [b] [.blk b t con, oldBut w b] w :=
 ⟨rfl, rfl, rfl, Nat.le_refl _, fun _ _ _ => rfl, fun e he => by
  rcases List.mem_cons.1 he with rfl | he
  ·exact ⟨(hm.each _ (bget_mem hb (by simp))).1, .inr List.mem_cons_self⟩
  ·rw [List.mem_singleton] at he; subst he
   intro b' o h
   have h1 : (if b' = b then none else w.heap[b']?) = some o := h
   split at h1
   ·cases h1
   ·rename_i hne
    exact ⟨h1, (Array.getElem?_eq_some_iff.1 h1).1, by rw [List.mem_singleton]; exact hne⟩, by simp [Blk.nums, oldBut]⟩
theorem bget_set_eq : ∀ {m : List Blk} {i : Nat} {e0 : Blk} (e : Blk), bget m i = e0 → e0 ≠ .gone → bget (bset m i e) i = e
 | [], _, _, _, h, hn => absurd h.symm hn
 | _ :: _, 0, _, _, _, _ => rfl
 | _ :: m, i + 1, _, e, h, hn => bget_set_eq (m := m) (i := i) e h hn
theorem HM.but {w0 : World} {B : List Nat} {m : List Blk} {w : World} (hm : MemOk w0 B m w) {nm b : Nat} {t : TypeId} {con : Con} (hb : bget m nm = .blk b t con) : ∀ b' o, HM (bset m nm .gone) b' o → HBut w b b' o := by
 intro b' o ⟨e, he, hf⟩
 obtain ⟨i, hi⟩ := bget_at he
 have hne : i ≠ nm := by
  rintro rfl
  rw [bget_set_eq .gone hb (by simp)] at hi; subst hi; exact hf
 have hi' : bget m i = e := by rw [← hi, bget_set_ne _ _ hne]
 have hem : e ∈ m := bget_mem hi' (by rintro rfl; exact hf)
 refine ⟨?_, MemOk.hm hm ⟨e, hem, hf⟩⟩
 rintro rfl
 have h1 : b' ∈ (bget m nm).nums := by rw [hb]; simp [Blk.nums]
 have h2 := nums_sep hm.nodup (Ne.symm hne) h1
 rw [hi'] at h2
 have hbb := (hm.each _ (bget_mem hb (by simp))).2
 cases e with
 | blk b2 t' c' => obtain ⟨rfl, _⟩ := hf; exact h2 (by simp [Blk.nums])
 | heap l => exact h2 (List.mem_map_of_mem hf)
 | old g =>
  obtain ⟨_, h4, h5⟩ := hm.each _ hem b' o hf
  rcases hbb with h6 | h6
  ·omega
  ·exact h5 h6
 | _ => exact hf

theorem bset_twice : ∀ (m : List Blk) (i : Nat) (a b : Blk), bset (bset m i a) i b = bset m i b
 | [], _, _, _ => rfl
 | _ :: _, 0, _, _ => rfl
 | _ :: m, i + 1, a, b => by simp only [bset, bset_twice m i a b]
theorem turn_gone {w0 : World} {B : List Nat} {m m' : List Blk} {w w' : World} (hm : MemOk w0 B m w) {nm b : Nat} {t : TypeId} {con : Con} (hb : bget m nm = .blk b t con) (h : MemOk w [b] m' w') {k k2 : Nat} {v : Value} {n : Nat} {t2 t3 : TypeId} {es : Nat} {con2 con3 : Con}
  (hk : bget m' k = .own v n t2 es con2) (hk2 : bget m' k2 = .blk b t3 con3) : MemOk w0 B (bpush (bset m nm .gone) (.own v n t2 es con2)) w' := by
 have hne : k ≠ k2 := by rintro rfl; rw [hk] at hk2; cases hk2
 have h1 := turn_end hm hb h hk2
 have hb1 : bget (bset m nm (.blk b t3 con3)) nm = .blk b t3 con3 := bget_set_eq _ hb (by simp)
 have h2 := h1.set hb1 (by simp) (e := .gone) trivial List.nodup_nil (fun b h => absurd h List.not_mem_nil)
 rw [bset_twice] at h2
 have ho := h.each _ (bget_mem hk (by simp))
 have hfr : ∀ g, v.ownBlock = some g → w.heap.size ≤ g := fun g hg => by
  rcases ho.2 g hg with h3 | h3
  ·exact h3
  ·obtain rfl := List.mem_singleton.1 h3
   have h4 : g ∈ (bget m' k2).nums := by rw [hk2]; simp [Blk.nums]
   have h5 := nums_sep h.nodup (Ne.symm hne) h4
   rw [hk] at h5
   exact absurd (by simp [Blk.nums, hg]) h5
 rw [bpush_eq]
 refine ⟨h2.os, h2.tape, h2.output, h2.size, h2.old, fun e he => ?_, ?_⟩
 ·rcases List.mem_append.1 he with he | he
  ·exact h2.each e he
  ·obtain rfl := List.mem_singleton.1 he
   exact ⟨ho.1, fun g hg => .inl (Nat.le_trans hm.size (hfr g hg))⟩
 ·rw [List.flatMap_append, List.nodup_append]
  refine ⟨h2.nodup, ?_, fun x hx y hy => ?_⟩
  ·have := nums_nodup (i := k) h.nodup
   rw [hk] at this
   simpa using this
  ·simp only [List.flatMap_cons, List.flatMap_nil, List.append_nil, Blk.nums, Option.mem_toList] at hy
   rintro rfl
   have hd0 := nodup_bset (e := .gone) hb (by simp) hm.nodup List.nodup_nil (fun b h => absurd h List.not_mem_nil)
   obtain ⟨e, he, hxe⟩ := List.mem_flatMap.1 hx
   rcases hd0.2 e he with rfl | ⟨h6, _⟩
   ·exact absurd hxe List.not_mem_nil
   ·have := bnum_lt (hm.each e h6) hxe
    have := hfr x hy
    omega
def mkP (wS : SV) (ol : List SV) (role : Int) (b0 b1 b2 b3 : Bool) (y0 y1 y2 y3 : SV) : List SV := wS :: (ol ++ [.int .u8 role, .bool b0, .bool b1, .bool b2, .bool b3, y0, y1, y2, y3])
theorem takeN_gen : ∀ (l : List SV) (j n : Nat), j + n ≤ l.length → takeN l j n = some ((l.drop j).take n)
 | _, 0, 0, _ => by simp [takeN]
 | x :: l, 0, n + 1, h => by
  have := takeN_gen l 0 n (by simp at h; omega)
  simp only [takeN, this, List.drop_zero, List.take_succ_cons]
 | x :: l, j + 1, n, h => by
  have := takeN_gen l j n (by simp at h; omega)
  cases n <;> simp only [takeN, this, List.drop_succ_cons]
 | [], 0, n + 1, h => by simp only [List.length_nil] at h; omega
 | [], j + 1, n, h => by simp only [List.length_nil] at h; omega
theorem splice_gen : ∀ (l : List SV) (j : Nat) (ys : List SV), j + ys.length ≤ l.length → splice l j ys = some (l.take j ++ ys ++ l.drop (j + ys.length))
 | l, 0, [], _ => by cases l <;> simp [splice]
 | x :: l, 0, y :: ys, h => by
  have := splice_gen l 0 ys (by simp at h ⊢; omega)
  simp only [splice, this]; simp
 | x :: l, j + 1, ys, h => by
  have := splice_gen l j ys (by simp at h ⊢; omega)
  cases ys <;> simp only [splice, this] <;> simp [show ∀ a : Nat, j + 1 + (a + 1) = (j + (a + 1)) + 1 from fun a => by omega]
 | [], 0, y :: ys, h => by simp at h
 | [], j + 1, ys, h => by simp at h
section
variable {wS : SV} {ol : List SV} {role : Int} {b0 b1 b2 b3 : Bool} {y0 y1 y2 y3 x : SV}
theorem mkP_len (h : ol.length = 83) : (mkP wS ol role b0 b1 b2 b3 y0 y1 y2 y3).length = 93 := by simp [mkP, h]
theorem mkP_hi (h : ol.length = 83) (i : Nat) : nth? (mkP wS ol role b0 b1 b2 b3 y0 y1 y2 y3) (84 + i) = nth? [.int .u8 role, .bool b0, .bool b1, .bool b2, .bool b3, y0, y1, y2, y3] i := by
 rw [nth?_get, nth?_get]
 unfold mkP
 rw [show 84 + i = (83 + i) + 1 by omega, List.getElem?_cons_succ, List.getElem?_append_right (by omega), h]
 congr 1; omega
theorem mkP_lo (h : ol.length = 83) (i : Nat) (hi : i < 83) : nth? (mkP wS ol role b0 b1 b2 b3 y0 y1 y2 y3) (i + 1) = nth? ol i := by
 rw [nth?_get, nth?_get]
 unfold mkP
 rw [List.getElem?_cons_succ, List.getElem?_append_left (by omega)]
theorem mkP_tk (h : ol.length = 83) (i n : Nat) (hi : i + n ≤ 83) : takeN (mkP wS ol role b0 b1 b2 b3 y0 y1 y2 y3) (i + 1) n = takeN ol i n := by
 rw [takeN_gen _ _ _ (by rw [mkP_len h]; omega), takeN_gen _ _ _ (by omega)]
 unfold mkP
 rw [List.drop_succ_cons, List.drop_append_of_le_length (by omega), List.take_append_of_le_length (by rw [List.length_drop]; omega)]
theorem mkP_s0 (h : ol.length = 83) : splice (mkP wS ol role b0 b1 b2 b3 y0 y1 y2 y3) 89 [x] = some (mkP wS ol role b0 b1 b2 b3 x y1 y2 y3) := by
 rw [splice_gen _ _ _ (by rw [mkP_len h]; simp)]
 simp [mkP, h, List.take_append, List.drop_append, List.take_of_length_le, List.drop_of_length_le]
theorem mkP_s1 (h : ol.length = 83) : splice (mkP wS ol role b0 b1 b2 b3 y0 y1 y2 y3) 90 [x] = some (mkP wS ol role b0 b1 b2 b3 y0 x y2 y3) := by
 rw [splice_gen _ _ _ (by rw [mkP_len h]; simp)]
 simp [mkP, h, List.take_append, List.drop_append, List.take_of_length_le, List.drop_of_length_le]
theorem mkP_s2 (h : ol.length = 83) : splice (mkP wS ol role b0 b1 b2 b3 y0 y1 y2 y3) 91 [x] = some (mkP wS ol role b0 b1 b2 b3 y0 y1 x y3) := by
 rw [splice_gen _ _ _ (by rw [mkP_len h]; simp)]
 simp [mkP, h, List.take_append, List.drop_append, List.take_of_length_le, List.drop_of_length_le]
theorem mkP_s3 (h : ol.length = 83) : splice (mkP wS ol role b0 b1 b2 b3 y0 y1 y2 y3) 92 [x] = some (mkP wS ol role b0 b1 b2 b3 y0 y1 y2 x) := by
 rw [splice_gen _ _ _ (by rw [mkP_len h]; simp)]
 simp [mkP, h, List.take_append, List.drop_append, List.take_of_length_le, List.drop_of_length_le]
end
instance : Inhabited Evt := ⟨⟨0, 0, [], 0, 0, [], 0⟩⟩
def stepE (E0 : JE) (l : List Evt) (k : Nat) : JE := { E0 with e := l.getD k default, i := (k : Nat), lo := evSel looseE 0 l, sv := evSel starvedE 0 l, mkr := mkIx (E0.role : Nat) l, hs := l.filter hashE }
def rowV (E : JE) (v : Int) : List SV := [.int .u8 v, .int .u8 (E.role : Nat), .int .i64 E.i]
def rowsE (E : JE) : List (List SV) := (vioE E 8).map (rowV E)
def brkR (E0 : JE) (l : List Evt) (k : Nat) : List (List SV) := (List.range k).flatMap fun j => rowsE (stepE E0 l j)
theorem brkR_s (E0 : JE) (l : List Evt) (k : Nat) : brkR E0 l (k + 1) = brkR E0 l k ++ rowsE (stepE E0 l k) := by
 unfold brkR
 rw [List.range_succ, List.flatMap_append]
 simp
theorem rowsE_len (E : JE) : (rowsE E).length ≤ 8 := by unfold rowsE; rw [List.length_map]; exact vioE_len E 8
theorem brkR_len (E0 : JE) (l : List Evt) : ∀ k, (brkR E0 l k).length ≤ 8 * k
 | 0 => Nat.le_refl _
 | k + 1 => by
  rw [brkR_s, List.length_append]
  have := brkR_len E0 l k
  have := rowsE_len (stepE E0 l k)
  omega
theorem evsR_filter {H : Nat → Obj → Prop} : ∀ {rs : List (List SV)} {l : List Evt}, EvsR H rs l → EvsR H (rs.filter hashR) (l.filter hashE)
 | [], [], _ => ⟨rfl, (fun r h => absurd h List.not_mem_nil), (fun i r e h _ => by simp at h)⟩
 | r :: rs, e :: l, h => by
  have hp := h.2.2 0 r e rfl rfl
  have ht : EvsR H rs l := ⟨by have := h.1; simpa using this, fun x hx => h.2.1 x (List.mem_cons_of_mem _ hx), fun i x y hx hy => h.2.2 (i + 1) x y hx hy⟩
  have ih := evsR_filter ht
  have he : hashR r = hashE e := by unfold hashR hashE; rw [evtOf_eq hp]
  by_cases hh : hashE e = true
  ·rw [List.filter_cons_of_pos (by rw [he]; exact hh), List.filter_cons_of_pos hh]
   refine ⟨by simp [ih.1], fun x hx => ?_, fun i x y hx hy => ?_⟩
   ·rcases List.mem_cons.1 hx with rfl | hx
    ·exact h.2.1 x List.mem_cons_self
    ·exact ih.2.1 x hx
   ·match i, hx, hy with
    | 0, hx, hy => cases hx; cases hy; exact hp
    | i + 1, hx, hy => exact ih.2.2 i x y hx hy
  ·rw [List.filter_cons_of_neg (by rw [he]; exact hh), List.filter_cons_of_neg hh]
   exact ih
 | [], _ :: _, h => by have := h.1; simp at this
 | _ :: _, [], h => by have := h.1; simp at this
theorem mkP_ok {H : Nat → Obj → Prop} {E : JE} {pb wp : Nat} {wc ol : List SV} {la sa : Option Addr} {lc sc hb : Nat} {ha : Option Addr} {hn hc : Nat} {hr : List (List SV)} {P : List SV}
  (hP : P = mkP (.gp (some ⟨wp, 0, none⟩) (.cells wc) 0 0 0) ol (E.role : Nat) (E.stk 0) (E.stk 1) (E.stk 2) (E.stk 3) (.gh la E.lo.length lc (.ints .i64 E.lo)) (.gh sa E.sv.length sc (.ints .i64 E.sv)) (.int .i64 E.mkr) (.fn (.func 32) [] [.gp (some ⟨hb, 0, none⟩) (.cells [.gh ha hn hc (.rows 32 hr)]) 0 0 0]))
  (hl : LiesH H (some ⟨pb, 0, none⟩) (cc (.cells P))) (hO : OpR H ol E.x) (hW : WdH H E.acc wp wc) (hrl : E.role = 1 ∨ E.role = 2 ∨ E.role = 3) (hL : SlI H la E.lo.length lc E.lo) (hS : SlI H sa E.sv.length sc E.sv)
  (hB : LiesH H (some ⟨hb, 0, none⟩) (cc (.cells [.gh ha hn hc (.rows 32 hr)]))) (hE : EvL H ha hn hc hr E.hs) (hM : hn ≤ 1000000) : PaR H E pb P := by
 subst hP
 have h8 := hO.len
 refine ⟨hl, mkP_len h8, ?_, ⟨wp, wc, rfl, hW⟩, ⟨ol, ?_, hO⟩, ?_, ?_, mkP_hi h8 0, hrl, mkP_hi h8 1, mkP_hi h8 2, mkP_hi h8 3, mkP_hi h8 4, ⟨la, _, lc, mkP_hi h8 5, hL⟩, ⟨sa, _, sc, mkP_hi h8 6, hS⟩, mkP_hi h8 7, ⟨hb, ha, hn, hc, hr, mkP_hi h8 8, hB, hE, hM⟩⟩
 ·unfold mkP
  exact allOne_app (a := _ :: ol) (by simp only [allOne, oneS]; exact hO.one) rfl
 ·rw [mkP_tk h8 0 83 (Nat.le_refl _)]; exact hO.all
 ·rw [mkP_tk h8 0 20 (by omega)]; exact hO.c0
 ·rw [mkP_lo h8 24 (by omega)]; exact hO.c24
theorem st_ok {H : Nat → Obj → Prop} {E : JE} {r : List SV} {pb : Nat} {P : List SV} (hR : EvR H r E.e) (hP : PaR H E pb P) (k0 : LiesH H (some ⟨0, 0, none⟩) (cc (.ints .u64 kKeys))) (k1 : LiesH H (some ⟨1, 0, none⟩) (cc (.ints .u8 kPathI))) : StOk E H (r ++ [.gp (some ⟨pb, 0, none⟩) (.cells P) 0 0 0, .int .i64 E.i]) := by
 obtain ⟨s0, s1, s2, s3, s4, s5, s6, s7, s8, s9, s10, s11, s12, s13, s14, s15, s16, s17, s18, s19, x0, x1, x2, x3, z0, z1, z2, z3, a, n, c, rfl, g2, g3, g4, g5, g6, g7, g8, g9, g10, g11, g12, g13, g14, g15, g16, g17, g18⟩ := hR
 refine ⟨rfl, rfl, rfl, rfl, by rw [g2]; rfl, ⟨x0, x1, x2, x3, rfl, g4, g5⟩, ⟨z0, z1, z2, z3, rfl, g6, g7⟩, ⟨a, n, c, rfl, g8, g9, g10, g11, g12, g13⟩, rfl, ⟨pb, P, rfl, hP⟩, rfl, by rw [g2]; rfl, g3, g14, g15, g17, g18, k0, k1⟩
end Go.Proofs.YtoadeekdgikghaaDoor
