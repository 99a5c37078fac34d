/-
 Slices of words as a law is handed them: opened and shut. No condition.
-/
import Derived.Test.YtoadeekdgikghaaDoorU4
import Derived.Test.YtoadeekdgikghaaDoorKC
import Derived.Test.YtoadeekdgikghaaDoorYc
import Derived.Test.YtoadeekdgikghaaDoorWD
import Derived.Test.YtoadeekdgikghaaDoorHK
import Derived.Test.YtoadeekdgikghaaDoorCards
import Derived.Test.YtoadeekdgikghaaDoorTie
import Derived.Deep.DeepHandedRow
import Derived.Lib.LaidTab
import Derived.LaidHandle
import Derived.OpenShut
import Derived.Test.YtoadeekdgikghaaDoorRE
import Derived.Deep.Slices
set_option linter.unusedVariables false
set_option linter.unusedSimpArgs false
namespace Go.Proofs.YtoadeekdgikghaaDoor
set_option maxRecDepth 20000
open Go.RowKit Go.MapKept
def MapH (H : Nat → Obj → Prop) (b : Nat) (ks : List CK) (f : List Int → Option Value) : Prop := ∃ es clock, H b (.map es clock) ∧ Stamped es clock ∧ MapR ks es.toList f
theorem MapH.mono {H H' : Nat → Obj → Prop} {b : Nat} {ks : List CK} {f : List Int → Option Value} (h : MapH H b ks f) (hH : ∀ b o, H b o → H' b o) : MapH H' b ks f := by
 obtain ⟨es, c, h1, h2⟩ := h
 exact ⟨es, c, hH _ _ h1, h2⟩
theorem MapH.is {w0 : World} {B : List Nat} {m : List Blk} {w : World} (hm : MemOk w0 B m w) {b : Nat} {ks : List CK} {f : List Int → Option Value} (h : MapH (HM m) b ks f) : MapIs w b ks f := by
 obtain ⟨es, c, h1, h2⟩ := h
 exact ⟨es, c, hm.hm h1, h2⟩
def WdH (H : Nat → Obj → Prop) (acc : List Int → Acc) (wp : Nat) (wc : List SV) : Prop := ∃ a q, wc = .mpv 1 a :: q ∧ LiesH H (some ⟨wp, 0, none⟩) (cc (.cells wc)) ∧ MapH H a ck_83 (fun c => (accF acc c).map cv) ∧ ∀ c, okAcc (acc c) ∧ (acc c).c.length ≤ 1000000
theorem WdH.mono {H H' : Nat → Obj → Prop} {acc : List Int → Acc} {wp : Nat} {wc : List SV} (h : WdH H acc wp wc) (hH : ∀ b o, H b o → H' b o) : WdH H' acc wp wc := by
 obtain ⟨a, q, h1, h2, h3, h4⟩ := h
 exact ⟨a, q, h1, h2.mono hH, h3.mono hH, h4⟩
structure SlI (H : Nat → Obj → Prop) (a : Option Addr) (n c : Nat) (xs : List Int) : Prop where
 len : xs.length = n
 le : n ≤ c
 adr : adr a n c
 max : n ≤ 1000000
 lies : LiesH H a (cc (.ints .i64 xs))
theorem SlI.mono {H H' : Nat → Obj → Prop} {a : Option Addr} {n c : Nat} {xs : List Int} (h : SlI H a n c xs) (hH : ∀ b o, H b o → H' b o) : SlI H' a n c xs := ⟨h.1, h.2, h.3, h.4, h.5.mono hH⟩
structure JE where
 e : Evt
 i : Int
 x : OpD
 role : Nat
 stk : Nat → Bool
 lo : List Int
 sv : List Int
 mkr : Int
 hs : List Evt
 acc : List Int → Acc
structure PaR (H : Nat → Obj → Prop) (E : JE) (pb : Nat) (P : List SV) : Prop where
 lies : LiesH H (some ⟨pb, 0, none⟩) (cc (.cells P))
 len : P.length = 93
 one : allOne P = true
 w : ∃ wp wc, nth? P 0 = some (.gp (some ⟨wp, 0, none⟩) (.cells wc) 0 0 0) ∧ WdH H E.acc wp wc
 op : ∃ ol, takeN P 1 83 = some ol ∧ OpR H ol E.x
 snd : takeN P 1 20 = some (bL E.x.snd)
 hf : nth? P 25 = some (.bool E.x.hf)
 ro : nth? P 84 = some (.int .u8 (E.role : Nat))
 rl : E.role = 1 ∨ E.role = 2 ∨ E.role = 3
 s0 : nth? P 85 = some (.bool (E.stk 0))
 s1 : nth? P 86 = some (.bool (E.stk 1))
 s2 : nth? P 87 = some (.bool (E.stk 2))
 s3 : nth? P 88 = some (.bool (E.stk 3))
 lo : ∃ a n c, nth? P 89 = some (.gh a n c (.ints .i64 E.lo)) ∧ SlI H a n c E.lo
 sv : ∃ a n c, nth? P 90 = some (.gh a n c (.ints .i64 E.sv)) ∧ SlI H a n c E.sv
 mkr : nth? P 91 = some (.int .i64 E.mkr)
 hs : ∃ b a n c rs, nth? P 92 = some (.fn (.func 32) [] [.gp (some ⟨b, 0, none⟩) (.cells [.gh a n c (.rows 32 rs)]) 0 0 0]) ∧ LiesH H (some ⟨b, 0, none⟩) (cc (.cells [.gh a n c (.rows 32 rs)])) ∧ EvL H a n c rs E.hs ∧ n ≤ 1000000
theorem PaR.mono {H H' : Nat → Obj → Prop} {E : JE} {pb : Nat} {P : List SV} (h : PaR H E pb P) (hH : ∀ b o, H b o → H' b o) : PaR H' E pb P := by
 obtain ⟨p1, p2, p3, ⟨wp, wc, r0, hW⟩, ⟨ol, r1, hO⟩, rS, r25, r84, rl, r85, r86, r87, r88, ⟨la, ln, lc, r89, hL⟩, ⟨sa, sn, sc, r90, hV⟩, r91, ⟨hb, ha, hn, hc, hr, r92, h1, h2, h3⟩⟩ := h
 exact ⟨p1.mono hH, p2, p3, ⟨wp, wc, r0, hW.mono hH⟩, ⟨ol, r1, hO.mono hH⟩, rS, r25, r84, rl, r85, r86, r87, r88, ⟨la, ln, lc, r89, hL.mono hH⟩, ⟨sa, sn, sc, r90, hV.mono hH⟩, r91, ⟨hb, ha, hn, hc, hr, r92, h1.mono hH, h2.mono hH, h3⟩⟩
structure StOk (E : JE) (H : Nat → Obj → Prop) (st : List SV) : Prop where
 len : st.length = 34
 one : allOne st = true
 all : takeN st 0 34 = some st
 c0 : nth? st 0 = some (.int .u8 E.e.op)
 c2 : takeN st 2 20 = some (bL E.e.self)
 c22 : ∃ x0 x1 x2 x3, takeN st 22 4 = some [.int .u64 x0, .int .u64 x1, .int .u64 x2, .int .u64 x3] ∧ allU [x0, x1, x2, x3] ∧ numI [x0, x1, x2, x3] = E.e.arg
 c26 : ∃ x0 x1 x2 x3, takeN st 26 4 = some [.int .u64 x0, .int .u64 x1, .int .u64 x2, .int .u64 x3] ∧ allU [x0, x1, x2, x3] ∧ numI [x0, x1, x2, x3] = E.e.val
 c30 : ∃ a n c, nth? st 30 = some (.gh a n c (.ints .u8 E.e.bs)) ∧ E.e.bs.length = n ∧ n ≤ c ∧ adr a n c ∧ LiesH H a (cc (.ints .u8 E.e.bs)) ∧ allB E.e.bs ∧ n ≤ maxLen
 c31 : nth? st 31 = some (.int .u16 E.e.flt)
 c32 : ∃ pb P, nth? st 32 = some (.gp (some ⟨pb, 0, none⟩) (.cells P) 0 0 0) ∧ PaR H E pb P
 c33 : nth? st 33 = some (.int .i64 E.i)
 hl : E.e.self.length = 20
 hb : allB E.e.self
 o0 : 0 ≤ E.e.op
 o1 : E.e.op ≤ 255
 f0 : 0 ≤ E.e.flt
 f1 : E.e.flt ≤ 65535
 k0 : LiesH H (some ⟨0, 0, none⟩) (cc (.ints .u64 kKeys))
 k1 : LiesH H (some ⟨1, 0, none⟩) (cc (.ints .u8 kPathI))
theorem StOk.mono {H H' : Nat → Obj → Prop} {E : JE} {st : List SV} (h : StOk E H st) (hH : ∀ b o, H b o → H' b o) : StOk E H' st := by
 obtain ⟨s1, s2, s3, c0, c2, c22, c26, ⟨ba, bn, bc, c30, b1, b2, b3, b4, b5, b6⟩, c31, ⟨pb, P, c32, hP⟩, c33, q1, q2, q3, q4, q5, q6, k0, k1⟩ := h
 exact ⟨s1, s2, s3, c0, c2, c22, c26, ⟨ba, bn, bc, c30, b1, b2, b3, b4.mono hH, b5, b6⟩, c31, ⟨pb, P, c32, hP.mono hH⟩, c33, q1, q2, q3, q4, q5, q6, k0.mono hH, k1.mono hH⟩
theorem own_lies {w w2 : World} {m' : List Blk} (hm : MemOk w [] m' w2) {k : Nat} {v : Value} {n : Nat} {t : TypeId} {es : Nat} {con : Con} (hb : bget m' k = .own v n t es con) :
  ∃ a c, slV v n = .slice a n c ∧ adr a n c ∧ n ≤ c ∧ n ≤ maxLen ∧ (cc con).length = n * es ∧ LiesH (Hl (newH w w2)) a (cc con) := by
 obtain ⟨⟨ho1, ho2⟩, ho3⟩ := hm.each _ (bget_mem hb (by simp))
 rcases ho2 with ⟨rfl, rfl⟩ | ⟨g, cap, cur, rfl, _, h3, h4, h5, h6, h7⟩
 ·exact ⟨none, 0, rfl, .inr ⟨rfl, rfl, rfl⟩, Nat.le_refl _, Nat.zero_le _, ho1, .inl (List.length_eq_zero_iff.1 (by rw [ho1, Nat.zero_mul]))⟩
 ·refine ⟨some ⟨g, 0, none⟩, cap, rfl, .inl rfl, h4, Nat.le_trans h4 h5, ho1, .inr ⟨g, 0, cur, t, (0, 0), rfl, newH_mem ⟨(ho3 g rfl).resolve_right List.not_mem_nil, h3⟩, fun j u hj => ?_⟩⟩
  rw [← h7] at hj
  rw [Nat.zero_add, ← Array.getElem?_toList]
  rw [List.getElem?_take] at hj
  split at hj
  ·exact hj
  ·cases hj
theorem own_at {w0 w2 : World} {B : List Nat} {m' : List Blk} (hm : MemOk w0 B m' w2) {k : Nat} {a : Option Addr} {n l c : Nat} {t : TypeId} {es : Nat} {con : Con} (hb : bget m' k = .own (.slice a l c) n t es con) : a = none ∨ ∃ g, a = some ⟨g, 0, none⟩ := by
 obtain ⟨⟨ho1, ho2⟩, ho3⟩ := hm.each _ (bget_mem hb (by simp))
 rcases ho2 with ⟨h, _⟩ | ⟨g, cap, cur, h, _⟩
 ·cases h; exact .inl rfl
 ·cases h; exact .inr ⟨g, rfl⟩
theorem blk_lies {w w2 : World} {m' : List Blk} (hm : MemOk w [] m' w2) {k b : Nat} {t : TypeId} {con : Con} (hb : bget m' k = .blk b t con) : LiesH (Hl (newH w w2)) (some ⟨b, 0, none⟩) (cc con) := by
 have k1 := hm.each _ (bget_mem hb (by simp))
 refine .inr ⟨b, 0, _, _, _, rfl, newH_mem ⟨k1.2.resolve_right List.not_mem_nil, k1.1⟩, fun j u hj => ?_⟩
 rw [Nat.zero_add, List.getElem?_toArray, ← hj]
def isOp (x : Int) (l : List Int) : Bool := l.any fun y => decide (x = y)
def stakedE (E : JE) : Bool := E.stk E.role
def othE (E : JE) : List Int := bytI E.e.arg 20
def bsP (xs : List Int) (t : Int) : Nat → Nat → Nat → Nat
 | 0, lo, _ => lo
 | f + 1, lo, hi => if lo < hi then (if xs.getD ((lo + hi) / 2) 0 < t then bsP xs t f ((lo + hi) / 2 + 1) hi else bsP xs t f lo ((lo + hi) / 2)) else lo
def bsR (xs : List Int) (t : Int) : Nat := bsP xs t xs.length 0 xs.length
def bsB (xs : List Int) (t : Int) : Bool := decide (bsR xs t < xs.length) && decide (xs.getD (bsR xs t) 0 = t)
def selfA : List Int := [0, 0, 0, 0, 113, 114, 125, 226, 46, 94, 157, 139, 175, 14, 218, 198, 243, 125, 160, 50]
theorem selfA_len : selfA.length = 20 := rfl
theorem selfA_all : allB selfA := by simp [allB, selfA]
def biB (a : List Int) : Bool := decide (a = [0, 0, 0, 0, 0, 0, 0, 0, 0, 0, 0, 0, 0, 0, 0, 0, 0, 0, 0, a.getD 19 0]) && (decide (1 ≤ a.getD 19 0) && decide (a.getD 19 0 ≤ 9))
def depS : List Int := [100, 101, 112, 111, 115, 105, 116, 84, 111, 40, 97, 100, 100, 114, 101, 115, 115, 41]
def z20' : List Int := [0, 0, 0, 0, 0, 0, 0, 0, 0, 0, 0, 0, 0, 0, 0, 0, 0, 0, 0, 0]
def entA (x : OpD) (r : Int) : List Int × Bool := if r = 1 then (x.snd, true) else if r = 2 ∧ x.hf = true then (x.fac, true) else if r = 3 ∧ x.hp = true then (x.pay, true) else (z20', false)
def isSndE (E : JE) : Bool := decide (E.e.self = E.x.snd) || ((!E.x.hf || E.stk 2) && belongs E.hs E.x.snd E.e.arg)
def forStE (E : JE) : Bool := stakedE E && (decide (E.e.op = 84) || ((entA E.x E.role).2 && (decide (E.e.self = (entA E.x E.role).1) || belongs E.hs (entA E.x E.role).1 E.e.arg)))
def ruleE (E : JE) : Nat → Bool
 | 0 => isOp E.e.op [50, 58, 64, 65, 66, 67, 68, 69, 72, 255] || (isOp E.e.op [49, 71] && !stakedE E)
 | 1 => bsB E.lo E.i
 | 2 => bsB E.sv E.i
 | 3 => decide (E.e.op = 240) || (decide (E.e.op = 245) && (!decide (E.i = E.mkr) || !decide (othE E = E.x.snd)))
 | 4 => isOp E.e.op [59, 60, 63, 241, 242, 244, 250] && (!decide (othE E = selfA) && (!biB (othE E) && decide (((E.acc (whole (othE E))).c.length : Int) = 0)))
 | 5 => isOp E.e.op [241, 242] && (!eqW E.e.val 0 && !decide (othE E = selfA))
 | 6 => decide (othE E = selfA) && (isOp E.e.op [242, 244] || (isOp E.e.op [241, 250] && (decide ((0 : Int) < (E.e.bs.length : Int)) && !decide (E.e.bs = selB depS))))
 | 7 => isOp E.e.op [84, 85] && (!isSndE E && !forStE E)
 | _ => false
def hitE (E : JE) (r : Nat) : Bool := (decide (E.e.flt = 0) || decide (r = 2)) && ruleE E r
def vioE (E : JE) (k : Nat) : List Int := ((List.range k).filter (hitE E)).map fun j => ((j + 1 : Nat) : Int)
end Go.Proofs.YtoadeekdgikghaaDoor
namespace Go.Proofs.YtoadeekdgikghaaDoor
set_option maxRecDepth 20000
open Go.ChangeShapes Go.WideShapes Go.ChangeAt Go.RowKit
theorem ru_laid {w : World} (h : laidMetH Tryd.prog [("quaestor/keccak.keys", Rows.laid_quaestor_keccak_keys), ("quaestor/keccak.path", Rows.laid_quaestor_keccak_path)] w) : LiesH (H0 w) (some ⟨0, 0, none⟩) (cc (.ints .u64 kKeys)) ∧ LiesH (H0 w) (some ⟨1, 0, none⟩) (cc (.ints .u8 kPathI)) := by
 have hh : RoOk w (some ⟨0, 0, none⟩) (.ints .u64 kKeys) ∧ RoOk w (some ⟨1, 0, none⟩) (.ints .u8 kPathI) :=
  laid_two (n1 := "quaestor/keccak.keys") (n2 := "quaestor/keccak.path") h (by kernel_rfl) (by kernel_rfl) (by kernel_rfl) (by kernel_rfl) (by kernel_rfl) (by kernel_rfl)
 exact ⟨lies_of_ro (ro_cons (ro_nil w) hh.1), lies_of_ro (ro_cons (ro_nil w) hh.2)⟩
end Go.Proofs.YtoadeekdgikghaaDoor
namespace Go.Proofs.YtoadeekdgikghaaDoor
set_option maxRecDepth 10000
open Go.RowKit Go.ChangeShapes Go.WideShapes Go.ChangeAt
section
variable {H : Type} {enc : TypeId × Value → H} {w : World} {base : Nat} {spare : Nat → Bool} {held : Bool}
theorem word_cells {fuel : Nat} {cs : List Value} {x : DataW H × List MemPlace} (hf : DataW.trod enc Tryd.prog w base spare held fuel 27 cs = some x) (hl : cs.length = 4) :
  ∃ a, cs = wcs a ∧ x = (DV a, []) ∧ a < W := by
 obtain ⟨c0, c1, c2, c3, rfl⟩ := list4 cs hl
 obtain ⟨y0, y1, y2, y3, m, hx, hy0, hy1, hy2, hy3⟩ := trod_array4 Tryd.underlying27 cellsU hf
 obtain ⟨x0, e0, rfl, w0⟩ := DataW.trod_int Tryd.underlying25 hy0
 obtain ⟨x1, e1, rfl, w1⟩ := DataW.trod_int Tryd.underlying25 hy1
 obtain ⟨x2, e2, rfl, w2⟩ := DataW.trod_int Tryd.underlying25 hy2
 obtain ⟨x3, e3, rfl, w3⟩ := DataW.trod_int Tryd.underlying25 hy3
 simp at e0 e1 e2 e3
 subst e0 e1 e2 e3
 subst hx
 obtain ⟨n0, rfl, h0⟩ := of_wf w0
 obtain ⟨n1, rfl, h1⟩ := of_wf w1
 obtain ⟨n2, rfl, h2⟩ := of_wf w2
 obtain ⟨n3, rfl, h3⟩ := of_wf w3
 refine ⟨num n0 n1 n2 n3, ?_, ?_, num_lt h0 h1 h2 h3⟩
 ·unfold wcs; rw [lm0_num h0, lm1_num h0 h1, lm2_num h0 h1 h2, lm3_num h0 h1 h2 h3]
 ·unfold DV; rw [lm0_num h0, lm1_num h0 h1, lm2_num h0 h1 h2, lm3_num h0 h1 h2 h3]; rfl
end
end Go.Proofs.YtoadeekdgikghaaDoor
