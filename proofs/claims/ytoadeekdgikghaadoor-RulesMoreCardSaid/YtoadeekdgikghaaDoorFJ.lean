/-
 What a law is handed, whatever its types: read again behind the call; truth values and parts opened. No condition.
-/
import Derived.Test.YtoadeekdgikghaaDoorU4
import Derived.Test.YtoadeekdgikghaaDoorKC
import Derived.Test.YtoadeekdgikghaaDoorYc
import Derived.Test.YtoadeekdgikghaaDoorWD
import Derived.Test.YtoadeekdgikghaaDoorHK
import Derived.Test.YtoadeekdgikghaaDoorCards
import Derived.Test.YtoadeekdgikghaaDoorTie
import Derived.Deep.DeepHandedRow
import Derived.Lib.LaidTab
import Derived.LaidHandle
import Derived.OpenShut
import Derived.Test.YtoadeekdgikghaaDoorRE
import Derived.Deep.Slices
import Derived.ReadAgain
import Derived.ChangeReads
import Derived.ChangeBears
import Derived.Deep.Strs
set_option linter.unusedVariables false
set_option linter.unusedSimpArgs false
namespace Go.Proofs.YtoadeekdgikghaaDoor
set_option maxRecDepth 20000
open Go.RowKit Go.MapKept
def MapH (H : Nat → Obj → Prop) (b : Nat) (ks : List CK) (f : List Int → Option Value) : Prop := ∃ es clock, H b (.map es clock) ∧ Stamped es clock ∧ MapR ks es.toList f
theorem MapH.mono {H H' : Nat → Obj → Prop} {b : Nat} {ks : List CK} {f : List Int → Option Value} (h : MapH H b ks f) (hH : ∀ b o, H b o → H' b o) : MapH H' b ks f := by
 obtain ⟨es, c, h1, h2⟩ := h
 exact ⟨es, c, hH _ _ h1, h2⟩
theorem MapH.is {w0 : World} {B : List Nat} {m : List Blk} {w : World} (hm : MemOk w0 B m w) {b : Nat} {ks : List CK} {f : List Int → Option Value} (h : MapH (HM m) b ks f) : MapIs w b ks f := by
 obtain ⟨es, c, h1, h2⟩ := h
 exact ⟨es, c, hm.hm h1, h2⟩
def WdH (H : Nat → Obj → Prop) (acc : List Int → Acc) (wp : Nat) (wc : List SV) : Prop := ∃ a q, wc = .mpv 1 a :: q ∧ LiesH H (some ⟨wp, 0, none⟩) (cc (.cells wc)) ∧ MapH H a ck_83 (fun c => (accF acc c).map cv) ∧ ∀ c, okAcc (acc c) ∧ (acc c).c.length ≤ 1000000
theorem WdH.mono {H H' : Nat → Obj → Prop} {acc : List Int → Acc} {wp : Nat} {wc : List SV} (h : WdH H acc wp wc) (hH : ∀ b o, H b o → H' b o) : WdH H' acc wp wc := by
 obtain ⟨a, q, h1, h2, h3, h4⟩ := h
 exact ⟨a, q, h1, h2.mono hH, h3.mono hH, h4⟩
structure SlI (H : Nat → Obj → Prop) (a : Option Addr) (n c : Nat) (xs : List Int) : Prop where
 len : xs.length = n
 le : n ≤ c
 adr : adr a n c
 max : n ≤ 1000000
 lies : LiesH H a (cc (.ints .i64 xs))
theorem SlI.mono {H H' : Nat → Obj → Prop} {a : Option Addr} {n c : Nat} {xs : List Int} (h : SlI H a n c xs) (hH : ∀ b o, H b o → H' b o) : SlI H' a n c xs := ⟨h.1, h.2, h.3, h.4, h.5.mono hH⟩
structure JE where
 e : Evt
 i : Int
 x : OpD
 role : Nat
 stk : Nat → Bool
 lo : List Int
 sv : List Int
 mkr : Int
 hs : List Evt
 acc : List Int → Acc
structure PaR (H : Nat → Obj → Prop) (E : JE) (pb : Nat) (P : List SV) : Prop where
 lies : LiesH H (some ⟨pb, 0, none⟩) (cc (.cells P))
 len : P.length = 93
 one : allOne P = true
 w : ∃ wp wc, nth? P 0 = some (.gp (some ⟨wp, 0, none⟩) (.cells wc) 0 0 0) ∧ WdH H E.acc wp wc
 op : ∃ ol, takeN P 1 83 = some ol ∧ OpR H ol E.x
 snd : takeN P 1 20 = some (bL E.x.snd)
 hf : nth? P 25 = some (.bool E.x.hf)
 ro : nth? P 84 = some (.int .u8 (E.role : Nat))
 rl : E.role = 1 ∨ E.role = 2 ∨ E.role = 3
 s0 : nth? P 85 = some (.bool (E.stk 0))
 s1 : nth? P 86 = some (.bool (E.stk 1))
 s2 : nth? P 87 = some (.bool (E.stk 2))
 s3 : nth? P 88 = some (.bool (E.stk 3))
 lo : ∃ a n c, nth? P 89 = some (.gh a n c (.ints .i64 E.lo)) ∧ SlI H a n c E.lo
 sv : ∃ a n c, nth? P 90 = some (.gh a n c (.ints .i64 E.sv)) ∧ SlI H a n c E.sv
 mkr : nth? P 91 = some (.int .i64 E.mkr)
 hs : ∃ b a n c rs, nth? P 92 = some (.fn (.func 32) [] [.gp (some ⟨b, 0, none⟩) (.cells [.gh a n c (.rows 32 rs)]) 0 0 0]) ∧ LiesH H (some ⟨b, 0, none⟩) (cc (.cells [.gh a n c (.rows 32 rs)])) ∧ EvL H a n c rs E.hs ∧ n ≤ 1000000
theorem PaR.mono {H H' : Nat → Obj → Prop} {E : JE} {pb : Nat} {P : List SV} (h : PaR H E pb P) (hH : ∀ b o, H b o → H' b o) : PaR H' E pb P := by
 obtain ⟨p1, p2, p3, ⟨wp, wc, r0, hW⟩, ⟨ol, r1, hO⟩, rS, r25, r84, rl, r85, r86, r87, r88, ⟨la, ln, lc, r89, hL⟩, ⟨sa, sn, sc, r90, hV⟩, r91, ⟨hb, ha, hn, hc, hr, r92, h1, h2, h3⟩⟩ := h
 exact ⟨p1.mono hH, p2, p3, ⟨wp, wc, r0, hW.mono hH⟩, ⟨ol, r1, hO.mono hH⟩, rS, r25, r84, rl, r85, r86, r87, r88, ⟨la, ln, lc, r89, hL.mono hH⟩, ⟨sa, sn, sc, r90, hV.mono hH⟩, r91, ⟨hb, ha, hn, hc, hr, r92, h1.mono hH, h2.mono hH, h3⟩⟩
structure StOk (E : JE) (H : Nat → Obj → Prop) (st : List SV) : Prop where
 len : st.length = 34
 one : allOne st = true
 all : takeN st 0 34 = some st
 c0 : nth? st 0 = some (.int .u8 E.e.op)
 c2 : takeN st 2 20 = some (bL E.e.self)
 c22 : ∃ x0 x1 x2 x3, takeN st 22 4 = some [.int .u64 x0, .int .u64 x1, .int .u64 x2, .int .u64 x3] ∧ allU [x0, x1, x2, x3] ∧ numI [x0, x1, x2, x3] = E.e.arg
 c26 : ∃ x0 x1 x2 x3, takeN st 26 4 = some [.int .u64 x0, .int .u64 x1, .int .u64 x2, .int .u64 x3] ∧ allU [x0, x1, x2, x3] ∧ numI [x0, x1, x2, x3] = E.e.val
 c30 : ∃ a n c, nth? st 30 = some (.gh a n c (.ints .u8 E.e.bs)) ∧ E.e.bs.length = n ∧ n ≤ c ∧ adr a n c ∧ LiesH H a (cc (.ints .u8 E.e.bs)) ∧ allB E.e.bs ∧ n ≤ maxLen
 c31 : nth? st 31 = some (.int .u16 E.e.flt)
 c32 : ∃ pb P, nth? st 32 = some (.gp (some ⟨pb, 0, none⟩) (.cells P) 0 0 0) ∧ PaR H E pb P
 c33 : nth? st 33 = some (.int .i64 E.i)
 hl : E.e.self.length = 20
 hb : allB E.e.self
 o0 : 0 ≤ E.e.op
 o1 : E.e.op ≤ 255
 f0 : 0 ≤ E.e.flt
 f1 : E.e.flt ≤ 65535
 k0 : LiesH H (some ⟨0, 0, none⟩) (cc (.ints .u64 kKeys))
 k1 : LiesH H (some ⟨1, 0, none⟩) (cc (.ints .u8 kPathI))
theorem StOk.mono {H H' : Nat → Obj → Prop} {E : JE} {st : List SV} (h : StOk E H st) (hH : ∀ b o, H b o → H' b o) : StOk E H' st := by
 obtain ⟨s1, s2, s3, c0, c2, c22, c26, ⟨ba, bn, bc, c30, b1, b2, b3, b4, b5, b6⟩, c31, ⟨pb, P, c32, hP⟩, c33, q1, q2, q3, q4, q5, q6, k0, k1⟩ := h
 exact ⟨s1, s2, s3, c0, c2, c22, c26, ⟨ba, bn, bc, c30, b1, b2, b3, b4.mono hH, b5, b6⟩, c31, ⟨pb, P, c32, hP.mono hH⟩, c33, q1, q2, q3, q4, q5, q6, k0.mono hH, k1.mono hH⟩
theorem own_lies {w w2 : World} {m' : List Blk} (hm : MemOk w [] m' w2) {k : Nat} {v : Value} {n : Nat} {t : TypeId} {es : Nat} {con : Con} (hb : bget m' k = .own v n t es con) :
  ∃ a c, slV v n = .slice a n c ∧ adr a n c ∧ n ≤ c ∧ n ≤ maxLen ∧ (cc con).length = n * es ∧ LiesH (Hl (newH w w2)) a (cc con) := by
 obtain ⟨⟨ho1, ho2⟩, ho3⟩ := hm.each _ (bget_mem hb (by simp))
 rcases ho2 with ⟨rfl, rfl⟩ | ⟨g, cap, cur, rfl, _, h3, h4, h5, h6, h7⟩
 ·exact ⟨none, 0, rfl, .inr ⟨rfl, rfl, rfl⟩, Nat.le_refl _, Nat.zero_le _, ho1, .inl (List.length_eq_zero_iff.1 (by rw [ho1, Nat.zero_mul]))⟩
 ·refine ⟨some ⟨g, 0, none⟩, cap, rfl, .inl rfl, h4, Nat.le_trans h4 h5, ho1, .inr ⟨g, 0, cur, t, (0, 0), rfl, newH_mem ⟨(ho3 g rfl).resolve_right List.not_mem_nil, h3⟩, fun j u hj => ?_⟩⟩
  rw [← h7] at hj
  rw [Nat.zero_add, ← Array.getElem?_toList]
  rw [List.getElem?_take] at hj
  split at hj
  ·exact hj
  ·cases hj
theorem own_at {w0 w2 : World} {B : List Nat} {m' : List Blk} (hm : MemOk w0 B m' w2) {k : Nat} {a : Option Addr} {n l c : Nat} {t : TypeId} {es : Nat} {con : Con} (hb : bget m' k = .own (.slice a l c) n t es con) : a = none ∨ ∃ g, a = some ⟨g, 0, none⟩ := by
 obtain ⟨⟨ho1, ho2⟩, ho3⟩ := hm.each _ (bget_mem hb (by simp))
 rcases ho2 with ⟨h, _⟩ | ⟨g, cap, cur, h, _⟩
 ·cases h; exact .inl rfl
 ·cases h; exact .inr ⟨g, rfl⟩
theorem blk_lies {w w2 : World} {m' : List Blk} (hm : MemOk w [] m' w2) {k b : Nat} {t : TypeId} {con : Con} (hb : bget m' k = .blk b t con) : LiesH (Hl (newH w w2)) (some ⟨b, 0, none⟩) (cc con) := by
 have k1 := hm.each _ (bget_mem hb (by simp))
 refine .inr ⟨b, 0, _, _, _, rfl, newH_mem ⟨k1.2.resolve_right List.not_mem_nil, k1.1⟩, fun j u hj => ?_⟩
 rw [Nat.zero_add, List.getElem?_toArray, ← hj]
def isOp (x : Int) (l : List Int) : Bool := l.any fun y => decide (x = y)
def stakedE (E : JE) : Bool := E.stk E.role
def othE (E : JE) : List Int := bytI E.e.arg 20
def bsP (xs : List Int) (t : Int) : Nat → Nat → Nat → Nat
 | 0, lo, _ => lo
 | f + 1, lo, hi => if lo < hi then (if xs.getD ((lo + hi) / 2) 0 < t then bsP xs t f ((lo + hi) / 2 + 1) hi else bsP xs t f lo ((lo + hi) / 2)) else lo
def bsR (xs : List Int) (t : Int) : Nat := bsP xs t xs.length 0 xs.length
def bsB (xs : List Int) (t : Int) : Bool := decide (bsR xs t < xs.length) && decide (xs.getD (bsR xs t) 0 = t)
def selfA : List Int := [0, 0, 0, 0, 113, 114, 125, 226, 46, 94, 157, 139, 175, 14, 218, 198, 243, 125, 160, 50]
theorem selfA_len : selfA.length = 20 := rfl
theorem selfA_all : allB selfA := by simp [allB, selfA]
def biB (a : List Int) : Bool := decide (a = [0, 0, 0, 0, 0, 0, 0, 0, 0, 0, 0, 0, 0, 0, 0, 0, 0, 0, 0, a.getD 19 0]) && (decide (1 ≤ a.getD 19 0) && decide (a.getD 19 0 ≤ 9))
def depS : List Int := [100, 101, 112, 111, 115, 105, 116, 84, 111, 40, 97, 100, 100, 114, 101, 115, 115, 41]
def z20' : List Int := [0, 0, 0, 0, 0, 0, 0, 0, 0, 0, 0, 0, 0, 0, 0, 0, 0, 0, 0, 0]
def entA (x : OpD) (r : Int) : List Int × Bool := if r = 1 then (x.snd, true) else if r = 2 ∧ x.hf = true then (x.fac, true) else if r = 3 ∧ x.hp = true then (x.pay, true) else (z20', false)
def isSndE (E : JE) : Bool := decide (E.e.self = E.x.snd) || ((!E.x.hf || E.stk 2) && belongs E.hs E.x.snd E.e.arg)
def forStE (E : JE) : Bool := stakedE E && (decide (E.e.op = 84) || ((entA E.x E.role).2 && (decide (E.e.self = (entA E.x E.role).1) || belongs E.hs (entA E.x E.role).1 E.e.arg)))
def ruleE (E : JE) : Nat → Bool
 | 0 => isOp E.e.op [50, 58, 64, 65, 66, 67, 68, 69, 72, 255] || (isOp E.e.op [49, 71] && !stakedE E)
 | 1 => bsB E.lo E.i
 | 2 => bsB E.sv E.i
 | 3 => decide (E.e.op = 240) || (decide (E.e.op = 245) && (!decide (E.i = E.mkr) || !decide (othE E = E.x.snd)))
 | 4 => isOp E.e.op [59, 60, 63, 241, 242, 244, 250] && (!decide (othE E = selfA) && (!biB (othE E) && decide (((E.acc (whole (othE E))).c.length : Int) = 0)))
 | 5 => isOp E.e.op [241, 242] && (!eqW E.e.val 0 && !decide (othE E = selfA))
 | 6 => decide (othE E = selfA) && (isOp E.e.op [242, 244] || (isOp E.e.op [241, 250] && (decide ((0 : Int) < (E.e.bs.length : Int)) && !decide (E.e.bs = selB depS))))
 | 7 => isOp E.e.op [84, 85] && (!isSndE E && !forStE E)
 | _ => false
def hitE (E : JE) (r : Nat) : Bool := (decide (E.e.flt = 0) || decide (r = 2)) && ruleE E r
def vioE (E : JE) (k : Nat) : List Int := ((List.range k).filter (hitE E)).map fun j => ((j + 1 : Nat) : Int)
end Go.Proofs.YtoadeekdgikghaaDoor
namespace Go.Proofs.YtoadeekdgikghaaDoor
set_option maxRecDepth 20000
open Go.ChangeShapes Go.WideShapes Go.ChangeAt Go.RowKit
theorem ru_laid {w : World} (h : laidMetH Tryd.prog [("quaestor/keccak.keys", Rows.laid_quaestor_keccak_keys), ("quaestor/keccak.path", Rows.laid_quaestor_keccak_path)] w) : LiesH (H0 w) (some ⟨0, 0, none⟩) (cc (.ints .u64 kKeys)) ∧ LiesH (H0 w) (some ⟨1, 0, none⟩) (cc (.ints .u8 kPathI)) := by
 have hh : RoOk w (some ⟨0, 0, none⟩) (.ints .u64 kKeys) ∧ RoOk w (some ⟨1, 0, none⟩) (.ints .u8 kPathI) :=
  laid_two (n1 := "quaestor/keccak.keys") (n2 := "quaestor/keccak.path") h (by kernel_rfl) (by kernel_rfl) (by kernel_rfl) (by kernel_rfl) (by kernel_rfl) (by kernel_rfl)
 exact ⟨lies_of_ro (ro_cons (ro_nil w) hh.1), lies_of_ro (ro_cons (ro_nil w) hh.2)⟩
end Go.Proofs.YtoadeekdgikghaaDoor
namespace Go.Proofs.YtoadeekdgikghaaDoor
set_option maxRecDepth 10000
open Go.RowKit Go.ChangeShapes Go.WideShapes Go.ChangeAt
section
variable {H : Type} {enc : TypeId × Value → H} {w : World} {base : Nat} {spare : Nat → Bool} {held : Bool}
theorem word_cells {fuel : Nat} {cs : List Value} {x : DataW H × List MemPlace} (hf : DataW.trod enc Tryd.prog w base spare held fuel 27 cs = some x) (hl : cs.length = 4) :
  ∃ a, cs = wcs a ∧ x = (DV a, []) ∧ a < W := by
 obtain ⟨c0, c1, c2, c3, rfl⟩ := list4 cs hl
 obtain ⟨y0, y1, y2, y3, m, hx, hy0, hy1, hy2, hy3⟩ := trod_array4 Tryd.underlying27 cellsU hf
 obtain ⟨x0, e0, rfl, w0⟩ := DataW.trod_int Tryd.underlying25 hy0
 obtain ⟨x1, e1, rfl, w1⟩ := DataW.trod_int Tryd.underlying25 hy1
 obtain ⟨x2, e2, rfl, w2⟩ := DataW.trod_int Tryd.underlying25 hy2
 obtain ⟨x3, e3, rfl, w3⟩ := DataW.trod_int Tryd.underlying25 hy3
 simp at e0 e1 e2 e3
 subst e0 e1 e2 e3
 subst hx
 obtain ⟨n0, rfl, h0⟩ := of_wf w0
 obtain ⟨n1, rfl, h1⟩ := of_wf w1
 obtain ⟨n2, rfl, h2⟩ := of_wf w2
 obtain ⟨n3, rfl, h3⟩ := of_wf w3
 refine ⟨num n0 n1 n2 n3, ?_, ?_, num_lt h0 h1 h2 h3⟩
 ·unfold wcs; rw [lm0_num h0, lm1_num h0 h1, lm2_num h0 h1 h2, lm3_num h0 h1 h2 h3]
 ·unfold DV; rw [lm0_num h0, lm1_num h0 h1, lm2_num h0 h1 h2, lm3_num h0 h1 h2 h3]; rfl
end
end Go.Proofs.YtoadeekdgikghaaDoor
namespace Go.Proofs.YtoadeekdgikghaaDoor
set_option maxRecDepth 10000
open Go.RowKit Go.ChangeShapes Go.WideShapes Go.ChangeAt
theorem Tryd.laidOut : laidOutB Tryd.prog = true := by kernel_rfl
theorem Tryd.mapsRow : mapsRowed Tryd.prog = true := by kernel_rfl
theorem Tryd.slicesFull : ((List.range Tryd.prog.types.size).all fun t => match Tryd.prog.underlying t with | some (.slice e) => decide (0 < Tryd.prog.cellsOf e) | _ => true) = true := by kernel_rfl
section
variable {H : Type} {enc : TypeId × Value → H} {P : Program} {w w' : World} {base : Nat} {spare : Nat → Bool} {held : Bool}
theorem Trod.carry {t : TypeId} {v : Value} {d : DataW H} {ps : List MemPlace} (h : DataW.Trod enc P w base spare held t v d ps) (hs : ∀ p ∈ ps, w.sameAt w' p) : DataW.Trod enc P w' base spare held t v d ps := by
 obtain ⟨n, hn⟩ := h
 exact ⟨n, DataW.trod_carry n _ _ _ hn hs⟩
theorem TrodAll.carry : ∀ {ts : List TypeId} {vs : List Value} {ds : List (DataW H)} {ps : List MemPlace}, DataW.TrodAll enc P w base spare held ts vs ds ps → (∀ p ∈ ps, w.sameAt w' p) → DataW.TrodAll enc P w' base spare held ts vs ds ps
 | [], [], [], _, h, _ => h
 | _ :: _, _ :: _, _ :: _, _, ⟨p, q, h1, h2, e⟩, hs => ⟨p, q, Trod.carry h1 (fun x hx => hs x (by rw [e]; exact List.mem_append_left _ hx)), TrodAll.carry h2 (fun x hx => hs x (by rw [e]; exact List.mem_append_right _ hx)), e⟩
end
theorem post_any {H : Type} {enc : TypeId × Value → H} {f : Func} {s : ChangeSpec} {apart fresh handsOn again : Bool} {W W' : World} {args : Array Value} {v : Value} {ds gs : List (DataW H)} {before : List MemPlace}
  (hW : DataW.Whole enc Tryd.prog f.params.toList s.vars apart W args.toList ds gs before) (hvn : s.vars = []) (hp : ∃ p, W' = gw W p)
  (hT : (f.params.toList.all fun t => decide (t < Tryd.prog.types.size)) = true) (hfa : (s.fn H (ds ++ gs)).args = ds)
  (hres : ∀ (b : Nat) (sp : Nat → Bool) (hd : Bool), DataW.TrodAll enc Tryd.prog W' b sp hd f.resultTypes.toList (v.resultList f.resultTypes.size) (s.fn H (ds ++ gs)).results [])
  (hvars : ∀ sp : Nat → Bool, DataW.TrodVars enc Tryd.prog W' sp s.vars (s.fn H (ds ++ gs)).vars [])
  (hok : ∀ (j : Nat) (t : TypeId) (r : Value), f.resultTypes[j]? = some t → (v.resultList f.resultTypes.size)[j]? = some r → Value.okWide Tryd.prog W' .any 0 t r) :
  s.post enc Tryd.prog f apart fresh handsOn again W args v W' := by
 refine post_gr hW hp hres (fun q sp hsp => ?_) hvars hok
 have hlt := hW.lt
 rw [hfa]
 obtain ⟨p, q', hA, hV, rfl, _, _⟩ := hW
 rw [hvn] at hV
 have hq : q' = [] := by
  cases gs with
  | nil => exact hV
  | cons g gs => exact hV.elim
 subst hq
 rw [List.append_nil] at hsp hlt ⊢
 refine TrodAll.carry (DataW.TrodAll.respare (kids_rows Tryd.laidOut Tryd.mapsRow) (slices_full_of Tryd.prog Tryd.slicesFull) (fun t ht => of_decide_eq_true (List.all_eq_true.1 hT t ht)) hA hsp) (fun x hx => ?_)
 have hb := hlt x hx
 cases x with
 | cell b off => exact gw_cell W q b _ hb
 | map b => show (gw W q).heap[b]? = W.heap[b]?; unfold gw; exact Array.getElem?_append_left hb
theorem cells8 : Tryd.prog.cellsOf 5 = 1 := by kernel_rfl
theorem adr_spot {a : Addr} {len cap : Nat} (h1 : len ≤ cap) (h : 0 < cap → a.spot = none) : adr (some a) len cap := by
 by_cases hc : 0 < cap
 ·obtain ⟨b, o, sp⟩ := a
  have := h hc
  simp only at this
  subst this
  exact .inl rfl
 ·exact .inr ⟨rfl, by omega, by omega⟩
theorem lies_cells {w : World} {b off : Nat} {cs : List Value} (hc : ∀ j u, cs[j]? = some u → w.cell? ⟨b, off + j, none⟩ = some u) : LiesH (H0 w) (some ⟨b, off, none⟩) cs := by
 cases cs with
 | nil => exact .inl rfl
 | cons u0 l =>
  have h4 := hc 0 u0 rfl
  have hcell : ∃ arr t fr, w.heap[b]? = some (.cells arr t fr) := by
   cases ho : w.heap[b]? with
   | none => simp [World.cell?, ho] at h4
   | some o =>
    cases o with
    | cells arr t fr => exact ⟨arr, t, fr, rfl⟩
    | _ => simp [World.cell?, ho] at h4
  obtain ⟨arr, t, fr, ho⟩ := hcell
  refine .inr ⟨b, off, arr, t, fr, rfl, ho, fun j u hj => ?_⟩
  have h5 := hc j u hj
  simpa [World.cell?, ho] using h5
section
variable {H : Type} {enc : TypeId × Value → H} {w : World}
theorem bytes_cell {fuel : Nat} {cs : List Value} {x : DataW H × List MemPlace} (h : DataW.trod enc Tryd.prog w 0 (fun _ => true) true fuel 28 cs = some x) :
  ∃ a n c bs, cs = [.slice a n c] ∧ bs.length = n ∧ n ≤ c ∧ adr a n c ∧ LiesH (H0 w) a (cc (.ints .u8 bs)) ∧ allB bs ∧ n ≤ maxLen := by
 rcases open_ints Tryd.underlying28 Tryd.underlying5 cells8 h with ⟨rfl, _⟩ | ⟨a, len, cap, zs, rfl, _, h3, h4, h5, _, h7, h8⟩
 ·exact ⟨none, 0, 0, [], rfl, rfl, Nat.le_refl _, .inr ⟨rfl, rfl, rfl⟩, .inl rfl, fun _ h => absurd h List.not_mem_nil, Nat.zero_le _⟩
 ·rw [if_pos rfl] at h5
  have hsp : 0 < cap → a.spot = none := fun hc => by
   have := World.cell?_spot (h7 0 (by omega))
   simpa [Addr.add] using this
  refine ⟨some a, len, cap, zs.take len, rfl, by rw [List.length_take]; omega, h3, adr_spot h3 hsp, ?_, allB_wf (fun x hx => h8 x (List.mem_of_mem_take hx)), Nat.le_trans h3 h4⟩
  by_cases hc : 0 < cap
  ·obtain ⟨b, o, sp⟩ := a
   have := hsp hc
   simp only at this
   subst this
   refine lies_cells fun j u hj => ?_
   simp only [cc, List.getElem?_map, Option.map_eq_some_iff, List.getElem?_take] at hj
   obtain ⟨x, hx, rfl⟩ := hj
   split at hx
   ·have hjl := (List.getElem?_eq_some_iff.1 hx).1
    have := h7 j hjl
    rw [addr_add, List.getD_eq_getElem?_getD, hx] at this
    exact this
   ·cases hx
  ·have : len = 0 := by omega
   subst this
   exact .inl rfl

theorem sl_rows {t e : TypeId} {sz : Nat} (ht : Tryd.prog.underlying t = some (.slice e)) (hsz : Tryd.prog.cellsOf e = sz) (h0 : 0 < sz) {α : Type} [Inhabited α] {Q : List SV → α → Prop} {fuel : Nat} {cs : List Value} {x : DataW H × List MemPlace} (h : DataW.trod enc Tryd.prog w 0 (fun _ => true) true fuel t cs = some x)
  (hQ : ∀ (k : Nat) (cs' : List Value) (y : DataW H × List MemPlace), DataW.trod enc Tryd.prog w 0 (fun _ => true) true k e cs' = some y → ∃ l p, cs' = cvs l ∧ Q l p) :
  ∃ (a : Option Addr) (n c : Nat) (rs : List (List SV)) (ps : List α), cs = [.slice a n c] ∧ rs.length = n ∧ ps.length = n ∧ n ≤ c ∧ adr a n c ∧ c ≤ maxLen ∧ (∀ r ∈ rs, r.length = sz) ∧ LiesH (H0 w) a (rs.flatMap cvs) ∧ ∀ (i : Nat) (r : List SV) (p : α), rs[i]? = some r → ps[i]? = some p → Q r p := by
 rcases DataW.trod_slice ht h with ⟨hk, _⟩ | ⟨a', len, cap, elems, rest, k, rfl, hk, _, _, hlc, hcm, hel, hels, hsp, _⟩
 ·exact ⟨none, 0, 0, [], [], hk, rfl, rfl, Nat.le_refl _, .inr ⟨rfl, rfl, rfl⟩, Nat.zero_le _, (fun r h => absurd h List.not_mem_nil), .inl rfl, fun i r p h _ => by simp at h⟩
 ·rw [hsz] at hels hsp
  have each : ∀ i, i < len → ∃ p : List SV × α, p.1.length = sz ∧ Q p.1 p.2 ∧ w.cells? 0 (a'.add (i * sz)) sz = some (cvs p.1) := fun i hi => by
   have he := hels i hi
   rw [List.getElem?_eq_getElem (by omega)] at he
   obtain ⟨cs', q1, q2⟩ := Option.bind_eq_some_iff.1 he
   obtain ⟨l, t, rfl, q3⟩ := hQ k cs' _ q2
   obtain ⟨_, q4, _⟩ := World.cells?_some q1
   exact ⟨(l, t), by rw [cvs_eq, List.length_map] at q4; exact q4, q3, q1⟩
  have hsn : 0 < cap → a'.spot = none := fun hc => by
   have key : ∃ cs', w.cells? 0 (a'.add (0 * sz)) sz = some cs' := by
    by_cases hl0 : 0 < len
    ·obtain ⟨p, _, _, q⟩ := each 0 hl0
     exact ⟨_, q⟩
    ·obtain ⟨r1, r2⟩ := hsp rfl
     have := r2 0 (by omega)
     rw [List.getElem?_eq_getElem (by omega), show len + 0 = 0 by omega] at this
     obtain ⟨cs', q1, _⟩ := Option.bind_eq_some_iff.1 this
     exact ⟨cs', q1⟩
   obtain ⟨cs', q⟩ := key
   obtain ⟨_, q1, q2⟩ := World.cells?_some q
   have q3 := q2 0 (by omega)
   rw [List.getElem?_eq_getElem (by omega)] at q3
   have := World.cell?_spot q3
   simpa [Addr.add] using this
  obtain ⟨F, hF⟩ := Go.Deep.choose_lt (α := List SV × α) each
  obtain ⟨rs, hrs⟩ : ∃ rs : List (List SV), rs = (List.range len).map fun i => (F i).1 := ⟨_, rfl⟩
  obtain ⟨ks, hks⟩ : ∃ ks : List α, ks = (List.range len).map fun i => (F i).2 := ⟨_, rfl⟩
  have hrl : rs.length = len := by rw [hrs, List.length_map, List.length_range]
  have hkl : ks.length = len := by rw [hks, List.length_map, List.length_range]
  have hrg : ∀ i, i < len → rs[i]? = some (F i).1 := fun i hi => by rw [hrs, List.getElem?_map, List.getElem?_range hi]; rfl
  have hkg : ∀ i, i < len → ks[i]? = some (F i).2 := fun i hi => by rw [hks, List.getElem?_map, List.getElem?_range hi]; rfl
  have h3 : ∀ r ∈ rs, r.length = sz := fun r hr => by
   rw [hrs] at hr
   obtain ⟨i, hi, rfl⟩ := List.mem_map.1 hr
   exact (hF i (List.mem_range.1 hi)).1
  refine ⟨some a', len, cap, rs, ks, hk, hrl, hkl, hlc, adr_spot hlc hsn, hcm, h3, ?_, fun i r k hr hk => ?_⟩
  ·by_cases hc : 0 < cap
   ·obtain ⟨b, o, sp⟩ := a'
    have := hsn hc
    simp only at this
    subst this
    refine lies_cells fun j u hj => ?_
    have hfl : ∀ (L : List (List SV)), (∀ r ∈ L, r.length = sz) → (L.flatMap cvs).length = L.length * sz := by
     intro L
     induction L with
     | nil => intro _; simp
     | cons r L ihL =>
      intro hL
      rw [List.flatMap_cons, List.length_append, ihL (fun r hr => hL r (List.mem_cons_of_mem _ hr)), cvs_eq, List.length_map, hL r List.mem_cons_self, List.length_cons, Nat.add_mul]; omega
    have hjl := (List.getElem?_eq_some_iff.1 hj).1
    rw [hfl rs h3, hrl] at hjl
    have hj3 : j / sz < len := (Nat.div_lt_iff_lt_mul h0).2 hjl
    have hjm : j % sz < sz := Nat.mod_lt _ h0
    have e1 := flat_get cvs sz rs (j / sz) (j % sz) (F (j / sz)).1 (fun r hr => by rw [cvs_eq, List.length_map, h3 r hr]) (hrg _ hj3) hjm
    rw [Nat.div_add_mod' j sz, hj] at e1
    obtain ⟨_, _, q2⟩ := World.cells?_some (hF (j / sz) hj3).2.2
    have q3 := q2 (j % sz) hjm
    rw [← e1, addr_add, addr_add] at q3
    rw [← q3]; congr 2
    rw [Nat.add_assoc, Nat.div_add_mod' j sz]
   ·have : len = 0 := by omega
    have hr0 : rs = [] := List.length_eq_zero_iff.1 (by omega)
    rw [hr0]; exact .inl rfl
  ·have hi : i < len := by rw [← hrl]; exact (List.getElem?_eq_some_iff.1 hr).1
   rw [hrg i hi] at hr
   rw [hkg i hi] at hk
   cases hr; cases hk
   exact (hF i hi).2.1
end
theorem PsR.lt {H : Nat → Obj → Prop} {rs : List (List SV)} {l : List Prt} (h : PsR H rs l) : ∀ p ∈ l, p.w < W := fun p hp => by
 obtain ⟨i, hi⟩ := List.getElem?_of_mem hp
 have hlt : i < rs.length := by rw [h.1]; exact (List.getElem?_eq_some_iff.1 hi).1
 obtain ⟨x0, x1, x2, x3, a, n, c, e, g1, g2, _⟩ := h.2.2 i _ p (List.getElem?_eq_getElem hlt) hi
 rw [← g2]; exact numI_lt g1
theorem PsR.all {H : Nat → Obj → Prop} {rs : List (List SV)} {l : List Prt} (h : PsR H rs l) : ∀ p ∈ l, allB p.bs := fun p hp => by
 obtain ⟨i, hi⟩ := List.getElem?_of_mem hp
 have hlt : i < rs.length := by rw [h.1]; exact (List.getElem?_eq_some_iff.1 hi).1
 obtain ⟨x0, x1, x2, x3, a, n, c, e, g1, g2, g3, g4, g5, g6, g7, g8⟩ := h.2.2 i _ p (List.getElem?_eq_getElem hlt) hi
 exact g7
section
variable {H : Type} {enc : TypeId × Value → H} {w : World}
instance : Inhabited Prt := ⟨⟨false, 0, []⟩⟩
end
end Go.Proofs.YtoadeekdgikghaaDoor
