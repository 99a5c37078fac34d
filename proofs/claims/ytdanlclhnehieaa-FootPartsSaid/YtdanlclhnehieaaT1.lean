/-
  Events as data; the document's bound of events (quaestorref00.Events), walked. No condition.
-/
import Derived.Test.YtdanlclhnehieaaEG
import Derived.Test.YtdanlclhnehieaaG1
namespace Go.Proofs.Ytdanlclhnehieaa
set_option linter.unusedSimpArgs false
set_option linter.unusedVariables false
set_option linter.defProp false
open Go.RowKit
structure Evt where
  op : Int
  dep : Int
  self : List Int
  arg : Nat
  val : Nat
  bs : List Int
  flt : Int
instance : Inhabited Evt := ⟨⟨0, 0, [], 0, 0, [], 0⟩⟩
def EvR (H : Nat → Obj → Prop) (r : List SV) (e : Evt) : Prop :=
  ∃ (s0 s1 s2 s3 s4 s5 s6 s7 s8 s9 s10 s11 s12 s13 s14 s15 s16 s17 s18 s19 : Int) (x0 x1 x2 x3 y0 y1 y2 y3 : Int) (a : Option Addr) (n c : Nat), r = [.int .u8 e.op, .int .i64 e.dep, .int .u8 s0, .int .u8 s1, .int .u8 s2, .int .u8 s3, .int .u8 s4, .int .u8 s5, .int .u8 s6, .int .u8 s7, .int .u8 s8, .int .u8 s9, .int .u8 s10, .int .u8 s11, .int .u8 s12, .int .u8 s13, .int .u8 s14, .int .u8 s15, .int .u8 s16, .int .u8 s17, .int .u8 s18, .int .u8 s19, .int .u64 x0, .int .u64 x1, .int .u64 x2, .int .u64 x3, .int .u64 y0, .int .u64 y1, .int .u64 y2, .int .u64 y3, .gh a n c (.ints .u8 e.bs), .int .u16 e.flt] ∧
    e.self = [s0, s1, s2, s3, s4, s5, s6, s7, s8, s9, s10, s11, s12, s13, s14, s15, s16, s17, s18, s19] ∧ allB e.self ∧ allU [x0, x1, x2, x3] ∧ numI [x0, x1, x2, x3] = e.arg ∧ allU [y0, y1, y2, y3] ∧ numI [y0, y1, y2, y3] = e.val ∧
    e.bs.length = n ∧ n ≤ c ∧ adr a n c ∧ LiesH H a (cc (.ints .u8 e.bs)) ∧ allB e.bs ∧ n ≤ maxLen ∧ 0 ≤ e.op ∧ e.op ≤ 255 ∧ inK .i64 e.dep ∧ 0 ≤ e.flt ∧ e.flt ≤ 65535
theorem EvR.mono {H H' : Nat → Obj → Prop} {r : List SV} {e : Evt} (h : EvR H r e) (hH : ∀ b o, H b o → H' b o) : EvR H' r e := by
  obtain ⟨s0, s1, s2, s3, s4, s5, s6, s7, s8, s9, s10, s11, s12, s13, s14, s15, s16, s17, s18, s19, x0, x1, x2, x3, y0, y1, y2, y3, a, n, c, g1, g2, g3, g4, g5, g6, g7, g8, g9, g10, g11, g12⟩ := h
  exact ⟨s0, s1, s2, s3, s4, s5, s6, s7, s8, s9, s10, s11, s12, s13, s14, s15, s16, s17, s18, s19, x0, x1, x2, x3, y0, y1, y2, y3, a, n, c, g1, g2, g3, g4, g5, g6, g7, g8, g9, g10, g11.mono hH, g12⟩
def EvsR (H : Nat → Obj → Prop) (rs : List (List SV)) (l : List Evt) : Prop :=
  rs.length = l.length ∧ (∀ r ∈ rs, r.length = 32) ∧ ∀ (i : Nat) (r : List SV) (e : Evt), rs[i]? = some r → l[i]? = some e → EvR H r e
theorem EvsR.mono {H H' : Nat → Obj → Prop} {rs : List (List SV)} {l : List Evt} (h : EvsR H rs l) (hH : ∀ b o, H b o → H' b o) : EvsR H' rs l :=
  ⟨h.1, h.2.1, fun i r e hr he => (h.2.2 i r e hr he).mono hH⟩
structure EvL (H : Nat → Obj → Prop) (a : Option Addr) (n c : Nat) (rs : List (List SV)) (l : List Evt) : Prop where
  len : l.length = n
  le : n ≤ c
  adr : adr a n c
  max : n ≤ maxLen
  lies : LiesH H a (cc (.rows 32 rs))
  rows : EvsR H rs l
theorem EvL.mono {H H' : Nat → Obj → Prop} {a : Option Addr} {n c : Nat} {rs : List (List SV)} {l : List Evt} (h : EvL H a n c rs l) (hH : ∀ b o, H b o → H' b o) : EvL H' a n c rs l :=
  ⟨h.len, h.le, h.adr, h.max, h.lies.mono hH, h.rows.mono hH⟩
noncomputable def GT1 : Ctr := fun f args m => match f with
  | 28 => g_Cmp args m
  | 35 => g_Sub args m
  | _ => .none
theorem GT1_ok : GOk Try.prog GT1 := by
  intro w0 B f args m; unfold GT1; split
  · exact g_Cmp_ok _ _ _ _
  · exact g_Sub_ok _ _ _ _
  · exact trivial
theorem GT1_Cmp : GT1 28 = g_Cmp := by funext args m; rfl
theorem GT1_Sub : GT1 35 = g_Sub := by funext args m; rfl
def GT1_set := And.intro (And.intro (@GT1_Cmp) (@g_Cmp.eq_def)) (And.intro (@GT1_Sub) (@g_Sub.eq_def))

theorem EvR.bs {H H' : Nat → Obj → Prop} {r : List SV} {e e' : Evt} (h : EvR H r e) (h' : EvR H' r e') : e = e' := by
  obtain ⟨s0, s1, s2, s3, s4, s5, s6, s7, s8, s9, s10, s11, s12, s13, s14, s15, s16, s17, s18, s19, x0, x1, x2, x3, y0, y1, y2, y3, a, n, c, rfl, g2, _, _, g5, _, g7, _⟩ := h
  obtain ⟨t0, t1, t2, t3, t4, t5, t6, t7, t8, t9, t10, t11, t12, t13, t14, t15, t16, t17, t18, t19, p0, p1, p2, p3, q0, q1, q2, q3, a', n', c', q, f2, _, _, f5, _, f7, _⟩ := h'
  cases e
  cases e'
  simp only [List.cons.injEq, SV.int.injEq, SV.gh.injEq, Con.ints.injEq, and_true, true_and] at q
  simp only at g2 g5 g7 f2 f5 f7
  simp only [Evt.mk.injEq]
  grind
theorem EvsR.eq {H H' : Nat → Obj → Prop} {rs : List (List SV)} {l l' : List Evt} (h : EvsR H rs l) (h' : EvsR H' rs l') : l = l' := by
  apply List.ext_getElem?
  intro i
  by_cases hi : i < rs.length
  · have e1 := List.getElem?_eq_getElem (show i < rs.length by omega)
    have e2 := List.getElem?_eq_getElem (show i < l.length by have := h.1; omega)
    have e3 := List.getElem?_eq_getElem (show i < l'.length by have := h'.1; omega)
    rw [e2, e3, (h.2.2 i _ _ e1 e2).bs (h'.2.2 i _ _ e1 e3)]
  · have h1 := h.1; have h2 := h'.1
    rw [List.getElem?_eq_none (by omega), List.getElem?_eq_none (by omega)]
end Go.Proofs.Ytdanlclhnehieaa
