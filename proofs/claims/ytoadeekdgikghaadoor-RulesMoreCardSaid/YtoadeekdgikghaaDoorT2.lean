/-
 The document's lists of events (quaestorref14): calls, Starved, Loose; SameInts (quaestorref00). No condition.
-/
import Derived.Test.YtoadeekdgikghaaDoorEG
import Derived.Test.YtoadeekdgikghaaDoorX2
import Derived.Laws.Bits64
import Derived.Test.YtoadeekdgikghaaDoorRE
import Derived.Laws.Bits64b
import Derived.Test.YtoadeekdgikghaaDoorW3
set_option maxRecDepth 10000
set_option maxHeartbeats 4000000
set_option linter.defProp false
set_option linter.unusedVariables false
set_option linter.unusedSimpArgs false
namespace Go.Proofs.YtoadeekdgikghaaDoor
open Go.RowKit
structure Evt where
 op : Int
 dep : Int
 self : List Int
 arg : Nat
 val : Nat
 bs : List Int
 flt : Int
instance : Inhabited Evt := ⟨⟨0, 0, [], 0, 0, [], 0⟩⟩
def EvR (H : Nat → Obj → Prop) (r : List SV) (e : Evt) : Prop :=
 ∃ (s0 s1 s2 s3 s4 s5 s6 s7 s8 s9 s10 s11 s12 s13 s14 s15 s16 s17 s18 s19 : Int) (x0 x1 x2 x3 y0 y1 y2 y3 : Int) (a : Option Addr) (n c : Nat), r = [.int .u8 e.op, .int .i64 e.dep, .int .u8 s0, .int .u8 s1, .int .u8 s2, .int .u8 s3, .int .u8 s4, .int .u8 s5, .int .u8 s6, .int .u8 s7, .int .u8 s8, .int .u8 s9, .int .u8 s10, .int .u8 s11, .int .u8 s12, .int .u8 s13, .int .u8 s14, .int .u8 s15, .int .u8 s16, .int .u8 s17, .int .u8 s18, .int .u8 s19, .int .u64 x0, .int .u64 x1, .int .u64 x2, .int .u64 x3, .int .u64 y0, .int .u64 y1, .int .u64 y2, .int .u64 y3, .gh a n c (.ints .u8 e.bs), .int .u16 e.flt] ∧
  e.self = [s0, s1, s2, s3, s4, s5, s6, s7, s8, s9, s10, s11, s12, s13, s14, s15, s16, s17, s18, s19] ∧ allB e.self ∧ allU [x0, x1, x2, x3] ∧ numI [x0, x1, x2, x3] = e.arg ∧ allU [y0, y1, y2, y3] ∧ numI [y0, y1, y2, y3] = e.val ∧
  e.bs.length = n ∧ n ≤ c ∧ adr a n c ∧ LiesH H a (cc (.ints .u8 e.bs)) ∧ allB e.bs ∧ n ≤ maxLen ∧ 0 ≤ e.op ∧ e.op ≤ 255 ∧ inK .i64 e.dep ∧ 0 ≤ e.flt ∧ e.flt ≤ 65535
theorem EvR.mono {H H' : Nat → Obj → Prop} {r : List SV} {e : Evt} (h : EvR H r e) (hH : ∀ b o, H b o → H' b o) : EvR H' r e := by
 obtain ⟨s0, s1, s2, s3, s4, s5, s6, s7, s8, s9, s10, s11, s12, s13, s14, s15, s16, s17, s18, s19, x0, x1, x2, x3, y0, y1, y2, y3, a, n, c, g1, g2, g3, g4, g5, g6, g7, g8, g9, g10, g11, g12⟩ := h
 exact ⟨s0, s1, s2, s3, s4, s5, s6, s7, s8, s9, s10, s11, s12, s13, s14, s15, s16, s17, s18, s19, x0, x1, x2, x3, y0, y1, y2, y3, a, n, c, g1, g2, g3, g4, g5, g6, g7, g8, g9, g10, g11.mono hH, g12⟩
def EvsR (H : Nat → Obj → Prop) (rs : List (List SV)) (l : List Evt) : Prop :=
 rs.length = l.length ∧ (∀ r ∈ rs, r.length = 32) ∧ ∀ (i : Nat) (r : List SV) (e : Evt), rs[i]? = some r → l[i]? = some e → EvR H r e
theorem EvsR.mono {H H' : Nat → Obj → Prop} {rs : List (List SV)} {l : List Evt} (h : EvsR H rs l) (hH : ∀ b o, H b o → H' b o) : EvsR H' rs l :=
 ⟨h.1, h.2.1, fun i r e hr he => (h.2.2 i r e hr he).mono hH⟩
structure EvL (H : Nat → Obj → Prop) (a : Option Addr) (n c : Nat) (rs : List (List SV)) (l : List Evt) : Prop where
 len : l.length = n
 le : n ≤ c
 adr : adr a n c
 max : n ≤ maxLen
 lies : LiesH H a (cc (.rows 32 rs))
 rows : EvsR H rs l
theorem EvL.mono {H H' : Nat → Obj → Prop} {a : Option Addr} {n c : Nat} {rs : List (List SV)} {l : List Evt} (h : EvL H a n c rs l) (hH : ∀ b o, H b o → H' b o) : EvL H' a n c rs l :=
 ⟨h.len, h.le, h.adr, h.max, h.lies.mono hH, h.rows.mono hH⟩
def evW (most : Int) : List Evt → Int → Int
 | [], s => s
 | e :: l, s => if s ≤ most then evW most l (s + (1 + (e.bs.length : Int) / 32)) else s
theorem evW_big {most : Int} : ∀ (l : List Evt) (s : Int), most < s → evW most l s = s
 | [], _, _ => rfl
 | e :: l, s, h => if_neg (by omega)
theorem evW_len {most : Int} : ∀ (l : List Evt) (s : Int), evW most l s ≤ most → s + l.length ≤ most ∧ ∀ e ∈ l, (e.bs.length : Int) / 32 ≤ most - s
 | [], s, h => by simp only [evW] at h; exact ⟨by simpa using h, fun e he => by simp at he⟩
 | e :: l, s, h => by
  by_cases hs : s ≤ most
  ·simp only [evW, if_pos hs] at h
   obtain ⟨h1, h2⟩ := evW_len l _ h
   have h3 : (0 : Int) ≤ (e.bs.length : Int) / 32 := by omega
   refine ⟨by simp only [List.length_cons]; omega, fun x hx => ?_⟩
   rcases List.mem_cons.1 hx with rfl | hx
   ·omega
   ·have := h2 x hx; omega
  ·simp only [evW, if_neg hs] at h; omega
noncomputable def GT1 : Ctr := fun f args m => match f with
 | 43 => g_From args m
 | 54 => g_lowByte args m
 | 42 => g_Cmp args m
 | 41 => g_Sub args m
 | _ => .none
theorem GT1_ok : GOk Tryd.prog GT1 := by
 intro w0 B f args m; unfold GT1; split
 ·exact g_From_ok _ _ _ _
 ·exact g_lowByte_ok _ _ _ _
 ·exact g_Cmp_ok _ _ _ _
 ·exact g_Sub_ok _ _ _ _
 ·exact trivial
theorem GT1_From : GT1 43 = g_From := by funext args m; rfl
theorem GT1_lowByte : GT1 54 = g_lowByte := by funext args m; rfl
theorem GT1_Cmp : GT1 42 = g_Cmp := by funext args m; rfl
theorem GT1_Sub : GT1 41 = g_Sub := by funext args m; rfl
def GT1_set := And.intro (And.intro (And.intro (@GT1_From) (@g_From.eq_def)) (And.intro (@GT1_lowByte) (@g_lowByte.eq_def))) (And.intro (And.intro (@GT1_Cmp) (@g_Cmp.eq_def)) (And.intro (@GT1_Sub) (@g_Sub.eq_def)))

set_option maxRecDepth 20000 in
theorem Events_vc (most : Int) (h0 : 0 ≤ most) (hM : most ≤ 1000000) (a : Option Addr) (n c : Nat) (rs : List (List SV)) (l : List Evt) (w : World) (hE : EvL (H0 w) a n c rs l) :
  Calls Tryd.prog 11 (cvs [.gh a n c (.rows 32 rs), .int .i64 most]).toArray w (fun en w' => ∃ u, en = .returned u ∧ ∃ v' m', u = cv v' ∧ MemOk w [] m' w' ∧ v' = .int .i64 (evW most l 0)) := by
 obtain ⟨hl, hn, ha, hm, hL, r1, r2, r3⟩ := hE
 unfold maxLen at hm
 have hLx : ∀ m, allOld w ∈ m → LiesH (HM m) a (cc (.rows 32 rs)) := fun m hin => hL.mono (H0.hm hin)
 refine Vc.calls T0_ok Tryd.func11 rfl rfl (args := [.gh a n c (.rows 32 rs), .int .i64 most]) (k := 27) rfl (old_start w) ?_; change Vc _ _ (c8 (.gh a n c (.rows 32 rs)) (.int .i64 most) .undef .undef .undef .undef .undef .undef (c8 .undef .undef .undef .undef .undef .undef .undef .undef (c8 .undef .undef .undef .undef .undef .undef .undef .undef ([.undef, .undef, .undef, .undef, .undef])))) _ _
 ((repeat (first | (with_reducible first | refine Vc.seq fun N hN => ?_ | refine Vc.block ?_) | ((with_reducible refine And.intro ?_ ?_); exact sdB) | ((first | ((with_reducible refine Vc.hold ?_); first | refine Vc.regiont T0_ok GT1_ok ?_)); (try simp only [v8Y, Nat.beq, Nat.ble, seval, tabs, GT1_set, ])) | ((with_reducible refine hN _ _ ?_); clear hN N))))
 (revert N; intro N1 hN1)
 refine Vc.loop 5 28 (fun (x : Nat × Int) => [(5, .int .i64 x.2), (6, .int .i64 (x.1 : Nat))]) (fun x => [allOld w]) (fun x => x.1 ≤ n ∧ 0 ≤ x.2 ∧ x.2 ≤ 2000000000000000000 ∧ evW most (l.drop x.1) x.2 = evW most l 0) (fun x => n - x.1) (0, 0) ⟨⟨Nat.zero_le _, Int.le_refl _, by decide, by simp⟩, ?_, ?_⟩ (fun x junk hx2 => ?_)
 ·((try simp only [v8Y, Nat.beq, Nat.ble, seval, tabs]); (repeat' with_reducible apply And.intro) <;> first | with_reducible exact True.intro | rfl | with_reducible rfl | (congr 1 <;> omega) | trivial)
 ·((try simp only [v8Y, Nat.beq, Nat.ble, seval, tabs]); (repeat' with_reducible apply And.intro) <;> first | with_reducible exact True.intro | rfl | with_reducible rfl | (congr 1 <;> omega) | trivial)
 ·obtain ⟨k, s⟩ := x
  simp only at hx2 ⊢
  obtain ⟨k1, k2, k3, k4⟩ := hx2
  (simp only [v8Y, Nat.beq, Nat.ble, seval, tabs])
  by_cases hc1 : k < n
  ·have d1 : decide ((k : Int) < (n : Int)) = true := decide_eq_true (by omega)
   have e1 := List.getElem?_eq_getElem (show k < rs.length by omega)
   have e2 := List.getElem?_eq_getElem (show k < l.length by omega)
   have hp := r3 k _ _ e1 e2
   have hgd := getD_of e1
   have hdk : l.drop k = l[k] :: l.drop (k + 1) := List.drop_eq_getElem_cons (by omega)
   have tk : ((k : Nat) : Int).toNat = k := by omega
   generalize rs[k] = r at *
   generalize l[k] = e at *
   obtain ⟨s0, s1, s2, s3, s4, s5, s6, s7, s8, s9, s10, s11, s12, s13, s14, s15, s16, s17, s18, s19, x0, x1, x2, x3, y0, y1, y2, y3, pa, pn, pc, rfl, g1, g2, g3, g4, g5, g6, g7, g8, g9, g10, g11, g12, g13, g14, g15, g16, g17⟩ := hp
   unfold maxLen at g12
   rw [hdk] at k4
   by_cases hs : s ≤ most
   ·have d2 : decide (s ≤ most) = true := decide_eq_true hs
    simp only [evW, if_pos hs] at k4
    rw [g7] at k4
    ((repeat (first | (with_reducible refine Vc.seq fun N hN => ?_) | ((with_reducible refine And.intro ?_ ?_); exact sdB) | ((first | ((with_reducible refine Vc.hold ?_); first | refine Vc.regiont T0_ok GT1_ok ?_)); (try simp only [v8Y, Nat.beq, Nat.ble, seval, tabs, GT1_set, d1, d2])) | ((with_reducible refine hN _ _ ?_); clear hN N))))
    (refine Vc.cond T0_ok (t := true) (by rfl) (fun _ => ?_) (fun h => Bool.noConfusion h))
    ((repeat (first | (with_reducible first | refine Vc.seq fun N hN => ?_ | refine Vc.block ?_) | ((first | with_reducible refine Vc.skip ?_); dsimp only [thenK, blockK, Nat.beq]; (first | (refine hN _ _ ?_; clear hN N))) | ((with_reducible refine And.intro ?_ ?_); exact sX11) | ((first | ((with_reducible refine Vc.hold ?_); first | refine Vc.regiont T0_ok GT1_ok ?_)); (try simp only [v8Y, Nat.beq, Nat.ble, seval, tabs, GT1_set, d1, d2, tk, hgd])) | ((with_reducible refine hN _ _ ?_); clear hN N))))
    refine ⟨(k + 1, s + (1 + (pn : Int) / 32)), ⟨by simp only; omega, by simp only; omega, by simp only; omega, k4⟩, ?_, ?_, by simp only; omega⟩
    ·((try simp only [v8Y, Nat.beq, Nat.ble, seval, tabs]); (repeat' with_reducible apply And.intro) <;> first | with_reducible exact True.intro | rfl | (congr 1 <;> omega))
    ·((try simp only [v8Y, Nat.beq, Nat.ble, seval, tabs]); (repeat' with_reducible apply And.intro) <;> first | with_reducible exact True.intro | rfl | (congr 1 <;> omega))
   ·have d2 : decide (s ≤ most) = false := decide_eq_false hs
    rw [evW_big _ _ (by omega)] at k4
    ((repeat (first | (with_reducible refine Vc.seq fun N hN => ?_) | ((with_reducible refine And.intro ?_ ?_); exact sdB) | ((first | ((with_reducible refine Vc.hold ?_); first | refine Vc.regiont T0_ok GT1_ok ?_)); (try simp only [v8Y, Nat.beq, Nat.ble, seval, tabs, GT1_set, d1, d2])) | ((with_reducible refine hN _ _ ?_); clear hN N))))
    (refine Vc.cond T0_ok (t := false) (by rfl) (fun h => Bool.noConfusion h) (fun _ => ?_))
    ((repeat (first | ((first | with_reducible refine Vc.exit ?_); dsimp only [thenK, blockK, Nat.beq]; (first | skip)))))
    (refine hN1 _ _ ?_; (try clear hN N); clear hN1 N1)
    ((repeat (first | (with_reducible refine Vc.seq fun N hN => ?_) | ((with_reducible refine And.intro ?_ ?_); exact sdB) | ((first | ((with_reducible refine Vc.fin ?_); dsimp only [thenK, blockK, retK, resS, resOne, resAll]) | ((with_reducible refine Vc.hold ?_); first | refine Vc.regiont T0_ok GT1_ok ?_)); (try simp only [v8Y, Nat.beq, Nat.ble, seval, tabs, GT1_set, ])) | ((with_reducible refine hN _ _ ?_); clear hN N))); (try ((with_reducible refine Fin.of ?_); (try with_reducible exact True.intro))))
    exact ⟨trivial, by rw [k4]⟩
  ·have d1 : decide ((k : Int) < (n : Int)) = false := decide_eq_false (by omega)
   obtain rfl : k = n := by omega
   rw [List.drop_eq_nil_of_le (by omega)] at k4
   simp only [evW] at k4
   ((repeat (first | (with_reducible refine Vc.seq fun N hN => ?_) | ((with_reducible refine And.intro ?_ ?_); exact sdB) | ((first | ((with_reducible refine Vc.hold ?_); first | refine Vc.regiont T0_ok GT1_ok ?_)); (try simp only [v8Y, Nat.beq, Nat.ble, seval, tabs, GT1_set, d1])) | ((with_reducible refine hN _ _ ?_); clear hN N))))
   (refine Vc.cond T0_ok (t := false) (by rfl) (fun h => Bool.noConfusion h) (fun _ => ?_))
   ((repeat (first | (with_reducible refine Vc.seq fun N hN => ?_) | ((first | with_reducible refine Vc.exit ?_); dsimp only [thenK, blockK, Nat.beq]; (first | skip)) | ((with_reducible refine And.intro ?_ ?_); exact sdB) | ((first | ((with_reducible refine Vc.fin ?_); dsimp only [thenK, blockK, retK, resS, resOne, resAll]) | ((with_reducible refine Vc.hold ?_); first | refine Vc.regiont T0_ok GT1_ok ?_)); (try simp only [v8Y, Nat.beq, Nat.ble, seval, tabs, GT1_set])) | ((with_reducible refine hN _ _ ?_); clear hN N))); (try ((with_reducible refine Fin.of ?_); (try with_reducible exact True.intro))))
   (refine hN1 _ _ ?_; (try clear hN N); clear hN1 N1)
   ((repeat (first | (with_reducible refine Vc.seq fun N hN => ?_) | ((first | with_reducible refine Vc.exit ?_); dsimp only [thenK, blockK, Nat.beq]; (first | skip)) | ((with_reducible refine And.intro ?_ ?_); exact sdB) | ((first | ((with_reducible refine Vc.fin ?_); dsimp only [thenK, blockK, retK, resS, resOne, resAll]) | ((with_reducible refine Vc.hold ?_); first | refine Vc.regiont T0_ok GT1_ok ?_)); (try simp only [v8Y, Nat.beq, Nat.ble, seval, tabs, GT1_set])) | ((with_reducible refine hN _ _ ?_); clear hN N))); (try ((with_reducible refine Fin.of ?_); (try with_reducible exact True.intro))))
   exact ⟨trivial, by rw [k4]⟩
theorem EvR.bs {H H' : Nat → Obj → Prop} {r : List SV} {e e' : Evt} (h : EvR H r e) (h' : EvR H' r e') : e = e' := by
 obtain ⟨s0, s1, s2, s3, s4, s5, s6, s7, s8, s9, s10, s11, s12, s13, s14, s15, s16, s17, s18, s19, x0, x1, x2, x3, y0, y1, y2, y3, a, n, c, rfl, g2, _, _, g5, _, g7, _⟩ := h
 obtain ⟨t0, t1, t2, t3, t4, t5, t6, t7, t8, t9, t10, t11, t12, t13, t14, t15, t16, t17, t18, t19, p0, p1, p2, p3, q0, q1, q2, q3, a', n', c', q, f2, _, _, f5, _, f7, _⟩ := h'
 cases e
 cases e'
 simp only [List.cons.injEq, SV.int.injEq, SV.gh.injEq, Con.ints.injEq, and_true, true_and] at q
 simp only at g2 g5 g7 f2 f5 f7
 simp only [Evt.mk.injEq]
 grind
theorem EvsR.eq {H H' : Nat → Obj → Prop} {rs : List (List SV)} {l l' : List Evt} (h : EvsR H rs l) (h' : EvsR H' rs l') : l = l' := by
 apply List.ext_getElem?
 intro i
 by_cases hi : i < rs.length
 ·have e1 := List.getElem?_eq_getElem (show i < rs.length by omega)
  have e2 := List.getElem?_eq_getElem (show i < l.length by have := h.1; omega)
  have e3 := List.getElem?_eq_getElem (show i < l'.length by have := h'.1; omega)
  rw [e2, e3, (h.2.2 i _ _ e1 e2).bs (h'.2.2 i _ _ e1 e3)]
 ·have h1 := h.1; have h2 := h'.1
  rw [List.getElem?_eq_none (by omega), List.getElem?_eq_none (by omega)]
noncomputable def evOf (rs : List (List SV)) : List Evt := open Classical in if h : ∃ l, EvsR (fun _ _ => True) rs l then h.choose else []
theorem evOf_eq {H : Nat → Obj → Prop} {rs : List (List SV)} {l : List Evt} (h : EvsR H rs l) : evOf rs = l := by
 have h0 : ∃ l, EvsR (fun _ _ => True) rs l := ⟨l, h.mono fun _ _ _ => trivial⟩
 unfold evOf
 rw [dif_pos h0]
 exact EvsR.eq h0.choose_spec h
noncomputable def g_Events (args : List SV) (m : List Blk) : CR :=
 match args with
 | [.gh a n c (.rows 32 rs), .int .i64 most] => .pure ((∃ l, EvL (HM m) a n c rs l) ∧ 0 ≤ most ∧ most ≤ 1000000) (.int .i64 (evW most (evOf rs) 0))
 | _ => .none
theorem g_Events_ok (w0 : World) (B : List Nat) (args : List SV) (m : List Blk) : CROk Tryd.prog w0 B 11 args m (g_Events args m) := by
 unfold g_Events
 split
 ·rename_i a n c rs most
  intro ⟨⟨l, hE⟩, h0, h1⟩ w hm
  rw [evOf_eq hE.rows]
  exact calls_pure Tryd.func11 rfl rfl (Events_vc most h0 h1 a n c rs l w (hE.mono fun b o h => hm.hm h))
 ·exact trivial
end Go.Proofs.YtoadeekdgikghaaDoor
namespace Go.Proofs.YtoadeekdgikghaaDoor
open Go.RowKit
def belongsE (a : List Int) (slot : Nat) (e : Evt) : Bool := decide (e.op = 32) && (decide (e.flt = 0) && (!decide ((e.bs.length : Int) < 32) && (eqW (readN (e.bs.take 32)) (rdI a) && (smB (subN slot e.val) && decide (((smN (subN slot e.val) : Nat) : Int) ≤ 128)))))
def belongs (l : List Evt) (a : List Int) (slot : Nat) : Bool := eqW slot (rdI a) || l.any (belongsE a slot)
theorem numI_ltE {x0 x1 x2 x3 : Int} (h : allU [x0, x1, x2, x3]) : numI [x0, x1, x2, x3] < W := by
 obtain ⟨h0, h1, h2, h3, _⟩ := h
 simp only [numI, num]
 unfold W
 omega
end Go.Proofs.YtoadeekdgikghaaDoor
namespace Go.Proofs.YtoadeekdgikghaaDoor
open Go.RowKit
def callOp (x : Int) : Bool := decide (x = 241) || decide (x = 242) || decide (x = 244) || decide (x = 250)
def evSel (f : Evt → List Evt → Bool) : Nat → List Evt → List Int
 | _, [] => []
 | i, e :: l => if f e l = true then (i : Int) :: evSel f (i + 1) l else evSel f (i + 1) l
theorem evSel_len (f : Evt → List Evt → Bool) : ∀ (l : List Evt) (i : Nat), (evSel f i l).length ≤ l.length
 | [], i => Nat.le_refl _
 | e :: l, i => by
  have := evSel_len f l (i + 1)
  simp only [evSel]; split <;> simp only [List.length_cons] <;> omega
theorem evSel_step {f : Evt → List Evt → Bool} {l : List Evt} {k : Nat} {e : Evt} (h : l[k]? = some e) : evSel f k (l.drop k) = if f e (l.drop (k + 1)) = true then (k : Int) :: evSel f (k + 1) (l.drop (k + 1)) else evSel f (k + 1) (l.drop (k + 1)) := by
 have hk := (List.getElem?_eq_some_iff.1 h).1
 rw [List.drop_eq_getElem_cons hk, (List.getElem?_eq_some_iff.1 h).2]; rfl
def starvedE (e : Evt) (_ : List Evt) : Bool := decide (e.flt = 130)
def looseE (e : Evt) (l : List Evt) : Bool := decide (e.op = 90) && decide (e.flt = 0) && !(match l with | [] => false | n :: _ => callOp n.op && decide (n.flt = 0) && decide (n.dep = e.dep) && decide (n.self = e.self))
end Go.Proofs.YtoadeekdgikghaaDoor
