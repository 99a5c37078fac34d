/-
 Keccak-256: the contract of the code's Sum; the chapter's example by reckoning. No condition.
-/
import Derived.Test.YtoadeekdgikghaaDoorET
import Derived.Test.YtoadeekdgikghaaDoorHK
import Derived.Lib.AppendZerosOnto
import Derived.Test.YtoadeekdgikghaaDoorK6
set_option maxRecDepth 10000
set_option linter.defProp false
set_option linter.unusedVariables false
set_option linter.unusedSimpArgs false
namespace Go.Proofs.YtoadeekdgikghaaDoor
open Go.RowKit
def byR (H : Nat → Obj → Prop) (v : SV) (xs : List Int) : Prop :=
 ∃ a n c, v = .gh a n c (.ints .u8 xs) ∧ xs.length = n ∧ n ≤ c ∧ adr a n c ∧ LiesH H a (cc (.ints .u8 xs)) ∧ allB xs ∧ n ≤ maxLen
theorem byR.mono {H H' : Nat → Obj → Prop} {v : SV} {xs : List Int} (h : byR H v xs) (hH : ∀ b o, H b o → H' b o) : byR H' v xs := by
 obtain ⟨a, n, c, h1, h2, h3, h4, h5, h6⟩ := h
 exact ⟨a, n, c, h1, h2, h3, h4, h5.mono hH, h6⟩
structure PcR (H : Nat → Obj → Prop) (l : List SV) (ls : List (List Int)) : Prop where
 len : l.length = ls.length
 each : ∀ (i : Nat) (v : SV) (xs : List Int), l[i]? = some v → ls[i]? = some xs → byR H v xs
theorem nth?_get : ∀ (l : List SV) (n : Nat), nth? l n = l[n]?
 | [], n => by simp [nth?]
 | x :: l, 0 => by simp [nth?]
 | x :: l, n + 1 => by simp [nth?]; exact nth?_get l n
end Go.Proofs.YtoadeekdgikghaaDoor
namespace Go.Proofs.YtoadeekdgikghaaDoor
open Go.RowKit
theorem byR_nil (H : Nat → Obj → Prop) : byR H (.gh none 0 0 (.ints .u8 [])) [] :=
 ⟨none, 0, 0, rfl, rfl, Nat.le_refl _, .inr ⟨rfl, rfl, rfl⟩, .inl rfl, (fun y hy => absurd hy List.not_mem_nil), Nat.zero_le _⟩
theorem byR.uniq {H H' : Nat → Obj → Prop} {v : SV} {xs ys : List Int} (h : byR H v xs) (h' : byR H' v ys) : xs = ys := by
 obtain ⟨a, n, c, rfl, _⟩ := h
 obtain ⟨a', n', c', e, _⟩ := h'
 simp only [SV.gh.injEq, Con.ints.injEq, true_and] at e
 exact e.2.2.2
theorem PcR.mono {H H' : Nat → Obj → Prop} {l : List SV} {ls : List (List Int)} (h : PcR H l ls) (hH : ∀ b o, H b o → H' b o) : PcR H' l ls :=
 ⟨h.len, fun i v xs hv hx => (h.each i v xs hv hx).mono hH⟩
theorem PcR.uniq {H H' : Nat → Obj → Prop} {l : List SV} {ls ks : List (List Int)} (h : PcR H l ls) (h' : PcR H' l ks) : ls = ks := by
 apply List.ext_getElem?
 intro i
 by_cases hi : i < l.length
 ·have e1 := List.getElem?_eq_getElem hi
  have e2 := List.getElem?_eq_getElem (show i < ls.length by have := h.len; omega)
  have e3 := List.getElem?_eq_getElem (show i < ks.length by have := h'.len; omega)
  rw [e2, e3, (h.each i _ _ e1 e2).uniq (h'.each i _ _ e1 e3)]
 ·have h1 := h.len; have h2 := h'.len
  rw [List.getElem?_eq_none (by omega), List.getElem?_eq_none (by omega)]
end Go.Proofs.YtoadeekdgikghaaDoor
namespace Go.Proofs.YtoadeekdgikghaaDoor
open Go.RowKit
structure OpD where
 snd : List Int
 non : Nat
 hf : Bool
 fac : List Int
 fd : List Int
 cd : List Int
 cg : Int
 vg : Int
 pg : Int
 mf : Nat
 mt : Nat
 hp : Bool
 pay : List Int
 pv : Int
 po : Int
 pd : List Int
 sg : List Int
def bL (xs : List Int) : List SV := xs.map (SV.int .u8)
theorem toU8_bL : ∀ xs : List Int, toU8 (bL xs) = some xs
 | [] => rfl
 | x :: xs => by
  have := toU8_bL xs
  unfold bL at this ⊢
  simp only [List.map_cons, toU8, this]
def wL (a : Nat) : List SV := [.int .u64 (lm a 0 : Nat), .int .u64 (lm a 1 : Nat), .int .u64 (lm a 2 : Nat), .int .u64 (lm a 3 : Nat)]
theorem numI_lm {a : Nat} (h : a < W) : numI [((lm a 0 : Nat) : Int), (lm a 1 : Nat), (lm a 2 : Nat), (lm a 3 : Nat)] = a := numI_lmI h
def u64I (x : Int) : Prop := 0 ≤ x ∧ x ≤ 18446744073709551615
structure OpR (H : Nat → Obj → Prop) (l : List SV) (x : OpD) : Prop where
 len : l.length = 83
 one : allOne l = true
 all : takeN l 0 83 = some l
 c0 : takeN l 0 20 = some (bL x.snd)
 c20 : takeN l 20 4 = some (wL x.non)
 c24 : nth? l 24 = some (.bool x.hf)
 c25 : takeN l 25 20 = some (bL x.fac)
 d25 : (l.drop 25).take 20 = bL x.fac
 c45 : ∃ v, nth? l 45 = some v ∧ byR H v x.fd
 c46 : ∃ v, nth? l 46 = some v ∧ byR H v x.cd
 c47 : nth? l 47 = some (.int .u64 x.cg)
 c48 : nth? l 48 = some (.int .u64 x.vg)
 c49 : nth? l 49 = some (.int .u64 x.pg)
 c50 : takeN l 50 4 = some (wL x.mf)
 c54 : takeN l 54 4 = some (wL x.mt)
 c58 : nth? l 58 = some (.bool x.hp)
 c59 : takeN l 59 20 = some (bL x.pay)
 d59 : (l.drop 59).take 20 = bL x.pay
 c79 : nth? l 79 = some (.int .u64 x.pv)
 c80 : nth? l 80 = some (.int .u64 x.po)
 c81 : ∃ v, nth? l 81 = some v ∧ byR H v x.pd
 c82 : ∃ v, nth? l 82 = some v ∧ byR H v x.sg
 ls : x.snd.length = 20
 lf : x.fac.length = 20
 lp : x.pay.length = 20
 bs : allB x.snd
 bf : allB x.fac
 bp : allB x.pay
 wn : x.non < W
 wf : x.mf < W
 wt : x.mt < W
 u1 : u64I x.cg
 u2 : u64I x.vg
 u3 : u64I x.pg
 u4 : u64I x.pv
 u5 : u64I x.po
theorem OpR.mono {H H' : Nat → Obj → Prop} {l : List SV} {x : OpD} (h : OpR H l x) (hH : ∀ b o, H b o → H' b o) : OpR H' l x := by
 exact ⟨h.len, h.one, h.all, h.c0, h.c20, h.c24, h.c25, h.d25, h.c45.imp fun v p => ⟨p.1, p.2.mono hH⟩, h.c46.imp fun v p => ⟨p.1, p.2.mono hH⟩, h.c47, h.c48, h.c49, h.c50, h.c54, h.c58, h.c59, h.d59, h.c79, h.c80, h.c81.imp fun v p => ⟨p.1, p.2.mono hH⟩, h.c82.imp fun v p => ⟨p.1, p.2.mono hH⟩, h.ls, h.lf, h.lp, h.bs, h.bf, h.bp, h.wn, h.wf, h.wt, h.u1, h.u2, h.u3, h.u4, h.u5⟩
theorem bL_inj {xs ys : List Int} (h : bL xs = bL ys) : xs = ys := by
 have := congrArg toU8 h
 rw [toU8_bL, toU8_bL] at this
 exact Option.some.inj this
theorem wL_inj {a b : Nat} (ha : a < W) (hb : b < W) (h : wL a = wL b) : a = b := by
 simp only [wL, List.cons.injEq, SV.int.injEq, true_and, and_true] at h
 rw [← numI_lm ha, ← numI_lm hb, h.1, h.2.1, h.2.2.1, h.2.2.2]
theorem OpR.uniq {H H' : Nat → Obj → Prop} {l : List SV} {x y : OpD} (h : OpR H l x) (h' : OpR H' l y) : x = y := by
 obtain ⟨a1, a2, a3, a4, a5, a6, a7, a8, ⟨v1, a9, b1⟩, ⟨v2, a10, b2⟩, a11, a12, a13, a14, a15, a16, a17, a18, a19, a20, ⟨v3, a21, b3⟩, ⟨v4, a22, b4⟩, _, _, _, _, _, _, wn, wf, wt, _⟩ := h
 obtain ⟨z1, z2, z3, z4, z5, z6, z7, z8, ⟨u1, z9, y1⟩, ⟨u2, z10, y2⟩, z11, z12, z13, z14, z15, z16, z17, z18, z19, z20, ⟨u3, z21, y3⟩, ⟨u4, z22, y4⟩, _, _, _, _, _, _, wn', wf', wt', _⟩ := h'
 have e4 := bL_inj (Option.some.inj (a4.symm.trans z4))
 have e5 := wL_inj wn wn' (Option.some.inj (a5.symm.trans z5))
 have e6 := Option.some.inj (a6.symm.trans z6)
 have e7 := bL_inj (Option.some.inj (a7.symm.trans z7))
 obtain rfl := Option.some.inj (a9.symm.trans z9)
 obtain rfl := Option.some.inj (a10.symm.trans z10)
 obtain rfl := Option.some.inj (a21.symm.trans z21)
 obtain rfl := Option.some.inj (a22.symm.trans z22)
 have f1 := b1.uniq y1
 have f2 := b2.uniq y2
 have f3 := b3.uniq y3
 have f4 := b4.uniq y4
 have e11 := Option.some.inj (a11.symm.trans z11)
 have e12 := Option.some.inj (a12.symm.trans z12)
 have e13 := Option.some.inj (a13.symm.trans z13)
 have e14 := wL_inj wf wf' (Option.some.inj (a14.symm.trans z14))
 have e15 := wL_inj wt wt' (Option.some.inj (a15.symm.trans z15))
 have e16 := Option.some.inj (a16.symm.trans z16)
 have e17 := bL_inj (Option.some.inj (a17.symm.trans z17))
 have e19 := Option.some.inj (a19.symm.trans z19)
 have e20 := Option.some.inj (a20.symm.trans z20)
 simp only [SV.bool.injEq, SV.int.injEq, true_and] at e6 e11 e12 e13 e16 e19 e20
 cases x; cases y
 simp only at e4 e5 e6 e7 f1 f2 f3 f4 e11 e12 e13 e14 e15 e16 e17 e19 e20
 subst e4 e5 e6 e7 f1 f2 f3 f4 e11 e12 e13 e14 e15 e16 e17 e19 e20
 rfl
instance : Inhabited OpD := ⟨⟨[], 0, false, [], [], [], 0, 0, 0, 0, 0, false, [], 0, 0, [], []⟩⟩
noncomputable def opOf (l : List SV) : OpD := Classical.epsilon fun x => ∃ H, OpR H l x
theorem opOf_eq {H : Nat → Obj → Prop} {l : List SV} {x : OpD} (h : OpR H l x) : opOf l = x := by
 have h1 : ∃ H', OpR H' l (opOf l) := Classical.epsilon_spec (p := fun x => ∃ H, OpR H l x) ⟨x, H, h⟩
 obtain ⟨H', h2⟩ := h1
 exact h2.uniq h
def HN (w w' : World) (b : Nat) (o : Obj) : Prop := w.heap.size ≤ b ∧ w'.heap[b]? = some o
def newH (w w' : World) : List (Nat × Obj) := (List.range' w.heap.size (w'.heap.size - w.heap.size)).filterMap fun b => (w'.heap[b]?).map fun o => (b, o)
theorem newH_mem {w w' : World} {b : Nat} {o : Obj} (h : HN w w' b o) : Hl (newH w w') b o := by
 refine List.mem_filterMap.2 ⟨b, ?_, by rw [h.2]; rfl⟩
 have := (Array.getElem?_eq_some_iff.1 h.2).1
 rw [List.mem_range'_1]
 have := h.1
 omega
theorem newH_ok {w w' : World} : ∀ p ∈ newH w w', w.heap.size ≤ p.1 ∧ w'.heap[p.1]? = some p.2 := fun p hp => by
 obtain ⟨b, hb, he⟩ := List.mem_filterMap.1 hp
 rw [List.mem_range'_1] at hb
 cases ho : w'.heap[b]? with
 | none => rw [ho] at he; cases he
 | some o => rw [ho] at he; cases he; exact ⟨hb.1, ho⟩
theorem newH_nodup (w w' : World) : (Blk.heap (newH w w')).nums.Nodup := by
 have key : ∀ (l : List Nat), l.Nodup → ((l.filterMap fun b => (w'.heap[b]?).map fun o => (b, o)).map (·.1)).Nodup ∧ ∀ b ∈ (l.filterMap fun b => (w'.heap[b]?).map fun o => (b, o)).map (·.1), b ∈ l := by
  intro l
  induction l with
  | nil => intro _; exact ⟨List.nodup_nil, fun b hb => hb⟩
  | cons x l ih =>
   intro h
   obtain ⟨h1, h2⟩ := List.nodup_cons.1 h
   obtain ⟨i1, i2⟩ := ih h2
   cases ho : w'.heap[x]? with
   | none => simp only [List.filterMap_cons, ho, Option.map_none]; exact ⟨i1, fun b hb => List.mem_cons_of_mem _ (i2 b hb)⟩
   | some o =>
    simp only [List.filterMap_cons, ho, Option.map_some, List.map_cons]
    refine ⟨List.nodup_cons.2 ⟨fun hx => h1 (i2 x hx), i1⟩, fun b hb => ?_⟩
    rcases List.mem_cons.1 hb with rfl | hb
    ·exact List.mem_cons_self
    ·exact List.mem_cons_of_mem _ (i2 b hb)
 exact (key _ List.nodup_range').1
theorem calls_new {P : Program} {f : FuncId} {fn : Func} {args : Array Value} {w0 w : World} {B : List Nat} {m : List Blk} {A : Type} {Q : A → List (Nat × Obj) → Prop} {F : A → SV}
  (hf : P.funcs[f]? = some fn) (hn : (fn.name == "runtime.NumGoroutine") = false) (hb : fn.body.isNone = false) (hm : MemOk w0 B m w)
  (h : Calls P f args w (fun en w' => ∃ u, en = .returned u ∧ ∃ v' m', u = cv v' ∧ MemOk w [] m' w' ∧ ∀ w2, MemOk w [] m' w2 → ∃ x : A, cv v' = cv (F x) ∧ Q x (newH w w2))) :
  Enters P f args w fun u w' => ∃ a : A × List (Nat × Obj), Q a.1 a.2 ∧ u = cv (F a.1) ∧ w.grownBy w' .none ∧ (Blk.heap a.2).ok w0 B w' ∧ (∀ b ∈ (Blk.heap a.2).nums, w.heap.size ≤ b) ∧ (Blk.heap a.2).nums.Nodup := by
 refine .inr ⟨enter_run hf hn hb _ w, h.mono fun e w' ⟨u, he, v', m', hu, hm', hq⟩ => ?_⟩
 obtain ⟨x, hv, hq⟩ := hq w' hm'
 refine ⟨u, he, (x, newH w w'), hq, by rw [hu, hv], hm'.grown, fun p hp => ?_, fun b hb => ?_, newH_nodup w w'⟩
 ·obtain ⟨h1, h2⟩ := newH_ok p hp
  exact ⟨h2, .inl (Nat.le_trans hm.size h1)⟩
 ·obtain ⟨p, hp, rfl⟩ := List.mem_map.1 hb
  exact (newH_ok p hp).1
theorem PtR.mono {H H' : Nat → Obj → Prop} {r : List SV} {p : Prt} (h : PtR H r p) (hH : ∀ b o, H b o → H' b o) : PtR H' r p := by
 obtain ⟨x0, x1, x2, x3, a, n, c, h1, h2, h3, h4, h5, h6, h7, h8⟩ := h
 exact ⟨x0, x1, x2, x3, a, n, c, h1, h2, h3, h4, h5, h6, h7.mono hH, h8⟩
structure PsL (H : Nat → Obj → Prop) (a : Option Addr) (n c : Nat) (rs : List (List SV)) (l : List Prt) : Prop where
 len : l.length = n
 le : n ≤ c
 adr : adr a n c
 lies : LiesH H a (cc (.rows 6 rs))
 rows : PsR H rs l
theorem PsL.mono {H H' : Nat → Obj → Prop} {a : Option Addr} {n c : Nat} {rs : List (List SV)} {l : List Prt} (h : PsL H a n c rs l) (hH : ∀ b o, H b o → H' b o) : PsL H' a n c rs l :=
 ⟨h.len, h.le, h.adr, h.lies.mono hH, h.rows.1, h.rows.2.1, fun i r p hr hp => (h.rows.2.2 i r p hr hp).mono hH⟩
end Go.Proofs.YtoadeekdgikghaaDoor
namespace Go.Proofs.YtoadeekdgikghaaDoor
open Go.RowKit
def g_kSum (args : List SV) (m : List Blk) : CR :=
 match args with
 | [.nilsl] => match bget m 0, bget m 1 with
  | .ro a0 c0, .ro a1 c1 => .pure (a0 = some ⟨0, 0, none⟩ ∧ c0 = .ints .u64 kKeys ∧ a1 = some ⟨1, 0, none⟩ ∧ c1 = .ints .u8 kPathI) (.word (kSum []))
  | _, _ => .none
 | [x] => match srcC x m, bget m 0, bget m 1 with
  | some (q, k, .ints .u8 xs), .ro a0 c0, .ro a1 c1 => .pure (q ∧ k ≤ 1000000 ∧ allB xs ∧ a0 = some ⟨0, 0, none⟩ ∧ c0 = .ints .u64 kKeys ∧ a1 = some ⟨1, 0, none⟩ ∧ c1 = .ints .u8 kPathI) (.word (kSum xs))
  | _, _, _ => .none
 | _ => .none
theorem g_kSum_ok (w0 : World) (B : List Nat) (args : List SV) (m : List Blk) : CROk Tryd.prog w0 B 69 args m (g_kSum args m) := by
 unfold g_kSum
 split
 ·split
  ·rename_i a0 c0 a1 c1 h0 h1
   intro ⟨r0, r1, r2, r3⟩ w hm
   subst r0 r1 r2 r3
   have hnil : MemOk w [] [.ro none (.ints .u8 [])] w := ro_cons (ro_nil w) (by intro j u hj; simp [cc] at hj)
   have e : cvs [SV.nilsl] = cvs [.sl 2 none 0 0 1 0 0] := rfl
   rw [e]
   exact calls_pure Tryd.func69 rfl rfl (ksum_vc [] none 0 0 rfl (Nat.le_refl _) (Nat.zero_le _) (by intro y hy; cases hy) (.inr ⟨rfl, rfl, rfl⟩) w (ro_front (ro_front hnil (ro_ro hm h1)) (ro_ro hm h0)))
  ·exact trivial
 ·rename_i x _
  split
  ·rename_i q k xs a0 c0 a1 c1 hs h0 h1
   intro ⟨hq, hk, hx, r0, r1, r2, r3⟩ w hm
   subst r0 r1 r2 r3
   obtain ⟨l1, a, cp, e1, b1, m1, d1⟩ := src_ro hs hq hm
   have hl : xs.length = k := by simpa [cc, conEs] using l1
   have e : cvs [x] = cvs [.sl 2 a 0 0 1 k cp] := by simp only [cvs]; rw [e1]; rfl
   rw [e]
   exact calls_pure Tryd.func69 rfl rfl (ksum_vc xs a k cp hl b1 hk hx d1 w (ro_front (ro_front m1 (ro_ro hm h1)) (ro_ro hm h0)))
  ·exact trivial
 ·exact trivial
end Go.Proofs.YtoadeekdgikghaaDoor
