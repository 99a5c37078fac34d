/-
 An operation as data; what a walk leaves that is new; parts in a literal. No condition.
-/
import Derived.Test.YthdpgfdfgidokaaDoorOA
set_option maxRecDepth 10000
set_option maxHeartbeats 4000000
set_option linter.defProp false
set_option linter.unusedVariables false
set_option linter.unusedSimpArgs false
namespace Go.Proofs.YthdpgfdfgidokaaDoor
open Go.RowKit
def byK2 (r : Option (Prop × Nat × Con)) : Option (Prop × List Int) :=
 match r with
 | some (q, k, .ints .u8 xs) => some (q ∧ k ≤ 70000000 ∧ allB xs, xs)
 | some (q, k, .cells cs) => match toU8 cs with
  | some xs => some (q ∧ k ≤ 70000000 ∧ allB xs, xs)
  | none => none
 | _ => none
def byK (m : List Blk) (x : SV) : Option (Prop × List Int) :=
 match x with
 | .nilsl => some (True, [])
 | x => byK2 (srcC x m)
theorem byK_nil {m : List Blk} : byK m .nilsl = some (True, []) := rfl
theorem byK_sl {m : List Blk} {nm : Nat} {a : Option Addr} {st st0 es len cap : Nat} : byK m (.sl nm a st st0 es len cap) = byK2 (srcC (.sl nm a st st0 es len cap) m) := rfl
theorem byK_own {m : List Blk} {nm : Nat} {v : Value} {n : Nat} : byK m (.own nm v n) = byK2 (srcC (.own nm v n) m) := rfl
theorem byK_gh {m : List Blk} {a : Option Addr} {n c : Nat} {con : Con} : byK m (.gh a n c con) = byK2 (srcC (.gh a n c con) m) := rfl
theorem byK2_i {q : Prop} {k : Nat} {xs : List Int} : byK2 (some (q, k, .ints .u8 xs)) = some (q ∧ k ≤ 70000000 ∧ allB xs, xs) := rfl
def byK3 (q : Prop) (k : Nat) (r : Option (List Int)) : Option (Prop × List Int) := match r with | some xs => some (q ∧ k ≤ 70000000 ∧ allB xs, xs) | none => none
theorem byK2_c {q : Prop} {k : Nat} {cs : List SV} : byK2 (some (q, k, .cells cs)) = byK3 q k (toU8 cs) := rfl
theorem byK3_s {q : Prop} {k : Nat} {xs : List Int} : byK3 q k (some xs) = some (q ∧ k ≤ 70000000 ∧ allB xs, xs) := rfl
theorem byR_nil (H : Nat → Obj → Prop) : byR H (.gh none 0 0 (.ints .u8 [])) [] :=
 ⟨none, 0, 0, rfl, rfl, Nat.le_refl _, .inr ⟨rfl, rfl, rfl⟩, .inl rfl, (fun y hy => absurd hy List.not_mem_nil), Nat.zero_le _⟩
theorem byR_src {w : World} {x : SV} {k : Nat} {c : Con} {xs : List Int} (hx : cc c = xs.map (Value.int .u8)) (he : conEs c = 1) (hk : k ≤ 70000000) (hb : allB xs)
  (l1 : (cc c).length = k * conEs c) {a : Option Addr} {cp : Nat} (ex : cv x = cv (.sl 0 a 0 0 (conEs c) k cp)) (b1 : k ≤ cp) (m1 : MemOk w [] [.ro a c] w) (d1 : adr a k cp) : ∃ v, cv x = cv v ∧ byR (H0 w) v xs := by
 refine ⟨.gh a k cp (.ints .u8 xs), ?_, a, k, cp, rfl, ?_, b1, d1, ?_, hb, by unfold maxLen; omega⟩
 ·rw [ex, cv_sl0]; rfl
 ·rw [hx, he, List.length_map, Nat.mul_one] at l1; exact l1
 ·have := lies_of_ro m1
  rw [hx] at this
  exact this
theorem byK_sound {m : List Blk} {x : SV} {q : Prop} {xs : List Int} (h : byK m x = some (q, xs)) (hq : q) {w0 : World} {B : List Nat} {w : World} (hm : MemOk w0 B m w) : ∃ v, cv x = cv v ∧ byR (H0 w) v xs := by
 unfold byK at h
 split at h
 ·cases h
  exact ⟨.gh none 0 0 (.ints .u8 []), rfl, byR_nil _⟩
 ·unfold byK2 at h
  split at h
  ·rename_i q' k xs' hs
   simp only [Option.some.injEq, Prod.mk.injEq] at h
   obtain ⟨rfl, rfl⟩ := h
   obtain ⟨h1, h2, h3⟩ := hq
   obtain ⟨l1, a, cp, ex, b1, m1, d1⟩ := src_ro hs h1 hm
   exact byR_src (c := .ints .u8 xs') rfl rfl h2 h3 l1 ex b1 m1 d1
  ·rename_i q' k cs hs
   split at h
   ·rename_i xs' hu
    simp only [Option.some.injEq, Prod.mk.injEq] at h
    obtain ⟨rfl, rfl⟩ := h
    obtain ⟨h1, h2, h3⟩ := hq
    obtain ⟨l1, a, cp, ex, b1, m1, d1⟩ := src_ro hs h1 hm
    exact byR_src (c := .cells cs) (toU8_some hu) rfl h2 h3 l1 ex b1 m1 d1
   ·cases h
  ·cases h
def pcK (m : List Blk) : List SV → Option (Prop × List (List Int))
 | [] => some (True, [])
 | x :: l => match byK m x with
  | some (q, xs) => match pcK m l with | some (q', ls) => some (q ∧ q', xs :: ls) | none => none
  | none => none
def byKs := And.intro @byK_nil <| And.intro @byK_sl <| And.intro @byK_own <| And.intro @byK_gh <| And.intro @byK2_i <| And.intro @byK2_c <| And.intro @byK3_s <| And.intro @pcK.eq_1 @pcK.eq_2
theorem pcK_sound : ∀ {m : List Blk} {l : List SV} {q : Prop} {ls : List (List Int)} (_h : pcK m l = some (q, ls)) (_hq : q) {w0 : World} {B : List Nat} {w : World} (_hm : MemOk w0 B m w),
  ∃ l', cvs l = cvs l' ∧ l'.length = l.length ∧ PcR (H0 w) l' ls
 | m, [], q, ls, h, hq, w0, B, w, hm => by
  cases h
  exact ⟨[], rfl, rfl, rfl, fun i v xs hr _ => by cases hr⟩
 | m, x :: l, q, ls, h, hq, w0, B, w, hm => by
  simp only [pcK] at h
  split at h
  ·rename_i q1 xs he
   split at h
   ·rename_i q2 ls2 hl
    simp only [Option.some.injEq, Prod.mk.injEq] at h
    obtain ⟨rfl, rfl⟩ := h
    obtain ⟨v, h1, h3⟩ := byK_sound he hq.1 hm
    obtain ⟨l', h4, h5, h6, h7⟩ := pcK_sound hl hq.2 hm
    refine ⟨v :: l', by simp only [cvs, h1, h4], by simp only [List.length_cons, h5], by simp only [List.length_cons, h6], fun i y ys hx hy => ?_⟩
    match i, hx, hy with
    | 0, hx, hy => cases hx; cases hy; exact h3
    | i + 1, hx, hy => exact h7 i y ys hx hy
   ·cases h
  ·cases h
theorem lit_pcs {m : List Blk} {nm b n : Nat} {t : TypeId} {l : List SV} {q : Prop} {ls : List (List Int)} (hb : bget m nm = .blk b t (.cells l)) (h : pcK m l = some (q, ls)) (hq : q) (hn : n = l.length) {w0 : World} {B : List Nat} {w : World} (hm : MemOk w0 B m w) :
  ∃ l', l'.length = n ∧ LiesH (H0 w) (some ⟨b, 0, none⟩) (cc (.cells l')) ∧ PcR (H0 w) l' ls := by
 obtain ⟨l', h1, h2, h3⟩ := pcK_sound h hq hm
 have k1 := (hm.each _ (bget_mem hb (by simp))).1
 have hcc : cc (.cells l) = cc (.cells l') := h1
 rw [hcc] at k1
 refine ⟨l', by omega, .inr ⟨b, 0, _, _, _, rfl, k1, fun j u hj => ?_⟩, h3⟩
 rw [Nat.zero_add, List.getElem?_toArray, ← hj]
theorem byR.uniq {H H' : Nat → Obj → Prop} {v : SV} {xs ys : List Int} (h : byR H v xs) (h' : byR H' v ys) : xs = ys := by
 obtain ⟨a, n, c, rfl, _⟩ := h
 obtain ⟨a', n', c', e, _⟩ := h'
 simp only [SV.gh.injEq, Con.ints.injEq, true_and] at e
 exact e.2.2.2
theorem PcR.mono {H H' : Nat → Obj → Prop} {l : List SV} {ls : List (List Int)} (h : PcR H l ls) (hH : ∀ b o, H b o → H' b o) : PcR H' l ls :=
 ⟨h.len, fun i v xs hv hx => (h.each i v xs hv hx).mono hH⟩
theorem PcR.uniq {H H' : Nat → Obj → Prop} {l : List SV} {ls ks : List (List Int)} (h : PcR H l ls) (h' : PcR H' l ks) : ls = ks := by
 apply List.ext_getElem?
 intro i
 by_cases hi : i < l.length
 ·have e1 := List.getElem?_eq_getElem hi
  have e2 := List.getElem?_eq_getElem (show i < ls.length by have := h.len; omega)
  have e3 := List.getElem?_eq_getElem (show i < ks.length by have := h'.len; omega)
  rw [e2, e3, (h.each i _ _ e1 e2).uniq (h'.each i _ _ e1 e3)]
 ·have h1 := h.len; have h2 := h'.len
  rw [List.getElem?_eq_none (by omega), List.getElem?_eq_none (by omega)]
noncomputable def pcOf (l : List SV) : List (List Int) := Classical.epsilon fun ls => ∃ H, PcR H l ls
theorem pcOf_eq {H : Nat → Obj → Prop} {l : List SV} {ls : List (List Int)} (h : PcR H l ls) : pcOf l = ls := by
 have h1 : ∃ H', PcR H' l (pcOf l) := Classical.epsilon_spec (p := fun ls => ∃ H, PcR H l ls) ⟨ls, H, h⟩
 obtain ⟨H', h2⟩ := h1
 exact h2.uniq h
theorem own_newF {P : Program} {f : FuncId} {fn : Func} {args : Array Value} {w : World} {w0 : World} {B : List Nat} {m : List Blk} {t : TypeId} {n : Nat} {con : Con} {F : SV → SV} (hF : ∀ k j s n, cv (F (.own k s n)) = cv (F (.own j s n))) (hf : P.funcs[f]? = some fn) (hn : (fn.name == "runtime.NumGoroutine") = false) (hb : fn.body.isNone = false) (_hm : MemOk w0 B m w)
  (h : Calls P f args w (fun e w' => ∃ u, e = .returned u ∧ ∃ v' m', u = cv v' ∧ MemOk w [] m' w' ∧ ∃ k s, cv v' = cv (F (.own k s n)) ∧ bget m' k = .own s n t 1 con)) : Enters P f args w fun u w' => ∃ v, u = cv (F (.own (blen m) v n)) ∧ w.grownBy w' .none ∧ w'.ownsRow w.heap.size t 1 v n (cc con) :=
 .inr ⟨enter_run hf hn hb _ w, h.mono fun e w' ⟨u, he, v', m', hu, hm, k, s, hv, hs⟩ => ⟨u, he, s, by rw [hu, hv]; exact hF _ _ _ _, hm.grown, own_ok0 (hm.each _ (bget_mem hs (by simp)))⟩⟩
noncomputable def g_concat (args : List SV) (m : List Blk) : CR :=
 match args with
 | [.sl nm (some ⟨b, 0, none⟩) 0 0 1 n c] => match bget m nm with
  | .blk b2 _ (.cells l) => match pcK m l with
   | some (q, ls) => .own (q ∧ b2 = b ∧ n = l.length ∧ c = n ∧ n ≤ 1000 ∧ ls.flatten.length ≤ 70000000) 5 1 ls.flatten.length (.ints .u8 ls.flatten) (fun v => v)
   | none => .none
  | _ => .none
 | [.gh a n c (.cells l)] => .own (∃ ls, PcR (HM m) l ls ∧ l.length = n ∧ n ≤ c ∧ adr a n c ∧ ls.flatten.length ≤ 70000000 ∧ n ≤ 1000 ∧ LiesH (HM m) a (cc (.cells l))) 5 1 (pcOf l).flatten.length (.ints .u8 (pcOf l).flatten) (fun v => v)
 | _ => .none
theorem g_concat_ok (w0 : World) (B : List Nat) (args : List SV) (m : List Blk) : CROk Tryd.prog w0 B 74 args m (g_concat args m) := by
 unfold g_concat
 split
 ·rename_i nm b n c
  split
  ·rename_i b2 t l hb
   split
   ·rename_i q ls hk
    intro ⟨h0, e1, e2, e3, h1, h2⟩ w hm
    subst e1 e3
    obtain ⟨l', h3, h4, h5⟩ := lit_pcs hb hk h0 e2 hm
    have e : cvs [.sl nm (some ⟨b2, 0, none⟩) 0 0 1 c c] = cvs [.gh (some ⟨b2, 0, none⟩) c c (.cells l')] := by
     simp [cvs, cv, addr_add]
    rw [e]
    exact own_new Tryd.func74 rfl rfl hm (concat_vc _ c c l' ls h3 (Nat.le_refl _) (.inl rfl) h2 (by omega) w h4 h5)
   ·exact trivial
  ·exact trivial
 ·rename_i a n c l
  intro ⟨ls, h7, h1, h2, h3, h4, h5, h6⟩ w hm
  rw [pcOf_eq h7]
  exact own_new Tryd.func74 rfl rfl hm (concat_vc _ _ _ _ ls h1 h2 h3 h4 (by omega) w (h6.mono fun b o h => hm.hm h) (h7.mono fun b o h => hm.hm h))
 ·exact trivial
def datF (s : SV) : SV := .agg [.bool true, .int .u64 0, .int .u64 0, .int .u64 0, .int .u64 0, s]
theorem datF_cv : ∀ k j s n, cv (datF (.own k s n)) = cv (datF (.own j s n)) := fun k j s n => rfl
noncomputable def GOB : Ctr := fun f args m => match f with
 | 74 => g_concat args m
 | _ => .none
theorem GOB_ok : GOk Tryd.prog GOB := by
 intro w0 B f args m; unfold GOB; split
 ·exact g_concat_ok _ _ _ _
 ·exact trivial
theorem GOB_concat : GOB 74 = g_concat := by funext args m; rfl
def GOB_set := And.intro (@GOB_concat) (@g_concat.eq_def)

theorem data_vc (a : Option Addr) (n c : Nat) (l : List SV) (ls : List (List Int)) (hl : l.length = n) (hc : n ≤ c) (ha : adr a n c) (hz : ls.flatten.length ≤ 70000000) (hn : n ≤ 1000) (w : World) (hL : LiesH (H0 w) a (cc (.cells l))) (hR : PcR (H0 w) l ls) :
  Calls Tryd.prog 58 (cvs [.gh a n c (.cells l)]).toArray w (fun en w' => ∃ u, en = .returned u ∧ ∃ v' m', u = cv v' ∧ MemOk w [] m' w' ∧ ∃ k s, cv v' = cv (datF (.own k s ls.flatten.length)) ∧ bget m' k = .own s ls.flatten.length 5 1 (.ints .u8 ls.flatten)) := by
 have hp := pcOf_eq hR
 have hLx : ∀ m, allOld w ∈ m → LiesH (HM m) a (cc (.cells l)) := fun m hin => hL.mono (H0.hm hin)
 have hRx : ∀ m, allOld w ∈ m → PcR (HM m) l ls := fun m hin => hR.mono (H0.hm hin)
 refine Vc.calls T0_ok Tryd.func58 rfl rfl (args := [.gh a n c (.cells l)]) (k := 5) rfl (old_start w) ?_; change Vc _ _ ([.gh a n c (.cells l), .undef, .undef, .undef, .undef, .undef]) _ _
 ((repeat (first | (with_reducible refine Vc.seq fun N hN => ?_) | (with_reducible intro _) | ((with_reducible refine And.intro ?_ ?_); (focus (first | ((repeat' with_reducible apply And.intro) <;> first | exact sideQ | (exact ⟨ls, hRx _ (by simp), hl, hc, ha, hz, hn, hLx _ (by simp)⟩)) | exact sd0))) | ((first | ((with_reducible refine Vc.fin ?_); dsimp only [thenK, blockK, retK, resS, resOne, resAll]) | ((with_reducible refine Vc.hold ?_); first | refine Vc.regiont T0_ok GOB_ok ?_)); (try simp only [v8Y, Nat.beq, Nat.ble, seval, tabs, GOB_set, hp])) | ((with_reducible refine hN _ _ ?_); clear hN N))); (try ((with_reducible refine Fin.of ?_); (try with_reducible exact True.intro))))
 rename_i v
 exact ⟨by simp, 2, v, rfl, rfl⟩
def g_data (args : List SV) (m : List Blk) : CR :=
 match args with
 | [.nilsl] => .own True 5 1 0 (.ints .u8 []) datF
 | [.sl nm (some ⟨b, 0, none⟩) 0 0 1 n c] => match bget m nm with
  | .blk b2 _ (.cells l) => match pcK m l with
   | some (q, ls) => .own (q ∧ b2 = b ∧ n = l.length ∧ c = n ∧ n ≤ 1000 ∧ ls.flatten.length ≤ 70000000) 5 1 ls.flatten.length (.ints .u8 ls.flatten) datF
   | none => .none
  | _ => .none
 | _ => .none
theorem g_data_ok (w0 : World) (B : List Nat) (args : List SV) (m : List Blk) : CROk Tryd.prog w0 B 58 args m (g_data args m) := by
 unfold g_data
 split
 ·intro _ w hm
  exact own_newF datF_cv Tryd.func58 rfl rfl hm (data_vc none 0 0 [] [] rfl (Nat.le_refl _) (.inr ⟨rfl, rfl, rfl⟩) (Nat.zero_le _) (Nat.zero_le _) w (.inl rfl) ⟨rfl, fun i v xs hr _ => by cases hr⟩)
 ·rename_i nm b n c
  split
  ·rename_i b2 t l hb
   split
   ·rename_i q ls hk
    intro ⟨h0, e1, e2, e3, h1, h2⟩ w hm
    subst e1 e3
    obtain ⟨l', h3, h4, h5⟩ := lit_pcs hb hk h0 e2 hm
    have e : cvs [.sl nm (some ⟨b2, 0, none⟩) 0 0 1 c c] = cvs [.gh (some ⟨b2, 0, none⟩) c c (.cells l')] := by
     simp [cvs, cv, addr_add]
    rw [e]
    exact own_newF datF_cv Tryd.func58 rfl rfl hm (data_vc _ c c l' ls h3 (Nat.le_refl _) (.inl rfl) h2 h1 w h4 h5)
   ·exact trivial
  ·exact trivial
 ·exact trivial
end Go.Proofs.YthdpgfdfgidokaaDoor
namespace Go.Proofs.YthdpgfdfgidokaaDoor
open Go.RowKit
structure OpD where
 snd : List Int
 non : Nat
 hf : Bool
 fac : List Int
 fd : List Int
 cd : List Int
 cg : Int
 vg : Int
 pg : Int
 mf : Nat
 mt : Nat
 hp : Bool
 pay : List Int
 pv : Int
 po : Int
 pd : List Int
 sg : List Int
def bL (xs : List Int) : List SV := xs.map (SV.int .u8)
theorem toU8_bL : ∀ xs : List Int, toU8 (bL xs) = some xs
 | [] => rfl
 | x :: xs => by
  have := toU8_bL xs
  unfold bL at this ⊢
  simp only [List.map_cons, toU8, this]
def wL (a : Nat) : List SV := [.int .u64 (lm a 0 : Nat), .int .u64 (lm a 1 : Nat), .int .u64 (lm a 2 : Nat), .int .u64 (lm a 3 : Nat)]
theorem numI_lm {a : Nat} (h : a < W) : numI [((lm a 0 : Nat) : Int), (lm a 1 : Nat), (lm a 2 : Nat), (lm a 3 : Nat)] = a := numI_lmI h
theorem allU_lm (a : Nat) : allU [((lm a 0 : Nat) : Int), (lm a 1 : Nat), (lm a 2 : Nat), (lm a 3 : Nat)] := allU_lmI a
def u64I (x : Int) : Prop := 0 ≤ x ∧ x ≤ 18446744073709551615
structure OpR (H : Nat → Obj → Prop) (l : List SV) (x : OpD) : Prop where
 len : l.length = 83
 one : allOne l = true
 all : takeN l 0 83 = some l
 c0 : takeN l 0 20 = some (bL x.snd)
 c20 : takeN l 20 4 = some (wL x.non)
 c24 : nth? l 24 = some (.bool x.hf)
 c25 : takeN l 25 20 = some (bL x.fac)
 d25 : (l.drop 25).take 20 = bL x.fac
 c45 : ∃ v, nth? l 45 = some v ∧ byR H v x.fd
 c46 : ∃ v, nth? l 46 = some v ∧ byR H v x.cd
 c47 : nth? l 47 = some (.int .u64 x.cg)
 c48 : nth? l 48 = some (.int .u64 x.vg)
 c49 : nth? l 49 = some (.int .u64 x.pg)
 c50 : takeN l 50 4 = some (wL x.mf)
 c54 : takeN l 54 4 = some (wL x.mt)
 c58 : nth? l 58 = some (.bool x.hp)
 c59 : takeN l 59 20 = some (bL x.pay)
 d59 : (l.drop 59).take 20 = bL x.pay
 c79 : nth? l 79 = some (.int .u64 x.pv)
 c80 : nth? l 80 = some (.int .u64 x.po)
 c81 : ∃ v, nth? l 81 = some v ∧ byR H v x.pd
 c82 : ∃ v, nth? l 82 = some v ∧ byR H v x.sg
 ls : x.snd.length = 20
 lf : x.fac.length = 20
 lp : x.pay.length = 20
 bs : allB x.snd
 bf : allB x.fac
 bp : allB x.pay
 wn : x.non < W
 wf : x.mf < W
 wt : x.mt < W
 u1 : u64I x.cg
 u2 : u64I x.vg
 u3 : u64I x.pg
 u4 : u64I x.pv
 u5 : u64I x.po
theorem OpR.mono {H H' : Nat → Obj → Prop} {l : List SV} {x : OpD} (h : OpR H l x) (hH : ∀ b o, H b o → H' b o) : OpR H' l x := by
 exact ⟨h.len, h.one, h.all, h.c0, h.c20, h.c24, h.c25, h.d25, h.c45.imp fun v p => ⟨p.1, p.2.mono hH⟩, h.c46.imp fun v p => ⟨p.1, p.2.mono hH⟩, h.c47, h.c48, h.c49, h.c50, h.c54, h.c58, h.c59, h.d59, h.c79, h.c80, h.c81.imp fun v p => ⟨p.1, p.2.mono hH⟩, h.c82.imp fun v p => ⟨p.1, p.2.mono hH⟩, h.ls, h.lf, h.lp, h.bs, h.bf, h.bp, h.wn, h.wf, h.wt, h.u1, h.u2, h.u3, h.u4, h.u5⟩
theorem bL_inj {xs ys : List Int} (h : bL xs = bL ys) : xs = ys := by
 have := congrArg toU8 h
 rw [toU8_bL, toU8_bL] at this
 exact Option.some.inj this
theorem wL_inj {a b : Nat} (ha : a < W) (hb : b < W) (h : wL a = wL b) : a = b := by
 simp only [wL, List.cons.injEq, SV.int.injEq, true_and, and_true] at h
 rw [← numI_lm ha, ← numI_lm hb, h.1, h.2.1, h.2.2.1, h.2.2.2]
theorem OpR.uniq {H H' : Nat → Obj → Prop} {l : List SV} {x y : OpD} (h : OpR H l x) (h' : OpR H' l y) : x = y := by
 obtain ⟨a1, a2, a3, a4, a5, a6, a7, a8, ⟨v1, a9, b1⟩, ⟨v2, a10, b2⟩, a11, a12, a13, a14, a15, a16, a17, a18, a19, a20, ⟨v3, a21, b3⟩, ⟨v4, a22, b4⟩, _, _, _, _, _, _, wn, wf, wt, _⟩ := h
 obtain ⟨z1, z2, z3, z4, z5, z6, z7, z8, ⟨u1, z9, y1⟩, ⟨u2, z10, y2⟩, z11, z12, z13, z14, z15, z16, z17, z18, z19, z20, ⟨u3, z21, y3⟩, ⟨u4, z22, y4⟩, _, _, _, _, _, _, wn', wf', wt', _⟩ := h'
 have e4 := bL_inj (Option.some.inj (a4.symm.trans z4))
 have e5 := wL_inj wn wn' (Option.some.inj (a5.symm.trans z5))
 have e6 := Option.some.inj (a6.symm.trans z6)
 have e7 := bL_inj (Option.some.inj (a7.symm.trans z7))
 obtain rfl := Option.some.inj (a9.symm.trans z9)
 obtain rfl := Option.some.inj (a10.symm.trans z10)
 obtain rfl := Option.some.inj (a21.symm.trans z21)
 obtain rfl := Option.some.inj (a22.symm.trans z22)
 have f1 := b1.uniq y1
 have f2 := b2.uniq y2
 have f3 := b3.uniq y3
 have f4 := b4.uniq y4
 have e11 := Option.some.inj (a11.symm.trans z11)
 have e12 := Option.some.inj (a12.symm.trans z12)
 have e13 := Option.some.inj (a13.symm.trans z13)
 have e14 := wL_inj wf wf' (Option.some.inj (a14.symm.trans z14))
 have e15 := wL_inj wt wt' (Option.some.inj (a15.symm.trans z15))
 have e16 := Option.some.inj (a16.symm.trans z16)
 have e17 := bL_inj (Option.some.inj (a17.symm.trans z17))
 have e19 := Option.some.inj (a19.symm.trans z19)
 have e20 := Option.some.inj (a20.symm.trans z20)
 simp only [SV.bool.injEq, SV.int.injEq, true_and] at e6 e11 e12 e13 e16 e19 e20
 cases x; cases y
 simp only at e4 e5 e6 e7 f1 f2 f3 f4 e11 e12 e13 e14 e15 e16 e17 e19 e20
 subst e4 e5 e6 e7 f1 f2 f3 f4 e11 e12 e13 e14 e15 e16 e17 e19 e20
 rfl
instance : Inhabited OpD := ⟨⟨[], 0, false, [], [], [], 0, 0, 0, 0, 0, false, [], 0, 0, [], []⟩⟩
noncomputable def opOf (l : List SV) : OpD := Classical.epsilon fun x => ∃ H, OpR H l x
theorem opOf_eq {H : Nat → Obj → Prop} {l : List SV} {x : OpD} (h : OpR H l x) : opOf l = x := by
 have h1 : ∃ H', OpR H' l (opOf l) := Classical.epsilon_spec (p := fun x => ∃ H, OpR H l x) ⟨x, H, h⟩
 obtain ⟨H', h2⟩ := h1
 exact h2.uniq h
def OpS (M : Nat) (x : OpD) : Prop := x.fd.length ≤ M ∧ x.cd.length ≤ M ∧ x.pd.length ≤ M ∧ x.sg.length ≤ M
def HN (w w' : World) (b : Nat) (o : Obj) : Prop := w.heap.size ≤ b ∧ w'.heap[b]? = some o
def newH (w w' : World) : List (Nat × Obj) := (List.range' w.heap.size (w'.heap.size - w.heap.size)).filterMap fun b => (w'.heap[b]?).map fun o => (b, o)
theorem newH_mem {w w' : World} {b : Nat} {o : Obj} (h : HN w w' b o) : Hl (newH w w') b o := by
 refine List.mem_filterMap.2 ⟨b, ?_, by rw [h.2]; rfl⟩
 have := (Array.getElem?_eq_some_iff.1 h.2).1
 rw [List.mem_range'_1]
 have := h.1
 omega
theorem newH_ok {w w' : World} : ∀ p ∈ newH w w', w.heap.size ≤ p.1 ∧ w'.heap[p.1]? = some p.2 := fun p hp => by
 obtain ⟨b, hb, he⟩ := List.mem_filterMap.1 hp
 rw [List.mem_range'_1] at hb
 cases ho : w'.heap[b]? with
 | none => rw [ho] at he; cases he
 | some o => rw [ho] at he; cases he; exact ⟨hb.1, ho⟩
theorem newH_nodup (w w' : World) : (Blk.heap (newH w w')).nums.Nodup := by
 have key : ∀ (l : List Nat), l.Nodup → ((l.filterMap fun b => (w'.heap[b]?).map fun o => (b, o)).map (·.1)).Nodup ∧ ∀ b ∈ (l.filterMap fun b => (w'.heap[b]?).map fun o => (b, o)).map (·.1), b ∈ l := by
  intro l
  induction l with
  | nil => intro _; exact ⟨List.nodup_nil, fun b hb => hb⟩
  | cons x l ih =>
   intro h
   obtain ⟨h1, h2⟩ := List.nodup_cons.1 h
   obtain ⟨i1, i2⟩ := ih h2
   cases ho : w'.heap[x]? with
   | none => simp only [List.filterMap_cons, ho, Option.map_none]; exact ⟨i1, fun b hb => List.mem_cons_of_mem _ (i2 b hb)⟩
   | some o =>
    simp only [List.filterMap_cons, ho, Option.map_some, List.map_cons]
    refine ⟨List.nodup_cons.2 ⟨fun hx => h1 (i2 x hx), i1⟩, fun b hb => ?_⟩
    rcases List.mem_cons.1 hb with rfl | hb
    ·exact List.mem_cons_self
    ·exact List.mem_cons_of_mem _ (i2 b hb)
 exact (key _ List.nodup_range').1
theorem calls_new {P : Program} {f : FuncId} {fn : Func} {args : Array Value} {w0 w : World} {B : List Nat} {m : List Blk} {A : Type} {Q : A → List (Nat × Obj) → Prop} {F : A → SV}
  (hf : P.funcs[f]? = some fn) (hn : (fn.name == "runtime.NumGoroutine") = false) (hb : fn.body.isNone = false) (hm : MemOk w0 B m w)
  (h : Calls P f args w (fun en w' => ∃ u, en = .returned u ∧ ∃ v' m', u = cv v' ∧ MemOk w [] m' w' ∧ ∀ w2, MemOk w [] m' w2 → ∃ x : A, cv v' = cv (F x) ∧ Q x (newH w w2))) :
  Enters P f args w fun u w' => ∃ a : A × List (Nat × Obj), Q a.1 a.2 ∧ u = cv (F a.1) ∧ w.grownBy w' .none ∧ (Blk.heap a.2).ok w0 B w' ∧ (∀ b ∈ (Blk.heap a.2).nums, w.heap.size ≤ b) ∧ (Blk.heap a.2).nums.Nodup := by
 refine .inr ⟨enter_run hf hn hb _ w, h.mono fun e w' ⟨u, he, v', m', hu, hm', hq⟩ => ?_⟩
 obtain ⟨x, hv, hq⟩ := hq w' hm'
 refine ⟨u, he, (x, newH w w'), hq, by rw [hu, hv], hm'.grown, fun p hp => ?_, fun b hb => ?_, newH_nodup w w'⟩
 ·obtain ⟨h1, h2⟩ := newH_ok p hp
  exact ⟨h2, .inl (Nat.le_trans hm.size h1)⟩
 ·obtain ⟨p, hp, rfl⟩ := List.mem_map.1 hb
  exact (newH_ok p hp).1
def byO (m : List Blk) (x : SV) : Option (Prop × List Int) :=
 match x with
 | .nilsl => some (True, [])
 | .own nm v n => match bget m nm with
  | .own v' n' _ es (.ints .u8 xs) => some (v = v' ∧ n = n' ∧ es = 1 ∧ allB xs, xs)
  | _ => none
 | _ => none
theorem byO_sound {m : List Blk} {x : SV} {q : Prop} {xs : List Int} (h : byO m x = some (q, xs)) (hq : q) {w w' : World} (hm : MemOk w [] m w') : ∃ v, cv x = cv v ∧ byR (HN w w') v xs := by
 unfold byO at h
 split at h
 ·cases h
  exact ⟨.gh none 0 0 (.ints .u8 []), rfl, byR_nil _⟩
 ·rename_i nm v n
  split at h
  ·rename_i v' n' t es xs' hb
   simp only [Option.some.injEq, Prod.mk.injEq] at h
   obtain ⟨rfl, rfl⟩ := h
   obtain ⟨rfl, rfl, rfl, hall⟩ := hq
   obtain ⟨⟨ho1, ho2⟩, ho3⟩ := hm.each _ (bget_mem hb (by simp))
   have hl : xs'.length = n := by simpa [cc] using ho1
   rcases ho2 with ⟨rfl, rfl⟩ | ⟨g, cap, cur, rfl, _, h3, h4, h5, h6, h7⟩
   ·obtain rfl : xs' = [] := List.length_eq_zero_iff.1 hl
    exact ⟨.gh none 0 0 (.ints .u8 []), rfl, byR_nil _⟩
   ·refine ⟨.gh (some ⟨g, 0, none⟩) n cap (.ints .u8 xs'), rfl, _, _, _, rfl, hl, h4, .inl rfl, .inr ⟨g, 0, cur, t, (0, 0), rfl, ⟨(ho3 g rfl).resolve_right List.not_mem_nil, h3⟩, fun j u hj => ?_⟩, hall, Nat.le_trans h4 h5⟩
    rw [← h7] at hj
    rw [Nat.zero_add, ← Array.getElem?_toList]
    rw [List.getElem?_take] at hj
    split at hj
    ·exact hj
    ·cases hj
  ·cases h
 ·cases h
def prtX (f : SV → Option (Prop × List Int)) (r : List SV) : Option (Prop × Prt) :=
 match r with
 | [.bool d, .int .u64 x0, .int .u64 x1, .int .u64 x2, .int .u64 x3, y] => match f y with
  | some (q, bs) => some (q ∧ allU [x0, x1, x2, x3], ⟨d, numI [x0, x1, x2, x3], bs⟩)
  | none => none
 | _ => none
def prtXs (f : SV → Option (Prop × List Int)) : List (List SV) → Option (Prop × List Prt)
 | [] => some (True, [])
 | r :: rs => match prtX f r with
  | some (q, e) => match prtXs f rs with | some (q', l) => some (q ∧ q', e :: l) | none => none
  | none => none
theorem byR_cells {H : Nat → Obj → Prop} {d : Bool} {x0 x1 x2 x3 : Int} {v : SV} {bs : List Int} (hu : allU [x0, x1, x2, x3]) (h : byR H v bs) : PtR H [.bool d, .int .u64 x0, .int .u64 x1, .int .u64 x2, .int .u64 x3, v] ⟨d, numI [x0, x1, x2, x3], bs⟩ := by
 obtain ⟨a, n, c, rfl, h1⟩ := h
 exact ⟨x0, x1, x2, x3, a, n, c, rfl, hu, rfl, h1⟩
theorem prtX_sound {f : SV → Option (Prop × List Int)} {H : Nat → Obj → Prop} (hf : ∀ x q xs, f x = some (q, xs) → q → ∃ v, cv x = cv v ∧ byR H v xs) {r : List SV} {q : Prop} {p : Prt} (h : prtX f r = some (q, p)) (hq : q) :
  ∃ r', cvs r = cvs r' ∧ r.length = 6 ∧ r'.length = 6 ∧ PtR H r' p := by
 unfold prtX at h
 split at h
 ·rename_i d x0 x1 x2 x3 y
  split at h
  ·rename_i q' bs hd
   simp only [Option.some.injEq, Prod.mk.injEq] at h
   obtain ⟨rfl, rfl⟩ := h
   obtain ⟨v, e1, e2⟩ := hf _ _ _ hd hq.1
   exact ⟨_, by simp only [cvs, e1], rfl, rfl, byR_cells hq.2 e2⟩
  ·cases h
 ·cases h
theorem prtXs_sound {f : SV → Option (Prop × List Int)} {H : Nat → Obj → Prop} (hf : ∀ x q xs, f x = some (q, xs) → q → ∃ v, cv x = cv v ∧ byR H v xs) : ∀ {rs : List (List SV)} {q : Prop} {l : List Prt} (_h : prtXs f rs = some (q, l)) (_hq : q),
  ∃ rs', rs.map cvs = rs'.map cvs ∧ (∀ r ∈ rs, r.length = 6) ∧ PsR H rs' l
 | [], q, l, h, hq => by
  cases h
  exact ⟨[], rfl, (fun r hr => absurd hr List.not_mem_nil), rfl, (fun r hr => absurd hr List.not_mem_nil), (fun i r e hr _ => by cases hr)⟩
 | r :: rs, q, l, h, hq => by
  simp only [prtXs] at h
  split at h
  ·rename_i q1 e he
   split at h
   ·rename_i q2 l2 hl
    simp only [Option.some.injEq, Prod.mk.injEq] at h
    obtain ⟨rfl, rfl⟩ := h
    obtain ⟨r', h1, h0, h2, h3⟩ := prtX_sound hf he hq.1
    obtain ⟨rs', h4, h8, h5, h6, h7⟩ := prtXs_sound hf hl hq.2
    refine ⟨r' :: rs', by simp only [List.map_cons, h1, h4], fun x hx => ?_, by simp only [List.length_cons, h5], fun x hx => ?_, fun i x y hx hy => ?_⟩
    ·rcases List.mem_cons.1 hx with rfl | hx
     ·exact h0
     ·exact h8 x hx
    ·rcases List.mem_cons.1 hx with rfl | hx
     ·exact h2
     ·exact h6 x hx
    ·match i, hx, hy with
     | 0, hx, hy => cases hx; cases hy; exact h3
     | i + 1, hx, hy => exact h7 i x y hx hy
   ·cases h
  ·cases h
theorem PtR.mono {H H' : Nat → Obj → Prop} {r : List SV} {p : Prt} (h : PtR H r p) (hH : ∀ b o, H b o → H' b o) : PtR H' r p := by
 obtain ⟨x0, x1, x2, x3, a, n, c, h1, h2, h3, h4, h5, h6, h7, h8⟩ := h
 exact ⟨x0, x1, x2, x3, a, n, c, h1, h2, h3, h4, h5, h6, h7.mono hH, h8⟩
structure PsL (H : Nat → Obj → Prop) (a : Option Addr) (n c : Nat) (rs : List (List SV)) (l : List Prt) : Prop where
 len : l.length = n
 le : n ≤ c
 adr : adr a n c
 lies : LiesH H a (cc (.rows 6 rs))
 rows : PsR H rs l
theorem PsL.mono {H H' : Nat → Obj → Prop} {a : Option Addr} {n c : Nat} {rs : List (List SV)} {l : List Prt} (h : PsL H a n c rs l) (hH : ∀ b o, H b o → H' b o) : PsL H' a n c rs l :=
 ⟨h.len, h.le, h.adr, h.lies.mono hH, h.rows.1, h.rows.2.1, fun i r p hr hp => (h.rows.2.2 i r p hr hp).mono hH⟩
theorem cc_rows {rs rs' : List (List SV)} (h : rs.map cvs = rs'.map cvs) (n : Nat) : cc (.rows n rs) = cc (.rows n rs') := by
 simp only [cc, List.flatMap_def, h]
end Go.Proofs.YthdpgfdfgidokaaDoor
