/-
 Pieces of bytes in a literal; slices.Concat and data (package userop) as their callers find them; what a walk leaves that is new. No condition.
-/
import Derived.Test.YthdpgfdfgidokaaDoorOA
set_option maxRecDepth 10000
set_option maxHeartbeats 4000000
set_option linter.defProp false
set_option linter.unusedVariables false
set_option linter.unusedSimpArgs false
namespace Go.Proofs.YthdpgfdfgidokaaDoor
open Go.RowKit
def byK2 (r : Option (Prop × Nat × Con)) : Option (Prop × List Int) :=
 match r with
 | some (q, k, .ints .u8 xs) => some (q ∧ k ≤ 70000000 ∧ allB xs, xs)
 | some (q, k, .cells cs) => match toU8 cs with
  | some xs => some (q ∧ k ≤ 70000000 ∧ allB xs, xs)
  | none => none
 | _ => none
def byK (m : List Blk) (x : SV) : Option (Prop × List Int) :=
 match x with
 | .nilsl => some (True, [])
 | x => byK2 (srcC x m)
theorem byK_nil {m : List Blk} : byK m .nilsl = some (True, []) := rfl
theorem byK_sl {m : List Blk} {nm : Nat} {a : Option Addr} {st st0 es len cap : Nat} : byK m (.sl nm a st st0 es len cap) = byK2 (srcC (.sl nm a st st0 es len cap) m) := rfl
theorem byK_own {m : List Blk} {nm : Nat} {v : Value} {n : Nat} : byK m (.own nm v n) = byK2 (srcC (.own nm v n) m) := rfl
theorem byK_gh {m : List Blk} {a : Option Addr} {n c : Nat} {con : Con} : byK m (.gh a n c con) = byK2 (srcC (.gh a n c con) m) := rfl
theorem byK2_i {q : Prop} {k : Nat} {xs : List Int} : byK2 (some (q, k, .ints .u8 xs)) = some (q ∧ k ≤ 70000000 ∧ allB xs, xs) := rfl
def byK3 (q : Prop) (k : Nat) (r : Option (List Int)) : Option (Prop × List Int) := match r with | some xs => some (q ∧ k ≤ 70000000 ∧ allB xs, xs) | none => none
theorem byK2_c {q : Prop} {k : Nat} {cs : List SV} : byK2 (some (q, k, .cells cs)) = byK3 q k (toU8 cs) := rfl
theorem byK3_s {q : Prop} {k : Nat} {xs : List Int} : byK3 q k (some xs) = some (q ∧ k ≤ 70000000 ∧ allB xs, xs) := rfl
theorem byR_nil (H : Nat → Obj → Prop) : byR H (.gh none 0 0 (.ints .u8 [])) [] :=
 ⟨none, 0, 0, rfl, rfl, Nat.le_refl _, .inr ⟨rfl, rfl, rfl⟩, .inl rfl, (fun y hy => absurd hy List.not_mem_nil), Nat.zero_le _⟩
theorem byR_src {w : World} {x : SV} {k : Nat} {c : Con} {xs : List Int} (hx : cc c = xs.map (Value.int .u8)) (he : conEs c = 1) (hk : k ≤ 70000000) (hb : allB xs)
  (l1 : (cc c).length = k * conEs c) {a : Option Addr} {cp : Nat} (ex : cv x = cv (.sl 0 a 0 0 (conEs c) k cp)) (b1 : k ≤ cp) (m1 : MemOk w [] [.ro a c] w) (d1 : adr a k cp) : ∃ v, cv x = cv v ∧ byR (H0 w) v xs := by
 refine ⟨.gh a k cp (.ints .u8 xs), ?_, a, k, cp, rfl, ?_, b1, d1, ?_, hb, by unfold maxLen; omega⟩
 ·rw [ex, cv_sl0]; rfl
 ·rw [hx, he, List.length_map, Nat.mul_one] at l1; exact l1
 ·have := lies_of_ro m1
  rw [hx] at this
  exact this
theorem byK_sound {m : List Blk} {x : SV} {q : Prop} {xs : List Int} (h : byK m x = some (q, xs)) (hq : q) {w0 : World} {B : List Nat} {w : World} (hm : MemOk w0 B m w) : ∃ v, cv x = cv v ∧ byR (H0 w) v xs := by
 unfold byK at h
 split at h
 ·cases h
  exact ⟨.gh none 0 0 (.ints .u8 []), rfl, byR_nil _⟩
 ·unfold byK2 at h
  split at h
  ·rename_i q' k xs' hs
   simp only [Option.some.injEq, Prod.mk.injEq] at h
   obtain ⟨rfl, rfl⟩ := h
   obtain ⟨h1, h2, h3⟩ := hq
   obtain ⟨l1, a, cp, ex, b1, m1, d1⟩ := src_ro hs h1 hm
   exact byR_src (c := .ints .u8 xs') rfl rfl h2 h3 l1 ex b1 m1 d1
  ·rename_i q' k cs hs
   split at h
   ·rename_i xs' hu
    simp only [Option.some.injEq, Prod.mk.injEq] at h
    obtain ⟨rfl, rfl⟩ := h
    obtain ⟨h1, h2, h3⟩ := hq
    obtain ⟨l1, a, cp, ex, b1, m1, d1⟩ := src_ro hs h1 hm
    exact byR_src (c := .cells cs) (toU8_some hu) rfl h2 h3 l1 ex b1 m1 d1
   ·cases h
  ·cases h
def pcK (m : List Blk) : List SV → Option (Prop × List (List Int))
 | [] => some (True, [])
 | x :: l => match byK m x with
  | some (q, xs) => match pcK m l with | some (q', ls) => some (q ∧ q', xs :: ls) | none => none
  | none => none
def byKs := And.intro @byK_nil <| And.intro @byK_sl <| And.intro @byK_own <| And.intro @byK_gh <| And.intro @byK2_i <| And.intro @byK2_c <| And.intro @byK3_s <| And.intro @pcK.eq_1 @pcK.eq_2
theorem pcK_sound : ∀ {m : List Blk} {l : List SV} {q : Prop} {ls : List (List Int)} (_h : pcK m l = some (q, ls)) (_hq : q) {w0 : World} {B : List Nat} {w : World} (_hm : MemOk w0 B m w),
  ∃ l', cvs l = cvs l' ∧ l'.length = l.length ∧ PcR (H0 w) l' ls
 | m, [], q, ls, h, hq, w0, B, w, hm => by
  cases h
  exact ⟨[], rfl, rfl, rfl, fun i v xs hr _ => by cases hr⟩
 | m, x :: l, q, ls, h, hq, w0, B, w, hm => by
  simp only [pcK] at h
  split at h
  ·rename_i q1 xs he
   split at h
   ·rename_i q2 ls2 hl
    simp only [Option.some.injEq, Prod.mk.injEq] at h
    obtain ⟨rfl, rfl⟩ := h
    obtain ⟨v, h1, h3⟩ := byK_sound he hq.1 hm
    obtain ⟨l', h4, h5, h6, h7⟩ := pcK_sound hl hq.2 hm
    refine ⟨v :: l', by simp only [cvs, h1, h4], by simp only [List.length_cons, h5], by simp only [List.length_cons, h6], fun i y ys hx hy => ?_⟩
    match i, hx, hy with
    | 0, hx, hy => cases hx; cases hy; exact h3
    | i + 1, hx, hy => exact h7 i y ys hx hy
   ·cases h
  ·cases h
theorem lit_pcs {m : List Blk} {nm b n : Nat} {t : TypeId} {l : List SV} {q : Prop} {ls : List (List Int)} (hb : bget m nm = .blk b t (.cells l)) (h : pcK m l = some (q, ls)) (hq : q) (hn : n = l.length) {w0 : World} {B : List Nat} {w : World} (hm : MemOk w0 B m w) :
  ∃ l', l'.length = n ∧ LiesH (H0 w) (some ⟨b, 0, none⟩) (cc (.cells l')) ∧ PcR (H0 w) l' ls := by
 obtain ⟨l', h1, h2, h3⟩ := pcK_sound h hq hm
 have k1 := (hm.each _ (bget_mem hb (by simp))).1
 have hcc : cc (.cells l) = cc (.cells l') := h1
 rw [hcc] at k1
 refine ⟨l', by omega, .inr ⟨b, 0, _, _, _, rfl, k1, fun j u hj => ?_⟩, h3⟩
 rw [Nat.zero_add, List.getElem?_toArray, ← hj]
theorem byR.uniq {H H' : Nat → Obj → Prop} {v : SV} {xs ys : List Int} (h : byR H v xs) (h' : byR H' v ys) : xs = ys := by
 obtain ⟨a, n, c, rfl, _⟩ := h
 obtain ⟨a', n', c', e, _⟩ := h'
 simp only [SV.gh.injEq, Con.ints.injEq, true_and] at e
 exact e.2.2.2
theorem PcR.mono {H H' : Nat → Obj → Prop} {l : List SV} {ls : List (List Int)} (h : PcR H l ls) (hH : ∀ b o, H b o → H' b o) : PcR H' l ls :=
 ⟨h.len, fun i v xs hv hx => (h.each i v xs hv hx).mono hH⟩
theorem PcR.uniq {H H' : Nat → Obj → Prop} {l : List SV} {ls ks : List (List Int)} (h : PcR H l ls) (h' : PcR H' l ks) : ls = ks := by
 apply List.ext_getElem?
 intro i
 by_cases hi : i < l.length
 ·have e1 := List.getElem?_eq_getElem hi
  have e2 := List.getElem?_eq_getElem (show i < ls.length by have := h.len; omega)
  have e3 := List.getElem?_eq_getElem (show i < ks.length by have := h'.len; omega)
  rw [e2, e3, (h.each i _ _ e1 e2).uniq (h'.each i _ _ e1 e3)]
 ·have h1 := h.len; have h2 := h'.len
  rw [List.getElem?_eq_none (by omega), List.getElem?_eq_none (by omega)]
noncomputable def pcOf (l : List SV) : List (List Int) := Classical.epsilon fun ls => ∃ H, PcR H l ls
theorem pcOf_eq {H : Nat → Obj → Prop} {l : List SV} {ls : List (List Int)} (h : PcR H l ls) : pcOf l = ls := by
 have h1 : ∃ H', PcR H' l (pcOf l) := Classical.epsilon_spec (p := fun ls => ∃ H, PcR H l ls) ⟨ls, H, h⟩
 obtain ⟨H', h2⟩ := h1
 exact h2.uniq h
theorem own_newF {P : Program} {f : FuncId} {fn : Func} {args : Array Value} {w : World} {w0 : World} {B : List Nat} {m : List Blk} {t : TypeId} {n : Nat} {con : Con} {F : SV → SV} (hF : ∀ k j s n, cv (F (.own k s n)) = cv (F (.own j s n))) (hf : P.funcs[f]? = some fn) (hn : (fn.name == "runtime.NumGoroutine") = false) (hb : fn.body.isNone = false) (_hm : MemOk w0 B m w)
  (h : Calls P f args w (fun e w' => ∃ u, e = .returned u ∧ ∃ v' m', u = cv v' ∧ MemOk w [] m' w' ∧ ∃ k s, cv v' = cv (F (.own k s n)) ∧ bget m' k = .own s n t 1 con)) : Enters P f args w fun u w' => ∃ v, u = cv (F (.own (blen m) v n)) ∧ w.grownBy w' .none ∧ w'.ownsRow w.heap.size t 1 v n (cc con) :=
 .inr ⟨enter_run hf hn hb _ w, h.mono fun e w' ⟨u, he, v', m', hu, hm, k, s, hv, hs⟩ => ⟨u, he, s, by rw [hu, hv]; exact hF _ _ _ _, hm.grown, own_ok0 (hm.each _ (bget_mem hs (by simp)))⟩⟩
noncomputable def g_concat (args : List SV) (m : List Blk) : CR :=
 match args with
 | [.sl nm (some ⟨b, 0, none⟩) 0 0 1 n c] => match bget m nm with
  | .blk b2 _ (.cells l) => match pcK m l with
   | some (q, ls) => .own (q ∧ b2 = b ∧ n = l.length ∧ c = n ∧ n ≤ 1000 ∧ ls.flatten.length ≤ 70000000) 5 1 ls.flatten.length (.ints .u8 ls.flatten) (fun v => v)
   | none => .none
  | _ => .none
 | [.gh a n c (.cells l)] => .own (∃ ls, PcR (HM m) l ls ∧ l.length = n ∧ n ≤ c ∧ adr a n c ∧ ls.flatten.length ≤ 70000000 ∧ n ≤ 1000 ∧ LiesH (HM m) a (cc (.cells l))) 5 1 (pcOf l).flatten.length (.ints .u8 (pcOf l).flatten) (fun v => v)
 | _ => .none
theorem g_concat_ok (w0 : World) (B : List Nat) (args : List SV) (m : List Blk) : CROk Tryd.prog w0 B 74 args m (g_concat args m) := by
 unfold g_concat
 split
 ·rename_i nm b n c
  split
  ·rename_i b2 t l hb
   split
   ·rename_i q ls hk
    intro ⟨h0, e1, e2, e3, h1, h2⟩ w hm
    subst e1 e3
    obtain ⟨l', h3, h4, h5⟩ := lit_pcs hb hk h0 e2 hm
    have e : cvs [.sl nm (some ⟨b2, 0, none⟩) 0 0 1 c c] = cvs [.gh (some ⟨b2, 0, none⟩) c c (.cells l')] := by
     simp [cvs, cv, addr_add]
    rw [e]
    exact own_new Tryd.func74 rfl rfl hm (concat_vc _ c c l' ls h3 (Nat.le_refl _) (.inl rfl) h2 (by omega) w h4 h5)
   ·exact trivial
  ·exact trivial
 ·rename_i a n c l
  intro ⟨ls, h7, h1, h2, h3, h4, h5, h6⟩ w hm
  rw [pcOf_eq h7]
  exact own_new Tryd.func74 rfl rfl hm (concat_vc _ _ _ _ ls h1 h2 h3 h4 (by omega) w (h6.mono fun b o h => hm.hm h) (h7.mono fun b o h => hm.hm h))
 ·exact trivial
def datF (s : SV) : SV := .agg [.bool true, .int .u64 0, .int .u64 0, .int .u64 0, .int .u64 0, s]
theorem datF_cv : ∀ k j s n, cv (datF (.own k s n)) = cv (datF (.own j s n)) := fun k j s n => rfl
noncomputable def GOB : Ctr := fun f args m => match f with
 | 74 => g_concat args m
 | _ => .none
theorem GOB_ok : GOk Tryd.prog GOB := by
 intro w0 B f args m; unfold GOB; split
 ·exact g_concat_ok _ _ _ _
 ·exact trivial
theorem GOB_concat : GOB 74 = g_concat := by funext args m; rfl
def GOB_set := And.intro (@GOB_concat) (@g_concat.eq_def)

theorem data_vc (a : Option Addr) (n c : Nat) (l : List SV) (ls : List (List Int)) (hl : l.length = n) (hc : n ≤ c) (ha : adr a n c) (hz : ls.flatten.length ≤ 70000000) (hn : n ≤ 1000) (w : World) (hL : LiesH (H0 w) a (cc (.cells l))) (hR : PcR (H0 w) l ls) :
  Calls Tryd.prog 58 (cvs [.gh a n c (.cells l)]).toArray w (fun en w' => ∃ u, en = .returned u ∧ ∃ v' m', u = cv v' ∧ MemOk w [] m' w' ∧ ∃ k s, cv v' = cv (datF (.own k s ls.flatten.length)) ∧ bget m' k = .own s ls.flatten.length 5 1 (.ints .u8 ls.flatten)) := by
 have hp := pcOf_eq hR
 have hLx : ∀ m, allOld w ∈ m → LiesH (HM m) a (cc (.cells l)) := fun m hin => hL.mono (H0.hm hin)
 have hRx : ∀ m, allOld w ∈ m → PcR (HM m) l ls := fun m hin => hR.mono (H0.hm hin)
 refine Vc.calls T0_ok Tryd.func58 rfl rfl (args := [.gh a n c (.cells l)]) (k := 5) rfl (old_start w) ?_; change Vc _ _ ([.gh a n c (.cells l), .undef, .undef, .undef, .undef, .undef]) _ _
 ((repeat (first | (with_reducible first | refine Vc.seq fun N hN => ?_ | refine Vc.block ?_) | ((with_reducible first | refine Vc.skip ?_ | refine Vc.exit ?_); dsimp only [thenK, blockK, Nat.beq]; (first | (refine hN _ _ ?_; clear hN N) | skip)) | (with_reducible intro _) | ((with_reducible refine And.intro ?_ ?_); exact sX26) | ((first | ((with_reducible refine askT_of ?_ (fun hb => ?_)); exact sX26; (try simp only [hb])) | ((with_reducible refine Vc.fin ?_); dsimp only [thenK, blockK, retK, resS, resOne, resAll]) | ((with_reducible refine Vc.hold ?_); first | refine Vc.regiont T0_ok GOB_ok ?_)); (try simp only [v8Y, Nat.beq, Nat.ble, seval, v8S, IntKind.bits, tabs, GOB_set, hp]); (try simp (disch := omega) only [v8W])) | ((with_reducible refine hN _ _ ?_); clear hN N; (try simp (disch := omega) only [v8W])))); (try ((with_reducible refine Fin.of ?_); (try with_reducible exact True.intro))))
 rename_i v
 exact ⟨by simp, 2, v, rfl, rfl⟩
def g_data (args : List SV) (m : List Blk) : CR :=
 match args with
 | [.nilsl] => .own True 5 1 0 (.ints .u8 []) datF
 | [.sl nm (some ⟨b, 0, none⟩) 0 0 1 n c] => match bget m nm with
  | .blk b2 _ (.cells l) => match pcK m l with
   | some (q, ls) => .own (q ∧ b2 = b ∧ n = l.length ∧ c = n ∧ n ≤ 1000 ∧ ls.flatten.length ≤ 70000000) 5 1 ls.flatten.length (.ints .u8 ls.flatten) datF
   | none => .none
  | _ => .none
 | _ => .none
theorem g_data_ok (w0 : World) (B : List Nat) (args : List SV) (m : List Blk) : CROk Tryd.prog w0 B 58 args m (g_data args m) := by
 unfold g_data
 split
 ·intro _ w hm
  exact own_newF datF_cv Tryd.func58 rfl rfl hm (data_vc none 0 0 [] [] rfl (Nat.le_refl _) (.inr ⟨rfl, rfl, rfl⟩) (Nat.zero_le _) (Nat.zero_le _) w (.inl rfl) ⟨rfl, fun i v xs hr _ => by cases hr⟩)
 ·rename_i nm b n c
  split
  ·rename_i b2 t l hb
   split
   ·rename_i q ls hk
    intro ⟨h0, e1, e2, e3, h1, h2⟩ w hm
    subst e1 e3
    obtain ⟨l', h3, h4, h5⟩ := lit_pcs hb hk h0 e2 hm
    have e : cvs [.sl nm (some ⟨b2, 0, none⟩) 0 0 1 c c] = cvs [.gh (some ⟨b2, 0, none⟩) c c (.cells l')] := by
     simp [cvs, cv, addr_add]
    rw [e]
    exact own_newF datF_cv Tryd.func58 rfl rfl hm (data_vc _ c c l' ls h3 (Nat.le_refl _) (.inl rfl) h2 h1 w h4 h5)
   ·exact trivial
  ·exact trivial
 ·exact trivial
end Go.Proofs.YthdpgfdfgidokaaDoor
