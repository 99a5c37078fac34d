/-
 A symbolic walk of my own: own slices that a callee turns; slices that carry their contents; whole blocks kept. No program.
-/
import Derived.Test.YtoadeekdgikghaaDoorX3
import Derived.Test.YtoadeekdgikghaaDoorEI
import Derived.Test.YtoadeekdgikghaaDoorW3
set_option maxRecDepth 10000
set_option maxHeartbeats 4000000
set_option linter.defProp false
set_option linter.unusedVariables false
set_option linter.unusedSimpArgs false
namespace Go.Proofs.YtoadeekdgikghaaDoor
open Go.RowKit
theorem wide_vc (xs : List Int) (hl : xs.length = 20) (hx : allB xs) (w : World) : Calls Tryd.prog 36 (cvs [.ints .u8 xs]).toArray w (fun en w' => ∃ u, en = .returned u ∧ ∃ v m', u = cv v ∧ MemOk w [] m' w' ∧ v = .word (rdI xs)) := by
 have e1 : (xs.drop 0).take 20 = xs := by rw [List.drop_zero, List.take_of_length_le (by omega)]
 have e2 : readN xs = rdI xs := by unfold readN; rw [hl]; rfl
 refine Vc.calls T0_ok Tryd.func36 rfl rfl (args := [.ints .u8 xs]) (k := 4) rfl (MemOk.start _) ?_; change Vc _ _ ([.ints .u8 xs, .undef, .undef, .undef, .undef]) _ _
 ((repeat (first | (with_reducible refine Vc.seq fun N hN => ?_) | (with_reducible intro _) | ((with_reducible refine And.intro ?_ ?_); (focus (first | ((repeat' with_reducible apply And.intro) <;> first | exact True.intro | (rw [e1]; exact hx) | omega) | exact sd0))) | ((first | ((with_reducible refine Vc.fin ?_); dsimp only [thenK, blockK, retK, resS, resOne, resAll]) | ((with_reducible refine Vc.hold ?_); first | refine Vc.regiont T0_ok G4_ok ?_)); (try simp only [v8Y, Nat.beq, Nat.ble, seval, tabs, G4_set])) | ((with_reducible refine hN _ _ ?_); clear hN N))); (try ((with_reducible refine Fin.of ?_); (try with_reducible exact True.intro))))
 ((try simp only [v8Y, Nat.beq, Nat.ble, seval, tabs]); (repeat' with_reducible apply And.intro) <;> first | with_reducible exact True.intro | rw [e1, e2] | with_reducible rfl | (congr 1 <;> omega) | trivial)
def g_Addr (args : List SV) (_m : List Blk) : CR := match args with | [.word a] => .pure (True) (.ints .u8 (bytI a 20)) | _ => .none
theorem g_Addr_ok (w0 : World) (B : List Nat) (args : List SV) (m : List Blk) : CROk Tryd.prog w0 B 67 args m (g_Addr args m) := by
 unfold g_Addr; split
 ·rename_i a; exact pure_old Tryd.func67 rfl rfl (fun h w => (addr_vc a w).mono fun en w' ⟨u, he, v, m', hu, hm, hv⟩ => by subst hu; subst hv; exact ⟨he, gw_of_grown hm.grown⟩)
 ·exact trivial
def g_Wide (args : List SV) (_m : List Blk) : CR := match args with | [.ints .u8 xs] => .pure (xs.length = 20 ∧ allB xs) (.word (rdI xs)) | _ => .none
theorem g_Wide_ok (w0 : World) (B : List Nat) (args : List SV) (m : List Blk) : CROk Tryd.prog w0 B 36 args m (g_Wide args m) := by
 unfold g_Wide; split
 ·rename_i xs; exact pure_old Tryd.func36 rfl rfl (fun h w => (wide_vc xs h.1 h.2 w).mono fun en w' ⟨u, he, v, m', hu, hm, hv⟩ => by subst hu; subst hv; exact ⟨he, gw_of_grown hm.grown⟩)
 ·exact trivial
def g_Bytes (args : List SV) (_m : List Blk) : CR :=
 match args with
 | [.word a] => .own True 5 1 32 (.ints .u8 (bytI a 32)) (fun v => v)
 | _ => .none
theorem g_Bytes_ok (w0 : World) (B : List Nat) (args : List SV) (m : List Blk) : CROk Tryd.prog w0 B 37 args m (g_Bytes args m) := by
 unfold g_Bytes
 split
 ·rename_i a
  intro _ w _
  refine .inr ⟨enter_run Tryd.func37 rfl rfl _ w, (bytes_vc a w).mono fun e w' ⟨u, he, v', m', hu, hm, s, hv, hs⟩ => ⟨u, he, s, ?_, hm.grown, ?_⟩⟩
  ·rw [hu, hv]; rfl
  ·exact own_ok0 (hm.each _ (bget_mem hs (by simp)))
 ·exact trivial
end Go.Proofs.YtoadeekdgikghaaDoor
namespace Go.Proofs.YtoadeekdgikghaaDoor
open Go.RowKit

def ordersOf (ops : Array Oper) : Nat → Array Bool → List (List Nat)
 | 0, listed => match Region.ready .any ops listed with | [] => [[]] | _ => []
 | f + 1, listed => match Region.ready .any ops listed with
  | [] => [[]]
  | r => r.flatMap fun j => (ordersOf ops f (listed.setIfInBounds j true)).map (j :: ·)
theorem effK_all {α : Type} {G : Ctr} {m : List Blk} {e : Eff} {S : List α} {N : α → SV → List Blk → Prop} (hne : S ≠ []) (h : ∀ s ∈ S, effK G m e (N s)) : effK G m e fun v m => ∀ s ∈ S, N s v m := by
 obtain ⟨s0, hs0⟩ := List.exists_mem_of_ne_nil S hne
 cases e with
 | val p v => exact ⟨(h s0 hs0).1, fun s hs => (h s hs).2⟩
 | mem p m' => exact ⟨(h s0 hs0).1, fun s hs => (h s hs).2⟩
 | newb f e => exact fun b s hs => h s hs b
 | newo p f e => exact ⟨(h s0 hs0).1, fun v s hs => (h s hs).2 v⟩
 | turn p nm f e => exact ⟨(h s0 hs0).1, fun v s hs => (h s hs).2 v⟩
 | stuck => exact h s0 hs0
 | any p A Q f g => exact ⟨(h s0 hs0).1, fun a hQ s hs => (h s hs).2 a hQ⟩
 | call f args =>
  simp only [effK] at h ⊢
  cases hr : G f args m with
  | none => have := h s0 hs0; rw [hr] at this; exact this
  | pure p v => simp only [hr] at h; exact ⟨(h s0 hs0).1, fun s hs => (h s hs).2⟩
  | own p t es n con F => simp only [hr] at h; exact ⟨(h s0 hs0).1, fun v s hs => (h s hs).2 v⟩
  | turn p nm con v => simp only [hr] at h; exact ⟨(h s0 hs0).1, fun s hs => (h s hs).2⟩
  | rel p A Q F g => simp only [hr] at h; exact ⟨(h s0 hs0).1, fun a hR s hs => (h s hs).2 a hR⟩
  | grw p A Q F g => simp only [hr] at h; exact ⟨(h s0 hs0).1, fun a hR s hs => (h s hs).2 a hR⟩
def ordOk (ops : Array Oper) : Nat → Array Bool → Bool
 | 0, listed => match Region.ready .any ops listed with | [] => true | _ => false
 | f + 1, listed => (Region.ready .any ops listed).all fun j => ordOk ops f (listed.setIfInBounds j true)
theorem ordOk_ne {ops : Array Oper} : ∀ (f : Nat) (listed : Array Bool), ordOk ops f listed = true → ordersOf ops f listed ≠ []
 | 0, listed, h => by
  unfold ordOk at h; unfold ordersOf
  cases hr : Region.ready .any ops listed with
  | nil => simp
  | cons j r => rw [hr] at h; cases h
 | f + 1, listed, h => by
  unfold ordOk at h; unfold ordersOf
  cases hr : Region.ready .any ops listed with
  | nil => simp
  | cons j r =>
   have := ordOk_ne f (listed.setIfInBounds j true) (List.all_eq_true.1 h j (by rw [hr]; exact List.mem_cons_self))
   intro h0
   simp only [List.flatMap_cons] at h0
   exact this (List.map_eq_nil_iff.1 (List.append_eq_nil_iff.1 h0).1)
theorem any_of_orders {P : Program} {T : Tab} (hT : TabOk P T) {G : Ctr} (hG : GOk P G) {l : List Oper} {w0 : World} {B : List Nat} {Q : Exit → Act → World → Prop} {K : List SV → List Blk → Prop}
  (hQ : ∀ env m a w, Fr env a → a.defers = [] → MemOk w0 B m w → K env m → Q .normal a w) : ∀ (f : Nat) (listed : Array Bool) (env : List SV) (m : List Blk) (a : Act) (w : World),
   ordOk l.toArray f listed = true → (∀ s ∈ ordersOf l.toArray f listed, vcOps T G l (pickO l s) env m K) → Fr env a → a.defers = [] → MemOk w0 B m w → wpAny P .any l.toArray Q f listed a w := by
 intro f
 induction f with
 | zero =>
  intro listed env m a w hne h hf hd hm
  simp only [ordersOf] at h
  simp only [ordOk] at hne
  cases hr : Region.ready .any l.toArray listed with
  | nil =>
   rw [hr] at h
   exact ⟨hr, hQ env m a w hf hd hm (h [] (by simp))⟩
  | cons j r => rw [hr] at hne; cases hne
 | succ f ih =>
  intro listed env m a w hne h hf hd hm
  simp only [ordersOf] at h
  simp only [ordOk, List.all_eq_true] at hne
  refine ⟨fun h0 => ?_, fun i hi => ?_⟩
  ·rw [h0] at h
   exact hQ env m a w hf hd hm (h [] (by simp))
  ·have h1 : ∀ s ∈ ordersOf l.toArray f (listed.setIfInBounds i true), vcOps T G l (pickO l (i :: s)) env m K := fun s hs => by
    refine h (i :: s) ?_
    cases hr : Region.ready .any l.toArray listed with
    | nil => rw [hr] at hi; exact absurd hi List.not_mem_nil
    | cons j r =>
     rw [hr] at hi
     exact List.mem_flatMap.2 ⟨i, hi, List.mem_map.2 ⟨s, hs, rfl⟩⟩
   have hok := hne i hi
   have hS := ordOk_ne f _ hok
   obtain ⟨_, o, ho, _⟩ := mem_ready.1 hi
   have ho' : l[i]? = some o := by simpa using ho
   have hp : ∀ s, pickO l (i :: s) = o :: pickO l s := fun s => by simp only [pickO, nthO_eq, ho']
   simp only [hp] at h1
   have hg := gd_sound (all := l) hf o
   have key : (Region.wanted o (yielded l.toArray a.tmps) = true ∧ ∀ s ∈ ordersOf l.toArray f (listed.setIfInBounds i true), effK G m (step T env m o) fun v m' => vcOps T G l (pickO l s) (upd env o.dst v) m' K) ∨
     (Region.wanted o (yielded l.toArray a.tmps) = false ∧ ∀ s ∈ ordersOf l.toArray f (listed.setIfInBounds i true), vcOps T G l (pickO l s) (upd env o.dst .undef) m K) := by
    simp only [vcOps] at h1
    cases hgd : gd l env o with
    | go => simp only [hgd] at h1 hg; exact .inl ⟨hg, h1⟩
    | skip => simp only [hgd] at h1 hg; exact .inr ⟨hg, h1⟩
    | ask b want =>
     simp only [hgd, gdK] at h1 hg
     cases hb : eqB b want with
     | true => simp only [hb] at h1 hg; exact .inl ⟨hg, h1⟩
     | false => simp only [hb] at h1 hg; exact .inr ⟨hg, h1⟩
    | stuck =>
     obtain ⟨s, hs⟩ := List.exists_mem_of_ne_nil _ hS
     have := h1 s hs
     rw [hgd] at this; exact this.elim
   unfold wpOp
   simp only [ho]
   rcases key with ⟨hw, h2⟩ | ⟨hw, h2⟩
   ·rw [if_pos hw]
    refine .inl (Oper.wp_mono (fun a' w' ⟨v, m', he, hm', hk⟩ => ?_) (stepK_sound (T := T) (G := G) hT hG (effK_all hS h2) hf hm))
    subst he
    exact ih _ _ _ _ _ hok hk (hf.put o.dst v) (by rw [← hd]; cases o.dst <;> rfl) hm'
   ·rw [if_neg (by rw [hw]; simp)]
    exact ih _ _ _ _ _ hok h2 (hf.put o.dst .undef) (by rw [← hd]; cases o.dst <;> rfl) hm
def effP (G : Ctr) (m : List Blk) (e : Eff) (N : SV → List Blk → Prop) : Prop :=
 match e with
 | .val p v => p ∧ N v m
 | .mem p m' => p ∧ N .undef m'
 | .call f args => match G f args m with
  | .pure p v => p ∧ N v m
  | .turn p nm con v => p ∧ N v (bset m nm (withCon (bget m nm) con))
  | _ => False
 | _ => False
def vcP (T : Tab) (G : Ctr) (all : List Oper) : List Oper → List SV → List Blk → (List SV → List Blk → Prop) → Prop
 | [], env, m, K => K env m
 | o :: rest, env, m, K => gdK (gd all env o) (effP G m (step T env m o) fun v m' => vcP T G all rest (upd env o.dst v) m' K) (vcP T G all rest (upd env o.dst .undef) m K)
theorem effP_mono {G : Ctr} {m : List Blk} {e : Eff} {N N' : SV → List Blk → Prop} (h : effP G m e N) (hn : ∀ v m', N v m' → N' v m') : effK G m e N' := by
 unfold effP at h
 split at h
 ·exact ⟨h.1, hn _ _ h.2⟩
 ·exact ⟨h.1, hn _ _ h.2⟩
 ·simp only [effK, callK]
  split at h
  ·rename_i hr; rw [hr]; exact ⟨h.1, hn _ _ h.2⟩
  ·rename_i hr; rw [hr]; exact ⟨h.1, hn _ _ h.2⟩
  ·exact h.elim
 ·exact h.elim
theorem effP_ex {G : Ctr} {m : List Blk} {e : Eff} {N : SV → List Blk → Prop} (h : effP G m e N) : ∃ v m', N v m' := by
 unfold effP at h
 split at h
 ·exact ⟨_, _, h.2⟩
 ·exact ⟨_, _, h.2⟩
 ·split at h
  ·exact ⟨_, _, h.2⟩
  ·exact ⟨_, _, h.2⟩
  ·exact h.elim
 ·exact h.elim
theorem vcP_mono {T : Tab} {G : Ctr} {all : List Oper} {K K' : List SV → List Blk → Prop} (hk : ∀ e m, K e m → K' e m) : ∀ {l : List Oper} {env : List SV} {m : List Blk}, vcP T G all l env m K → vcOps T G all l env m K'
 | [], _, _, h => hk _ _ h
 | o :: rest, env, m, h => by
  simp only [vcP, vcOps, gdK] at h ⊢
  have h1 := fun (h : effP G m (step T env m o) fun v m' => vcP T G all rest (upd env o.dst v) m' K) => effP_mono h fun v m' hv => vcP_mono hk hv
  cases hg : gd all env o with
  | go => simp only [hg] at h ⊢; exact h1 h
  | skip => simp only [hg] at h ⊢; exact vcP_mono hk h
  | ask b w => simp only [hg] at h ⊢; cases hb : eqB b w with
   | true => simp only [hb, askK] at h ⊢; exact h1 h
   | false => simp only [hb, askK] at h ⊢; exact vcP_mono hk h
  | stuck => simp only [hg] at h
theorem vcP_ex {T : Tab} {G : Ctr} {all : List Oper} {K : List SV → List Blk → Prop} : ∀ {l : List Oper} {env : List SV} {m : List Blk}, vcP T G all l env m K → ∃ e m', K e m'
 | [], _, _, h => ⟨_, _, h⟩
 | o :: rest, env, m, h => by
  simp only [vcP, gdK] at h
  have h1 := fun (h : effP G m (step T env m o) fun v m' => vcP T G all rest (upd env o.dst v) m' K) => (effP_ex h).elim fun v ⟨m', hv⟩ => vcP_ex hv
  cases hg : gd all env o with
  | go => simp only [hg] at h; exact h1 h
  | skip => simp only [hg] at h; exact vcP_ex h
  | ask b w => simp only [hg] at h; cases hb : eqB b w with
   | true => simp only [hb, askK] at h; exact h1 h
   | false => simp only [hb, askK] at h; exact vcP_ex h
  | stuck => simp only [hg] at h
def sameO (T : Tab) (G : Ctr) (l : List Oper) (env : List SV) (m : List Blk) : List (List Nat) → List SV → List Blk → Prop
 | [], _, _ => True
 | s :: r, e, m' => vcP T G l (pickO l s) env m (fun e2 m2 => e2 = e ∧ m2 = m') ∧ sameO T G l env m r e m'
theorem sameO_mem {T : Tab} {G : Ctr} {l : List Oper} {env : List SV} {m : List Blk} {e : List SV} {m' : List Blk} {K : List SV → List Blk → Prop} (hk : K e m') : ∀ {S : List (List Nat)}, sameO T G l env m S e m' → ∀ s ∈ S, vcOps T G l (pickO l s) env m K
 | s :: r, h, x, hx => by
  rcases List.mem_cons.1 hx with rfl | hx
  ·exact vcP_mono (fun e2 m2 ⟨h1, h2⟩ => by rw [h1, h2]; exact hk) h.1
  ·exact sameO_mem hk h.2 x hx
theorem Vc.orders {P : Program} {T : Tab} (hT : TabOk P T) {G : Ctr} (hG : GOk P G) (hm : P.follows .mixedOrders = true) {id : Nat} {l : List Oper} {env : List SV} {m : List Blk} {K : Kont} (s : List Nat) (S : List (List Nat))
  (hS : ordersOf l.toArray l.toArray.size (Array.replicate l.toArray.size false) = s :: S) (hB : ordOk l.toArray l.toArray.size (Array.replicate l.toArray.size false) = true)
  (h : vcP T G l (pickO l s) env m fun e m' => sameO T G l env m S e m' ∧ K .normal e m') : Vc P (.region id l.toArray true) env m K := by
 intro w0 B a w hf hd hmm
 let Q : Exit → Act → World → Prop := fun x a w => x = .normal ∧ ∃ env m, Fr env a ∧ a.defers = [] ∧ MemOk w0 B m w ∧ K .normal env m
 refine wp_mono (Q := Q) (wp_region_any hm ?_) fun x a' w' ⟨hx, env', m', h1, h2, h3, h4⟩ => by subst hx; exact ⟨env', m', h1, h2, h3, h4⟩
 have hm2 : MemOk w0 B m { w with drawn := w.drawn + 1 } := ⟨hmm.os, hmm.tape, hmm.output, hmm.size, hmm.old, fun e he => by
  have := hmm.each e he
  cases e <;> exact this, hmm.nodup⟩
 refine any_of_orders (Q := Q) hT hG (fun env m a w h1 h2 h3 h4 => ⟨rfl, env, m, h1, h2, h3, h4⟩) _ _ env m a _ hB ?_ hf hd hm2
 rw [hS]
 intro x hx
 rcases List.mem_cons.1 hx with rfl | hx
 ·exact vcP_mono (fun e m' h => h.2) h
 ·obtain ⟨e, m', h1, h2⟩ := vcP_ex h
  exact sameO_mem h2 h1 x hx
section
variable {T : Tab} {G : Ctr} {m m' : List Blk} {t : Tok} {N : Tok → SV → List Blk → Prop} {K : Tok → List SV → List Blk → Prop} {all l l' : List Oper} {o : Oper} {env env' e e' : List SV} {s : List Nat} {S : List (List Nat)}
end
end Go.Proofs.YtoadeekdgikghaaDoor
namespace Go.Proofs.YtoadeekdgikghaaDoor
open Go.RowKit
theorem bget_at : ∀ {m : List Blk} {e : Blk}, e ∈ m → ∃ i, bget m i = e
 | x :: m, e, h => by
  rcases List.mem_cons.1 h with rfl | h
  ·exact ⟨0, rfl⟩
  ·obtain ⟨i, hi⟩ := bget_at h
   exact ⟨i + 1, hi⟩
theorem bget_nums : ∀ {m : List Blk} {i b : Nat}, b ∈ (bget m i).nums → b ∈ m.flatMap Blk.nums
 | [], _, _, h => by simp [bget, Blk.nums] at h
 | x :: m, 0, b, h => by rw [List.flatMap_cons]; exact List.mem_append_left _ h
 | x :: m, i + 1, b, h => by rw [List.flatMap_cons]; exact List.mem_append_right _ (bget_nums (m := m) (i := i) h)
theorem nums_sep : ∀ {m : List Blk} {i j b : Nat}, (m.flatMap Blk.nums).Nodup → i ≠ j → b ∈ (bget m i).nums → b ∉ (bget m j).nums
 | [], _, _, _, _, _, h => by simp [bget, Blk.nums] at h
 | x :: m, 0, 0, _, _, h, _ => absurd rfl h
 | x :: m, 0, j + 1, b, hd, _, h => fun hj => by
  rw [List.flatMap_cons, List.nodup_append] at hd
  exact hd.2.2 b h b (bget_nums (m := m) (i := j) hj) rfl
 | x :: m, i + 1, 0, b, hd, _, h => fun hj => by
  rw [List.flatMap_cons, List.nodup_append] at hd
  exact hd.2.2 b hj b (bget_nums (m := m) (i := i) h) rfl
 | x :: m, i + 1, j + 1, b, hd, hij, h => by
  rw [List.flatMap_cons, List.nodup_append] at hd
  exact nums_sep (m := m) hd.2.1 (by omega) h
theorem HM.off {w0 : World} {B : List Nat} {m : List Blk} {w : World} (hm : MemOk w0 B m w) {nm : Nat} {v : Value} {n : Nat} {t : TypeId} {es : Nat} {con : Con} (hb : bget m nm = .own v n t es con) {b : Nat} {o : Obj} (h : HM m b o) :
  v.ownBlock ≠ some b := by
 intro hv
 obtain ⟨e, he, hf⟩ := h
 obtain ⟨i, hi⟩ := bget_at he
 have hne : i ≠ nm := by rintro rfl; rw [hb] at hi; subst hi; exact hf
 have h1 : b ∈ (bget m nm).nums := by rw [hb]; simp [Blk.nums, hv]
 have h2 := nums_sep hm.nodup (Ne.symm hne) h1
 rw [hi] at h2
 have hb2 := (hm.each _ (bget_mem hb (by simp))).2 b hv
 cases e with
 | blk b' t' c' => obtain ⟨rfl, _⟩ := hf; exact h2 (by simp [Blk.nums])
 | heap l => exact h2 (List.mem_map_of_mem hf)
 | old g =>
  obtain ⟨_, h4, h5⟩ := hm.each _ he b o hf
  rcases hb2 with h6 | h6
  ·omega
  ·exact h5 h6
 | _ => exact hf
def allOld (w : World) : Blk := .old fun b => w.heap[b]?
theorem old_start (w : World) : MemOk w [] [allOld w] w :=
 ⟨rfl, rfl, rfl, Nat.le_refl _, fun _ _ _ => rfl, fun e he => by
  rw [List.mem_singleton] at he; subst he
  exact fun b o h => ⟨h, (Array.getElem?_eq_some_iff.1 h).1, List.not_mem_nil⟩, by simp [allOld, Blk.nums]⟩
theorem HM.allOld {w0 : World} {B : List Nat} {m : List Blk} {w : World} (hm : MemOk w0 B m w) {b : Nat} {o : Obj} (h : HM m b o) {m' : List Blk} (hin : Go.Proofs.YtoadeekdgikghaaDoor.allOld w ∈ m') : HM m' b o := ⟨_, hin, hm.hm h⟩
theorem HM.sub {m m' : List Blk} (h : ∀ e ∈ m, (∃ b o, Hof e b o) → e ∈ m') {b : Nat} {o : Obj} (hh : HM m b o) : HM m' b o := by
 obtain ⟨e, he, hf⟩ := hh; exact ⟨e, h e he ⟨b, o, hf⟩, hf⟩
theorem cvs_sset_same : ∀ (l : List SV) (i : Nat) {x : SV}, cv x = cv (sget l i) → cvs (sset l i x) = cvs l
 | [], _, _, _ => rfl
 | y :: l, 0, x, h => by simp only [sget] at h; simp only [sset, cvs, h]
 | y :: l, i + 1, x, h => by simp only [sget] at h; simp only [sset, cvs, cvs_sset_same l i h]
theorem turn_start {w0 : World} {B : List Nat} {m : List Blk} {w : World} (hm : MemOk w0 B m w) {nm b : Nat} {t : TypeId} {con : Con} (hb : bget m nm = .blk b t con) : MemOk w [b] [.blk b t con] w :=
 ⟨rfl, rfl, rfl, Nat.le_refl _, fun _ _ _ => rfl, fun e he => by
  rw [List.mem_singleton] at he
  subst he
  exact ⟨(hm.each _ (bget_mem hb (by simp))).1, .inr List.mem_cons_self⟩, by simp [Blk.nums]⟩
theorem turn_ro {w : World} {b : Nat} {m : List Blk} (h : MemOk w [b] m w) {w0 : World} {B : List Nat} {M : List Blk} (hm : MemOk w0 B M w) {nm nr : Nat} {t : TypeId} {con c : Con} {a : Option Addr} (hb : bget M nm = .blk b t con) (hr : bget M nr = .ro a c) : MemOk w [b] (.ro a c :: m) w :=
 ⟨h.os, h.tape, h.output, h.size, h.old, fun x hx => by
  rcases List.mem_cons.1 hx with rfl | hx
  ·intro j u hj
   obtain ⟨b', off, h1, h2, h3, h4⟩ := hm.each _ (bget_mem hr (by simp)) j u hj
   have hbb := (hm.each _ (bget_mem hb (by simp))).2
   refine ⟨b', off, h1, Nat.lt_of_lt_of_le h2 hm.size, ?_, h4⟩
   rw [List.mem_singleton]
   rintro rfl
   rcases hbb with hbb | hbb
   ·omega
   ·exact h3 hbb
  ·exact h.each x hx, by rw [List.flatMap_cons]; exact h.nodup⟩
theorem turn_end {w0 : World} {B : List Nat} {m m' : List Blk} {w w' : World} (hm : MemOk w0 B m w) {nm k b : Nat} {t t' : TypeId} {con con' : Con} (hb : bget m nm = .blk b t con) (h : MemOk w [b] m' w') (hb' : bget m' k = .blk b t' con') : MemOk w0 B (bset m nm (.blk b t' con')) w' := by
 have h4 := hm.each _ (bget_mem hb (by simp))
 have h5 := h.each _ (bget_mem hb' (by simp))
 refine hm.turn hb (by simp) (row := some b) ⟨h.os, h.tape, h.output, h.size, fun k hk hkb => h.old k hk (by rw [List.mem_singleton]; intro e; apply hkb; simp [e])⟩ (fun b hb => by cases hb; simp [Blk.nums]) (fun b hb => by simp [Blk.nums] at hb; subst hb; exact h4.2) ⟨h5.1, h4.2⟩ (fun b hb => .inl (by simpa [Blk.nums] using hb))
theorem calls_turn {P : Program} {f : FuncId} {fn : Func} {args args' : List SV} {w0 w : World} {B : List Nat} {m : List Blk} {nm k b : Nat} {t : TypeId} {con con' : Con} {v : SV} (hf : P.funcs[f]? = some fn) (hn : (fn.name == "runtime.NumGoroutine") = false) (hb : fn.body.isNone = false)
  (hm : MemOk w0 B m w) (hbg : bget m nm = .blk b t con) (he : cvs args = cvs args') (h : Calls P f (cvs args').toArray w (fun en w' => ∃ u, en = .returned u ∧ ∃ v' m', u = cv v' ∧ MemOk w [b] m' w' ∧ v' = v ∧ bget m' k = .blk b t con')) :
  Enters P f (cvs args).toArray w fun u w' => u = cv v ∧ MemOk w0 B (bset m nm (withCon (bget m nm) con')) w' := by
 rw [he]
 refine .inr ⟨enter_run hf hn hb _ w, h.mono fun e w' ⟨u, hu, v', m', hv, hm', hvv, hk⟩ => ⟨u, hu, by rw [hv, hvv], ?_⟩⟩
 rw [hbg]
 exact turn_end hm hbg hm' hk
theorem Vc.nameS {P : Program} {c : Code} {env : List SV} {m : List Blk} {K : Kont} (i : Nat) (x : SV) (hx : cv x = cv (sget env i)) (h : Vc P c (sset env i x) m K) : Vc P c env m K :=
 fun w0 B a w hf hd hm => h w0 B a w (by unfold Fr at *; rw [cvs_sset_same env i hx]; exact hf) hd hm
theorem vcOps_pre {P : Program} {T : Tab} (hT : TabOk P T) {G : Ctr} (hG : GOk P G) {all : List Oper} {w0 : World} {B : List Nat} {Q : Exit → Act → World → Prop} {ds : List Deferred} {K : List SV → List Blk → Prop} {l2 : List Oper}
  (hQ : ∀ env m a w, Fr env a → a.defers = ds → MemOk w0 B m w → K env m → wpList P all.toArray Q l2 a w) : ∀ (l : List Oper) (env : List SV) (m : List Blk) (a : Act) (w : World), vcOps T G all l env m K → Fr env a → a.defers = ds → MemOk w0 B m w →
  wpList P all.toArray Q (l ++ l2) a w
 | [], env, m, a, w, h, hf, hd, hm => hQ env m a w hf hd hm h
 | o :: rest, env, m, a, w, h, hf, hd, hm => by
  rw [List.cons_append]
  unfold wpList
  rcases vcOps_step h hf with ⟨h1, h2⟩ | ⟨h1, h2⟩
  ·rw [if_pos h1]
   refine .inl (Oper.wp_mono (fun a' w' ⟨v, m', he, hm', hk⟩ => ?_) (stepK_sound hT hG h2 hf hm))
   subst he
   exact vcOps_pre hT hG hQ rest _ _ _ _ hk (hf.put o.dst v) (by rw [← hd]; cases o.dst <;> rfl) hm'
  ·rw [if_neg (by rw [h1]; simp)]
   exact vcOps_pre hT hG hQ rest _ _ _ _ h2 (hf.put o.dst .undef) (by rw [← hd]; cases o.dst <;> rfl) hm
def H0 (w : World) (b : Nat) (o : Obj) : Prop := w.heap[b]? = some o
theorem H0.hm {w : World} {m : List Blk} (hin : allOld w ∈ m) : ∀ b o, H0 w b o → HM m b o := fun b o h => ⟨_, hin, h⟩
theorem getD_of {rs : List (List SV)} {i : Nat} {r : List SV} (h : rs[i]? = some r) : rs.getD i [] = r := by rw [List.getD_eq_getElem?_getD, h]; rfl
theorem own_new {P : Program} {f : FuncId} {fn : Func} {args : Array Value} {w : World} {w0 : World} {B : List Nat} {m : List Blk} {t : TypeId} {n : Nat} {con : Con} (hf : P.funcs[f]? = some fn) (hn : (fn.name == "runtime.NumGoroutine") = false) (hb : fn.body.isNone = false) (_hm : MemOk w0 B m w)
  (h : Calls P f args w (fun e w' => ∃ u, e = .returned u ∧ ∃ v' m', u = cv v' ∧ MemOk w [] m' w' ∧ ∃ k s, v' = .own k s n ∧ bget m' k = .own s n t 1 con)) : Enters P f args w fun u w' => ∃ v, u = cv (.own (blen m) v n) ∧ w.grownBy w' .none ∧ w'.ownsRow w.heap.size t 1 v n (cc con) :=
 .inr ⟨enter_run hf hn hb _ w, h.mono fun e w' ⟨u, he, v', m', hu, hm, k, s, hv, hs⟩ => ⟨u, he, s, by rw [hu, hv]; rfl, hm.grown, own_ok0 (hm.each _ (bget_mem hs (by simp)))⟩⟩
theorem take_more {α : Type} {rs : List α} {i : Nat} {r : α} (h : rs[i]? = some r) : rs.take (i + 1) = rs.take i ++ [r] := by rw [List.take_add_one, h]; rfl
theorem adr_shA {a : Option Addr} {n c k es : Nat} (h : adr a n c) (hk : k ≤ n) (hn : n ≤ c) : adr (shA a c k es) (n - k) (c - k) := by
 unfold shA
 rcases h with h | ⟨h1, h2, h3⟩
 ·split
  ·exact .inl h
  ·refine .inl ?_
   generalize blkO a = b at *
   generalize offO a = o at *
   subst h
   simp only [Option.map_some, addr_add, blkO, offO]
 ·exact .inr ⟨rfl, by omega, by omega⟩
theorem lies_take {H : Nat → Obj → Prop} {a : Option Addr} {xs : List Int} {kd : IntKind} (k : Nat) (h : LiesH H a (cc (.ints kd xs))) : LiesH H a (cc (.ints kd (xs.take k))) := by
 rcases h with h | ⟨b, off, arr, t, fr, rfl, h2, h3⟩
 ·refine .inl ?_
  have : (cc (.ints kd xs)).length = 0 := by rw [h]; rfl
  simp [cc] at this; subst this; simp [cc]
 ·refine .inr ⟨b, off, arr, t, fr, rfl, h2, fun j u hj => h3 j u ?_⟩
  simp only [cc, List.getElem?_map, List.getElem?_take] at hj ⊢
  split at hj
  ·exact hj
  ·cases hj
end Go.Proofs.YtoadeekdgikghaaDoor
