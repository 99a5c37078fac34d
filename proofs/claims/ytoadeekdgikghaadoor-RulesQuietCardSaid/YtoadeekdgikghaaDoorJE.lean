/-
 Package quaestorlaw17: pure reckoning violates nothing, as data. No condition.
-/
import Derived.Test.YtoadeekdgikghaaDoorJD
set_option maxRecDepth 20000
set_option linter.unusedVariables false
set_option linter.unusedSimpArgs false
namespace Go.Proofs.YtoadeekdgikghaaDoor
open Go.RowKit
section
variable {P : Program} {a b c : Code} {env : List SV} {m : List Blk} {K : Kont}
theorem Vc.cut1 (Q : List SV → List Blk → Prop) (h1 : ∀ env' m', Q env' m' → Vc P b env' m' K) (h2 : ∀ N : List SV → List Blk → Prop, (∀ env' m', Q env' m' → N env' m') → Vc P a env m (thenK N K)) : Vc P (.seq a b) env m K :=
 Vc.seq fun N hN => h2 N fun e m hq => hN e m (h1 e m hq)
theorem Vc.ownCon (nm : Nat) {v : Value} {n : Nat} {t : TypeId} {es : Nat} {con : Con} (con' : Con) (hb : bget m nm = .own v n t es con) (hc : cc con' = cc con) (h : Vc P c env (bset m nm (.own v n t es con')) K) : Vc P c env m K := by
 intro w0 B ac w hf hd hm
 refine h w0 B ac w hf hd (hm.set hb (by simp) ?_ ?_ fun x hx => .inl hx)
 ·have h1 := hm.each _ (bget_mem hb (by simp))
  exact ⟨by rw [hc]; exact h1.1, h1.2⟩
 ·have h2 := nums_nodup (i := nm) hm.nodup
  rw [hb] at h2
  exact h2
end
def goodO (o : Int) : Prop := 0 ≤ o ∧ (o < 49 ∨ o = 51 ∨ o = 52 ∨ o = 53 ∨ o = 54 ∨ o = 55 ∨ (80 ≤ o ∧ o < 240 ∧ o ≠ 84 ∧ o ≠ 85 ∧ o ≠ 90))
def okQ (e : Int × Int) : Prop := (e.2 = 0 ∧ goodO e.1) ∨ (e.2 = 133 ∧ 0 ≤ e.1 ∧ e.1 ≤ 255)
theorem isOp_no {x : Int} : ∀ {l : List Int}, (∀ y ∈ l, x ≠ y) → isOp x l = false
 | [], _ => rfl
 | y :: l, h => by
  unfold isOp
  rw [List.any_cons, decide_eq_false (h y List.mem_cons_self), Bool.false_or]
  exact isOp_no fun z hz => h z (List.mem_cons_of_mem _ hz)
theorem bsB_nil (t : Int) : bsB [] t = false := rfl
theorem rule_quiet {E : JE} (hl : E.lo = []) (hg : goodO E.e.op) (hs : E.sv = []) : ∀ r, ruleE E r = false := by
 have hn : ∀ l : List Int, (∀ y ∈ l, ¬ goodO y) → isOp E.e.op l = false := fun l h => isOp_no fun y hy e => h y hy (e ▸ hg)
 have i1 := hn [50, 58, 64, 65, 66, 67, 68, 69, 72, 255] (by unfold goodO; intro y hy; simp at hy; omega)
 have i2 := hn [49, 71] (by unfold goodO; intro y hy; simp at hy; omega)
 have i3 := hn [59, 60, 63, 241, 242, 244, 250] (by unfold goodO; intro y hy; simp at hy; omega)
 have i4 := hn [241, 242] (by unfold goodO; intro y hy; simp at hy; omega)
 have i5 := hn [242, 244] (by unfold goodO; intro y hy; simp at hy; omega)
 have i6 := hn [241, 250] (by unfold goodO; intro y hy; simp at hy; omega)
 have i7 := hn [84, 85] (by unfold goodO; intro y hy; simp at hy; omega)
 have i8 : decide (E.e.op = 240) = false := decide_eq_false fun e => by unfold goodO at hg; omega
 have i9 : decide (E.e.op = 245) = false := decide_eq_false fun e => by unfold goodO at hg; omega
 intro r
 match r with
 | 0 => simp only [ruleE, i1, i2, Bool.false_and, Bool.or_false]
 | 1 => simp only [ruleE, hl, bsB_nil]
 | 2 => simp only [ruleE, hs, bsB_nil]
 | 3 => simp only [ruleE, i8, i9, Bool.false_and, Bool.or_false]
 | 4 => simp only [ruleE, i3, Bool.false_and]
 | 5 => simp only [ruleE, i4, Bool.false_and]
 | 6 => simp only [ruleE, i5, i6, Bool.false_and, Bool.or_false, Bool.and_false]
 | 7 => simp only [ruleE, i7, Bool.false_and]
 | _ + 8 => rfl
theorem vio_quiet {E : JE} (hl : E.lo = []) (hs : E.sv = []) (hg : E.e.flt = 0 → goodO E.e.op) : vioE E 8 = [] := by
 unfold vioE
 rw [List.filter_eq_nil_iff.2, List.map_nil]
 intro r _ h
 unfold hitE at h
 simp only [Bool.and_eq_true, Bool.or_eq_true, decide_eq_true_eq] at h
 obtain ⟨h1 | h1, h2⟩ := h
 ·rw [rule_quiet hl (hg h1) hs r] at h2; cases h2
 ·subst h1
  simp only [ruleE, hs, bsB_nil] at h2; cases h2
theorem sel_quiet {f : Evt → List Evt → Bool} : ∀ {l : List Evt} {i : Nat}, (∀ e ∈ l, ∀ l', f e l' = false) → evSel f i l = []
 | [], _, _ => rfl
 | e :: l, i, h => by
  unfold evSel
  rw [if_neg (by rw [h e List.mem_cons_self]; exact Bool.false_ne_true)]
  exact sel_quiet fun x hx => h x (List.mem_cons_of_mem _ hx)
def evQ (snd : List Int) (e : Int × Int) : Evt := ⟨e.1, 0, snd, 0, 0, [], e.2⟩
theorem brk_quiet {E0 : JE} {snd : List Int} {es : List (Int × Int)} (h : ∀ e ∈ es, okQ e) : ∀ k, k ≤ es.length → brkR E0 (es.map (evQ snd)) k = []
 | 0, _ => rfl
 | k + 1, hk => by
  rw [brkR_s, brk_quiet h k (by omega), List.nil_append]
  have hlo : (stepE E0 (es.map (evQ snd)) k).lo = [] := sel_quiet fun x hx l' => by
   obtain ⟨e, he, rfl⟩ := List.mem_map.1 hx
   have := h e he
   have h9 : (decide (e.1 = 90) && decide (e.2 = 0)) = false := by rw [← Bool.decide_and]; exact decide_eq_false (by unfold okQ goodO at this; omega)
   show (decide (e.1 = 90) && decide (e.2 = 0) && _) = false
   rw [h9, Bool.false_and]
  have hsv : (stepE E0 (es.map (evQ snd)) k).sv = [] := sel_quiet fun x hx l' => by
   obtain ⟨e, he, rfl⟩ := List.mem_map.1 hx
   have := h e he
   show decide (e.2 = 130) = false
   exact decide_eq_false (by unfold okQ at this; omega)
  have hke : k < es.length := by omega
  have he : (stepE E0 (es.map (evQ snd)) k).e = evQ snd es[k] := by
   show (es.map (evQ snd)).getD k default = _
   rw [List.getD_eq_getElem?_getD, List.getElem?_map, List.getElem?_eq_getElem hke]; rfl
  unfold rowsE
  rw [vio_quiet hlo hsv ?_]; rfl
  rw [he]
  intro h0
  have := h _ (List.getElem_mem hke)
  unfold okQ at this
  rcases this with h1 | h1
  ·exact h1.2
  ·have : (evQ snd es[k]).flt = es[k].2 := rfl
   omega
theorem chk_quiet {E : JE} {snd : List Int} {es : List (Int × Int)} (h : ∀ e ∈ es, okQ e) : chkR E (lsF (es.map (evQ snd)) [] []) 3 = [] ∧ chkR E (lsF [] (es.map (evQ snd)) []) 3 = [] ∧ chkR E (lsF [] [] (es.map (evQ snd))) 3 = [] := by
 have h1 : ∀ E0, brkR E0 (es.map (evQ snd)) es.length = [] := fun E0 => brk_quiet h es.length (Nat.le_refl _)
 have h0 : ∀ E0, brkR E0 [] 0 = [] := fun _ => rfl
 refine ⟨?_, ?_, ?_⟩ <;> simp [chkR, lsF, h1, h0]
def rowQ (x : SV) (snd : List Int) (e : Int × Int) : List SV := .int .u8 e.1 :: .int .i64 0 :: (snd.map (.int .u8 ·) ++ [.int .u64 0, .int .u64 0, .int .u64 0, .int .u64 0, .int .u64 0, .int .u64 0, .int .u64 0, .int .u64 0, x, .int .u16 e.2])
theorem rowQ_cc (snd : List Int) (es : List (Int × Int)) : cc (.rows 32 (es.map (rowQ (.gh none 0 0 (.ints .u8 [])) snd))) = cc (.rows 32 (es.map (rowQ .nilsl snd))) := by
 simp only [cc, List.flatMap_map]
 congr 1
 funext e
 simp only [rowQ, cvs, cvs_eq, List.map_append, List.map_cons, List.map_nil]; rfl
theorem rowQ_ev {H : Nat → Obj → Prop} {snd : List Int} (hl : snd.length = 20) (hb : allB snd) {e : Int × Int} (h : okQ e) : EvR H (rowQ (.gh none 0 0 (.ints .u8 [])) snd e) (evQ snd e) := by
 obtain ⟨x0, x1, x2, x3, x4, x5, x6, x7, x8, x9, x10, x11, x12, x13, x14, x15, x16, x17, x18, x19, rfl⟩ := okA_lit (a := snd) ⟨hl, hb⟩
 have h1 : 0 ≤ e.1 ∧ e.1 ≤ 255 ∧ 0 ≤ e.2 ∧ e.2 ≤ 65535 := by unfold okQ goodO at h; omega
 refine ⟨x0, x1, x2, x3, x4, x5, x6, x7, x8, x9, x10, x11, x12, x13, x14, x15, x16, x17, x18, x19, 0, 0, 0, 0, 0, 0, 0, 0, none, 0, 0, rfl, rfl, hb, by simp [allU], by rw [numI_0]; rfl, by simp [allU], by rw [numI_0]; rfl, rfl, Nat.le_refl _, .inr ⟨rfl, rfl, rfl⟩, .inl rfl, (fun y hy => absurd hy List.not_mem_nil), Nat.zero_le _, h1.1, h1.2.1, by show inK .i64 0; simp [inK], h1.2.2.1, h1.2.2.2⟩
theorem rowQ_evs {H : Nat → Obj → Prop} {snd : List Int} (hl : snd.length = 20) (hb : allB snd) {es : List (Int × Int)} (h : ∀ e ∈ es, okQ e) : EvsR H (es.map (rowQ (.gh none 0 0 (.ints .u8 [])) snd)) (es.map (evQ snd)) := by
 refine ⟨by simp, fun r hr => ?_, fun i r e h1 h2 => ?_⟩
 ·obtain ⟨e, he, rfl⟩ := List.mem_map.1 hr
  simp [rowQ, hl]
 ·rw [List.getElem?_map] at h1 h2
  cases hi : es[i]? with
  | none => rw [hi] at h1; cases h1
  | some y =>
   rw [hi] at h1 h2
   cases h1; cases h2
   exact rowQ_ev hl hb (h y (List.mem_of_getElem? hi))
end Go.Proofs.YtoadeekdgikghaaDoor
