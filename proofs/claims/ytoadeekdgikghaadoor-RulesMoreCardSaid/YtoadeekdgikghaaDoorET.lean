/-
 A symbolic walk of my own: a region whose order is drawn, walked along a tree: where several new things may come first, each of these is walked. No condition.
-/
import Derived.Test.YtoadeekdgikghaaDoorEG
set_option maxRecDepth 10000
set_option linter.defProp false
set_option linter.unusedVariables false
set_option linter.unusedSimpArgs false
namespace Go.Proofs.YtoadeekdgikghaaDoor
open Go.RowKit
inductive DT where
 | nil
 | op (s : Nat) (r : DT)
 | or (a b : DT)
def DT.heads : DT → List Nat
 | .nil => []
 | .op s _ => [s]
 | .or a b => a.heads ++ b.heads
def DT.alts : DT → List (Nat × DT)
 | .nil => []
 | .op s r => [(s, r)]
 | .or a b => a.alts ++ b.alts
theorem heads_alts : ∀ t : DT, t.heads = t.alts.map (·.1)
 | .nil => rfl
 | .op _ _ => rfl
 | .or a b => by simp only [DT.heads, DT.alts, List.map_append, heads_alts a, heads_alts b]
def nodeT (ops : Array Oper) (n : Nat) (rem hs : List Nat) : Bool :=
 (hs.all fun s => match ops[s]? with
  | some o => readyB ops rem [] n o && (match dOp o.op with | true => (match hs with | [_] => freeB ops rem [] n s o | _ => false) | false => true)
  | none => false) &&
 ((hs.all fun s => match ops[s]? with | some o => dOp o.op | none => false) ||
  rem.all fun j => hs.contains j || match ops[j]? with | some o => o.after.any fun e => Region.binds .any e && rem.contains e.on | none => false)
def ckT (ops : Array Oper) (n : Nat) : Bool → List Nat → DT → Bool
 | i, rem, .nil => !i && rem.isEmpty
 | i, rem, .op s r => (i || nodeT ops n rem [s]) && (rem.contains s && ckT ops n false (rem.erase s) r)
 | i, rem, .or a b => (i || nodeT ops n rem (a.heads ++ b.heads)) && (ckT ops n true rem a && ckT ops n true rem b)
def vcT (T : Tab) (G : Ctr) (all : List Oper) : DT → List SV → List Blk → (List SV → List Blk → Prop) → Prop
 | .nil, env, m, K => K env m
 | .op s r, env, m, K => vcQ T G all (pickO all [s]) env m fun env m => vcT T G all r env m K
 | .or a b, env, m, K => vcT T G all a env m K ∧ vcT T G all b env m K
theorem vcT_alts {T : Tab} {G : Ctr} {all : List Oper} {env : List SV} {m : List Blk} {K : List SV → List Blk → Prop} : ∀ {t : DT}, vcT T G all t env m K → ∀ x ∈ t.alts, vcQ T G all (pickO all [x.1]) env m fun env m => vcT T G all x.2 env m K
 | .nil, _, x, hx => by simp [DT.alts] at hx
 | .op s r, h, x, hx => by simp only [DT.alts, List.mem_singleton] at hx; subst hx; exact h
 | .or a b, h, x, hx => by
  simp only [DT.alts, List.mem_append] at hx
  exact hx.elim (vcT_alts h.1 x) (vcT_alts h.2 x)
theorem ckT_alts {ops : Array Oper} {n : Nat} : ∀ {t : DT} {rem : List Nat}, ckT ops n true rem t = true → t.alts ≠ [] ∧ ∀ x ∈ t.alts, x.1 ∈ rem ∧ ckT ops n false (rem.erase x.1) x.2 = true
 | .nil, rem, h => by simp [ckT] at h
 | .op s r, rem, h => by
  simp only [ckT, Bool.true_or, Bool.true_and, Bool.and_eq_true, List.contains_eq_mem, decide_eq_true_eq] at h
  refine ⟨by simp [DT.alts], fun x hx => ?_⟩
  simp only [DT.alts, List.mem_singleton] at hx
  subst hx; exact h
 | .or a b, rem, h => by
  simp only [ckT, Bool.true_or, Bool.true_and, Bool.and_eq_true] at h
  obtain ⟨h1, h2⟩ := ckT_alts h.1
  obtain ⟨h3, h4⟩ := ckT_alts h.2
  refine ⟨fun h0 => h1 (List.append_eq_nil_iff.1 h0).1, fun x hx => ?_⟩
  simp only [DT.alts, List.mem_append] at hx
  exact hx.elim (h2 x) (h4 x)
theorem ckT_node {ops : Array Oper} {n : Nat} {t : DT} {rem : List Nat} (h : ckT ops n false rem t = true) : (t = .nil ∧ rem = []) ∨ (nodeT ops n rem t.heads = true ∧ ckT ops n true rem t = true) := by
 cases t with
 | nil => exact .inl ⟨rfl, by simpa [ckT] using h⟩
 | op s r =>
  simp only [ckT, Bool.false_or, Bool.and_eq_true] at h
  exact .inr ⟨h.1, by simp only [ckT, Bool.true_or, Bool.true_and, Bool.and_eq_true]; exact h.2⟩
 | or a b =>
  simp only [ckT, Bool.false_or, Bool.and_eq_true] at h
  exact .inr ⟨h.1, by simp only [ckT, Bool.true_or, Bool.true_and, Bool.and_eq_true]; exact h.2⟩
section
variable {P : Program} {T : Tab} {G : Ctr} {l : List Oper} {n g : Nat} {w0 : World} {B : List Nat} {Q : Exit → Act → World → Prop} {K : List SV → List Blk → Prop}
theorem tree_main (hT : TabOk P T) (hG : GOk P G) (hsel : ∀ (j : Nat) (o : Oper) cs b, l.toArray[j]? = some o → o.op ≠ .select cs b) (hns : n ≤ l.toArray.size) (htail : eTail .any l.toArray n = true)
  (hQ : ∀ c (a : Act) d u w, Q (.panic c) (a.put d u) w → Q (.panic c) a w)
  (hL : ∀ a w, wpList P l.toArray Q (l.drop n) a w → wpAny P .any l.toArray Q g (canonE n l.toArray.size) a w)
  (hK : ∀ env m a w, Fr env a → a.defers = [] → MemOk w0 B m w → K env m → wpList P l.toArray Q (l.drop n) a w) :
  ∀ (f : Nat) (t : DT) (rem : List Nat) (env : List SV) (m : List Blk) (a0 : Act) (listed : Array Bool),
   f = rem.length → rem.Nodup → (∀ s ∈ rem, s < n) → ckT l.toArray n false rem t = true → ListedI l.toArray rem n [] (fun _ => false) listed → HeadInv .any l.toArray n listed →
   vcT T G l t env m K → Fr env a0 → a0.defers = [] →
   anyV P .any l.toArray Q n g f listed a0 (MemOk w0 B m) := by
 intro f
 induction f with
 | zero =>
  intro t rem env m a0 listed hf0 hnd hlt hck I H h hf hd
  obtain rfl : rem = [] := List.eq_nil_of_length_eq_zero (by omega)
  obtain ⟨rfl, _⟩ : t = .nil ∧ True := by
   rcases ckT_node hck with h1 | h1
   ·exact ⟨h1.1, trivial⟩
   ·obtain ⟨h2, h3⟩ := ckT_alts h1.2
    obtain ⟨x, hx⟩ := List.exists_mem_of_ne_nil _ h2
    exact absurd (h3 x hx).1 List.not_mem_nil
  have hlist : ∀ k, k < n → listed.getD k true = true := fun k hk => by
   cases hl : listed.getD k true with
   | true => rfl
   | false =>
    rcases (I.2 k (by omega)).1 hl with h1 | ⟨x, hx, _, _⟩ | h1
    ·exact absurd h1 List.not_mem_nil
    ·exact absurd hx List.not_mem_nil
    ·omega
  refine ⟨hlist, fun w hw => ?_⟩
  have hcan : listed = canonE n l.toArray.size := by
   apply Array.ext
   ·simp [canonE, H.size]
   ·intro k hk hk'
    simp only [canonE, Array.getElem_map, Array.getElem_range]
    by_cases hkn : k < n
    ·have := hlist k hkn
     simp [hk] at this
     simp [this, hkn]
    ·have := H.tail k (by omega) (by rw [← H.size]; exact hk)
     simp [hk] at this
     simp [this, hkn]
  rw [hcan]
  exact hL _ _ (hK env _ _ _ hf hd hw h)
 | succ f ih =>
  intro t rem env m a0 listed hf0 hnd hlt hck I H h hf hd
  rcases ckT_node hck with ⟨_, rfl⟩ | ⟨hnode, hck2⟩
  ·simp at hf0
  obtain ⟨hne, hal⟩ := ckT_alts hck2
  have hva := vcT_alts h
  simp only [nodeT, Bool.and_eq_true, Bool.or_eq_true] at hnode
  obtain ⟨hn1, hn2⟩ := hnode
  have hmem : ∀ s, s ∈ t.heads ↔ ∃ x ∈ t.alts, x.1 = s := fun s => by rw [heads_alts]; simp
  -- what stands first
  have one : ∀ x ∈ t.alts, ∃ o, l.toArray[x.1]? = some o ∧ readyB l.toArray rem [] n o = true ∧ (dOp o.op = true → ∃ y, t.heads = [y] ∧ freeB l.toArray rem [] n x.1 o = true) := fun x hx => by
   have h1 := List.all_eq_true.1 hn1 x.1 ((hmem _).2 ⟨x, hx, rfl⟩)
   cases ho : l.toArray[x.1]? with
   | none => rw [ho] at h1; cases h1
   | some o =>
    rw [ho] at h1
    simp only [Bool.and_eq_true] at h1
    refine ⟨o, rfl, h1.1, fun hdo => ?_⟩
    have h2 := h1.2
    rw [hdo] at h2
    dsimp only at h2
    split at h2
    ·rename_i y hy; exact ⟨y, hy, h2⟩
    ·cases h2
  have hunl : ∀ j, j < l.toArray.size → unl rem [] n j = false → listed.getD j true = true := fun j hj hu => by
   simp only [unl, Bool.or_eq_false_iff, List.contains_eq_mem, decide_eq_false_iff_not] at hu
   cases hl : listed.getD j true with
   | true => rfl
   | false =>
    rcases (I.2 j hj).1 hl with h1 | ⟨y, hy, _, _⟩ | h1
    ·exact absurd h1 hu.1.1
    ·exact absurd hy List.not_mem_nil
    ·exact absurd h1 hu.2
  have rdy : ∀ x ∈ t.alts, ∀ o, l.toArray[x.1]? = some o → readyB l.toArray rem [] n o = true → x.1 ∈ Region.ready .any l.toArray listed := fun x hx o ho hready => by
   have hsl : listed.getD x.1 true = false := (I.2 x.1 (Array.getElem?_eq_some_iff.1 ho).1).2 (.inl (hal x hx).1)
   refine mem_ready.2 ⟨hsl, o, ho, fun e he hb => ?_⟩
   have h1 := Array.all_eq_true_iff_forall_mem.1 hready e he
   simp only [hb, Bool.not_true, Bool.false_or, Bool.and_eq_true, decide_eq_true_eq, Bool.not_eq_true'] at h1
   have h2 := hunl e.on h1.1 h1.2
   have : e.on < listed.size := by rw [H.size]; exact h1.1
   simp [this] at h2 ⊢; exact h2
  have hdef : ∀ (o : Oper) (v : Value), (a0.put o.dst v).defers = [] := fun o v => by rw [← hd]; cases o.dst <;> rfl
  have next : ∀ x ∈ t.alts, ∀ o, l.toArray[x.1]? = some o → readyB l.toArray rem [] n o = true → ∀ (v : SV) (r' : List Blk), vcT T G l x.2 (upd env o.dst v) (m ++ r') K →
    anyV P .any l.toArray Q n g f (listed.setIfInBounds x.1 true) (a0.put o.dst (cv v)) (MemOk w0 B (m ++ r')) := fun x hx o ho hready v r' hv => by
   obtain ⟨hin, hckx⟩ := hal x hx
   have hperm := List.perm_cons_erase hin
   have I2 : ListedI l.toArray (x.1 :: rem.erase x.1) n [] (fun _ => false) listed := ⟨I.1, fun j hj => by rw [I.2 j hj, hperm.mem_iff]⟩
   have hnd2 : (x.1 :: rem.erase x.1).Nodup := hperm.nodup_iff.1 hnd
   have hs := hlt _ hin
   refine ih x.2 (rem.erase x.1) _ _ _ _ ?_ (List.nodup_cons.1 hnd2).2 (fun s hs => hlt s (List.mem_of_mem_erase hs)) hckx (I2.pop hnd2 hs (fun y hy => absurd hy List.not_mem_nil)) (H.set (rdy x hx o ho hready) hs) hv (hf.put o.dst v) (hdef _ _)
   have := hperm.length_eq
   simp only [List.length_cons] at this
   omega
  have next0 : ∀ x ∈ t.alts, ∀ o, l.toArray[x.1]? = some o → readyB l.toArray rem [] n o = true → ∀ (v : SV), vcT T G l x.2 (upd env o.dst v) m K →
    anyV P .any l.toArray Q n g f (listed.setIfInBounds x.1 true) (a0.put o.dst (cv v)) (MemOk w0 B m) := fun x hx o ho hready v hv => by
   have := next x hx o ho hready v [] (by rw [List.append_nil]; exact hv)
   rwa [List.append_nil] at this
  have hpk : ∀ x ∈ t.alts, ∀ o, l.toArray[x.1]? = some o → pickO l [x.1] = [o] := fun x _ o ho => by
   have : l[x.1]? = some o := by simpa using ho
   simp only [pickO, nthO_eq, this]
  obtain ⟨x0, hx0⟩ := List.exists_mem_of_ne_nil _ hne
  obtain ⟨o0, ho0, hready0, hfr0⟩ := one x0 hx0
  have hr0 := rdy x0 hx0 o0 ho0 hready0
  have hs0 := hlt _ (hal x0 hx0).1
  cases hdo : dOp o0.op with
  | true =>
   obtain ⟨y, hy, hkind⟩ := hfr0 hdo
   have hfree : ∀ j oj, l.toArray[j]? = some oj → j ≠ x0.1 → listed.getD j true = false → (∀ e ∈ oj.after, Region.binds .any e = true → e.on ≠ x0.1) → o0.apart l.toArray oj = true := by
    intro j oj hoj hjs hjl hno
    have hjz := (Array.getElem?_eq_some_iff.1 hoj).1
    simp only [freeB, List.all_eq_true, List.mem_range] at hkind
    have h1 := hkind j hjz
    have hu : unl rem [] n j = true := by
     cases hu : unl rem [] n j with
     | true => rfl
     | false => rw [hunl j hjz hu] at hjl; cases hjl
    simp only [hoj, hu, Bool.or_eq_true, beq_iff_eq, hjs, false_or, Bool.not_true, Bool.false_eq_true] at h1
    rcases h1 with h1 | h1
    ·obtain ⟨e, he, hb⟩ := Array.any_eq_true'.1 h1
     simp only [Bool.and_eq_true, beq_iff_eq] at hb
     exact absurd hb.2 (hno e he hb.1)
    ·exact h1
   have hv0 := hva x0 hx0
   rw [hpk x0 hx0 o0 ho0] at hv0
   rcases vcQ_step hv0 hf with ⟨hw, h1⟩ | ⟨hw, h1⟩
   ·rw [hdo] at h1
    obtain ⟨p, v, hds, hp, hv⟩ := effQ_true h1
    refine anyV_first ho0 hsel htail hs0 hQ f listed _ _ H hfree hr0 ?_ (next0 x0 hx0 o0 ho0 hready0 v hv)
    have := dyields (P := P) (T := T) (l := l) (w0 := w0) (B := B) hT hds hp hf (a := a0) rfl hw (m' := [])
    rwa [List.append_nil] at this
   ·exact anyV_first (v := undef) ho0 hsel htail hs0 hQ f listed _ _ H hfree hr0 (.inr ⟨hw, rfl⟩) (next0 x0 hx0 o0 ho0 hready0 .undef h1)
  | false =>
   refine ⟨fun h0 => List.not_mem_nil (h0 ▸ hr0), fun j hj => ⟨fun hjn w hw => ?_, fun hjn w hw => ?_⟩⟩
   ·obtain ⟨hjl, oj, hoj, hall⟩ := mem_ready.1 hj
    rcases (I.2 j (by omega)).1 hjl with h1 | ⟨y, hy, _, _⟩ | h1
    ·rcases hn2 with h2 | h2
     ·have h3 := List.all_eq_true.1 h2 x0.1 ((hmem _).2 ⟨x0, hx0, rfl⟩)
      rw [ho0] at h3
      exact Bool.noConfusion (hdo.symm.trans h3)
     ·have h3 := List.all_eq_true.1 h2 j h1
      rw [hoj] at h3
      simp only [Bool.or_eq_true] at h3
      rcases h3 with h3 | h3
      ·obtain ⟨x, hx, rfl⟩ := (hmem j).1 (by simpa using h3)
       obtain ⟨o, ho, hready, hfr⟩ := one x hx
       obtain rfl : oj = o := Option.some.inj (hoj.symm.trans ho)
       have hdj : dOp oj.op = false := by
        cases hdj : dOp oj.op with
        | false => rfl
        | true =>
         obtain ⟨y, hy, _⟩ := hfr hdj
         have e1 := (hmem x.1).2 ⟨x, hx, rfl⟩
         have e2 := (hmem x0.1).2 ⟨x0, hx0, rfl⟩
         rw [hy, List.mem_singleton] at e1 e2
         rw [e1, ← e2] at ho
         obtain rfl := Option.some.inj (ho.symm.trans ho0)
         exact Bool.noConfusion (hdo.symm.trans hdj)
       have hv0 := hva x hx
       rw [hpk x hx oj ho] at hv0
       unfold wpOp
       simp only [ho]
       rcases vcQ_step hv0 hf with ⟨hwt, h4⟩ | ⟨hwt, h4⟩
       ·rw [if_pos hwt]
        rw [hdj] at h4
        refine .inl (Oper.wp_mono (fun a' w' ⟨v, r', ha, hg, hn, hv⟩ => ?_) (effQ_sound hT hG h4 hf rfl hw))
        subst ha
        exact ⟨_, fun w'' hw'' => hw''.front, hw.pushes hg hn, next x hx oj ho hready v r' hv⟩
       ·rw [if_neg (by rw [hwt]; simp)]
        exact ⟨_, fun _ h => h, hw, next0 x hx oj ho hready .undef h4⟩
      ·exfalso
       obtain ⟨e, he, hb⟩ := Array.any_eq_true'.1 h3
       simp only [Bool.and_eq_true, List.contains_eq_mem, decide_eq_true_eq] at hb
       have h4 := hall e he hb.1
       have h5 := (I.2 e.on (by have := hlt e.on hb.2; omega)).2 (.inl hb.2)
       rw [getD_both h5] at h4
       cases h4
    ·exact absurd hy List.not_mem_nil
    ·omega
   ·have := eplain_dop (e_tail_plain ho0 htail hs0 H (mem_ready.1 hr0).1 hj hjn)
    rw [this] at hdo; cases hdo
def treeB (ops : Array Oper) (n : Nat) (t : DT) : Bool :=
 Region.noSelect ops && (decide (n ≤ ops.size) && (eTail .any ops n && (Region.seqB .any ops (ops.size - n) n (canonE n ops.size) && ckT ops n false (List.range n) t)))
end
theorem Vc.tree {P : Program} {T : Tab} (hT : TabOk P T) {G : Ctr} (hG : GOk P G) (hm : P.follows .mixedOrders = true) {id : Nat} {l : List Oper} {env : List SV} {m : List Blk} {K : Kont} (t : DT) (n : Nat)
  (hB : treeB l.toArray n t = true)
  (h : vcT T G l t env m fun env m => vcOps T G l (l.drop n) env m (K .normal)) : Vc P (.region id l.toArray true) env m K := by
 intro w0 B a w hf hd hmm
 simp only [treeB, Bool.and_eq_true, decide_eq_true_eq] at hB
 obtain ⟨h1, h2, h3, h4, h5⟩ := hB
 let Q : Exit → Act → World → Prop := fun x a w => x = .normal ∧ ∃ env m, Fr env a ∧ a.defers = [] ∧ MemOk w0 B m w ∧ K .normal env m
 refine wp_mono (Q := Q) (wp_region_any hm ?_) fun x a' w' ⟨hx, env', m', h1, h2, h3, h4⟩ => by subst hx; exact ⟨env', m', h1, h2, h3, h4⟩
 have hm2 : MemOk w0 B m { w with drawn := w.drawn + 1 } := ⟨hmm.os, hmm.tape, hmm.output, hmm.size, hmm.old, fun e he => by
  have := hmm.each e he
  cases e <;> exact this, hmm.nodup⟩
 have key := tree_main (g := l.length - n) (w0 := w0) (B := B) (Q := Q) hT hG (Region.noSelect_spec h1) h2 h3 (fun c a d u w h => nomatch h.1)
  (fun a w hL => by
   have hdl : (l.drop n).length = l.length - n := by simp
   have h6 := wpAny_of_seq (P := P) (md := .any) (Q' := Q) (ops := l.toArray) (l.drop n) n (canonE n l.toArray.size) a w (fun j => by simp [List.getElem?_drop]) (by rw [hdl]; simpa using h4) hL
   rwa [hdl] at h6)
  (fun env m a w h1 h2 h3 h4 => vcOps_sound hT hG (ds := []) (fun e m a w h1 h2 h3 h4 => ⟨rfl, e, m, h1, h2, h3, h4⟩) _ env m a w h4 h1 h2 h3)
  (List.range n).length t (List.range n) env m a (Array.replicate l.toArray.size false) rfl List.nodup_range (fun s hs => List.mem_range.1 hs) h5
  ⟨by simp, fun j hj => by
   rw [getD_in (by simpa using hj) (getD_replicate_false _ _)]
   simp only [true_iff, List.mem_range]
   rcases Nat.lt_or_ge j n with hn | hn
   ·exact .inl hn
   ·exact .inr (.inr hn)⟩
  ⟨by simp, fun j oj _ hl => (by rw [getD_replicate_false] at hl; exact Bool.noConfusion hl), fun t _ ht => getD_in (by simpa using ht) (getD_replicate_false _ _)⟩ h hf hd
 have h7 := any_of_V _ _ _ _ _ hm2 key
 have hlen : (List.range n).length + (l.length - n) = l.toArray.size := by
  rw [List.length_range]
  simp at h2 ⊢
  omega
 rwa [hlen] at h7
section
variable {T : Tab} {G : Ctr} {m m' : List Blk} {t : Tok} {K : Tok → List SV → List Blk → Prop} {all : List Oper} {env env' : List SV} {d r a b : DT} {s : Nat}
end
end Go.Proofs.YtoadeekdgikghaaDoor
