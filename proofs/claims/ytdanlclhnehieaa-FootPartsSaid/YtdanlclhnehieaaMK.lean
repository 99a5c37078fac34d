/-
  Keys of maps as lists of numbers; what a map's entries say; the look-up, the store, the removal, the range, on a block that is a map.
-/
import Derived.Maps.Keyed
import Derived.DeepKeys4
import Derived.Maps.RangeRun
import Derived.Maps.Range
namespace Go.Proofs.Ytdanlclhnehieaa
set_option linter.unusedSimpArgs false
set_option linter.unusedVariables false
open Go
inductive CK where
  | i (k : IntKind)
  | b
  | s
def okC : CK → Value → Prop
  | .i k, .int k' n => k' = k ∧ (Lit.int k n).wf = true
  | .b, .bool _ => True
  | .s, .string s => s.size ≤ maxLen
  | _, _ => False
def okCs : List CK → List Value → Prop
  | [], [] => True
  | k :: ks, v :: vs => okC k v ∧ okCs ks vs
  | _, _ => False
def litK : Value → Lit
  | .int k n => .int k n
  | .bool b => .bool b
  | .string s => .string s.data.toList
  | _ => .bool false
theorem okCs_len : ∀ {ks : List CK} {vs : List Value}, okCs ks vs → vs.length = ks.length
  | [], [], _ => rfl
  | _ :: _, _ :: _, h => by simp [okCs_len h.2]
theorem okCs_take : ∀ {ks ls : List CK} {vs : List Value}, okCs (ks ++ ls) vs → okCs ks (vs.take ks.length) ∧ okCs ls (vs.drop ks.length)
  | [], ls, vs, h => by simpa [okCs] using h
  | k :: ks, ls, v :: vs, h => by
    obtain ⟨h1, h2⟩ := h
    have := okCs_take h2
    exact ⟨⟨h1, this.1⟩, this.2⟩
  | _ :: _, _, [], h => h.elim
def fieldsL (lv : TypeId → Option (List CK)) (P : Program) : Nat → List Field → Option (List CK)
  | _, [] => some []
  | off, f :: r => if f.offset = off ∧ (f.name != "_") = true then
      match lv f.type, fieldsL lv P (off + P.cellsOf f.type) r with
      | some a, some b => if a.length = P.cellsOf f.type then some (a ++ b) else none
      | _, _ => none
    else none
def leaves (P : Program) : Nat → TypeId → Option (List CK)
  | 0, _ => none
  | m + 1, t => match P.underlying t with
    | some .bool => some [.b]
    | some (.int k) => some [.i k]
    | some .string => some [.s]
    | some (.array n e) => match leaves P m e with
      | some l => if l.length = P.cellsOf e ∧ P.cellsOf t = n * P.cellsOf e then some (List.replicate n l).flatten else none
      | none => none
    | some (.struct fs) => match fieldsL (leaves P m) P 0 fs.toList with
      | some l => if l.length = P.cellsOf t then some l else none
      | none => none
    | _ => none
theorem flat_rep {α : Type} (l : List α) : ∀ n, (List.replicate n l).flatten.length = n * l.length
  | 0 => by simp
  | n + 1 => by simp [Nat.add_mul]
theorem chunkL {P : Program} {e : TypeId} {d : Nat} {l : List CK} (hk : ∀ cs, okCs l cs → P.keyLits d e cs = some (cs.map litK)) : ∀ (n : Nat) (cs : List Value), okCs (List.replicate n l).flatten cs →
    (((List.range n).mapM fun i => P.keyLits d e ((cs.drop (i * l.length)).take l.length)).map List.flatten) = some (cs.map litK)
  | 0, cs, h => by cases cs with
    | nil => simp
    | cons => exact h.elim
  | n + 1, cs, h => by
    rw [List.replicate_succ, List.flatten_cons] at h
    obtain ⟨h1, h2⟩ := okCs_take h
    have ih := chunkL hk n _ h2
    rw [List.range_succ_eq_map]
    simp only [List.mapM_cons, Nat.zero_mul, List.drop_zero, hk _ h1, List.mapM_map]
    simp only [Option.map_eq_some_iff] at ih
    obtain ⟨z, hz, hz2⟩ := ih
    have e1 : (List.range n).mapM (fun i => P.keyLits d e ((cs.drop ((i + 1) * l.length)).take l.length)) = some z := by
      rw [← hz]
      congr 1
      funext i
      rw [List.drop_drop]
      congr 3
      rw [Nat.add_mul]; omega
    have e2 : (List.range n).mapM ((fun i => P.keyLits d e ((cs.drop (i * l.length)).take l.length)) ∘ Nat.succ) = some z := by rw [← e1]; rfl
    rw [e2]
    simp only [Option.pure_def, Option.bind_eq_bind, Option.bind_some, Option.map_some, List.flatten_cons, hz2, ← List.map_append, List.take_append_drop]
theorem fieldsLits {P : Program} {d : Nat} {lv : TypeId → Option (List CK)} (hk : ∀ t l, lv t = some l → ∀ cs, okCs l cs → P.keyLits d t cs = some (cs.map litK)) : ∀ (fs : List Field) (off : Nat) (l : List CK) (cs : List Value), fieldsL lv P off fs = some l → okCs l (cs.drop off) →
    (fs.mapM fun f => P.keyLits d f.type ((cs.drop f.offset).take (P.cellsOf f.type))).map List.flatten = some ((cs.drop off).map litK) ∧ (fs.all (·.name != "_")) = true
  | [], off, l, cs, h, hc => by
    simp only [fieldsL, Option.some.injEq] at h
    subst h
    cases hd : cs.drop off with
    | nil => simp
    | cons => rw [hd] at hc; exact hc.elim
  | f :: r, off, l, cs, h, hc => by
    unfold fieldsL at h
    split at h
    · rename_i ho
      obtain ⟨ho, hn⟩ := ho
      split at h
      · rename_i a b ha hb
        split at h
        · rename_i hl
          simp only [Option.some.injEq] at h
          subst h
          obtain ⟨h1, h2⟩ := okCs_take hc
          rw [List.drop_drop, hl] at h2
          rw [hl] at h1
          obtain ⟨g1, g2⟩ := fieldsLits hk r _ b cs hb h2
          simp only [Option.map_eq_some_iff] at g1
          obtain ⟨z, hz, hz2⟩ := g1
          refine ⟨?_, by simp only [List.all_cons, hn, g2, Bool.and_self]⟩
          simp only [List.mapM_cons, ho, hk _ _ ha _ h1, hz]
          simp only [Option.pure_def, Option.bind_eq_bind, Option.bind_some, Option.map_some, List.flatten_cons, hz2, ← List.map_append]
          rw [← List.drop_drop, List.take_append_drop]
        · cases h
      · cases h
    · cases h
theorem keyLits_leaves {P : Program} : ∀ (m : Nat) (t : TypeId) (l : List CK), leaves P m t = some l → ∀ d, m ≤ d → ∀ cs, okCs l cs → P.keyLits d t cs = some (cs.map litK)
  | 0, t, l, h, _, _, _, _ => by cases h
  | m + 1, t, l, h, 0, hd, _, _ => by omega
  | m + 1, t, l, h, d + 1, hd, cs, hc => by
    have one : ∀ k, okCs [k] cs → ∃ v, cs = [v] ∧ okC k v := fun k hc => by
      match cs, hc with
      | [v], hc => exact ⟨v, rfl, hc.1⟩
    unfold leaves at h
    unfold Program.keyLits
    split at h
    · rename_i hu
      simp only [Option.some.injEq] at h; subst h
      obtain ⟨v, rfl, hv⟩ := one _ hc
      cases v <;> simp [okC] at hv
      simp [hu, litK]
    · rename_i k hu
      simp only [Option.some.injEq] at h; subst h
      obtain ⟨v, rfl, hv⟩ := one _ hc
      cases v <;> simp [okC] at hv
      simp [hu, litK, hv.1, hv.2]
    · rename_i hu
      simp only [Option.some.injEq] at h; subst h
      obtain ⟨v, rfl, hv⟩ := one _ hc
      cases v <;> simp [okC] at hv
      simp [hu, litK, hv]
    · rename_i n e hu
      split at h
      · rename_i l' hl
        split at h
        · rename_i hc2
          simp only [Option.some.injEq] at h; subst h
          have hlen := okCs_len hc
          rw [flat_rep] at hlen
          simp only [hu]
          rw [if_pos (by rw [hlen, hc2.2, hc2.1])]
          have := chunkL (fun cs h => keyLits_leaves m e l' hl d (by omega) cs h) n cs hc
          rw [hc2.1] at this
          exact this
        · cases h
      · cases h
    · rename_i fs hu
      split at h
      · rename_i l' hl
        split at h
        · rename_i hc2
          simp only [Option.some.injEq] at h; subst h
          have hlen := okCs_len hc
          obtain ⟨g1, g2⟩ := fieldsLits (d := d) (fun t l h cs hc => keyLits_leaves m t l h d (by omega) cs hc) fs.toList 0 l' cs hl (by simpa using hc)
          simp only [hu]
          rw [if_pos ⟨by rw [hlen, hc2], by simpa using g2⟩]
          simpa using g1
        · cases h
      · cases h
    · cases h
end Go.Proofs.Ytdanlclhnehieaa
namespace Go.Proofs.Ytdanlclhnehieaa
set_option linter.unusedSimpArgs false
set_option linter.unusedVariables false
open Go Go.MapKept
open Go.ChangeMaps (setBlock heap_setBlock_same heap_setBlock_other modify_eq_set)
open Go.Maps (Keyed)

def inC : CK → Int → Prop
  | .i k, n => (Lit.int k n).wf = true
  | .b, n => n = 0 ∨ n = 1
  | .s, _ => False
def inCs : List CK → List Int → Prop
  | [], [] => True
  | k :: ks, n :: ns => inC k n ∧ inCs ks ns
  | _, _ => False
def cellC : CK → Int → Value
  | .i k, n => .int k n
  | _, n => .bool (decide (n = 1))
def cellsC : List CK → List Int → List Value
  | k :: ks, n :: ns => cellC k n :: cellsC ks ns
  | _, _ => []
def kv (ks : List CK) (c : List Int) : Value := .agg (cellsC ks c).toArray
theorem okCs_cells : ∀ {ks : List CK} {c : List Int}, inCs ks c → okCs ks (cellsC ks c)
  | [], [], _ => trivial
  | k :: ks, n :: ns, h => by
    refine ⟨?_, okCs_cells h.2⟩
    cases k with
    | i k => exact ⟨rfl, h.1⟩
    | b => trivial
    | s => exact h.1.elim
theorem cellsC_inj : ∀ {ks : List CK} {c d : List Int}, inCs ks c → inCs ks d → cellsC ks c = cellsC ks d → c = d
  | [], [], [], _, _, _ => rfl
  | k :: ks, n :: ns, m :: ms, h, h', e => by
    simp only [cellsC, List.cons.injEq] at e
    rw [cellsC_inj h.2 h'.2 e.2]
    congr 1
    cases k with
    | i k => simpa [cellC] using e.1
    | b =>
      have e1 := e.1
      simp only [cellC, Value.bool.injEq, decide_eq_decide] at e1
      have h1 := h.1
      have h2 := h'.1
      simp only [inC] at h1 h2
      omega
    | s => exact h.1.elim
theorem kv_inj {ks : List CK} {c d : List Int} (h : inCs ks c) (h' : inCs ks d) (e : kv ks c = kv ks d) : c = d := by
  unfold kv at e
  simp only [Value.agg.injEq] at e
  exact cellsC_inj h h' (by simpa using congrArg Array.toList e)
structure KeyOk (P : Program) (k : TypeId) (ks : List CK) : Prop where
  law : Keyed P k
  lit : ∀ c, inCs ks c → ∃ l, keyOf P k (kv ks c) = some l
def isWide : Option TypeDesc → Bool
  | some (.array _ _) | some (.struct _) => true
  | _ => false
theorem wide_of {P : Program} {k : TypeId} (hw : isWide (P.underlying k) = true) : (match P.underlying k with | some (.array _ _) | some (.struct _) => true | _ => false) = true := by
  unfold isWide at hw
  split at hw <;> simp_all
theorem keyOf_ok {P : Program} {k : TypeId} {ks : List CK} (m : Nat) (hn : m ≤ P.types.size + 1) (hw : isWide (P.underlying k) = true) (hK : P.keyType k = true) (hl : leaves P m k = some ks) (hs : ks.length = P.cellsOf k)
    {cs : List Value} (hc : okCs ks cs) : keyOf P k (.agg cs.toArray) = some (.string (keyBytes (cs.map litK))) := by
  have h1 := keyLits_leaves m k ks hl (P.types.size + 1) hn _ hc
  have hlen := okCs_len hc
  have hf : (Value.agg cs.toArray).formed P k = true := by
    unfold Value.formed
    unfold isWide at hw
    split at hw
    · rename_i hu; rw [hu]; simp [hlen, hs]
    · rename_i hu; rw [hu]; simp [hlen, hs]
    · cases hw
  unfold keyOf
  unfold isWide at hw
  split at hw
  · rename_i hu; rw [hu]; simp only [hK, hf, Bool.and_self, if_true]; unfold Value.cells; simp only [h1]; rfl
  · rename_i hu; rw [hu]; simp only [hK, hf, Bool.and_self, if_true]; unfold Value.cells; simp only [h1]; rfl
  · cases hw
theorem key_mk {P : Program} {k : TypeId} {ks : List CK} (m : Nat) (hm : m + 1 ≤ 10000) (hn : m ≤ P.types.size + 1) (hk : P.keyTypeAt m k = true) (ht : P.tiled m k = true) (hw : isWide (P.underlying k) = true) (hK : P.keyType k = true) (hl : leaves P m k = some ks) (hs : ks.length = P.cellsOf k) : KeyOk P k ks :=
  ⟨Go.Maps.Keyed.of_law (deep_law hm hk ht (wide_of hw)), fun c hc => ⟨_, keyOf_ok m hn hw hK hl hs (okCs_cells hc)⟩⟩
structure EqOk (P : Program) (t : TypeId) (ks : List CK) : Prop where
  eq : ∀ w x y, okCs ks x → okCs ks y → ∃ r : Bool, (Op.equal t (.agg x.toArray) (.agg y.toArray)).run P w = .ok r w ∧ (r = true ↔ x = y)
  gd : P.eqGuardType P.depth t = false
theorem eq_mk {P : Program} {k : TypeId} {ks : List CK} (m : Nat) (hm : m + 1 ≤ 10000) (hn : m ≤ P.types.size + 1) (hk : P.keyTypeAt m k = true) (ht : P.tiled m k = true) (hw : isWide (P.underlying k) = true) (hK : P.keyType k = true) (hl : leaves P m k = some ks) (hs : ks.length = P.cellsOf k)
    (hg : P.eqGuardType P.depth k = false) : EqOk P k ks :=
  ⟨fun w x y hx hy => by
    have h1 := keyOf_ok m hn hw hK hl hs hx
    have h2 := keyOf_ok m hn hw hK hl hs hy
    obtain ⟨r, h3, h4⟩ := run_equal_deep w (Nat.le_of_succ_le hm) hk (wide_of hw) h1 h2
    refine ⟨r, h3, h4.trans ⟨fun e => ?_, fun e => by rw [e]⟩⟩
    rw [e] at h1
    have := keyOf_inj_deep ht (wide_of hw) h1 h2
    injection this with e
    simpa using congrArg Array.toList e, hg⟩

def MapR (ks : List CK) (es : List MapEntry) (f : List Int → Option Value) : Prop :=
  (∀ e ∈ es, ∃ c, inCs ks c ∧ e.key = kv ks c ∧ f c = some e.val) ∧ ∀ c v, f c = some v → inCs ks c ∧ ∃ e ∈ es, e.key = kv ks c ∧ e.val = v
def MapIs (w : World) (b : Nat) (ks : List CK) (f : List Int → Option Value) : Prop :=
  ∃ es clock, w.heap[b]? = some (.map es clock) ∧ Stamped es clock ∧ MapR ks es.toList f
theorem dist_key {es : Array MapEntry} {clock : Nat} (hs : Stamped es clock) {j i : Nat} {e0 x : MapEntry} (h2 : es.toList[j]? = some e0) (hi : es.toList[i]? = some x) (hne : i ≠ j) : x.key ≠ e0.key := by
  have hn : es.toList.Pairwise (fun x y => x.key ≠ y.key) := ((stamped_iff es clock).1 hs).2.2
  obtain ⟨hj, ej⟩ := List.getElem?_eq_some_iff.1 h2
  obtain ⟨hi', ei⟩ := List.getElem?_eq_some_iff.1 hi
  rw [← ej, ← ei]
  rcases Nat.lt_or_gt_of_ne hne with h | h
  · exact List.pairwise_iff_getElem.1 hn i j hi' hj h
  · exact fun e1 => List.pairwise_iff_getElem.1 hn j i hj hi' h e1.symm
section
variable {P : Program} {k t e : TypeId} {ks : List CK} {w : World} {b : Nat} {es : Array MapEntry} {clock : Nat} {f : List Int → Option Value}
theorem MapR.keys (K : KeyOk P k ks) (h : MapR ks es.toList f) : ∀ x ∈ es.toList, ∃ l, keyOf P k x.key = some l := fun x hx => by
  obtain ⟨c, hc, he, _⟩ := h.1 x hx
  rw [he]; exact K.lit c hc
theorem map_look (K : KeyOk P k ks) (ht : P.underlying t = some (.map k e)) {z : Value} (hz : (zeroValue e).run P w = .ok z w) (hm : MapIs w b ks f) {c : List Int} (hc : inCs ks c) (ok : Bool) :
    (Instr.lookup t (.map (some b)) (kv ks c) ok).run P w = .ok (if ok then .tuple #[(f c).getD z, .bool (f c).isSome] else (f c).getD z) w := by
  obtain ⟨es, clock, hb, hs, hR⟩ := hm
  obtain ⟨l, hl⟩ := K.lit c hc
  rcases K.law.find w hl es.toList (hR.keys K) with ⟨h1, h2⟩ | ⟨j, e0, h1, h2, h3⟩
  · have hf : f c = none := by
      cases hf : f c with
      | none => rfl
      | some v =>
        obtain ⟨_, x, hx, hk, _⟩ := hR.2 c v hf
        exact absurd hk (h2 x hx)
    rw [hf]
    simp [Instr.lookup, run_underlying ht, MapKept.run_getObj_map hb, K.law.check w _ hl, h1, hz, Result.andThen]
  · obtain ⟨c', hc', he, hv⟩ := hR.1 e0 (List.mem_of_getElem? h2)
    obtain rfl := kv_inj hc' hc (he.symm.trans h3)
    rw [hv]
    simp [Instr.lookup, run_underlying ht, MapKept.run_getObj_map hb, K.law.check w _ hl, h1, Result.andThen]
def putF {α : Type} (f : List Int → Option α) (c : List Int) (v : α) : List Int → Option α := fun x => if x = c then some v else f x
def delF {α : Type} (f : List Int → Option α) (c : List Int) : List Int → Option α := fun x => if x = c then none else f x
theorem map_put (K : KeyOk P k ks) (ht : P.underlying t = some (.map k e)) (hm : MapIs w b ks f) {c : List Int} (hc : inCs ks c) (v : Value) :
    ∃ es' clock', (Instr.mapUpdate t (.map (some b)) (kv ks c) v).run P w = .ok () (setBlock w b (.map es' clock')) ∧ MapIs (setBlock w b (.map es' clock')) b ks (putF f c v) ∧ ∃ es clock, w.heap[b]? = some (.map es clock) := by
  obtain ⟨es, clock, hb, hs, hR⟩ := hm
  obtain ⟨l, hl⟩ := K.lit c hc
  rcases K.law.find w hl es.toList (hR.keys K) with ⟨h1, h2⟩ | ⟨j, e0, h1, h2, h3⟩
  · refine ⟨es.push ⟨kv ks c, v, clock⟩, clock + 1, ?_, ⟨_, _, heap_setBlock_same hb _, stamped_push hs h2, ?_, ?_⟩, es, clock, hb⟩
    · simp [Instr.mapUpdate, run_underlying ht, MapKept.run_getObj_map hb, K.law.check w false hl, h1, MapKept.run_setObj_map _ hb, Result.andThen, setBlock]
    · intro x hx
      simp only [Array.toList_push, List.mem_append, List.mem_singleton] at hx
      rcases hx with hx | rfl
      · obtain ⟨c', hc', he, hv⟩ := hR.1 x hx
        refine ⟨c', hc', he, ?_⟩
        unfold putF
        rw [if_neg (fun e1 => h2 x hx (by rw [he, e1])), hv]
      · exact ⟨c, hc, rfl, by unfold putF; rw [if_pos rfl]⟩
    · intro x u hx
      unfold putF at hx
      split at hx
      · rename_i e1
        subst e1
        obtain rfl := Option.some.inj hx
        exact ⟨hc, ⟨kv ks x, v, clock⟩, by simp, rfl, rfl⟩
      · obtain ⟨g1, y, hy, g2, g3⟩ := hR.2 x u hx
        exact ⟨g1, y, by simp at hy ⊢; exact .inl hy, g2, g3⟩
  · have hj : es[j]? = some e0 := by simpa using h2
    have hlist : (es.modify j (fun e' => { e' with key := kv ks c, val := v })).toList = es.toList.set j { e0 with key := kv ks c, val := v } := by rw [Array.toList_modify, modify_eq_set _ _ _ _ h2]
    have hjl : j < es.toList.length := (List.getElem?_eq_some_iff.1 h2).1
    refine ⟨es.modify j (fun e' => { e' with key := kv ks c, val := v }), clock, ?_, ⟨_, _, heap_setBlock_same hb _, stamped_modify hs _ _ (fun _ _ => rfl) (fun e' _ he' => by rw [hj] at he'; cases he'; exact h3.symm), ?_, ?_⟩, es, clock, hb⟩
    · simp [Instr.mapUpdate, run_underlying ht, MapKept.run_getObj_map hb, K.law.check w false hl, h1, hj, h3, K.law.stays w hl, MapKept.run_setObj_map _ hb, Result.andThen, setBlock]
    · intro x hx
      rw [hlist] at hx
      obtain ⟨i, hi, ex⟩ := List.getElem_of_mem hx
      rw [List.getElem_set] at ex
      split at ex
      · subst ex
        exact ⟨c, hc, rfl, by unfold putF; rw [if_pos rfl]⟩
      · rename_i hne
        have hi' : i < es.toList.length := by simpa using hi
        obtain ⟨c', hc', he, hv⟩ := hR.1 x (ex ▸ List.getElem_mem hi')
        have hd := dist_key hs h2 (List.getElem?_eq_getElem hi') (fun e1 => hne e1.symm)
        refine ⟨c', hc', he, ?_⟩
        unfold putF
        rw [if_neg (fun e1 => hd (by rw [ex, he, h3, e1])), hv]
    · intro x u hx
      rw [hlist]
      unfold putF at hx
      split at hx
      · rename_i e1
        subst e1
        obtain rfl := Option.some.inj hx
        exact ⟨hc, { e0 with key := kv ks x, val := v }, List.mem_of_getElem? (by rw [List.getElem?_set_self hjl]), rfl, rfl⟩
      · rename_i hne
        obtain ⟨g1, y, hy, g2, g3⟩ := hR.2 x u hx
        obtain ⟨i, hi⟩ := List.getElem?_of_mem hy
        refine ⟨g1, y, ?_, g2, g3⟩
        have hij : j ≠ i := fun e1 => by
          subst e1
          rw [h2] at hi
          cases hi
          exact hne (kv_inj g1 hc (g2.symm.trans h3))
        exact List.mem_of_getElem? (by rw [List.getElem?_set_ne hij]; exact hi)
theorem map_del (K : KeyOk P k ks) (ht : P.underlying t = some (.map k e)) (hm : MapIs w b ks f) {c : List Int} (hc : inCs ks c) (t2 ty : TypeId) :
    ∃ es' clock', (Builtin.delete_ #[t, t2] ty #[.map (some b), kv ks c]).run P w = .ok (.tuple #[]) (setBlock w b (.map es' clock')) ∧ MapIs (setBlock w b (.map es' clock')) b ks (delF f c) ∧ ∃ es clock, w.heap[b]? = some (.map es clock) := by
  obtain ⟨es, clock, hb, hs, hR⟩ := hm
  obtain ⟨l, hl⟩ := K.lit c hc
  rcases K.law.find w hl es.toList (hR.keys K) with ⟨h1, h2⟩ | ⟨j, e0, h1, h2, h3⟩
  · refine ⟨es, clock, ?_, ⟨_, _, heap_setBlock_same hb _, hs, ?_, ?_⟩, es, clock, hb⟩
    · simp [Builtin.delete_, run_underlying ht, MapKept.run_getObj_map hb, K.law.check w _ hl, h1, MapKept.run_setObj_map _ hb, Result.andThen, setBlock]
    · intro x hx
      obtain ⟨c', hc', he, hv⟩ := hR.1 x hx
      refine ⟨c', hc', he, ?_⟩
      unfold delF
      rw [if_neg (fun e1 => h2 x hx (by rw [he, e1])), hv]
    · intro x u hx
      unfold delF at hx
      split at hx
      · cases hx
      · exact hR.2 x u hx
  · have hjl : j < es.toList.length := (List.getElem?_eq_some_iff.1 h2).1
    have hjs : j < es.size := by simpa using hjl
    have hsub : (es.eraseIdxIfInBounds j).toList = es.toList.eraseIdx j := by
      unfold Array.eraseIdxIfInBounds
      rw [dif_pos hjs]
      simp
    refine ⟨es.eraseIdxIfInBounds j, clock, ?_, ⟨_, _, heap_setBlock_same hb _, stamped_erase hs j, ?_, ?_⟩, es, clock, hb⟩
    · simp [Builtin.delete_, run_underlying ht, MapKept.run_getObj_map hb, K.law.check w _ hl, h1, MapKept.run_setObj_map _ hb, Result.andThen, setBlock]
    · intro x hx
      rw [hsub] at hx
      obtain ⟨i, hne, hi⟩ := List.mem_eraseIdx_iff_getElem?.1 hx
      obtain ⟨c', hc', he, hv⟩ := hR.1 x (List.mem_of_getElem? hi)
      have hd := dist_key hs h2 hi hne
      refine ⟨c', hc', he, ?_⟩
      unfold delF
      rw [if_neg (fun e1 => hd (by rw [he, h3, e1])), hv]
    · intro x u hx
      rw [hsub]
      unfold delF at hx
      split at hx
      · cases hx
      · rename_i hne
        obtain ⟨g1, y, hy, g2, g3⟩ := hR.2 x u hx
        obtain ⟨i, hi⟩ := List.getElem?_of_mem hy
        refine ⟨g1, y, List.mem_eraseIdx_iff_getElem?.2 ⟨i, fun e1 => ?_, hi⟩, g2, g3⟩
        subst e1
        rw [h2] at hi
        cases hi
        exact hne (kv_inj g1 hc (g2.symm.trans h3))
def RngIs (w : World) (b r : Nat) (ks : List CK) (f : List Int → Option Value) (left : List Int → Bool) (cnt : Nat) (last : Option (List Int × Value)) : Prop :=
  ∃ es clock since seen c0, w.heap[b]? = some (.map es clock) ∧ Stamped es clock ∧ MapR ks es.toList f ∧ w.heap[r]? = some (.mapIter (some b) since seen c0) ∧ (∀ x ∈ es.toList, x.born < since) ∧
    (leftOf es seen).size = cnt ∧ (∀ x ∈ es.toList, ∀ c, x.key = kv ks c → inCs ks c → left c = !seen.contains x.born) ∧ (∀ c, left c = true → (f c).isSome = true) ∧ since ≤ c0 ∧ since ≤ clock ∧
    ∀ c v, last = some (c, v) → ∃ (s0 : Array Nat) (e : MapEntry), seen = s0.push e.born ∧ c0 = clock ∧ e ∈ es.toList ∧ e.key = kv ks c ∧ e.val = v
theorem RngIs.map {r : Nat} {left : List Int → Bool} {cnt : Nat} {last : Option (List Int × Value)} (h : RngIs w b r ks f left cnt last) : MapIs w b ks f := by
  obtain ⟨es, clock, _, _, _, hb, hs, hR, _⟩ := h
  exact ⟨es, clock, hb, hs, hR⟩
theorem map_range (ht : P.underlying t = some (.map k e)) (hm : MapIs w b ks f) :
    ∃ cnt : Nat × Nat, (Instr.range t (.map (some b))).run P w = .ok (.pointer (some ⟨w.heap.size, 0, none⟩)) (w.alloc (.mapIter (some b) cnt.1 #[] cnt.1)) ∧ RngIs (w.alloc (.mapIter (some b) cnt.1 #[] cnt.1)) b w.heap.size ks f (fun c => (f c).isSome) cnt.2 none := by
  obtain ⟨es, clock, hb, hs, hR⟩ := hm
  have hlt : b < w.heap.size := (Array.getElem?_eq_some_iff.1 hb).1
  refine ⟨(clock, _), run_range_map w t k e b es clock ht hb, es, clock, clock, #[], clock, ((MapKept.heap_alloc w _).2 b hlt).trans hb, hs, hR, (MapKept.heap_alloc w _).1, hs.1, rfl, fun x hx c hc hin => ?_, fun c hc => hc, Nat.le_refl _, Nat.le_refl _, fun c v h => by cases h⟩
  obtain ⟨c', hc', he, hv⟩ := hR.1 x hx
  obtain rfl := kv_inj hc' hin (he.symm.trans hc)
  show (f c').isSome = _
  rw [hv]; simp
theorem map_next {r : Nat} {left : List Int → Bool} {cnt : Nat} {last : Option (List Int × Value)} (h : RngIs w b r ks f left cnt last) (ty : TypeId) :
    ((∀ c, left c = false) ∧ (Instr.next (.pointer (some ⟨r, 0, none⟩)) false ty).run P w = .ok (.tuple #[.bool false]) w) ∨
    ∃ c v w' cnt', left c = true ∧ f c = some v ∧ inCs ks c ∧ cnt' < cnt ∧ (Instr.next (.pointer (some ⟨r, 0, none⟩)) false ty).run P w = .ok (.tuple #[.bool true, kv ks c, v]) w' ∧
      RngIs w' b r ks f (fun x => left x && !decide (x = c)) cnt' (some (c, v)) ∧ w.grownBy w' (some r) := by
  obtain ⟨es, clock, since, seen, c0, hb, hs, hR, hr, hold, rfl, hl1, hl2, hsc, hsk, _⟩ := h
  have hne : r ≠ b := fun e => by rw [e, hb] at hr; cases hr
  have hst := (stamped_iff es clock).1 hs
  rcases run_next_at (P := P) w ty r b since c0 seen es clock hr hb hold hsc with ⟨h0, hrun⟩ | ⟨e, he, w1, hal, hrun⟩
  · refine .inl ⟨fun c => ?_, hrun⟩
    cases hk : left c
    · rfl
    · have h1 := hl2 c hk
      obtain ⟨v, hv⟩ := Option.isSome_iff_exists.1 h1
      obtain ⟨hin, x, hx, hkx, _⟩ := hR.2 c v hv
      rw [hl1 x hx c hkx hin, all_seen es seen h0 x hx] at hk
      cases hk
  · obtain ⟨hem, hes⟩ := mem_left he
    obtain ⟨c, hc, hkey, hv⟩ := hR.1 e hem
    have hr1 : w1.heap[r]? = some (.mapIter (some b) since seen c0) := by rcases hal with rfl | rfl <;> exact hr
    have hb1 : w1.heap[b]? = some (.map es clock) := by rcases hal with rfl | rfl <;> exact hb
    have hset := heap_set (o' := .mapIter (some b) since (seen.push e.born) clock) hr1
    have hb' : (setBlock w1 r (.mapIter (some b) since (seen.push e.born) clock)).heap[b]? = some (.map es clock) := (hset.2 b (fun e1 => hne e1.symm)).trans hb1
    refine .inr ⟨c, e.val, _, _, by rw [hl1 e hem c hkey hc, hes]; rfl, hv, hc, left_shrinks es seen e he, by rw [hrun, hkey], ⟨es, clock, since, seen.push e.born, clock, hb', hs, hR, hset.1, hold, rfl, fun x hx c' hc' hin => ?_, fun c' hc' => ?_, hsk, hsk, fun c' v' h' => by cases h'; exact ⟨seen, e, rfl, rfl, hem, hkey, rfl⟩⟩, ?_⟩
    · show (left c' && !decide (c' = c)) = _
      rw [hl1 x hx c' hc' hin, contains_push]
      by_cases hcc : c' = c
      · subst hcc
        have hxe : x = e := by
          obtain ⟨i, hi⟩ := List.getElem?_of_mem hx
          obtain ⟨j, hj⟩ := List.getElem?_of_mem hem
          by_cases hij : i = j
          · subst hij; rw [hi] at hj; exact Option.some.inj hj
          · exact absurd (hc'.trans hkey.symm) (dist_key hs hj hi hij)
        subst hxe
        simp
      · have hb2 : (x.born == e.born) = false := by
          cases hq : x.born == e.born with
          | false => rfl
          | true =>
            have := born_inj hst.2.1 hx hem (eq_of_beq hq)
            subst this
            exact absurd (kv_inj hin hc (hc'.symm.trans hkey)) hcc
        rw [hb2]; simp [hcc]
    · simp only [Bool.and_eq_true] at hc'; exact hl2 c' hc'.1
    · rcases hal with rfl | rfl <;> exact ⟨rfl, rfl, rfl, by simp [setBlock], fun i _ hi => hset.2 i (fun e1 => hi (by rw [e1]))⟩
theorem map_entry {r : Nat} {left : List Int → Bool} {cnt : Nat} {c : List Int} {v : Value} (h : RngIs w b r ks f left cnt (some (c, v))) :
    (Instr.entry (.pointer (some ⟨r, 0, none⟩))).run P w = .ok (.tuple #[kv ks c, v]) w := by
  obtain ⟨es, clock, since, seen, c0, hb, hs, hR, hr, hold, rfl, hl1, hl2, hsc, hsk, hla⟩ := h
  obtain ⟨s0, e, rfl, rfl, hem, hkey, rfl⟩ := hla c v rfl
  rw [run_entry_at (P := P) w r b since s0 es c0 e hr hb hem ((stamped_iff es c0).1 hs).2.1, hkey]
end
end Go.Proofs.Ytdanlclhnehieaa
