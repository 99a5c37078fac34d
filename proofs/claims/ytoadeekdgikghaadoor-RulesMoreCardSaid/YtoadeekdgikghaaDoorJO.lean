/-
 Package rules: who is staked breaks fewer rules, as data. No condition.
-/
import Derived.Test.YtoadeekdgikghaaDoorJK
set_option maxRecDepth 20000
set_option maxHeartbeats 4000000
set_option linter.defProp false
set_option linter.unusedVariables false
set_option linter.unusedSimpArgs false
namespace Go.Proofs.YtoadeekdgikghaaDoor
open Go.RowKit
def EnA (H : Nat → Obj → Prop) (a : Option Addr) (n c : Nat) (rows : List (List SV)) (es : List EntV) : Prop := rows = es.map entL ∧ es.length = n ∧ n ≤ c ∧ n ≤ 9223372036854775807 ∧ adr a n c ∧ LiesH H a (cc (.rows 27 rows)) ∧ ∀ z ∈ es, EntO z ∧ EntLies H z
theorem EnA.mono {H H' : Nat → Obj → Prop} (hh : ∀ b o, H b o → H' b o) {a : Option Addr} {n c : Nat} {rows : List (List SV)} {es : List EntV} (h : EnA H a n c rows es) : EnA H' a n c rows es :=
 ⟨h.1, h.2.1, h.2.2.1, h.2.2.2.1, h.2.2.2.2.1, h.2.2.2.2.2.1.mono hh, fun z hz => ⟨(h.2.2.2.2.2.2 z hz).1, (h.2.2.2.2.2.2 z hz).2.1.mono hh, (h.2.2.2.2.2.2 z hz).2.2.mono hh⟩⟩
theorem EnA_nil (H : Nat → Obj → Prop) : EnA H none 0 0 [] [] := ⟨rfl, rfl, Nat.le_refl _, Nat.zero_le _, .inr ⟨rfl, rfl, rfl⟩, .inl rfl, fun z hz => absurd hz List.not_mem_nil⟩
noncomputable def g_Ents (args : List SV) (m : List Blk) : CR := match args with
 | [.gh a n c (.rows 27 rows), .int .i64 most] => .pure ((∃ es, EnA (HM m) a n c rows es) ∧ 0 ≤ most ∧ most ≤ 1000000) (.int .i64 (entR most rows 0))
 | _ => .none
theorem g_Ents_ok (w0 : World) (B : List Nat) (args : List SV) (m : List Blk) : CROk Tryd.prog w0 B 10 args m (g_Ents args m) := by
 unfold g_Ents; split
 ·rename_i a n c rows most
  rintro ⟨⟨es, rfl, h1, h2, h3, h4, h5, h6⟩, q1, q2⟩ w hm
  exact calls_pure Tryd.func10 rfl rfl (Ents_vc most q1 q2 a n c es w h1 h2 h3 h4 (h5.mono fun b o h => hm.hm h) fun z hz => (h6 z hz).1)
 ·exact trivial
noncomputable def GJL : Ctr := fun f args m => match f with
 | 10 => g_Ents args m
 | 11 => g_Events args m
 | _ => .none
theorem GJL_ok : GOk Tryd.prog GJL := by
 intro w0 B f args m; unfold GJL; split
 ·exact g_Ents_ok _ _ _ _
 ·exact g_Events_ok _ _ _ _
 ·exact trivial
theorem GJL_Ents : GJL 10 = g_Ents := by funext args m; rfl
theorem GJL_Events : GJL 11 = g_Events := by funext args m; rfl
def GJL_set := And.intro (And.intro (@GJL_Ents) (@g_Ents.eq_def)) (And.intro (@GJL_Events) (@g_Events.eq_def))

noncomputable def hvy (rows rs : List (List SV)) : Bool := decide (300 < entR 300 rows 0) || decide (300 < evW 300 (evOf rs) 0)
theorem heavy_vc (a : Option Addr) (n c : Nat) (rows : List (List SV)) (es : List EntV) (la : Option Addr) (ln lc : Nat) (rs : List (List SV)) (l : List Evt) (w : World) (hA : EnA (H0 w) a n c rows es) (hE : EvL (H0 w) la ln lc rs l) :
  Calls Tryd.prog 6 (cvs [.gh a n c (.rows 27 rows), .gh la ln lc (.rows 32 rs)]).toArray w (fun en w' => ∃ u, en = .returned u ∧ ∃ v' m', u = cv v' ∧ MemOk w [] m' w' ∧ v' = .bool (hvy rows rs)) := by
 have hEn : ∀ m, allOld w ∈ m → ∃ es, EnA (HM m) a n c rows es := fun m hin => ⟨es, hA.mono (H0.hm hin)⟩
 have hEv : ∀ m, allOld w ∈ m → EvL (HM m) la ln lc rs l := fun m hin => hE.mono (H0.hm hin)
 unfold hvy
 cases d1 : decide (300 < entR 300 rows 0)
 ·refine Vc.calls T0_ok Tryd.func6 rfl rfl (args := [.gh a n c (.rows 27 rows), .gh la ln lc (.rows 32 rs)]) (k := 11) rfl (old_start w) ?_; change Vc _ _ (c8 (.gh a n c (.rows 27 rows)) (.gh la ln lc (.rows 32 rs)) .undef .undef .undef .undef .undef .undef ([.undef, .undef, .undef, .undef, .undef])) _ _
  ((repeat (first | (with_reducible refine Vc.seq fun N hN => ?_) | ((with_reducible refine And.intro ?_ ?_); exact sX22) | ((first | ((with_reducible refine Vc.fin ?_); dsimp only [thenK, blockK, retK, resS, resOne, resAll]) | ((with_reducible refine Vc.hold ?_); first | refine Vc.regiont T0_ok GJL_ok ?_)); (try simp only [v8Y, Nat.beq, Nat.ble, seval, tabs, GJL_set, d1])) | ((with_reducible refine hN _ _ ?_); clear hN N))); (try ((with_reducible refine Fin.of ?_); (try with_reducible exact True.intro))))
  exact ⟨trivial, trivial⟩
 ·refine Vc.calls T0_ok Tryd.func6 rfl rfl (args := [.gh a n c (.rows 27 rows), .gh la ln lc (.rows 32 rs)]) (k := 11) rfl (old_start w) ?_; change Vc _ _ (c8 (.gh a n c (.rows 27 rows)) (.gh la ln lc (.rows 32 rs)) .undef .undef .undef .undef .undef .undef ([.undef, .undef, .undef, .undef, .undef])) _ _
  ((repeat (first | (with_reducible refine Vc.seq fun N hN => ?_) | ((with_reducible refine And.intro ?_ ?_); exact sX22) | ((first | ((with_reducible refine Vc.fin ?_); dsimp only [thenK, blockK, retK, resS, resOne, resAll]) | ((with_reducible refine Vc.hold ?_); first | refine Vc.regiont T0_ok GJL_ok ?_)); (try simp only [v8Y, Nat.beq, Nat.ble, seval, tabs, GJL_set, d1])) | ((with_reducible refine hN _ _ ?_); clear hN N))); (try ((with_reducible refine Fin.of ?_); (try with_reducible exact True.intro))))
  exact ⟨trivial, trivial⟩
noncomputable def g_heavy (args : List SV) (m : List Blk) : CR := match args with
 | [.nilsl, .gh la ln lc (.rows 32 rs)] => .pure (∃ l, EvL (HM m) la ln lc rs l) (.bool (hvy [] rs))
 | [.gh a n c (.rows 27 rows), .gh la ln lc (.rows 32 rs)] => .pure ((∃ es, EnA (HM m) a n c rows es) ∧ ∃ l, EvL (HM m) la ln lc rs l) (.bool (hvy rows rs))
 | _ => .none
theorem g_heavy_ok (w0 : World) (B : List Nat) (args : List SV) (m : List Blk) : CROk Tryd.prog w0 B 6 args m (g_heavy args m) := by
 unfold g_heavy; split
 ·rename_i la ln lc rs
  rintro ⟨l, hE⟩ w hm
  exact calls_pure Tryd.func6 rfl rfl (heavy_vc none 0 0 [] [] la ln lc rs l w (EnA_nil _) (hE.mono fun b o h => hm.hm h))
 ·rename_i a n c rows la ln lc rs
  rintro ⟨⟨es, hA⟩, l, hE⟩ w hm
  exact calls_pure Tryd.func6 rfl rfl (heavy_vc a n c rows es la ln lc rs l w (hA.mono fun b o h => hm.hm h) (hE.mono fun b o h => hm.hm h))
 ·exact trivial
theorem hvy_no {rows : List (List SV)} {rs : List (List SV)} {H H' : Nat → Obj → Prop} {a : Option Addr} {n c : Nat} {es : List EntV} {l : List Evt} (h : hvy rows rs = false) (hA : EnA H a n c rows es) (hE : EvsR H' rs l) :
  n ≤ 300 ∧ l.length ≤ 300 ∧ ∀ z ∈ es, EntOk z ∧ z.c.length ≤ 1000000 := by
 unfold hvy at h
 rw [Bool.or_eq_false_iff, evOf_eq hE] at h
 have h1 := of_decide_eq_false h.1
 have h2 := of_decide_eq_false h.2
 obtain ⟨rfl, rfl, _, _, _, _, h6⟩ := hA
 obtain ⟨h3, h4⟩ := entR_len (es.map entL) 0 (show entR 300 _ 0 ≤ 300 by omega)
 obtain ⟨h5, _⟩ := evW_len l 0 (show evW 300 _ 0 ≤ 300 by omega)
 rw [List.length_map] at h3
 refine ⟨by omega, by omega, fun z hz => ?_⟩
 have h7 := h4 _ (List.mem_map_of_mem hz)
 obtain ⟨⟨o1, o2, o3, o4, o5, o6, o7, _⟩, _⟩ := h6 z hz
 obtain ⟨n25, n26⟩ := ent_nth z o1.1
 unfold szR at h7
 rw [n25, n26] at h7
 simp only at h7
 exact ⟨⟨o1, o2, o3, o4, o5, o6, by omega, o7⟩, by omega⟩
def bfm (r : List SV) : Prop := ∃ a b c, r = [.int .u8 a, .int .u8 b, .int .i64 c] ∧ inK .u8 a ∧ inK .u8 b ∧ inK .i64 c
theorem chk_form (E : JE) (L : Nat → List Evt) (hL : ∀ i, (L i).length ≤ 1000000) : ∀ k, k ≤ 3 → ∀ r ∈ chkR E L k, bfm r
 | 0, _, r, h => by simp [chkR] at h
 | k + 1, hk, r, h => by
  simp only [chkR, List.mem_append] at h
  rcases h with h | h
  ·exact chk_form E L hL k (by omega) r h
  ·unfold brkR at h
   obtain ⟨j, hj, h⟩ := List.mem_flatMap.1 h
   have hj1 := List.mem_range.1 hj
   have hj2 := hL (k + 1)
   unfold rowsE at h
   obtain ⟨v, hv, rfl⟩ := List.mem_map.1 h
   unfold vioE at hv
   obtain ⟨q, hq, rfl⟩ := List.mem_map.1 hv
   have hq1 := List.mem_range.1 (List.mem_filter.1 hq).1
   refine ⟨((q + 1 : Nat) : Int), ((k + 1 : Nat) : Int), ((j : Nat) : Int), rfl, ?_, ?_, ?_⟩
   ·show 0 ≤ _ ∧ _ ≤ 255; omega
   ·show 0 ≤ _ ∧ _ ≤ 255; omega
   ·show -9223372036854775808 ≤ _ ∧ _ ≤ 9223372036854775807; omega
end Go.Proofs.YtoadeekdgikghaaDoor
namespace Go.Proofs.YtoadeekdgikghaaDoor
open Go.RowKit
theorem rule_mono {E : JE} {s : Nat → Bool} (h : ∀ r, E.stk r = true → s r = true) : ∀ r, ruleE { E with stk := s } r = true → ruleE E r = true
 | 0, hr => by
  simp only [ruleE, stakedE, Bool.or_eq_true, Bool.and_eq_true, Bool.not_eq_true'] at hr ⊢
  rcases hr with hr | ⟨a, b⟩
  ·exact .inl hr
  ·refine .inr ⟨a, ?_⟩
   cases hq : E.stk E.role
   ·rfl
   ·rw [h _ hq] at b; cases b
 | 1, hr => hr
 | 2, hr => hr
 | 3, hr => hr
 | 4, hr => hr
 | 5, hr => hr
 | 6, hr => hr
 | 7, hr => by
  simp only [ruleE, isSndE, forStE, stakedE, Bool.and_eq_true, Bool.not_eq_true'] at hr ⊢
  obtain ⟨a, b, c⟩ := hr
  have h2 := h 2
  have h3 := h E.role
  refine ⟨a, ?_, ?_⟩
  ·cases hq : E.stk 2 <;> cases hs : s 2 <;> simp_all
  ·cases hq : E.stk E.role <;> cases hs : s E.role <;> simp_all
 | _ + 8, hr => hr
theorem filter_sub {α : Type} {p q : α → Bool} (h : ∀ x, p x = true → q x = true) : ∀ l : List α, (l.filter p).Sublist (l.filter q)
 | [] => List.Sublist.slnil
 | x :: l => by
  by_cases hp : p x = true
  ·rw [List.filter_cons_of_pos hp, List.filter_cons_of_pos (h x hp)]
   exact (filter_sub h l).cons_cons x
  ·rw [List.filter_cons_of_neg hp]
   by_cases hq : q x = true
   ·rw [List.filter_cons_of_pos hq]; exact (filter_sub h l).cons x
   ·rw [List.filter_cons_of_neg hq]; exact filter_sub h l
theorem vio_mono {E : JE} {s : Nat → Bool} (h : ∀ r, E.stk r = true → s r = true) (k : Nat) : (vioE { E with stk := s } k).Sublist (vioE E k) := by
 unfold vioE
 refine List.Sublist.map _ (filter_sub (fun r hr => ?_) _)
 unfold hitE at hr ⊢
 simp only [Bool.and_eq_true] at hr ⊢
 exact ⟨hr.1, rule_mono h r hr.2⟩
theorem rows_mono {E : JE} {s : Nat → Bool} (h : ∀ r, E.stk r = true → s r = true) : (rowsE { E with stk := s }).Sublist (rowsE E) := by
 unfold rowsE
 exact List.Sublist.map (rowV E) (vio_mono h 8)
theorem brk_mono {E : JE} {s : Nat → Bool} (h : ∀ r, E.stk r = true → s r = true) (l : List Evt) : ∀ k, (brkR { E with stk := s } l k).Sublist (brkR E l k)
 | 0 => List.Sublist.refl _
 | k + 1 => by
  rw [brkR_s, brkR_s]
  exact (brk_mono h l k).append (rows_mono (E := stepE E l k) h)
theorem chk_mono {E : JE} {s : Nat → Bool} (h : ∀ r, E.stk r = true → s r = true) (L : Nat → List Evt) : ∀ k, (chkR { E with stk := s } L k).Sublist (chkR E L k)
 | 0 => List.Sublist.refl _
 | k + 1 => by
  simp only [chkR]
  exact (chk_mono h L k).append (brk_mono (E := roleE E (k + 1)) h _ _)
theorem chk_more (x : OpD) (s0 s1 s2 s3 : Bool) (acc : List Int → Acc) (L : Nat → List Evt) : (chkR (chkE x (stkF s0 true true true) acc) L 3).Sublist (chkR (chkE x (stkF s0 s1 s2 s3) acc) L 3) :=
 chk_mono (E := chkE x (stkF s0 s1 s2 s3) acc) (s := stkF s0 true true true) (fun r hr => by
  match r with
  | 0 => exact hr
  | 1 => rfl
  | 2 => rfl
  | _ + 3 => rfl) L 3
end Go.Proofs.YtoadeekdgikghaaDoor
