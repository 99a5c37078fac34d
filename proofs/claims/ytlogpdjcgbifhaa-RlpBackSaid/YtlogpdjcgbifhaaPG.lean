/-
  RLP: the recursion of item and items closed: their contracts. No condition.
-/
import Derived.Test.YtlogpdjcgbifhaaPF
namespace Go.Proofs.Ytlogpdjcgbifhaa
set_option linter.unusedSimpArgs false
set_option linter.unusedVariables false
open Go.RowKit
theorem calls_grow {P : Program} {f : FuncId} {fn : Func} {args args' : List SV} {w0 w : World} {B : List Nat} {m : List Blk} {nm k i j b : Nat} {t : TypeId} {con : Con} {L : List (Nat × Obj)} {A : Type} {Q : A → Prop} {F : A → SV} {C : A → Con} {l : A → List (Nat × Obj)}
    (hf : P.funcs[f]? = some fn) (hn : (fn.name == "runtime.NumGoroutine") = false) (hb : fn.body.isNone = false)
    (hm : MemOk w0 B m w) (hbg : bget m nm = .blk b t con) (hk : bget m k = .heap L) (he : cvs args = cvs args') (h : Calls P f (cvs args').toArray w (fun en w' => ∃ u, en = .returned u ∧ ∃ m' x, MemOk w [b] m' w' ∧ Q x ∧ u = cv (F x) ∧ bget m' i = .blk b t (C x) ∧ bget m' j = .heap (l x))) :
    Enters P f (cvs args).toArray w fun u w' => ∃ x, Q x ∧ u = cv (F x) ∧ MemOk w0 B (bset (bset m nm (.blk b t (C x))) k (.heap (L ++ l x))) w' := by
  rw [he]
  exact .inr ⟨enter_run hf hn hb _ w, h.mono fun e w' ⟨u, hu, m', x, hm', hx, hv, hk1, hk2⟩ => ⟨u, hu, x, hx, hv, grow2 hm hbg hk hm' hk1 hk2⟩⟩
theorem freeze_keep {m : List Blk} {i k z : Nat} {e : Blk} (h1 : z ≠ i) (h2 : z ≠ k) : bget (bset (bset m i .gone) k e) z = bget m z := by
  rw [bget_set_ne _ _ h2, bget_set_ne _ _ h1]
theorem freeze_heap {m : List Blk} {i k : Nat} {L : List (Nat × Obj)} (e : Blk) (hik : k ≠ i) (hk : bget m k = .heap L) : bget (bset (bset m i .gone) k e) k = e :=
  bget_set_eq e ((bget_set_ne _ _ hik).trans hk) (by simp)
theorem items_ok {d : Nat} (G : GOk Try.prog (GPE d)) (w0 : World) (B : List Nat) (args : List SV) (m : List Blk) : CROk Try.prog w0 B 39 args m (g_itemsD (d + 1) args m) := by
  unfold g_itemsD
  split
  · split
    · rename_i nm b base i sz j _ _ b' t a n c xs at_ dp L hb hk
      split
      · rename_i hh
        intro ⟨⟨h1, h2, h3, h4, h5, h6, h7, h8, h9, h10, h11, h12⟩, hd⟩ w hm
        subst h1; subst h2; subst h3; subst h4; subst h5; subst h6
        refine calls_grow (A := ErX) Try.func39 rfl rfl hm hb hk (i := 0) (j := 2) (args' := [.ptr 0 b 0 0 0 0]) rfl
          ((items_vc d G a n c xs at_ dp b h7 h8 h9 h10 h11 (by omega) _ rfl w (h12.mono (HM.but hm hb)) (turn_old hm hb).heap0).mono fun e w' ⟨u, hu, v', m', hv, hm', ho⟩ => ⟨u, hu, ?_⟩)
        rcases ho with ⟨_, p, C, l, o1, o2, o3⟩ | ⟨x, hx, hz, _⟩
        · exact ⟨m', ⟨p, C, l⟩, hm', trivial, by rw [hv, o1], o2, o3⟩
        · have := hx.2.2.2.2.1
          rw [hz, decs_nil, hh] at this
          cases this
      · rename_i ks hh
        intro ⟨⟨h1, h2, h3, h4, h5, h6, h7, h8, h9, h10, h11, h12⟩, hd⟩ w hm
        subst h1; subst h2; subst h3; subst h4; subst h5; subst h6
        refine calls_grow (A := KsX) Try.func39 rfl rfl hm hb hk (i := 0) (j := 2) (args' := [.ptr 0 b 0 0 0 0]) rfl
          ((items_vc d G a n c xs at_ dp b h7 h8 h9 h10 h11 (by omega) _ rfl w (h12.mono (HM.but hm hb)) (turn_old hm hb).heap0).mono fun e w' ⟨u, hu, v', m', hv, hm', ho⟩ => ⟨u, hu, ?_⟩)
        rcases ho with ⟨o0, _⟩ | ⟨x, hx, hz, C, o1, o2, o3, o4⟩
        · rw [hh] at o0; cases o0
        · obtain ⟨p1, p2, p3, p4, p5, p6⟩ := hx
          rw [hz, decs_nil, hh] at p5
          simp only [List.append_nil, Option.some.injEq] at p5
          obtain ⟨l2, ka, kc, e1, e2, e3, e4, e5, e6, e7⟩ := freeze hm' o2 o4
          refine ⟨_, ⟨ka, x.rs.length, kc, x.rs, C, x.l ++ l2⟩, e7, ⟨rfl, e3, e2, p3, e6.mono fun b o h => List.mem_append_right _ h, by rw [p2, p5], fun i r k g1 g2 => (p4 i r k g1 (p5 ▸ g2)).mono fun b o h => List.mem_append_left _ h, e4⟩, ?_, ?_, ?_⟩
          · rw [hv, o1, e1]; rfl
          · rw [freeze_keep (by decide) (by decide)]; exact o3
          · exact freeze_heap _ (by decide) o4
    · exact trivial
  · exact trivial
theorem item_ok {d : Nat} (G : GOk Try.prog (GPE d)) (w0 : World) (B : List Nat) (args : List SV) (m : List Blk) : CROk Try.prog w0 B 32 args m (g_itemD (d + 1) args m) := by
  unfold g_itemD
  split
  · split
    · rename_i nm b base i sz j _ _ b' t a n c xs at_ dp L hb hk
      have hinv : ∀ dp : Int, 1 ≤ dp ∧ dp ≤ 64 → (65 - dp).toNat = (65 - (dp + 1)).toNat + 1 := fun dp h => by omega
      split
      · rename_i hh
        intro ⟨⟨h1, h2, h3, h4, h5, h6, h7, h8, h9, h10, h11, h12⟩, hd⟩ w hm
        subst h1; subst h2; subst h3; subst h4; subst h5; subst h6
        have key : Calls Try.prog 32 (cvs [.ptr 0 b 0 0 0 0]).toArray w (fun en w' => ∃ u, en = .returned u ∧ ∃ v' m', u = cv v' ∧ MemOk w [b] m' w' ∧ ∃ p C l, v' = .tup [.agg [.bool false, .nilsl, .nilsl], fltV p] ∧ bget m' 0 = .blk b 64 C ∧ bget m' 2 = .heap l) := by
          cases hhd : hdd xs with
          | none => exact itemN_vc d G a n c xs at_ dp b h7 h8 h9 h10 hhd w (h12.mono (HM.but hm hb)) (turn_old hm hb).heap0
          | some o =>
            obtain ⟨l0, ys, zs⟩ := o
            by_cases h65 : dp = 65
            · exact itemS_vc d G a n c xs at_ dp b h7 h8 h9 h10 l0 ys zs hhd w (h12.mono (HM.but hm hb)) (turn_old hm hb).heap0 h65
            · have hdp : 1 ≤ dp ∧ dp ≤ 64 := by omega
              rw [hinv dp hdp] at hh
              cases l0 with
              | false => rw [dec_text hhd] at hh; cases hh
              | true =>
                rw [dec_list hhd] at hh
                cases hks : decs (65 - (dp + 1)).toNat ys with
                | none => exact itemE_vc d G a n c xs at_ dp b h7 h8 h9 hdp h11 (by omega) ys zs hhd w (h12.mono (HM.but hm hb)) (turn_old hm hb).heap0 hks
                | some ks => rw [hks] at hh; cases hh
        exact calls_grow (A := ErX) Try.func32 rfl rfl hm hb hk (i := 0) (j := 2) (args' := [.ptr 0 b 0 0 0 0]) rfl
          (key.mono fun e w' ⟨u, hu, v', m', hv, hm', p, C, l, o1, o2, o3⟩ => ⟨u, hu, m', ⟨p, C, l⟩, hm', trivial, by rw [hv, o1], o2, o3⟩)
      · rename_i tt zs hh
        intro ⟨⟨h1, h2, h3, h4, h5, h6, h7, h8, h9, h10, h11, h12⟩, hd⟩ w hm
        subst h1; subst h2; subst h3; subst h4; subst h5; subst h6
        have h65 : dp ≠ 65 := by rintro rfl; cases hh
        have hdp : 1 ≤ dp ∧ dp ≤ 64 := by omega
        rw [hinv dp hdp] at hh
        cases hhd : hdd xs with
        | none => rw [dec_no hhd] at hh; cases hh
        | some o =>
          obtain ⟨l0, ys, zs'⟩ := o
          cases l0 with
          | false =>
            rw [dec_text hhd] at hh
            simp only [Option.some.injEq, Prod.mk.injEq] at hh
            obtain ⟨rfl, rfl⟩ := hh
            refine calls_grow (A := ItX) Try.func32 rfl rfl hm hb hk (i := 0) (j := 2) (args' := [.ptr 0 b 0 0 0 0]) rfl
              ((itemT_vc d G a n c xs at_ dp b h7 h8 h9 hdp h11 ys zs' hhd w (h12.mono (HM.but hm hb)) (turn_old hm hb).heap0).mono fun e w' ⟨u, hu, v', m', hv, hm', k, s, a2, c2, o1, o2, o3, o4, o5, o6⟩ => ⟨u, hu, ?_⟩)
            have hk0 : k ≠ 0 := by rintro rfl; rw [o4] at o5; cases o5
            have hk2 : k ≠ 2 := by rintro rfl; rw [o4] at o6; cases o6
            obtain ⟨l2, ba, bc, e1, e2, e3, e4, e5, e6, e7⟩ := freeze hm' o4 o6
            refine ⟨_, ⟨false, ba, ys.length, bc, ys, none, 0, 0, [], a2, c2, l2⟩, e7, ⟨?_, o2⟩, ?_, ?_, ?_⟩
            · exact .mk rfl e3 e2 e6 o3 rfl (Nat.le_refl _) (.inr ⟨rfl, rfl, rfl⟩) (fun _ h => absurd h List.not_mem_nil) (.inl rfl) rfl (fun i r k h => by simp at h) e4 (Nat.zero_le _)
            · rw [hv, o1, e1]; rfl
            · rw [freeze_keep (Ne.symm hk0) (by decide)]; exact o5
            · exact freeze_heap _ (Ne.symm hk2) o6
          | true =>
            rw [dec_list hhd] at hh
            cases hks : decs (65 - (dp + 1)).toNat ys with
            | none => rw [hks] at hh; cases hh
            | some ks =>
              rw [hks] at hh
              simp only [Option.some.injEq, Prod.mk.injEq] at hh
              obtain ⟨rfl, rfl⟩ := hh
              refine calls_grow (A := ItX) Try.func32 rfl rfl hm hb hk (i := 0) (j := 2) (args' := [.ptr 0 b 0 0 0 0]) rfl
                ((itemL_vc d G a n c xs at_ dp b h7 h8 h9 hdp h11 (by omega) ys zs' hhd w (h12.mono (HM.but hm hb)) (turn_old hm hb).heap0 ks hks).mono fun e w' ⟨u, hu, v', m', hv, hm', x, a2, c2, o1, o2, o3, o4, o5⟩ => ⟨u, hu, ?_⟩)
              obtain ⟨q1, q2, q3, q4, q5, q6, q7, q8⟩ := o2
              refine ⟨m', ⟨true, none, 0, 0, [], x.ka, x.kn, x.kc, x.rs, a2, c2, x.l⟩, hm', ⟨?_, o3⟩, ?_, o4, o5⟩
              · exact .mk rfl (Nat.le_refl _) (.inr ⟨rfl, rfl, rfl⟩) (.inl rfl) (fun _ h => absurd h List.not_mem_nil) q1 q2 q3 q4 q5 q6 q7 (Nat.zero_le _) q8
              · rw [hv, o1]; rfl
    · exact trivial
  · exact trivial
theorem item_all : ∀ d, (∀ w0 B args m, CROk Try.prog w0 B 32 args m (g_itemD d args m)) ∧ (∀ w0 B args m, CROk Try.prog w0 B 39 args m (g_itemsD d args m))
  | 0 => ⟨fun w0 B args m => by
      unfold g_itemD
      split
      · split
        · split <;> exact fun h => absurd h.2 (Nat.not_lt_zero _)
        · exact trivial
      · exact trivial, fun w0 B args m => by
      unfold g_itemsD
      split
      · split
        · split <;> exact fun h => absurd h.2 (Nat.not_lt_zero _)
        · exact trivial
      · exact trivial⟩
  | d + 1 => by
    have ih := item_all d
    have G := GPE_mk ih.1 ih.2
    exact ⟨item_ok G, items_ok G⟩
noncomputable def g_item (args : List SV) (m : List Blk) : CR := g_itemD 2000001 args m
theorem g_item_ok (w0 : World) (B : List Nat) (args : List SV) (m : List Blk) : CROk Try.prog w0 B 32 args m (g_item args m) := (item_all _).1 w0 B args m
/-- A block of one's own, kept as it is. -/
theorem freezeB {w0 : World} {B : List Nat} {m : List Blk} {w : World} (hm : MemOk w0 B m w) {i k b : Nat} {t : TypeId} {con : Con} {L : List (Nat × Obj)} (hb : bget m i = .blk b t con) (hk : bget m k = .heap L) :
    MemOk w0 B (bset (bset m i .gone) k (.heap (L ++ [(b, .cells (cc con).toArray t (0, 0))]))) w := by
  have hik : k ≠ i := by rintro rfl; rw [hb] at hk; cases hk
  obtain ⟨ho1, ho2⟩ := hm.each _ (bget_mem hb (by simp))
  have hd1 := nodup_bset (e := .gone) hb (by simp) hm.nodup List.nodup_nil (fun b h => absurd h List.not_mem_nil)
  have h1 : MemOk w0 B (bset m i .gone) w := hm.set hb (by simp) trivial List.nodup_nil (fun b h => absurd h List.not_mem_nil)
  have hk1 : bget (bset m i .gone) k = .heap L := by rw [bget_set_ne _ _ hik]; exact hk
  have hLo := hm.each _ (bget_mem hk (by simp))
  have hgn : b ∈ (bget m i).nums := by rw [hb]; simp [Blk.nums]
  have hgL := nums_sep hm.nodup (Ne.symm hik) hgn
  rw [hk] at hgL
  refine h1.set hk1 (by simp) (fun p hp => ?_) ?_ (fun b' hbn => ?_)
  · rcases List.mem_append.1 hp with hp | hp
    · exact hLo p hp
    · rw [List.mem_singleton] at hp; subst hp
      exact ⟨ho1, ho2⟩
  · simp only [Blk.nums, List.map_append, List.map_cons, List.map_nil]
    rw [List.nodup_append]
    refine ⟨by have := nums_nodup (i := k) hm.nodup; rwa [hk] at this, by simp, fun a ha b2 hb2 => ?_⟩
    rw [List.mem_singleton] at hb2; subst hb2
    rintro rfl
    exact hgL ha
  · simp only [Blk.nums, List.map_append, List.map_cons, List.map_nil] at hbn
    rcases List.mem_append.1 hbn with hbn | hbn
    · exact .inl hbn
    · rw [List.mem_singleton] at hbn; subst hbn
      refine .inr fun hc => ?_
      obtain ⟨x, hx, hxb⟩ := List.mem_flatMap.1 hc
      rcases hd1.2 x hx with rfl | ⟨_, h9⟩
      · exact absurd hxb List.not_mem_nil
      · exact h9 b' (by simp [Blk.nums]) hxb
end Go.Proofs.Ytlogpdjcgbifhaa
