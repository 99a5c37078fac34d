/-
  RLP: the recursion of the document's one closed; the document's Decode. No condition.
-/
import Derived.Test.YtlogpdjcgbifhaaPN
namespace Go.Proofs.Ytlogpdjcgbifhaa
set_option linter.unusedSimpArgs false
set_option linter.unusedVariables false
open Go.RowKit
/-- A block of one's own, kept as it is. -/
theorem freezeB {w0 : World} {B : List Nat} {m : List Blk} {w : World} (hm : MemOk w0 B m w) {i k b : Nat} {t : TypeId} {con : Con} {L : List (Nat × Obj)} (hb : bget m i = .blk b t con) (hk : bget m k = .heap L) :
    MemOk w0 B (bset (bset m i .gone) k (.heap (L ++ [(b, .cells (cc con).toArray t (0, 0))]))) w := by
  have hik : k ≠ i := by rintro rfl; rw [hb] at hk; cases hk
  obtain ⟨ho1, ho2⟩ := hm.each _ (bget_mem hb (by simp))
  have hd1 := nodup_bset (e := .gone) hb (by simp) hm.nodup List.nodup_nil (fun b h => absurd h List.not_mem_nil)
  have h1 : MemOk w0 B (bset m i .gone) w := hm.set hb (by simp) trivial List.nodup_nil (fun b h => absurd h List.not_mem_nil)
  have hk1 : bget (bset m i .gone) k = .heap L := by rw [bget_set_ne _ _ hik]; exact hk
  have hLo := hm.each _ (bget_mem hk (by simp))
  have hgn : b ∈ (bget m i).nums := by rw [hb]; simp [Blk.nums]
  have hgL := nums_sep hm.nodup (Ne.symm hik) hgn
  rw [hk] at hgL
  refine h1.set hk1 (by simp) (fun p hp => ?_) ?_ (fun b' hbn => ?_)
  · rcases List.mem_append.1 hp with hp | hp
    · exact hLo p hp
    · rw [List.mem_singleton] at hp; subst hp
      exact ⟨ho1, ho2⟩
  · simp only [Blk.nums, List.map_append, List.map_cons, List.map_nil]
    rw [List.nodup_append]
    refine ⟨by have := nums_nodup (i := k) hm.nodup; rwa [hk] at this, by simp, fun a ha b2 hb2 => ?_⟩
    rw [List.mem_singleton] at hb2; subst hb2
    rintro rfl
    exact hgL ha
  · simp only [Blk.nums, List.map_append, List.map_cons, List.map_nil] at hbn
    rcases List.mem_append.1 hbn with hbn | hbn
    · exact .inl hbn
    · rw [List.mem_singleton] at hbn; subst hbn
      refine .inr fun hc => ?_
      obtain ⟨x, hx, hxb⟩ := List.mem_flatMap.1 hc
      rcases hd1.2 x hx with rfl | ⟨_, h9⟩
      · exact absurd hxb List.not_mem_nil
      · exact h9 b' (by simp [Blk.nums]) hxb
/-- What the document's one comes to. -/
def OneR (w : World) (D : Nat) (xs : List Int) (en : Ending) (w' : World) : Prop :=
  ∃ u, en = .returned u ∧ ∃ m', MemOk w [] m' w' ∧
    ((dec D xs = none ∧ u = cv (.tup [.agg [.bool false, .nilsl, .nilsl], .int .i64 0]) ∧ ∃ l, bget m' 2 = .heap l) ∨
     ∃ (t : Itm) (zs : List Int) (x : ItY), dec D xs = some (t, zs) ∧ ItR (Hl x.l) [.bool x.lb, .gh x.ba x.bn x.bc (.ints .u8 x.bs), .gh x.ka x.kn x.kc (.rows 3 x.rs)] t ∧
       u = cv (.tup [.agg [.bool x.lb, .gh x.ba x.bn x.bc (.ints .u8 x.bs), .gh x.ka x.kn x.kc (.rows 3 x.rs)], .int .i64 (xs.length - zs.length : Nat)]) ∧ bget m' 2 = .heap x.l)
theorem one_key (d : Nat) (G : GOk Try.prog (GRO d)) (a : Option Addr) (n c : Nat) (xs : List Int) (dp : Int) (hl : xs.length = n) (hn : n ≤ c) (hmx : n ≤ 1000000) (ha : adr a n c) (hx : allB xs) (hdp : 1 ≤ dp ∧ dp ≤ 65) (hd : n ≤ d) (w : World) (hL : LiesH (H0 w) a (cc (.ints .u8 xs))) :
    Calls Try.prog 28 (cvs [.gh a n c (.ints .u8 xs), .int .i64 dp]).toArray w (OneR w (65 - dp).toNat xs) := by
  by_cases h65 : dp = 65
  · refine (oneN_vc d G a n c xs dp hl hmx hdp w (.inr h65)).mono fun e w' ⟨u, hu, v', m', hv, hm', l, o1, o2⟩ => ⟨u, hu, m', hm', .inl ⟨by subst h65; rfl, by rw [hv, o1], l, o2⟩⟩
  have hdp2 : 1 ≤ dp ∧ dp ≤ 64 := by omega
  have hD : (65 - dp).toNat = (65 - (dp + 1)).toNat + 1 := by omega
  rw [hD]
  cases xs with
  | nil =>
    refine (oneN_vc d G a n c [] dp hl hmx hdp w (.inl (by simpa using hl.symm))).mono fun e w' ⟨u, hu, v', m', hv, hm', l, o1, o2⟩ => ⟨u, hu, m', hm', .inl ⟨dec_no rfl, by rw [hv, o1], l, o2⟩⟩
  | cons f ys =>
    have hl1 : ys.length + 1 = n := by simpa using hl
    have hfb := hx f List.mem_cons_self
    by_cases hf : f < 128
    · refine (oneB_vc d G a n c f ys dp hl1 hn hmx ha hx hdp2 w hL hf).mono fun e w' ⟨u, hu, v', m', hv, hm', nm, b, o1, o2, o3⟩ => ⟨u, hu, ?_⟩
      have hk2 : nm ≠ 2 := by rintro rfl; rw [o2] at o3; cases o3
      refine ⟨_, freezeB hm' o2 o3, .inr ⟨.mk false [f] [], ys, ⟨false, some ⟨b, 0, none⟩, 1, 1, [f], none, 0, 0, [], [(b, .cells (cc (.ints .u8 [f])).toArray 5 (0, 0))]⟩, dec_text (hdd_lo hf), ?_, ?_, ?_⟩⟩
      · exact .mk rfl (Nat.le_refl _) (.inl rfl) (.inr ⟨b, 0, _, _, _, rfl, List.mem_singleton.2 rfl, fun j u hj => by rw [Nat.zero_add]; simpa using hj⟩) (fun y hy => by rw [List.mem_singleton] at hy; subst hy; exact hfb) rfl (Nat.le_refl _) (.inr ⟨rfl, rfl, rfl⟩) (fun _ h => absurd h List.not_mem_nil) (.inl rfl) rfl (fun i r k h => by simp at h) (show (1 : Nat) ≤ maxLen by unfold maxLen; omega) (Nat.zero_le _)
      · rw [hv, o1]; simp only [cv, cvs]
        rw [show ((f :: ys).length - ys.length : Nat) = 1 by simp]
        rfl
      · exact freeze_heap _ (Ne.symm hk2) o3
    · have hf2 : 128 ≤ f ∧ f ≤ 255 := ⟨by omega, hfb.2⟩
      rcases rl_cases n f ys hl1 hf2 hmx with ⟨hno, nb, fr, ok, h1, h2, h3, h4⟩ | ⟨nb, zs, h1, ho, h3, h4, h5⟩
      · refine (oneE_vc d G a n c f ys dp hl1 hn hmx ha hx hdp2 w hL hf2.1 nb fr ok h1 ⟨h2, h3⟩ h4).mono fun e w' ⟨u, hu, v', m', hv, hm', l, o1, o2⟩ => ⟨u, hu, m', hm', .inl ⟨dec_no hno, by rw [hv, o1], l, o2⟩⟩
      · have hhd := hdd_hi hf ho
        rw [if_pos h3] at hhd
        by_cases h192 : 192 ≤ f
        · have hb1 : decide (f < 192) = false := decide_eq_false (by omega)
          rw [hb1, Bool.false_and, if_neg (by simp), decide_eq_true h192] at hhd
          have hdl := dec_list (d := (65 - (dp + 1)).toNat) hhd
          refine (oneL_vc d G a n c f ys dp hl1 hn hmx ha hx hdp2 w hL hf2.1 nb _ zs h1 rfl h3 h4 h5 hd h192 _ rfl).mono fun e w' ⟨u, hu, v', m', hv, hm', ho⟩ => ⟨u, hu, ?_⟩
          rcases ho with ⟨o0, l, o1, o2⟩ | ⟨x, hxp, hz, o1, o2, o3⟩
          · rw [o0] at hdl
            exact ⟨m', hm', .inl ⟨hdl, by rw [hv, o1], l, o2⟩⟩
          · obtain ⟨p1, p2, p3, p4, p5, p6⟩ := hxp
            rw [hz, decs_nil] at p5
            simp only [List.append_nil] at p5
            rw [p5] at hdl
            obtain ⟨l2, ka, kc, e1, e2, e3, e4, e5, e6, e7⟩ := freeze hm' o2 o3
            refine ⟨_, e7, .inr ⟨_, _, ⟨true, none, 0, 0, [], ka, x.rs.length, kc, x.rs, x.l ++ l2⟩, hdl, ?_, ?_, ?_⟩⟩
            · exact .mk rfl (Nat.le_refl _) (.inr ⟨rfl, rfl, rfl⟩) (.inl rfl) (fun _ h => absurd h List.not_mem_nil) rfl e3 e2 p3 (e6.mono fun b o h => List.mem_append_right _ h) p2 (fun i r k g1 g2 => (p4 i r k g1 g2).mono fun b o h => List.mem_append_left _ h) (Nat.zero_le _) e4
            · rw [hv, o1]
              have e9 : ((f :: ys).length - (zs.drop nb).length : Nat) = 1 + (ys.length - zs.length) + nb := by rw [List.length_drop, List.length_cons]; omega
              simp only [cv, cvs, e9, e1]
              rfl
            · exact freeze_heap _ (by decide) o3
        · have hb1 : decide (f < 192) = true := decide_eq_true (by omega)
          rw [hb1, Bool.true_and, decide_eq_false h192] at hhd
          cases hbb : bareB (zs.take nb) with
          | true =>
            rw [if_pos hbb] at hhd
            refine (oneR_vc d G a n c f ys dp hl1 hn hmx ha hx hdp2 w hL hf2.1 nb _ zs h1 rfl h3 h4 h5 h192 hbb).mono fun e w' ⟨u, hu, v', m', hv, hm', l, o1, o2⟩ => ⟨u, hu, m', hm', .inl ⟨dec_no hhd, by rw [hv, o1], l, o2⟩⟩
          | false =>
            rw [if_neg (by rw [hbb]; simp)] at hhd
            refine (oneT_vc d G a n c f ys dp hl1 hn hmx ha hx hdp2 w hL hf2.1 nb _ zs h1 rfl h3 h4 h5 h192 hbb).mono fun e w' ⟨u, hu, v', m', hv, hm', k, s, o1, o2, o3, o4⟩ => ⟨u, hu, ?_⟩
            have hk2 : k ≠ 2 := by rintro rfl; rw [o2] at o4; cases o4
            obtain ⟨l2, ba, bc, e1, e2, e3, e4, e5, e6, e7⟩ := freeze hm' o2 o4
            have hnl : (zs.take nb).length = nb := by rw [List.length_take]; omega
            refine ⟨_, e7, .inr ⟨_, _, ⟨false, ba, nb, bc, zs.take nb, none, 0, 0, [], l2⟩, dec_text hhd, ?_, ?_, ?_⟩⟩
            · exact .mk hnl e3 e2 e6 o3 rfl (Nat.le_refl _) (.inr ⟨rfl, rfl, rfl⟩) (fun _ h => absurd h List.not_mem_nil) (.inl rfl) rfl (fun i r k h => by simp at h) e4 (Nat.zero_le _)
            · rw [hv, o1]
              have e9 : ((f :: ys).length - (zs.drop nb).length : Nat) = 1 + (ys.length - zs.length) + nb := by rw [List.length_drop, List.length_cons]; omega
              simp only [cv, cvs, e9, e1]
              rfl
            · exact freeze_heap _ (Ne.symm hk2) o4
theorem one_all : ∀ d w0 B args m, CROk Try.prog w0 B 28 args m (g_roneD d args m)
  | 0 => fun w0 B args m => by
    unfold g_roneD
    split
    · split
      · split <;> exact fun h => absurd h.2.2.2.2.2.2.1 (Nat.not_lt_zero _)
      · exact trivial
    · exact trivial
  | d + 1 => fun w0 B args m => by
    have G := GRO_mk (one_all d)
    unfold g_roneD
    split
    · split
      · rename_i a n c xs dp _ L hk
        split
        · rename_i hh
          intro ⟨h1, h2, h3, h4, h5, h6, h7, h8⟩ w hm
          refine calls_grow1 (A := List (Nat × Obj)) Try.func28 rfl rfl hm hk (j := 2) (args' := [.gh a n c (.ints .u8 xs), .int .i64 dp]) rfl
            ((one_key d G a n c xs dp h1 h2 h3 h4 h5 h6 (by omega) w (h8.mono fun b o h => hm.hm h)).mono fun e w' ⟨u, hu, m', hm', ho⟩ => ⟨u, hu, ?_⟩)
          rcases ho with ⟨_, o1, l, o2⟩ | ⟨t, zs, x, o1, _⟩
          · exact ⟨m', l, hm', trivial, o1, o2⟩
          · rw [hh] at o1; cases o1
        · rename_i tt zs hh
          intro ⟨h1, h2, h3, h4, h5, h6, h7, h8⟩ w hm
          refine calls_grow1 (A := ItY) Try.func28 rfl rfl hm hk (j := 2) (args' := [.gh a n c (.ints .u8 xs), .int .i64 dp]) rfl
            ((one_key d G a n c xs dp h1 h2 h3 h4 h5 h6 (by omega) w (h8.mono fun b o h => hm.hm h)).mono fun e w' ⟨u, hu, m', hm', ho⟩ => ⟨u, hu, ?_⟩)
          rcases ho with ⟨o1, _⟩ | ⟨t, zs', x, o1, o2, o3, o4⟩
          · rw [hh] at o1; cases o1
          · rw [hh] at o1; cases o1
            exact ⟨m', x, hm', o2, o3, o4⟩
      · exact trivial
    · exact trivial
noncomputable def g_rone (args : List SV) (m : List Blk) : CR := g_roneD 1000001 args m
theorem g_rone_ok (w0 : World) (B : List Nat) (args : List SV) (m : List Blk) : CROk Try.prog w0 B 28 args m (g_rone args m) := one_all _ w0 B args m
end Go.Proofs.Ytlogpdjcgbifhaa
