/-
 Package quaestorlaw14: the chapter's examples (known), walked. No condition.
-/
import Derived.Test.YtpebhddacbdicaaU4
import Derived.Test.YtpebhddacbdicaaFR
set_option maxHeartbeats 4000000
set_option linter.defProp false
set_option linter.unusedVariables false
set_option linter.unusedSimpArgs false
namespace Go.Proofs.Ytpebhddacbdicaa
open Go.RowKit
def datK (x : SV) (m : List Blk) : Option (Prop × List Int) :=
 match x with
 | .nilsl => some (True, [])
 | .own nm v n => match srcC (.own nm v n) m with
  | some (q, k, .ints .u8 xs) => some (q ∧ k ≤ 1000 ∧ allB xs, xs)
  | _ => none
 | _ => none
theorem datK_sound {x : SV} {m : List Blk} {q : Prop} {xs : List Int} (h : datK x m = some (q, xs)) (hq : q) {w0 : World} {B : List Nat} {w : World} (hm : MemOk w0 B m w) :
  ∃ a n c, cv x = cv (.gh a n c (.ints .u8 xs)) ∧ xs.length = n ∧ n ≤ c ∧ adr a n c ∧ LiesH (H0 w) a (cc (.ints .u8 xs)) ∧ allB xs ∧ n ≤ maxLen := by
 unfold datK at h
 split at h
 ·cases h
  exact ⟨none, 0, 0, rfl, rfl, Nat.le_refl _, .inr ⟨rfl, rfl, rfl⟩, .inl rfl, (fun y hy => absurd hy List.not_mem_nil), Nat.zero_le _⟩
 ·split at h
  ·rename_i nm v n q' k xs' hs
   simp only [Option.some.injEq, Prod.mk.injEq] at h
   obtain ⟨rfl, rfl⟩ := h
   obtain ⟨h1, h2, h3⟩ := hq
   obtain ⟨l1, a, cp, ex, b1, m1, d1⟩ := src_ro hs h1 hm
   refine ⟨a, k, cp, ?_, by simpa [cc, conEs] using l1, b1, d1, lies_of_ro m1, h3, by unfold maxLen; omega⟩
   rw [ex]; cases a <;> simp [cv, addr_add, conEs, Addr.add]
  ·cases h
 ·cases h
def evK (m : List Blk) (r : List SV) : Option (Prop × Evt) :=
 match r with
 | [.int .u8 op, .int .i64 dep, .int .u8 s0, .int .u8 s1, .int .u8 s2, .int .u8 s3, .int .u8 s4, .int .u8 s5, .int .u8 s6, .int .u8 s7, .int .u8 s8, .int .u8 s9, .int .u8 s10, .int .u8 s11, .int .u8 s12, .int .u8 s13, .int .u8 s14, .int .u8 s15, .int .u8 s16, .int .u8 s17, .int .u8 s18, .int .u8 s19, .int .u64 x0, .int .u64 x1, .int .u64 x2, .int .u64 x3, .int .u64 y0, .int .u64 y1, .int .u64 y2, .int .u64 y3, x, .int .u16 flt] => match datK x m with
  | some (q, bs) => some (q ∧ 0 ≤ op ∧ op ≤ 255 ∧ inK .i64 dep ∧ 0 ≤ flt ∧ flt ≤ 65535 ∧ allB [s0, s1, s2, s3, s4, s5, s6, s7, s8, s9, s10, s11, s12, s13, s14, s15, s16, s17, s18, s19] ∧ allU [x0, x1, x2, x3] ∧ allU [y0, y1, y2, y3], ⟨op, dep, [s0, s1, s2, s3, s4, s5, s6, s7, s8, s9, s10, s11, s12, s13, s14, s15, s16, s17, s18, s19], numI [x0, x1, x2, x3], numI [y0, y1, y2, y3], bs, flt⟩)
  | none => none
 | _ => none
theorem evK_sound {m : List Blk} {r : List SV} {q : Prop} {e : Evt} (h : evK m r = some (q, e)) (hq : q) {w0 : World} {B : List Nat} {w : World} (hm : MemOk w0 B m w) :
  ∃ r', cvs r = cvs r' ∧ r'.length = 32 ∧ EvR (H0 w) r' e := by
 unfold evK at h
 split at h
 ·rename_i op dep s0 s1 s2 s3 s4 s5 s6 s7 s8 s9 s10 s11 s12 s13 s14 s15 s16 s17 s18 s19 x0 x1 x2 x3 y0 y1 y2 y3 x flt
  split at h
  ·rename_i q' bs hd
   simp only [Option.some.injEq, Prod.mk.injEq] at h
   obtain ⟨rfl, rfl⟩ := h
   obtain ⟨h1, h2, h3, h4, h5, h6, h7, h8, h9⟩ := hq
   obtain ⟨a, n, c, e1, e2, e3, e4, e5, e6, e7⟩ := datK_sound hd h1 hm
   refine ⟨[.int .u8 op, .int .i64 dep, .int .u8 s0, .int .u8 s1, .int .u8 s2, .int .u8 s3, .int .u8 s4, .int .u8 s5, .int .u8 s6, .int .u8 s7, .int .u8 s8, .int .u8 s9, .int .u8 s10, .int .u8 s11, .int .u8 s12, .int .u8 s13, .int .u8 s14, .int .u8 s15, .int .u8 s16, .int .u8 s17, .int .u8 s18, .int .u8 s19, .int .u64 x0, .int .u64 x1, .int .u64 x2, .int .u64 x3, .int .u64 y0, .int .u64 y1, .int .u64 y2, .int .u64 y3, .gh a n c (.ints .u8 bs), .int .u16 flt], ?_, rfl, s0, s1, s2, s3, s4, s5, s6, s7, s8, s9, s10, s11, s12, s13, s14, s15, s16, s17, s18, s19, x0, x1, x2, x3, y0, y1, y2, y3, a, n, c, rfl, rfl, h7, h8, rfl, h9, rfl, e2, e3, e4, e5, e6, e7, h2, h3, h4, h5, h6⟩
   simp only [cvs, e1]
  ·cases h
 ·cases h
def evKs (m : List Blk) : List (List SV) → Option (Prop × List Evt)
 | [] => some (True, [])
 | r :: rs => match evK m r with
  | some (q, e) => match evKs m rs with | some (q', l) => some (q ∧ q', e :: l) | none => none
  | none => none
theorem evKs_sound : ∀ {m : List Blk} {rs : List (List SV)} {q : Prop} {l : List Evt} (_h : evKs m rs = some (q, l)) (_hq : q) {w0 : World} {B : List Nat} {w : World} (_hm : MemOk w0 B m w),
  ∃ rs', rs.map cvs = rs'.map cvs ∧ EvsR (H0 w) rs' l
 | m, [], q, l, h, hq, w0, B, w, hm => by
  cases h
  exact ⟨[], rfl, rfl, (fun r hr => absurd hr List.not_mem_nil), (fun i r e hr _ => by cases hr)⟩
 | m, r :: rs, q, l, h, hq, w0, B, w, hm => by
  simp only [evKs] at h
  split at h
  ·rename_i q1 e he
   split at h
   ·rename_i q2 l2 hl
    simp only [Option.some.injEq, Prod.mk.injEq] at h
    obtain ⟨rfl, rfl⟩ := h
    obtain ⟨r', h1, h2, h3⟩ := evK_sound he hq.1 hm
    obtain ⟨rs', h4, h5, h6, h7⟩ := evKs_sound hl hq.2 hm
    refine ⟨r' :: rs', by simp only [List.map_cons, h1, h4], by simp only [List.length_cons, h5], fun x hx => ?_, fun i x y hx hy => ?_⟩
    ·rcases List.mem_cons.1 hx with rfl | hx
     ·exact h2
     ·exact h6 x hx
    ·match i, hx, hy with
     | 0, hx, hy => cases hx; cases hy; exact h3
     | i + 1, hx, hy => exact h7 i x y hx hy
   ·cases h
  ·cases h
theorem evKs_len : ∀ {m : List Blk} {rs : List (List SV)} {q : Prop} {l : List Evt} (_h : evKs m rs = some (q, l)), l.length = rs.length
 | m, [], q, l, h => by cases h; rfl
 | m, r :: rs, q, l, h => by
  simp only [evKs] at h
  split at h
  ·split at h
   ·rename_i q2 l2 hl
    simp only [Option.some.injEq, Prod.mk.injEq] at h
    obtain ⟨rfl, rfl⟩ := h
    simp only [List.length_cons, evKs_len hl]
   ·cases h
  ·cases h
theorem lit_evs {m : List Blk} {nm b n : Nat} {t : TypeId} {rs : List (List SV)} {q : Prop} {l : List Evt} (hb : bget m nm = .blk b t (.rows 32 rs)) (h : evKs m rs = some (q, l)) (hq : q) (hn : n = rs.length) (hM : n ≤ 1000) {w0 : World} {B : List Nat} {w : World} (hm : MemOk w0 B m w) :
  ∃ rs', EvL (H0 w) (some ⟨b, 0, none⟩) n n rs' l := by
 obtain ⟨rs', h1, h2⟩ := evKs_sound h hq hm
 have k1 := (hm.each _ (bget_mem hb (by simp))).1
 have hl := evKs_len h
 have hcc : cc (.rows 32 rs) = cc (.rows 32 rs') := by simp only [cc, List.flatMap_def, h1]
 rw [hcc] at k1
 refine ⟨rs', by omega, Nat.le_refl _, .inl rfl, by unfold maxLen; omega, .inr ⟨b, 0, _, _, _, rfl, k1, fun j u hj => ?_⟩, h2⟩
 rw [Nat.zero_add, List.getElem?_toArray, ← hj]
def g_tBelongsK (args : List SV) (m : List Blk) : CR :=
 match args with
 | [.nilsl, .ints .u8 a, .word slot] => .pure (a.length = 20 ∧ allB a ∧ slot < W) (.bool (belongs [] a slot))
 | [.sl nm (some ⟨b, 0, none⟩) 0 0 32 n c, .ints .u8 a, .word slot] => match bget m nm with
  | .blk b2 _ (.rows 32 rs) => match evKs m rs with
   | some (q, l) => .pure (q ∧ b2 = b ∧ n = rs.length ∧ c = n ∧ n ≤ 1000 ∧ a.length = 20 ∧ allB a ∧ slot < W) (.bool (belongs l a slot))
   | none => .none
  | _ => .none
 | _ => .none
theorem g_tBelongsK_ok (w0 : World) (B : List Nat) (args : List SV) (m : List Blk) : CROk Try.prog w0 B 10 args m (g_tBelongsK args m) := by
 unfold g_tBelongsK
 split
 ·rename_i a slot
  intro ⟨h1, h2, h3⟩ w hm
  exact calls_pure Try.func10 rfl rfl (tBelongs_vc none 0 0 [] [] a slot h1 h2 h3 w ⟨rfl, Nat.le_refl _, .inr ⟨rfl, rfl, rfl⟩, Nat.zero_le _, .inl rfl, rfl, (fun r hr => absurd hr List.not_mem_nil), (fun i r e hr _ => by cases hr)⟩ (Nat.zero_le _))
 ·rename_i nm b n c a slot
  split
  ·rename_i b2 t rs hb
   split
   ·rename_i q l hk
    intro ⟨h0, e1, e2, e3, h1, h2, h3, h4⟩ w hm
    subst e1 e3
    obtain ⟨rs', hE⟩ := lit_evs hb hk h0 e2 h1 hm
    have e : cvs [.sl nm (some ⟨b2, 0, none⟩) 0 0 32 c c, .ints .u8 a, .word slot] = cvs [.gh (some ⟨b2, 0, none⟩) c c (.rows 32 rs'), .ints .u8 a, .word slot] := by
     simp [cvs, cv, addr_add]
    rw [e]
    exact calls_pure Try.func10 rfl rfl (tBelongs_vc _ c c rs' l a slot h2 h3 h4 w hE (by omega))
   ·exact trivial
  ·exact trivial
 ·exact trivial
def g_tLooseK (args : List SV) (m : List Blk) : CR :=
 match args with
 | [.sl nm (some ⟨b, 0, none⟩) 0 0 32 n c] => match bget m nm with
  | .blk b2 _ (.rows 32 rs) => match evKs m rs with
   | some (q, l) => .own (q ∧ b2 = b ∧ n = rs.length ∧ c = n ∧ n ≤ 1000) 3 1 (evSel looseE 0 l).length (.ints .i64 (evSel looseE 0 l)) (fun v => v)
   | none => .none
  | _ => .none
 | _ => .none
theorem g_tLooseK_ok (w0 : World) (B : List Nat) (args : List SV) (m : List Blk) : CROk Try.prog w0 B 13 args m (g_tLooseK args m) := by
 unfold g_tLooseK
 split
 ·rename_i nm b n c
  split
  ·rename_i b2 t rs hb
   split
   ·rename_i q l hk
    intro ⟨h0, e1, e2, e3, h1⟩ w hm
    subst e1 e3
    obtain ⟨rs', hE⟩ := lit_evs hb hk h0 e2 h1 hm
    have e : cvs [.sl nm (some ⟨b2, 0, none⟩) 0 0 32 c c] = cvs [.gh (some ⟨b2, 0, none⟩) c c (.rows 32 rs')] := by
     simp [cvs, cv, addr_add]
    rw [e]
    exact own_new Try.func13 rfl rfl hm (tLoose_vc _ c c rs' l w hE (by omega))
   ·exact trivial
  ·exact trivial
 ·exact trivial
noncomputable def GUB : Ctr := fun f args m => match f with
 | 10 => g_tBelongsK args m
 | 13 => g_tLooseK args m
 | _ => .none
theorem GUB_ok : GOk Try.prog GUB := by
 intro w0 B f args m; unfold GUB; split
 ·exact g_tBelongsK_ok _ _ _ _
 ·exact g_tLooseK_ok _ _ _ _
 ·exact trivial
theorem GUB_tBelongsK : GUB 10 = g_tBelongsK := by funext args m; rfl
theorem GUB_tLooseK : GUB 13 = g_tLooseK := by funext args m; rfl
def GUB_set := And.intro (And.intro (@GUB_tBelongsK) (@g_tBelongsK.eq_def)) (And.intro (@GUB_tLooseK) (@g_tLooseK.eq_def))

def kD : List Int := (List.replicate 64 (0 : Int)).set 31 5
theorem kD_all : allB kD := by
 have h : kD.all (fun y => decide (0 ≤ y ∧ y ≤ 255)) = true := by decide +kernel
 intro y hy
 exact of_decide_eq_true (List.all_eq_true.1 h y hy)
set_option maxRecDepth 20000 in
theorem known_vc (w : World) : Calls Try.prog 9 (cvs []).toArray w (fun en w' => ∃ u, en = .returned u ∧ ∃ v' m', u = cv v' ∧ MemOk w [] m' w' ∧ v' = .bool true) := by
 have l0 : ((lm (numI [100, 0, 0, 0]) 0 : Nat) : Int) = 100 := by decide +kernel
 have l1 : ((lm (numI [100, 0, 0, 0]) 1 : Nat) : Int) = 0 := by decide +kernel
 have l2 : ((lm (numI [100, 0, 0, 0]) 2 : Nat) : Int) = 0 := by decide +kernel
 have l3 : ((lm (numI [100, 0, 0, 0]) 3 : Nat) : Int) = 0 := by decide +kernel
 have U0 : allU [0, 0, 0, 0] := by simp [allU]
 have U1 : allU [100, 0, 0, 0] := by simp [allU]
 have U2 : allU [102, 0, 0, 0] := by simp [allU]
 have U3 : allU [229, 0, 0, 0] := by simp [allU]
 have U4 : allU [5, 0, 0, 0] := by simp [allU]
 have W2 : numI [102, 0, 0, 0] < W := by decide +kernel
 have W3 : numI [229, 0, 0, 0] < W := by decide +kernel
 have W4 : numI [5, 0, 0, 0] < W := by decide +kernel
 have kd : (List.replicate 64 (0 : Int)).set 31 5 = kD := rfl
 have kd2 : kD.take 64 = kD := by decide +kernel
 have kdl : kD.length = 64 := by decide +kernel
 have kda := kD_all
 have ba0 : allB [0, 0, 0, 0, 0, 0, 0, 0, 0, 0, 0, 0, 0, 0, 0, 0, 0, 0, 0, 0] := by intro y hy; simp at hy; omega
 have ba5 : allB [0, 0, 0, 0, 0, 0, 0, 0, 0, 0, 0, 0, 0, 0, 0, 0, 0, 0, 0, 5] := by intro y hy; simp at hy; omega
 have q1 : belongs [⟨32, 0, [0, 0, 0, 0, 0, 0, 0, 0, 0, 0, 0, 0, 0, 0, 0, 0, 0, 0, 0, 0], 0, numI [100, 0, 0, 0], kD, 0⟩] [0, 0, 0, 0, 0, 0, 0, 0, 0, 0, 0, 0, 0, 0, 0, 0, 0, 0, 0, 5] (numI [102, 0, 0, 0]) = true := by decide +kernel
 have q2 : belongs [⟨32, 0, [0, 0, 0, 0, 0, 0, 0, 0, 0, 0, 0, 0, 0, 0, 0, 0, 0, 0, 0, 0], 0, numI [100, 0, 0, 0], kD, 0⟩] [0, 0, 0, 0, 0, 0, 0, 0, 0, 0, 0, 0, 0, 0, 0, 0, 0, 0, 0, 5] (numI [229, 0, 0, 0]) = false := by decide +kernel
 have q3 : belongs [] [0, 0, 0, 0, 0, 0, 0, 0, 0, 0, 0, 0, 0, 0, 0, 0, 0, 0, 0, 5] (numI [5, 0, 0, 0]) = true := by decide +kernel
 have q4 : evSel looseE 0 [⟨90, 0, [0, 0, 0, 0, 0, 0, 0, 0, 0, 0, 0, 0, 0, 0, 0, 0, 0, 0, 0, 0], 0, 0, [], 0⟩, ⟨241, 0, [0, 0, 0, 0, 0, 0, 0, 0, 0, 0, 0, 0, 0, 0, 0, 0, 0, 0, 0, 0], 0, 0, [], 0⟩] = [] := by decide +kernel
 have q5 : evSel looseE 0 [⟨90, 0, [0, 0, 0, 0, 0, 0, 0, 0, 0, 0, 0, 0, 0, 0, 0, 0, 0, 0, 0, 0], 0, 0, [], 0⟩, ⟨1, 0, [0, 0, 0, 0, 0, 0, 0, 0, 0, 0, 0, 0, 0, 0, 0, 0, 0, 0, 0, 0], 0, 0, [], 0⟩] = [0] := by decide +kernel
 refine Vc.calls T0_ok Try.func9 rfl rfl (args := []) (k := 46) rfl (old_start w) ?_; change Vc _ _ (c8 .undef .undef .undef .undef .undef .undef .undef .undef (c8 .undef .undef .undef .undef .undef .undef .undef .undef (c8 .undef .undef .undef .undef .undef .undef .undef .undef (c8 .undef .undef .undef .undef .undef .undef .undef .undef (c8 .undef .undef .undef .undef .undef .undef .undef .undef ([.undef, .undef, .undef, .undef, .undef, .undef])))))) _ _
 ((repeat (first | (with_reducible refine Vc.seq fun N hN => ?_) | (with_reducible intro _) | ((with_reducible refine And.intro ?_ ?_); exact sX2) | ((first | ((with_reducible refine askT_of ?_ (fun hb => ?_)); exact sX2; (try simp only [hb])) | ((with_reducible refine Vc.fin ?_); dsimp only [thenK, blockK, retK, resS, resOne, resAll]) | ((with_reducible refine Vc.hold ?_); first | refine Vc.regiont T0_ok GUB_ok ?_)); (try simp only [v8Y, Nat.beq, Nat.ble, Int.reduceToNat, Int.reduceLE, Int.reduceLT, Nat.reduceLT, Nat.reduceLeDiff, Nat.reduceAdd, Nat.reduceMul, Nat.reduceSub, Int.reduceAdd, Int.reduceSub, Int.reduceMul, tabs, GUB_set, evKs, evK.eq_def, datK.eq_def, l0, l1, l2, l3, kd, kd2, List.drop_zero, q1, q2, q3, q4, q5, Bool.and_false, Bool.false_and, Bool.and_true, Bool.true_and])) | ((with_reducible refine hN _ _ ?_); clear hN N))); (try ((with_reducible refine Fin.of ?_); (try with_reducible exact True.intro))))
 exact ⟨trivial, by first | exact trivial | rfl⟩
def g_tlK (args : List SV) (_m : List Blk) : CR :=
 match args with
 | [] => .pure True (.bool true)
 | _ => .none
theorem g_tlK_ok (w0 : World) (B : List Nat) (args : List SV) (m : List Blk) : CROk Try.prog w0 B 9 args m (g_tlK args m) := by
 unfold g_tlK
 split
 ·intro _ w hm
  exact calls_pure Try.func9 rfl rfl (known_vc w)
 ·exact trivial
end Go.Proofs.Ytpebhddacbdicaa
