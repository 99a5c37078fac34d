/-
 Package userop: signed and Pack, walked: the parts that they hand out. No condition.
-/
import Derived.Test.YthdpgfdfgidokaaDoorOD
set_option maxRecDepth 10000
set_option maxHeartbeats 4000000
set_option linter.defProp false
set_option linter.unusedVariables false
set_option linter.unusedSimpArgs false
namespace Go.Proofs.YthdpgfdfgidokaaDoor
open Go.RowKit
def sgP (x : OpD) : List Prt := [⟨false, rdI x.snd, []⟩, ⟨false, x.non, []⟩, ⟨true, 0, facB x⟩, ⟨true, 0, x.cd⟩, ⟨false, pairW x.vg.toNat x.cg.toNat, []⟩, ⟨false, x.pg.toNat, []⟩, ⟨false, pairW x.mt x.mf, []⟩, ⟨true, 0, payB x⟩]
def pkP (x : OpD) : List Prt := sgP x ++ [⟨true, 0, x.sg⟩]
theorem new_lies {w w2 : World} {m' : List Blk} (hm : MemOk w [] m' w2) {k b : Nat} {t : TypeId} {con : Con} (hb : bget m' k = .blk b t con) : LiesH (Hl (newH w w2)) (some ⟨b, 0, none⟩) (cc con) := by
 have k1 := hm.each _ (bget_mem hb (by simp))
 refine .inr ⟨b, 0, _, _, _, rfl, newH_mem ⟨k1.2.resolve_right List.not_mem_nil, k1.1⟩, fun j u hj => ?_⟩
 rw [Nat.zero_add, List.getElem?_toArray, ← hj]
theorem prts_new {w : World} {m' : List Blk} {k b : Nat} {t : TypeId} {rs : List (List SV)} {q : Prop} {l : List Prt} (hb : bget m' k = .blk b t (.rows 6 rs)) (h : prtXs (byO m') rs = some (q, l)) (hq : q) {w2 : World} (hm : MemOk w [] m' w2) :
  ∃ rs', rs.map cvs = rs'.map cvs ∧ PsL (Hl (newH w w2)) (some ⟨b, 0, none⟩) l.length l.length rs' l := by
 obtain ⟨rs', h1, _, h2⟩ := prtXs_sound (H := HN w w2) (fun x q xs hx hq => byO_sound hx hq hm) h hq
 refine ⟨rs', h1, rfl, Nat.le_refl _, .inl rfl, ?_, h2.1, h2.2.1, fun i r p hr hp => (h2.2.2 i r p hr hp).mono fun b o h => newH_mem h⟩
 rw [← cc_rows h1 6]
 exact new_lies hm hb
theorem psR_app {H : Nat → Obj → Prop} {rs : List (List SV)} {l : List Prt} {r : List SV} {p : Prt} (h : PsR H rs l) (h6 : r.length = 6) (hr : PtR H r p) : PsR H (rs ++ [r]) (l ++ [p]) := by
 obtain ⟨h1, h2, h3⟩ := h
 refine ⟨by simp [h1], fun y hy => ?_, fun i y z hy hz => ?_⟩
 ·rcases List.mem_append.1 hy with hy | hy
  ·exact h2 y hy
  ·rw [List.mem_singleton] at hy; subst hy; exact h6
 ·by_cases hi : i < rs.length
  ·rw [List.getElem?_append_left hi] at hy
   rw [List.getElem?_append_left (by omega)] at hz
   exact h3 i y z hy hz
  ·rw [List.getElem?_append_right (by omega)] at hy
   rw [List.getElem?_append_right (by omega), ← h1] at hz
   have h0 : i - rs.length = 0 := by
    have := (List.getElem?_eq_some_iff.1 hy).1
    simp at this; omega
   rw [h0] at hy hz
   cases hy; cases hz
   exact hr
theorem prts_more {w : World} {m' : List Blk} {k : Nat} {s : Value} {n : Nat} {t : TypeId} {rs : List (List SV)} {r : List SV} {q : Prop} {l : List Prt} {p : Prt} {h : List (Nat × Obj)} (hb : bget m' k = .own s n t 6 (.rows 6 (rs ++ [r]))) (hr : prtX (byO m') r = some (q, p)) (hq : q)
  (hh : Blk.heap h ∈ m') (hP : PsR (Hl h) rs l) (hn : n = l.length + 1) {w2 : World} (hm : MemOk w [] m' w2) :
  ∃ a c rs', s = .slice a n c ∧ PsL (Hl (newH w w2)) a n c rs' (l ++ [p]) := by
 obtain ⟨r', h1, _, h6, h2⟩ := prtX_sound (H := HN w w2) (fun x q xs hx hq => byO_sound hx hq hm) hr hq
 have hH : ∀ b o, Hl h b o → Hl (newH w w2) b o := fun b o hbo => by
  obtain ⟨g1, g2⟩ := hm.each _ hh (b, o) hbo
  exact newH_mem ⟨g2.resolve_right List.not_mem_nil, g1⟩
 have hP2 : PsR (Hl (newH w w2)) (rs ++ [r']) (l ++ [p]) := psR_app ⟨hP.1, hP.2.1, fun i y z hy hz => (hP.2.2 i y z hy hz).mono hH⟩ h6 (h2.mono fun b o h => newH_mem h)
 obtain ⟨⟨ho1, ho2⟩, ho3⟩ := hm.each _ (bget_mem hb (by simp))
 have hcc : cc (.rows 6 (rs ++ [r])) = cc (.rows 6 (rs ++ [r'])) := cc_rows (by simp [h1]) 6
 rcases ho2 with ⟨rfl, h0⟩ | ⟨g, cap, cur, rfl, _, h3, h4, h5, h7, h8⟩
 ·omega
 refine ⟨some ⟨g, 0, none⟩, cap, rs ++ [r'], rfl, by simp [hn], h4, .inl rfl, ?_, hP2⟩
 rw [← hcc]
 refine .inr ⟨g, 0, cur, t, (0, 0), rfl, newH_mem ⟨(ho3 g rfl).resolve_right List.not_mem_nil, h3⟩, fun j u hj => ?_⟩
 rw [← h8] at hj
 rw [Nat.zero_add, ← Array.getElem?_toList]
 rw [List.getElem?_take] at hj
 split at hj
 ·exact hj
 ·cases hj
def SgPost (x : OpD) (v' : SV) (m' : List Blk) : Prop := ∃ k b rs q, v' = .sl k (some ⟨b, 0, none⟩) 0 0 6 8 8 ∧ bget m' k = .blk b 59 (.rows 6 rs) ∧ prtXs (byO m') rs = some (q, sgP x) ∧ q
theorem pairW_lt (a b : Nat) : pairW a b < W := addN_lt _ _
theorem bO_nil {m : List Blk} : byO m .nilsl = some (True, []) := rfl
def byO2 (v : Value) (n : Nat) (b : Blk) : Option (Prop × List Int) := match b with
  | .own v' n' _ es (.ints .u8 xs) => some (v = v' ∧ n = n' ∧ es = 1 ∧ allB xs, xs)
  | _ => none
theorem bO_own {m : List Blk} {nm : Nat} {v : Value} {n : Nat} : byO m (.own nm v n) = byO2 v n (bget m nm) := rfl
theorem bO2_own {v v' : Value} {n n' es : Nat} {t : TypeId} {xs : List Int} : byO2 v n (.own v' n' t es (.ints .u8 xs)) = some (v = v' ∧ n = n' ∧ es = 1 ∧ allB xs, xs) := rfl
def prX2 (d : Bool) (x0 x1 x2 x3 : Int) (r : Option (Prop × List Int)) : Option (Prop × Prt) := match r with
  | some (q, bs) => some (q ∧ allU [x0, x1, x2, x3], ⟨d, numI [x0, x1, x2, x3], bs⟩)
  | none => none
theorem prX_row {f : SV → Option (Prop × List Int)} {d : Bool} {x0 x1 x2 x3 : Int} {y : SV} : prtX f [.bool d, .int .u64 x0, .int .u64 x1, .int .u64 x2, .int .u64 x3, y] = prX2 d x0 x1 x2 x3 (f y) := rfl
theorem prX2_s {d : Bool} {x0 x1 x2 x3 : Int} {q : Prop} {bs : List Int} : prX2 d x0 x1 x2 x3 (some (q, bs)) = some (q ∧ allU [x0, x1, x2, x3], ⟨d, numI [x0, x1, x2, x3], bs⟩) := rfl
def prtS := And.intro @bO_nil <| And.intro @bO_own <| And.intro @bO2_own <| And.intro @prX_row <| And.intro @prX2_s <| And.intro @prtXs.eq_1 @prtXs.eq_2
theorem allU_0z : allU [0, 0, 0, 0] := by simp [allU]
theorem facB_all {x : OpD} (h1 : allB x.fac) (h2 : allB x.fd) : allB (facB x) := by
 unfold facB; split
 ·exact fun y hy => (List.mem_append.1 hy).elim (h1 y) (h2 y)
 ·exact fun y hy => absurd hy List.not_mem_nil
theorem payB_all {x : OpD} (h1 : allB x.pay) (h2 : allB x.pd) : allB (payB x) := by
 unfold payB; split
 ·intro y hy
  simp only [List.mem_append] at hy
  rcases hy with ((hy | hy) | hy) | hy
  ·exact h1 y hy
  ·exact hlfB_all _ y hy
  ·exact hlfB_all _ y hy
  ·exact h2 y hy
 ·exact fun y hy => absurd hy List.not_mem_nil
noncomputable def GOF : Ctr := fun f args m => match f with
 | 52 => g_From args m
 | 43 => g_rFrom args m
 | 141 => g_Small args m
 | 109 => g_lowByte args m
 | 120 => g_Shl args m
 | 89 => g_Shr args m
 | 54 => g_Cmp args m
 | 53 => g_Add args m
 | 51 => g_Mul args m
 | 93 => g_length args m
 | 102 => g_Read args m
 | 79 => g_Addr args m
 | 67 => g_Wide args m
 | 101 => g_Bytes args m
 | 96 => g_factory args m
 | 98 => g_paymaster args m
 | 97 => g_pair args m
 | 58 => g_data args m
 | _ => .none
theorem GOF_ok : GOk Tryd.prog GOF := by
 intro w0 B f args m; unfold GOF; split
 ·exact g_From_ok _ _ _ _
 ·exact g_rFrom_ok _ _ _ _
 ·exact g_Small_ok _ _ _ _
 ·exact g_lowByte_ok _ _ _ _
 ·exact g_Shl_ok _ _ _ _
 ·exact g_Shr_ok _ _ _ _
 ·exact g_Cmp_ok _ _ _ _
 ·exact g_Add_ok _ _ _ _
 ·exact g_Mul_ok _ _ _ _
 ·exact g_length_ok _ _ _ _
 ·exact g_Read_ok _ _ _ _
 ·exact g_Addr_ok _ _ _ _
 ·exact g_Wide_ok _ _ _ _
 ·exact g_Bytes_ok _ _ _ _
 ·exact g_factory_ok _ _ _ _
 ·exact g_paymaster_ok _ _ _ _
 ·exact g_pair_ok _ _ _ _
 ·exact g_data_ok _ _ _ _
 ·exact trivial
theorem GOF_From : GOF 52 = g_From := by funext args m; rfl
theorem GOF_rFrom : GOF 43 = g_rFrom := by funext args m; rfl
theorem GOF_Small : GOF 141 = g_Small := by funext args m; rfl
theorem GOF_lowByte : GOF 109 = g_lowByte := by funext args m; rfl
theorem GOF_Shl : GOF 120 = g_Shl := by funext args m; rfl
theorem GOF_Shr : GOF 89 = g_Shr := by funext args m; rfl
theorem GOF_Cmp : GOF 54 = g_Cmp := by funext args m; rfl
theorem GOF_Add : GOF 53 = g_Add := by funext args m; rfl
theorem GOF_Mul : GOF 51 = g_Mul := by funext args m; rfl
theorem GOF_length : GOF 93 = g_length := by funext args m; rfl
theorem GOF_Read : GOF 102 = g_Read := by funext args m; rfl
theorem GOF_Addr : GOF 79 = g_Addr := by funext args m; rfl
theorem GOF_Wide : GOF 67 = g_Wide := by funext args m; rfl
theorem GOF_Bytes : GOF 101 = g_Bytes := by funext args m; rfl
theorem GOF_factory : GOF 96 = g_factory := by funext args m; rfl
theorem GOF_paymaster : GOF 98 = g_paymaster := by funext args m; rfl
theorem GOF_pair : GOF 97 = g_pair := by funext args m; rfl
theorem GOF_data : GOF 58 = g_data := by funext args m; rfl
def GOF_set := And.intro (And.intro (And.intro (And.intro (And.intro (@GOF_From) (@g_From.eq_def)) (And.intro (@GOF_rFrom) (@g_rFrom.eq_def))) (And.intro (And.intro (@GOF_Small) (@g_Small.eq_def)) (And.intro (@GOF_lowByte) (And.intro (@g_lowByte.eq_def) (@GOF_Shl))))) (And.intro (And.intro (And.intro (@g_Shl.eq_def) (@GOF_Shr)) (And.intro (@g_Shr.eq_def) (@GOF_Cmp))) (And.intro (And.intro (@g_Cmp.eq_def) (@GOF_Add)) (And.intro (@g_Add.eq_def) (And.intro (@GOF_Mul) (@g_Mul.eq_def)))))) (And.intro (And.intro (And.intro (And.intro (@GOF_length) (@g_length.eq_def)) (And.intro (@GOF_Read) (@g_Read.eq_def))) (And.intro (And.intro (@GOF_Addr) (@g_Addr.eq_def)) (And.intro (@GOF_Wide) (And.intro (@g_Wide.eq_def) (@GOF_Bytes))))) (And.intro (And.intro (And.intro (@g_Bytes.eq_def) (@GOF_factory)) (And.intro (@g_factory.eq_def) (@GOF_paymaster))) (And.intro (And.intro (@g_paymaster.eq_def) (@GOF_pair)) (And.intro (@g_pair.eq_def) (And.intro (@GOF_data) (@g_data.eq_def))))))

set_option maxRecDepth 20000 in
theorem signed_vc (l : List SV) (x : OpD) (w : World) (hO : OpR (H0 w) l x) (hS : OpS 10000 x) : Calls Tryd.prog 57 (cvs [.agg l]).toArray w (fun en w' => ∃ u, en = .returned u ∧ ∃ v' m', u = cv v' ∧ MemOk w [] m' w' ∧ SgPost x v' m') := by
 have hOx : ∀ m, allOld w ∈ m → OpR (HM m) l x := fun m hin => hO.mono (H0.hm hin)
 have hop := opOf_eq hO
 have hS0 := hS
 obtain ⟨f1, f2, f3, c0, c20, c24, c25, d25, ⟨v1, c45, a1, n1, k1, rfl, p11, p12, p13, p14, p15, p16⟩, ⟨v2, c46, a2, n2, k2, rfl, p21, p22, p23, p24, p25, p26⟩, c47, c48, c49, c50, c54, c58, c59, d59, c79, c80, ⟨v3, c81, a3, n3, k3, rfl, p31, p32, p33, p34, p35, p36⟩, ⟨v4, c82, a4, n4, k4, rfl, p41, p42, p43, p44, p45, p46⟩, ls, lf, lp, bs, bf, bp, wn, wf, wt, u1, u2, u3, u4, u5⟩ := hO
 have L1 : ∀ m, allOld w ∈ m → LiesH (HM m) a1 (cc (.ints .u8 x.fd)) := fun m hin => p14.mono (H0.hm hin)
 have T1 : x.fd.take n1 = x.fd := List.take_of_length_le (by omega)
 have L2 : ∀ m, allOld w ∈ m → LiesH (HM m) a2 (cc (.ints .u8 x.cd)) := fun m hin => p24.mono (H0.hm hin)
 have T2 : x.cd.take n2 = x.cd := List.take_of_length_le (by omega)
 have L3 : ∀ m, allOld w ∈ m → LiesH (HM m) a3 (cc (.ints .u8 x.pd)) := fun m hin => p34.mono (H0.hm hin)
 have T3 : x.pd.take n3 = x.pd := List.take_of_length_le (by omega)
 have L4 : ∀ m, allOld w ∈ m → LiesH (HM m) a4 (cc (.ints .u8 x.sg)) := fun m hin => p44.mono (H0.hm hin)
 have T4 : x.sg.take n4 = x.sg := List.take_of_length_le (by omega)
 have N1 := numI_lm wn
 have N2 := numI_lm wf
 have N3 := numI_lm wt
 have FA := And.intro f2 <| And.intro f3 <| And.intro c0 <| And.intro c20 <| And.intro c24 <| And.intro c25 <| And.intro d25 <| And.intro c45 <| And.intro c46 <| And.intro c47 <| And.intro c48 <| And.intro c49 <| And.intro c50 <| And.intro c54 <| And.intro c58 <| And.intro c59 <| And.intro d59 <| And.intro c79 <| And.intro c80 <| And.intro c81 <| And.intro c82 <| And.intro N1 <| And.intro N2 <| And.intro N3 <| And.intro T1 <| And.intro T2 <| And.intro T3 T4
 unfold u64I at u1 u2 u3 u4 u5
 simp only [OpS] at hS
 have fb := facB_all bf p15
 have pb := payB_all bp p35
 have wv : x.vg.toNat < W := by unfold W; omega
 have wc : x.cg.toNat < W := by unfold W; omega
 have wg : x.pg.toNat < W := by unfold W; omega
 have wr : rdI x.snd < W := Nat.lt_of_lt_of_le (rdI_lt bs) (by rw [ls]; decide +kernel)
 have M1 := numI_lm wr
 have M2 := numI_lm (pairW_lt x.vg.toNat x.cg.toNat)
 have M3 := numI_lm wg
 have M4 := numI_lm (pairW_lt x.mt x.mf)
 have e2 : [x.cd].flatten = x.cd := by simp
 have U0 := allU_0z
 have U1 := allU_lm (rdI x.snd)
 have U2 := allU_lm x.non
 have U3 := allU_lm (pairW x.vg.toNat x.cg.toNat)
 have U4 := allU_lm x.pg.toNat
 have U5 := allU_lm (pairW x.mt x.mf)
 have hEnd : ∀ (k b j1 j2 j3 : Nat) (s1 s2 s3 : Value) (m : List Blk), bget m j1 = .own s1 (facB x).length 5 1 (.ints .u8 (facB x)) → bget m j2 = .own s2 x.cd.length 5 1 (.ints .u8 x.cd) → bget m j3 = .own s3 (payB x).length 5 1 (.ints .u8 (payB x)) →
   bget m k = .blk b 59 (.rows 6 [.bool false :: (wL (rdI x.snd) ++ [.nilsl]), .bool false :: (wL x.non ++ [.nilsl]), [.bool true, .int .u64 0, .int .u64 0, .int .u64 0, .int .u64 0, .own j1 s1 (facB x).length], [.bool true, .int .u64 0, .int .u64 0, .int .u64 0, .int .u64 0, .own j2 s2 x.cd.length],
    .bool false :: (wL (pairW x.vg.toNat x.cg.toNat) ++ [.nilsl]), .bool false :: (wL x.pg.toNat ++ [.nilsl]), .bool false :: (wL (pairW x.mt x.mf) ++ [.nilsl]), [.bool true, .int .u64 0, .int .u64 0, .int .u64 0, .int .u64 0, .own j3 s3 (payB x).length]]) → SgPost x (.sl k (some ⟨b, 0, none⟩) 0 0 6 8 8) m := by
  intro k b j1 j2 j3 s1 s2 s3 m g1 g2 g3 g4
  refine ⟨k, b, _, _, rfl, g4, by simp only [prtS, wL, List.cons_append, List.nil_append, g1, g2, g3, M1, N1, M2, M3, M4, numI_0]; rfl, ?_⟩
  simp only [and_true, true_and]
  exact ⟨U1, U2, ⟨fb, U0⟩, ⟨p25, U0⟩, U3, U4, U5, pb, U0⟩
 refine Vc.calls T0_ok Tryd.func57 rfl rfl (args := [.agg l]) (k := 34) rfl (old_start w) ?_; change Vc _ _ (c8 (.agg l) .undef .undef .undef .undef .undef .undef .undef (c8 .undef .undef .undef .undef .undef .undef .undef .undef (c8 .undef .undef .undef .undef .undef .undef .undef .undef (c8 .undef .undef .undef .undef .undef .undef .undef .undef ([.undef, .undef, .undef]))))) _ _
 ((with_reducible refine Vc.seq fun N hN => ?_); (refine Vc.regiont T0_ok GOF_ok ?_); simp only [v8Y, Nat.beq, Nat.ble, seval, tabs, GOF_set, FA, toU8_bL, wL.eq_def, datF.eq_def, List.drop_zero]; (try simp (disch := omega) only [v8W]); (repeat (first | with_reducible intro _ | ((with_reducible refine And.intro ?_ ?_); exact sX2))); (first | (refine hN _ _ ?_; clear hN N; (try simp (disch := omega) only [v8W])) | skip))
 ((with_reducible refine Vc.seq fun N hN => ?_); (first | refine Vc.treet (id := 1) T0_ok GOF_ok (by kernel_rfl) (.op 0 (.op 1 (.op 4 (.op 5 (.op 6 (.op 7 (.op 9 (.op 10 (.op 13 (.op 14 (.op 16 (.op 17 (.op 20 (.op 21 (.op 24 (.op 25 (.op 26 (.op 27 (.op 29 (.or (.op 2 (.op 3 (.or (.op 8 (.op 11 (.op 12 (.op 15 (.op 18 (.op 19 (.op 22 (.op 23 (.op 28 (.op 30 .nil)))))))))) (.op 11 (.op 8 (.op 12 (.op 15 (.op 18 (.op 19 (.op 22 (.op 23 (.op 28 (.op 30 .nil))))))))))))) (.op 11 (.op 2 (.op 3 (.op 8 (.op 12 (.op 15 (.op 18 (.op 19 (.op 22 (.op 23 (.op 28 (.op 30 .nil)))))))))))))))))))))))))))))))) 31 (by kernel_rfl) ?_); simp only [v8Y, v8T, Nat.beq, Nat.ble, seval, tabs, GOF_set, hop, e2, byKs, FA, toU8_bL, wL.eq_def, datF.eq_def, List.drop_zero]; (try simp (disch := omega) only [v8W]))
 (repeat (first | ((with_reducible refine And.intro ?_ ?_); exact sX2))); (first | (refine hN _ _ ?_; clear hN N; (try simp (disch := omega) only [v8W])) | skip)
 refine And.intro ?_ ?_
 ·(repeat (first | with_reducible intro _ | ((with_reducible refine And.intro ?_ ?_); exact sX2))); (first | (refine hN _ _ ?_; clear hN N; (try simp (disch := omega) only [v8W])) | skip)
  refine And.intro ?_ ?_
  ·(repeat (first | with_reducible intro _ | ((with_reducible refine And.intro ?_ ?_); exact sX2))); (first | (refine hN _ _ ?_; clear hN N; (try simp (disch := omega) only [v8W])) | skip)
   ((repeat (first | ((first | ((with_reducible refine Vc.fin ?_); dsimp only [thenK, blockK, retK, resS, resOne, resAll])); (try simp only [v8Y, v8T, Nat.beq, Nat.ble, seval, tabs, GOF_set])))); (try ((with_reducible refine Fin.of ?_); (try with_reducible exact True.intro))))
   refine ⟨trivial, hEnd _ _ _ _ _ _ _ _ _ ?_ ?_ ?_ rfl⟩ <;> rfl
  ·(repeat (first | with_reducible intro _ | ((with_reducible refine And.intro ?_ ?_); exact sX2))); (first | (refine hN _ _ ?_; clear hN N; (try simp (disch := omega) only [v8W])) | skip)
   ((repeat (first | ((first | ((with_reducible refine Vc.fin ?_); dsimp only [thenK, blockK, retK, resS, resOne, resAll])); (try simp only [v8Y, v8T, Nat.beq, Nat.ble, seval, tabs, GOF_set])))); (try ((with_reducible refine Fin.of ?_); (try with_reducible exact True.intro))))
   refine ⟨trivial, hEnd _ _ _ _ _ _ _ _ _ ?_ ?_ ?_ rfl⟩ <;> rfl
 ·(repeat (first | with_reducible intro _ | ((with_reducible refine And.intro ?_ ?_); exact sX2))); (first | (refine hN _ _ ?_; clear hN N; (try simp (disch := omega) only [v8W])) | skip)
  ((repeat (first | ((first | ((with_reducible refine Vc.fin ?_); dsimp only [thenK, blockK, retK, resS, resOne, resAll])); (try simp only [v8Y, v8T, Nat.beq, Nat.ble, seval, tabs, GOF_set])))); (try ((with_reducible refine Fin.of ?_); (try with_reducible exact True.intro))))
  refine ⟨trivial, hEnd _ _ _ _ _ _ _ _ _ ?_ ?_ ?_ rfl⟩ <;> rfl
def SgF (x : Nat × List (List SV)) : SV := .gh (some ⟨x.1, 0, none⟩) 8 8 (.rows 6 x.2)
def SgQ (x : OpD) (y : Nat × List (List SV)) (h : List (Nat × Obj)) : Prop := PsL (Hl h) (some ⟨y.1, 0, none⟩) 8 8 y.2 (sgP x)
noncomputable def g_signed (args : List SV) (m : List Blk) : CR :=
 match args with
 | [.agg l] => .grw (∃ x, OpR (HM m) l x ∧ OpS 10000 x) ((Nat × List (List SV)) × List (Nat × Obj)) (fun a => SgQ (opOf l) a.1 a.2) (fun a => .gh (some ⟨a.1.1, 0, none⟩) 8 8 (.rows 6 a.1.2)) (fun a => .heap a.2)
 | _ => .none
theorem g_signed_ok (w0 : World) (B : List Nat) (args : List SV) (m : List Blk) : CROk Tryd.prog w0 B 57 args m (g_signed args m) := by
 unfold g_signed
 split
 ·rename_i l
  intro ⟨x, hO, hS⟩ w hm
  rw [opOf_eq hO]
  refine calls_new (F := SgF) (Q := SgQ x) Tryd.func57 rfl rfl hm ((signed_vc l x w (hO.mono fun b o h => hm.hm h) hS).mono fun e w' ⟨u, he, v', m', hu, hm', hp⟩ => ⟨u, he, v', m', hu, hm', fun w2 hm2 => ?_⟩)
  obtain ⟨k, b, rs, q, hv, hb, hk, hq⟩ := hp
  obtain ⟨rs', h1, h2⟩ := prts_new hb hk hq hm2
  exact ⟨(b, rs'), by rw [hv]; simp [SgF, cv, addr_add], h2⟩
 ·exact trivial
theorem row_len {rs : List (List SV)} (h : ∀ r ∈ rs, r.length = 6) : (cc (.rows 6 rs)).length = rs.length * 6 := by
 simp only [cc]
 induction rs with
 | nil => rfl
 | cons r rs ih =>
  rw [List.flatMap_cons, List.length_append, cvs_len, h r List.mem_cons_self, ih (fun r hr => h r (List.mem_cons_of_mem _ hr)), List.length_cons]; omega
def PkPost (x : OpD) (v' : SV) (m' : List Blk) : Prop := ∃ k s rs r h q, v' = .own k s 9 ∧ bget m' k = .own s 9 59 6 (.rows 6 (rs ++ [r])) ∧ prtX (byO m') r = some (q, ⟨true, 0, x.sg⟩) ∧ q ∧ Blk.heap h ∈ m' ∧ PsR (Hl h) rs (sgP x)
noncomputable def GOG : Ctr := fun f args m => match f with
 | 52 => g_From args m
 | 43 => g_rFrom args m
 | 141 => g_Small args m
 | 109 => g_lowByte args m
 | 120 => g_Shl args m
 | 89 => g_Shr args m
 | 54 => g_Cmp args m
 | 53 => g_Add args m
 | 51 => g_Mul args m
 | 93 => g_length args m
 | 102 => g_Read args m
 | 79 => g_Addr args m
 | 67 => g_Wide args m
 | 101 => g_Bytes args m
 | 57 => g_signed args m
 | 58 => g_data args m
 | _ => .none
theorem GOG_ok : GOk Tryd.prog GOG := by
 intro w0 B f args m; unfold GOG; split
 ·exact g_From_ok _ _ _ _
 ·exact g_rFrom_ok _ _ _ _
 ·exact g_Small_ok _ _ _ _
 ·exact g_lowByte_ok _ _ _ _
 ·exact g_Shl_ok _ _ _ _
 ·exact g_Shr_ok _ _ _ _
 ·exact g_Cmp_ok _ _ _ _
 ·exact g_Add_ok _ _ _ _
 ·exact g_Mul_ok _ _ _ _
 ·exact g_length_ok _ _ _ _
 ·exact g_Read_ok _ _ _ _
 ·exact g_Addr_ok _ _ _ _
 ·exact g_Wide_ok _ _ _ _
 ·exact g_Bytes_ok _ _ _ _
 ·exact g_signed_ok _ _ _ _
 ·exact g_data_ok _ _ _ _
 ·exact trivial
theorem GOG_From : GOG 52 = g_From := by funext args m; rfl
theorem GOG_rFrom : GOG 43 = g_rFrom := by funext args m; rfl
theorem GOG_Small : GOG 141 = g_Small := by funext args m; rfl
theorem GOG_lowByte : GOG 109 = g_lowByte := by funext args m; rfl
theorem GOG_Shl : GOG 120 = g_Shl := by funext args m; rfl
theorem GOG_Shr : GOG 89 = g_Shr := by funext args m; rfl
theorem GOG_Cmp : GOG 54 = g_Cmp := by funext args m; rfl
theorem GOG_Add : GOG 53 = g_Add := by funext args m; rfl
theorem GOG_Mul : GOG 51 = g_Mul := by funext args m; rfl
theorem GOG_length : GOG 93 = g_length := by funext args m; rfl
theorem GOG_Read : GOG 102 = g_Read := by funext args m; rfl
theorem GOG_Addr : GOG 79 = g_Addr := by funext args m; rfl
theorem GOG_Wide : GOG 67 = g_Wide := by funext args m; rfl
theorem GOG_Bytes : GOG 101 = g_Bytes := by funext args m; rfl
theorem GOG_signed : GOG 57 = g_signed := by funext args m; rfl
theorem GOG_data : GOG 58 = g_data := by funext args m; rfl
def GOG_set := And.intro (And.intro (And.intro (And.intro (And.intro (@GOG_From) (@g_From.eq_def)) (And.intro (@GOG_rFrom) (@g_rFrom.eq_def))) (And.intro (And.intro (@GOG_Small) (@g_Small.eq_def)) (And.intro (@GOG_lowByte) (@g_lowByte.eq_def)))) (And.intro (And.intro (And.intro (@GOG_Shl) (@g_Shl.eq_def)) (And.intro (@GOG_Shr) (@g_Shr.eq_def))) (And.intro (And.intro (@GOG_Cmp) (@g_Cmp.eq_def)) (And.intro (@GOG_Add) (@g_Add.eq_def))))) (And.intro (And.intro (And.intro (And.intro (@GOG_Mul) (@g_Mul.eq_def)) (And.intro (@GOG_length) (@g_length.eq_def))) (And.intro (And.intro (@GOG_Read) (@g_Read.eq_def)) (And.intro (@GOG_Addr) (@g_Addr.eq_def)))) (And.intro (And.intro (And.intro (@GOG_Wide) (@g_Wide.eq_def)) (And.intro (@GOG_Bytes) (@g_Bytes.eq_def))) (And.intro (And.intro (@GOG_signed) (@g_signed.eq_def)) (And.intro (@GOG_data) (@g_data.eq_def)))))

set_option maxRecDepth 20000 in
theorem pack_vc (l : List SV) (x : OpD) (w : World) (hO : OpR (H0 w) l x) (hS : OpS 10000 x) : Calls Tryd.prog 24 (cvs [.agg l]).toArray w (fun en w' => ∃ u, en = .returned u ∧ ∃ v' m', u = cv v' ∧ MemOk w [] m' w' ∧ PkPost x v' m') := by
 have hOx : ∀ m, allOld w ∈ m → OpR (HM m) l x := fun m hin => hO.mono (H0.hm hin)
 have hop := opOf_eq hO
 have hS0 := hS
 obtain ⟨f1, f2, f3, c0, c20, c24, c25, d25, ⟨v1, c45, a1, n1, k1, rfl, p11, p12, p13, p14, p15, p16⟩, ⟨v2, c46, a2, n2, k2, rfl, p21, p22, p23, p24, p25, p26⟩, c47, c48, c49, c50, c54, c58, c59, d59, c79, c80, ⟨v3, c81, a3, n3, k3, rfl, p31, p32, p33, p34, p35, p36⟩, ⟨v4, c82, a4, n4, k4, rfl, p41, p42, p43, p44, p45, p46⟩, ls, lf, lp, bs, bf, bp, wn, wf, wt, u1, u2, u3, u4, u5⟩ := hO
 have L1 : ∀ m, allOld w ∈ m → LiesH (HM m) a1 (cc (.ints .u8 x.fd)) := fun m hin => p14.mono (H0.hm hin)
 have T1 : x.fd.take n1 = x.fd := List.take_of_length_le (by omega)
 have L2 : ∀ m, allOld w ∈ m → LiesH (HM m) a2 (cc (.ints .u8 x.cd)) := fun m hin => p24.mono (H0.hm hin)
 have T2 : x.cd.take n2 = x.cd := List.take_of_length_le (by omega)
 have L3 : ∀ m, allOld w ∈ m → LiesH (HM m) a3 (cc (.ints .u8 x.pd)) := fun m hin => p34.mono (H0.hm hin)
 have T3 : x.pd.take n3 = x.pd := List.take_of_length_le (by omega)
 have L4 : ∀ m, allOld w ∈ m → LiesH (HM m) a4 (cc (.ints .u8 x.sg)) := fun m hin => p44.mono (H0.hm hin)
 have T4 : x.sg.take n4 = x.sg := List.take_of_length_le (by omega)
 have N1 := numI_lm wn
 have N2 := numI_lm wf
 have N3 := numI_lm wt
 have FA := And.intro f2 <| And.intro f3 <| And.intro c0 <| And.intro c20 <| And.intro c24 <| And.intro c25 <| And.intro d25 <| And.intro c45 <| And.intro c46 <| And.intro c47 <| And.intro c48 <| And.intro c49 <| And.intro c50 <| And.intro c54 <| And.intro c58 <| And.intro c59 <| And.intro d59 <| And.intro c79 <| And.intro c80 <| And.intro c81 <| And.intro c82 <| And.intro N1 <| And.intro N2 <| And.intro N3 <| And.intro T1 <| And.intro T2 <| And.intro T3 T4
 unfold u64I at u1 u2 u3 u4 u5
 simp only [OpS] at hS
 have e2 : [x.sg].flatten = x.sg := by simp
 have U0 := allU_0z
 refine Vc.calls T0_ok Tryd.func24 rfl rfl (args := [.agg l]) (k := 10) rfl (old_start w) ?_; change Vc _ _ (c8 (.agg l) .undef .undef .undef .undef .undef .undef .undef ([.undef, .undef, .undef])) _ _
 ((with_reducible refine Vc.seq fun N hN => ?_); (refine Vc.regiont T0_ok GOG_ok ?_); simp only [v8Y, Nat.beq, Nat.ble, seval, tabs, GOG_set, FA, toU8_bL, wL.eq_def, datF.eq_def, List.drop_zero]; (try simp (disch := omega) only [v8W]); (repeat (first | with_reducible intro _ | ((with_reducible refine And.intro ?_ ?_); exact sX2))); (first | (refine hN _ _ ?_; clear hN N; (try simp (disch := omega) only [v8W])) | skip))
 ((with_reducible refine Vc.seq fun N hN => ?_); (first | refine Vc.treet (id := 1) T0_ok GOG_ok (by kernel_rfl) (.op 0 (.op 2 (.op 3 (.or (.op 1 (.op 4 .nil)) (.op 4 (.op 1 .nil)))))) 5 (by kernel_rfl) ?_); simp only [v8Y, v8T, Nat.beq, Nat.ble, seval, tabs, GOG_set, hop, e2, byKs, FA, toU8_bL, wL.eq_def, datF.eq_def, List.drop_zero]; (try simp (disch := omega) only [v8W]))
 (repeat (first | ((with_reducible refine And.intro ?_ ?_); exact sX2))); (first | (refine hN _ _ ?_; clear hN N; (try simp (disch := omega) only [v8W])) | skip)
 refine And.intro ?_ ?_
 ·(repeat (first | with_reducible intro _ | ((with_reducible refine And.intro ?_ ?_); exact sX2))); (first | (refine hN _ _ ?_; clear hN N; (try simp (disch := omega) only [v8W])) | skip)
  rename_i a hQ b1 v b2
  refine ⟨⟨by simp, hQ.lies.mono (Hl.hm (by simp) fun _ h => h), by rw [row_len hQ.rows.2.1, hQ.rows.1]; rfl, by simp⟩, fun v9 => ⟨trivial, ?_⟩⟩
  refine hN _ _ ?_
  clear hN N
  ((repeat (first | ((first | ((with_reducible refine Vc.fin ?_); dsimp only [thenK, blockK, retK, resS, resOne, resAll])); (try simp only [v8Y, v8T, Nat.beq, Nat.ble, seval, tabs, GOG_set])))); (try ((with_reducible refine Fin.of ?_); (try with_reducible exact True.intro))))
  exact ⟨trivial, 6, v9, a.1.2, _, a.2, _, rfl, rfl, by simp only [prtS, numI_0]; rfl, by exact ⟨⟨rfl, rfl, rfl, p45⟩, U0⟩, by simp, hQ.rows⟩
 ·(repeat (first | with_reducible intro _ | ((with_reducible refine And.intro ?_ ?_); exact sX2))); (first | (refine hN _ _ ?_; clear hN N; (try simp (disch := omega) only [v8W])) | skip)
  rename_i b1 a hQ v b2
  refine ⟨⟨by simp, hQ.lies.mono (Hl.hm (by simp) fun _ h => h), by rw [row_len hQ.rows.2.1, hQ.rows.1]; rfl, by simp⟩, fun v9 => ⟨trivial, ?_⟩⟩
  refine hN _ _ ?_
  clear hN N
  ((repeat (first | ((first | ((with_reducible refine Vc.fin ?_); dsimp only [thenK, blockK, retK, resS, resOne, resAll])); (try simp only [v8Y, v8T, Nat.beq, Nat.ble, seval, tabs, GOG_set])))); (try ((with_reducible refine Fin.of ?_); (try with_reducible exact True.intro))))
  exact ⟨trivial, 6, v9, a.1.2, _, a.2, _, rfl, rfl, by simp only [prtS, numI_0]; rfl, by exact ⟨⟨rfl, rfl, rfl, p45⟩, U0⟩, by simp, hQ.rows⟩
end Go.Proofs.YthdpgfdfgidokaaDoor
