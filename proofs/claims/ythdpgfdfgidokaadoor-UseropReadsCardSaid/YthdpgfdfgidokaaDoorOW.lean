/-
 The law UseropReads of package quaestorlaw15, walked. No condition.
-/
import Derived.Test.YthdpgfdfgidokaaDoorX1
import Derived.Test.YthdpgfdfgidokaaDoorOH
import Derived.Test.YthdpgfdfgidokaaDoorDJ
import Derived.Test.YthdpgfdfgidokaaDoorOO
set_option maxRecDepth 10000
set_option maxHeartbeats 4000000
set_option linter.defProp false
set_option linter.unusedVariables false
set_option linter.unusedSimpArgs false
namespace Go.Proofs.YthdpgfdfgidokaaDoor
open Go.RowKit
theorem PdR.fix {H : Nat → Obj → Prop} {r : List SV} {p : Prt} (h : PdR H r p) (hw : p.w < W) (hb : p.bs.length ≤ maxLen) : PtR H (fixR r) p := by
 rcases h with ⟨h1, h2, h3⟩ | ⟨h1, h2, a, c, h3, h4, h5, h6, h7⟩
 ·refine ⟨_, _, _, _, none, 0, 0, by rw [h3, h1, h2]; rfl, allU_lmI p.w, numI_lmI hw, by rw [h2]; rfl, Nat.le_refl _, .inr ⟨rfl, rfl, rfl⟩, .inl (by rw [h2]; rfl), by rw [h2]; exact fun y hy => absurd hy List.not_mem_nil, Nat.zero_le _⟩
 ·refine ⟨0, 0, 0, 0, a, p.bs.length, c, by rw [h3, h1]; rfl, by simp [allU], by rw [h2]; decide, rfl, h5, h4, h7, h6, hb⟩
theorem PdsR.fix {H : Nat → Obj → Prop} {rs : List (List SV)} {l : List Prt} (h : PdsR H rs l) (hw : ∀ p ∈ l, p.w < W ∧ p.bs.length ≤ maxLen) : PsR H (rs.map fixR) l := by
 obtain ⟨h1, h2, h3⟩ := h
 refine ⟨by rw [List.length_map, h1], fun r hr => ?_, fun i r p hr hp => ?_⟩
 ·obtain ⟨r0, hr0, rfl⟩ := List.mem_map.1 hr
  have := congrArg List.length (cvs_fixR r0)
  rw [cvs_len, cvs_len, h2 r0 hr0] at this
  exact this
 ·rw [List.getElem?_map] at hr
  cases hr0 : rs[i]? with
  | none => rw [hr0] at hr; cases hr
  | some r0 =>
   rw [hr0] at hr; cases hr
   have := hw p (List.mem_of_getElem? hp)
   exact (h3 i r0 p hr0 hp).fix this.1 this.2
theorem rowsOkE : ∀ {L : List (List SV)}, (∀ r ∈ L, r.length = 6 ∧ allOne r = true) → rowsOk 6 L = true
 | [], _ => rfl
 | r :: L, h => by
  have h1 := h r List.mem_cons_self
  simp only [rowsOk, h1.1, h1.2, rowsOkE fun x hx => h x (List.mem_cons_of_mem _ hx)]
theorem PsR.row {H : Nat → Obj → Prop} {rs : List (List SV)} {l : List Prt} (h : PsR H rs l) : ∀ r ∈ rs, ∃ p, PtR H r p := fun r hr => by
 obtain ⟨i, hi⟩ := List.getElem?_of_mem hr
 have h1 := (List.getElem?_eq_some_iff.1 hi).1
 exact ⟨_, h.2.2 i r _ hi (List.getElem?_eq_getElem (show i < l.length by have := h.1; omega))⟩
theorem PsR.ok {H : Nat → Obj → Prop} {rs : List (List SV)} {l : List Prt} (h : PsR H rs l) : rowsOk 6 rs = true := rowsOkE fun r hr => by
 obtain ⟨p, x0, x1, x2, x3, a, n, c, rfl, _⟩ := h.row r hr
 exact ⟨rfl, rfl⟩
theorem PsR.fixed {H : Nat → Obj → Prop} {rs : List (List SV)} {l : List Prt} (h : PsR H rs l) : rs.map fixR = rs := by
 have : ∀ r ∈ rs, fixR r = r := fun r hr => by
  obtain ⟨p, x0, x1, x2, x3, a, n, c, rfl, _⟩ := h.row r hr
  rfl
 rw [List.map_congr_left this, List.map_id']
theorem Vc.nilownC {P : Program} {c : Code} {env : List SV} {m : List Blk} {K : Kont} (i : Nat) (t : TypeId) (h0 : sget env i = .nilsl)
  (h : Vc P c (sset env i (.own (blen m) (.slice none 0 0) 0)) (bpush m (.own (.slice none 0 0) 0 t 1 (.cells []))) K) : Vc P c env m K := by
 intro w0 B a w hf hd hm
 refine h w0 B a w (by unfold Fr at *; rw [cvs_sset_same env i (by rw [h0]; rfl)]; exact hf) hd ?_
 rw [bpush_eq]
 refine hm.push (grown_refl w) ⟨⟨by simp [cc, cvs], .inl ⟨rfl, rfl⟩⟩, fun b hb => by simp [Value.ownBlock] at hb⟩ (fun b hb => ?_)
 simp [Blk.nums, Value.ownBlock] at hb
theorem PdR.one {H : Nat → Obj → Prop} {r : List SV} {p : Prt} (h : PdR H r p) : r.length = 6 ∧ allOne r = true := by
 rcases h with ⟨_, _, h3⟩ | ⟨_, _, a, c, h3, _⟩ <;> subst h3 <;> exact ⟨rfl, rfl⟩
theorem PdsR.ok {H : Nat → Obj → Prop} {rs : List (List SV)} {l : List Prt} (h : PdsR H rs l) : rowsOk 6 rs = true := rowsOkE fun r hr => by
 obtain ⟨i, hi⟩ := List.getElem?_of_mem hr
 have h1 := (List.getElem?_eq_some_iff.1 hi).1
 exact (h.2.2 i r _ hi (List.getElem?_eq_getElem (show i < l.length by have := h.1; omega))).one
theorem PsR.bl {H : Nat → Obj → Prop} {rs : List (List SV)} {l : List Prt} (h : PsR H rs l) : ∀ p ∈ l, p.bs.length ≤ maxLen := fun p hp => by
 obtain ⟨i, hi⟩ := List.getElem?_of_mem hp
 have h1 := (List.getElem?_eq_some_iff.1 hi).1
 obtain ⟨_, _, _, _, _, n, _, _, _, _, h2, _, _, _, _, h3⟩ := h.2.2 i _ p (List.getElem?_eq_getElem (show i < rs.length by have := h.1; omega)) hi
 omega
theorem may_S2 {x : OpD} (h : mayO x = true) : OpS 10000 x := by
 have h1 : opLe x 1000 = true := by
  simp only [mayO, Bool.and_eq_true] at h; exact h.1
 have := opLe_S (n := 1000) h1
 simp only [OpS] at this ⊢
 omega
theorem may_1000 {x : OpD} (h : mayO x = true) : OpS 1000 x := by
 have h1 : opLe x 1000 = true := by
  simp only [mayO, Bool.and_eq_true] at h; exact h.1
 exact opLe_S (n := 1000) h1
theorem ask_len2 {name : List Int} {x : OpD} {h n : Nat} (hB : OpB x) (hS : OpS 1000 x) : (askB name x h n).length ≤ 1000000 := by
 obtain ⟨h1, h2, h3, h4⟩ := hS
 have k1 : (facB x).length ≤ 1020 := by unfold facB; split <;> simp [hB.lf]; omega
 have k2 : (payB x).length ≤ 1052 := by unfold payB; split <;> simp [hB.lp, hlfB_len]; omega
 have k3 : psz (pkP x) ≤ 10000 := by
  simp only [pkP, sgP, List.cons_append, List.nil_append, psz, List.length_nil]
  omega
 have k4 := abEnc_le (pkP x)
 have k5 : (pkP x).length = 9 := rfl
 have k6 := hd_len h n
 have k7 := selB_len2 (qsN name)
 simp only [askB, List.length_append]
 omega
theorem pk_nrm (x : OpD) : (pkP x).map nrm = pkP x := rfl
theorem ask_4 (nm : List Int) (x : OpD) (h n : Nat) : (askB nm x h n).drop 4 = abEnc (hdP h n) ++ abEnc (pkP x) := by
 unfold askB
 exact List.drop_left' (selB_len2 _)
theorem hd_96 (h n : Nat) : (abEnc (hdP h n)).length = 96 := by
 obtain ⟨h1, h2, _⟩ := encS_len (hdP h n).length (hdP h n)
 unfold abEnc
 rw [List.length_append, h1]
 have : (encS (hdP h n).length (hdP h n)).2 = [] := rfl
 rw [this]; rfl
theorem ask_100 (nm : List Int) (x : OpD) (h n : Nat) : (askB nm x h n).drop 100 = abEnc (pkP x) := by
 unfold askB
 rw [← List.append_assoc]
 exact List.drop_left' (by rw [List.length_append, selB_len2, hd_96])
theorem dec_hd (x : OpD) (h n : Nat) (h1 : h < W) (h2 : n < W) : abDec (abEnc (hdP h n) ++ abEnc (pkP x)) [false, false, false] = some (hdP h n) := by
 have := abDec_enc (hdP h n) (abEnc (pkP x)) (fun p hp _ => by
  simp only [hdP, List.mem_cons, List.not_mem_nil, or_false] at hp
  rcases hp with rfl | rfl | rfl
  ·unfold W; simp only; omega
  ·exact h1
  ·exact h2) (by simp [hdP, psz])
 exact this
theorem sg_w {x : OpD} {H : Nat → Obj → Prop} {l : List SV} (hO : OpR H l x) : ∀ p ∈ pkP x, p.w < W := by
 intro p hp
 have wv : x.vg.toNat < W := by have := hO.u2; unfold u64I at this; unfold W; omega
 have wg : x.pg.toNat < W := by have := hO.u3; unfold u64I at this; unfold W; omega
 have wr : rdI x.snd < W := Nat.lt_of_lt_of_le (rdI_lt hO.bs) (by rw [hO.ls]; decide +kernel)
 have w0 : 0 < W := by decide +kernel
 simp only [pkP, sgP, List.cons_append, List.nil_append, List.mem_cons, List.not_mem_nil, or_false] at hp
 rcases hp with rfl | rfl | rfl | rfl | rfl | rfl | rfl | rfl | rfl
 ·exact wr
 ·exact hO.wn
 ·exact w0
 ·exact w0
 ·exact pairW_lt _ _
 ·exact wg
 ·exact pairW_lt _ _
 ·exact w0
 ·exact w0
theorem dec_pk {x : OpD} {H : Nat → Obj → Prop} {l : List SV} (hO : OpR H l x) (hS : OpS 10000 x) : abDec (abEnc (pkP x)) ((pkP x).map fun p => p.d) = some (pkP x) := by
 have := abDec_enc (pkP x) [] (fun p hp _ => sg_w hO p hp) (by have := pk_sz hO.okB hS; omega)
 rw [List.append_nil, pk_nrm] at this
 exact this
noncomputable def GWA : Ctr := fun f args m => match f with
 | 15 => g_may args m
 | 12 => g_ulK args m
 | 30 => g_valid args m
 | 24 => g_pack args m
 | 40 => g_Dec args m
 | 23 => g_SameP args m
 | _ => .none
theorem GWA_ok : GOk Tryd.prog GWA := by
 intro w0 B f args m; unfold GWA; split
 ·exact g_may_ok _ _ _ _
 ·exact g_ulK_ok _ _ _ _
 ·exact g_valid_ok _ _ _ _
 ·exact g_pack_ok _ _ _ _
 ·exact g_Dec_ok _ _ _ _
 ·exact g_SameP_ok _ _ _ _
 ·exact trivial
theorem GWA_may : GWA 15 = g_may := by funext args m; rfl
theorem GWA_ulK : GWA 12 = g_ulK := by funext args m; rfl
theorem GWA_valid : GWA 30 = g_valid := by funext args m; rfl
theorem GWA_pack : GWA 24 = g_pack := by funext args m; rfl
theorem GWA_Dec : GWA 40 = g_Dec := by funext args m; rfl
theorem GWA_SameP : GWA 23 = g_SameP := by funext args m; rfl
def GWA_set := And.intro (And.intro (And.intro (@GWA_may) (And.intro (@g_may.eq_def) (@GWA_ulK))) (And.intro (@g_ulK.eq_def) (And.intro (@GWA_valid) (@g_valid.eq_def)))) (And.intro (And.intro (@GWA_pack) (And.intro (@g_pack.eq_def) (@GWA_Dec))) (And.intro (@g_Dec.eq_def) (And.intro (@GWA_SameP) (@g_SameP.eq_def))))

set_option maxRecDepth 20000 in
theorem reads_law (l : List SV) (x : OpD) (h n : Nat) (hh : h < W) (hn : n < W) (w : World) (hm : MemOk w [] [.ro (some ⟨1, 0, none⟩) (.ints .u64 kKeys), .ro (some ⟨2, 0, none⟩) (.ints .u8 kPathI), .ro (some ⟨0, 0, none⟩) (.cells [.raw eTy]), allOld w] w) (hO : OpR (H0 w) l x) : Calls Tryd.prog 8 (cvs [.agg l, .word h, .word n]).toArray w (Yes w) := by
 have hOx : ∀ m, allOld w ∈ m → OpR (HM m) l x := fun m hin => hO.mono (H0.hm hin)
 have hop := opOf_eq hO
 have f3 := hO.all
 have f2 := hO.one
 cases hcx : mayO x with
 | false =>
  refine Vc.calls T0_ok Tryd.func8 rfl rfl (args := [.agg l, .word h, .word n]) (k := 89) rfl hm ?_; change Vc _ _ (c8 (.agg l) (.word h) (.word n) .undef .undef .undef .undef .undef (c8 .undef .undef .undef .undef .undef .undef .undef .undef (c8 .undef .undef .undef .undef .undef .undef .undef .undef (c8 .undef .undef .undef .undef .undef .undef .undef .undef (c8 .undef .undef .undef .undef .undef .undef .undef .undef (c8 .undef .undef .undef .undef .undef .undef .undef .undef (c8 .undef .undef .undef .undef .undef .undef .undef .undef (c8 .undef .undef .undef .undef .undef .undef .undef .undef (c8 .undef .undef .undef .undef .undef .undef .undef .undef (c8 .undef .undef .undef .undef .undef .undef .undef .undef (c8 .undef .undef .undef .undef .undef .undef .undef .undef ([.undef, .undef, .undef, .undef])))))))))))) _ _
  ((repeat (first | (with_reducible first | refine Vc.seq fun N hN => ?_ | refine Vc.block ?_) | ((with_reducible first | refine Vc.skip ?_ | refine Vc.exit ?_); dsimp only [thenK, blockK, Nat.beq]; (first | (refine hN _ _ ?_; clear hN N) | skip)) | (with_reducible intro _) | ((with_reducible refine And.intro ?_ ?_); exact sX3) | ((first | ((with_reducible refine askT_of ?_ (fun hb => ?_)); exact sX3; (try simp only [hb])) | ((with_reducible refine Vc.fin ?_); dsimp only [thenK, blockK, retK, resS, resOne, resAll]) | ((with_reducible refine Vc.hold ?_); first | refine Vc.regiont T0_ok GWA_ok ?_ | refine Vc.drawt (id := 6) T0_ok GWA_ok (by kernel_rfl) [0, 1, 2, 3, 4, 5, 6, 7, 8, 9, 10, 11, 12, 13, 14, 15, 16, 17, 18, 19, 20, 21, 22, 23] 24 [] trivial (by kernel_rfl) ?_)); (try simp only [v8Y, Nat.beq, Nat.ble, Int.reduceToNat, Int.reduceLE, Int.reduceLT, Nat.reduceLT, Nat.reduceLeDiff, Nat.reduceAdd, Nat.reduceMul, Nat.reduceSub, Int.reduceAdd, Int.reduceSub, Int.reduceMul, v8S, IntKind.bits, tabs, GWA_set, hop, f3, hcx]); (try simp (disch := omega) only [v8W])) | ((with_reducible refine hN _ _ ?_); clear hN N; (try simp (disch := omega) only [v8W])))); (try ((with_reducible refine Fin.of ?_); (try with_reducible exact True.intro))))
  (refine Vc.cond T0_ok (t := true) (by rfl) (fun _ => ?_) (fun h => Bool.noConfusion h))
  ((repeat (first | (with_reducible first | refine Vc.seq fun N hN => ?_ | refine Vc.block ?_) | ((with_reducible first | refine Vc.skip ?_ | refine Vc.exit ?_); dsimp only [thenK, blockK, Nat.beq]; (first | (refine hN _ _ ?_; clear hN N) | skip)) | (with_reducible intro _) | ((with_reducible refine And.intro ?_ ?_); exact sX3) | ((first | ((with_reducible refine askT_of ?_ (fun hb => ?_)); exact sX3; (try simp only [hb])) | ((with_reducible refine Vc.fin ?_); dsimp only [thenK, blockK, retK, resS, resOne, resAll]) | ((with_reducible refine Vc.hold ?_); first | refine Vc.regiont T0_ok GWA_ok ?_ | refine Vc.drawt (id := 6) T0_ok GWA_ok (by kernel_rfl) [0, 1, 2, 3, 4, 5, 6, 7, 8, 9, 10, 11, 12, 13, 14, 15, 16, 17, 18, 19, 20, 21, 22, 23] 24 [] trivial (by kernel_rfl) ?_)); (try simp only [v8Y, Nat.beq, Nat.ble, Int.reduceToNat, Int.reduceLE, Int.reduceLT, Nat.reduceLT, Nat.reduceLeDiff, Nat.reduceAdd, Nat.reduceMul, Nat.reduceSub, Int.reduceAdd, Int.reduceSub, Int.reduceMul, v8S, IntKind.bits, tabs, GWA_set]); (try simp (disch := omega) only [v8W])) | ((with_reducible refine hN _ _ ?_); clear hN N; (try simp (disch := omega) only [v8W])))); (try ((with_reducible refine Fin.of ?_); (try with_reducible exact True.intro))))
  exact ⟨by simp, trivial⟩
 | true =>
  have hSx := may_S2 hcx
  have hQ4 := ask_4 vNm x h n
  have hQ1 := ask_100 vNm x h n
  have hd1 := dec_hd x h n hh hn
  have hd2 := dec_pk hO hSx
  have hQl := ask_len2 (name := vNm) (h := h) (n := n) hO.okB (may_1000 hcx)
  have hE1 := hd_all h n
  have hE2 : allB (abEnc (pkP x)) := abEnc_all2 (pk_all hO.okB)
  have hEa : allB (abEnc (hdP h n) ++ abEnc (pkP x)) := allB_app2 hE1 hE2
  have hl4 : (abEnc (hdP h n) ++ abEnc (pkP x)).length = (askB vNm x h n).length - 4 := by rw [← hQ4, List.length_drop]
  have hl1 : (abEnc (pkP x)).length = (askB vNm x h n).length - 100 := by rw [← hQ1, List.length_drop]
  have hb3 : bools [.bool false, .bool false, .bool false] = [false, false, false] := rfl
  have hm3 : [false, false, false].map SV.bool = [.bool false, .bool false, .bool false] := rfl
  have hEl : 100 ≤ (askB vNm x h n).length := by
   have := congrArg List.length hQ1
   rw [List.length_drop] at this
   have h9 : 32 * 9 ≤ (abEnc (pkP x)).length := by
    unfold abEnc
    rw [List.length_append, (encS_len (pkP x).length (pkP x)).1]
    have : (pkP x).length = 9 := rfl
    omega
   omega
  obtain ⟨P, Q, D4, D1, hP, hQ, hQ4, hQ1, hd1, hd2, hQl, hE2, hEa, hl4, hl1, hEl, hP9, hPw⟩ : ∃ (P : List Prt) (Q D4 D1 : List Int), pkP x = P ∧ askB vNm x h n = Q ∧ Q.drop 4 = D4 ∧ Q.drop 100 = D1 ∧ abDec D4 [false, false, false] = some (hdP h n) ∧ abDec D1 (P.map fun p => p.d) = some P ∧ Q.length ≤ 1000000 ∧ allB D1 ∧ allB D4 ∧ D4.length = Q.length - 4 ∧ D1.length = Q.length - 100 ∧ 100 ≤ Q.length ∧ P.length = 9 ∧ ∀ p ∈ P, p.w < W :=
   ⟨pkP x, askB vNm x h n, _, _, rfl, rfl, hQ4, hQ1, hd1, hd2, hQl, hE2, hEa, hl4, hl1, hEl, rfl, sg_w hO⟩
  clear hE1
  have ht4 : D4.take (Q.length - 4) = D4 := List.take_of_length_le (by omega)
  have ht1 : D1.take (Q.length - 100) = D1 := List.take_of_length_le (by omega)
  refine Vc.calls T0_ok Tryd.func8 rfl rfl (args := [.agg l, .word h, .word n]) (k := 89) rfl hm ?_; change Vc _ _ (c8 (.agg l) (.word h) (.word n) .undef .undef .undef .undef .undef (c8 .undef .undef .undef .undef .undef .undef .undef .undef (c8 .undef .undef .undef .undef .undef .undef .undef .undef (c8 .undef .undef .undef .undef .undef .undef .undef .undef (c8 .undef .undef .undef .undef .undef .undef .undef .undef (c8 .undef .undef .undef .undef .undef .undef .undef .undef (c8 .undef .undef .undef .undef .undef .undef .undef .undef (c8 .undef .undef .undef .undef .undef .undef .undef .undef (c8 .undef .undef .undef .undef .undef .undef .undef .undef (c8 .undef .undef .undef .undef .undef .undef .undef .undef (c8 .undef .undef .undef .undef .undef .undef .undef .undef ([.undef, .undef, .undef, .undef])))))))))))) _ _
  ((repeat (first | (with_reducible first | refine Vc.seq fun N hN => ?_ | refine Vc.block ?_) | ((with_reducible first | refine Vc.skip ?_ | refine Vc.exit ?_); dsimp only [thenK, blockK, Nat.beq]; (first | (refine hN _ _ ?_; clear hN N) | skip)) | (with_reducible intro _) | ((with_reducible refine And.intro ?_ ?_); exact sX3) | ((first | ((with_reducible refine askT_of ?_ (fun hb => ?_)); exact sX3; (try simp only [hb])) | ((with_reducible refine Vc.fin ?_); dsimp only [thenK, blockK, retK, resS, resOne, resAll]) | ((with_reducible refine Vc.hold ?_); first | refine Vc.regiont T0_ok GWA_ok ?_ | refine Vc.drawt (id := 6) T0_ok GWA_ok (by kernel_rfl) [0, 1, 2, 3, 4, 5, 6, 7, 8, 9, 10, 11, 12, 13, 14, 15, 16, 17, 18, 19, 20, 21, 22, 23] 24 [] trivial (by kernel_rfl) ?_)); (try simp only [v8Y, Nat.beq, Nat.ble, Int.reduceToNat, Int.reduceLE, Int.reduceLT, Nat.reduceLT, Nat.reduceLeDiff, Nat.reduceAdd, Nat.reduceMul, Nat.reduceSub, Int.reduceAdd, Int.reduceSub, Int.reduceMul, v8S, IntKind.bits, tabs, GWA_set, hop, f3, hcx]); (try simp (disch := omega) only [v8W])) | ((with_reducible refine hN _ _ ?_); clear hN N; (try simp (disch := omega) only [v8W])))); (try ((with_reducible refine Fin.of ?_); (try with_reducible exact True.intro))))
  (refine Vc.cond T0_ok (t := false) (by rfl) (fun h => Bool.noConfusion h) (fun _ => ?_))
  (refine Vc.skip ?_; dsimp only [thenK, blockK, Nat.beq]; refine hN _ _ ?_; clear hN N)
  ((with_reducible refine Vc.seq fun N hN => ?_); (refine Vc.regiont T0_ok GWA_ok ?_); simp only [v8Y, Nat.beq, Nat.ble, Int.reduceToNat, Int.reduceLE, Int.reduceLT, Nat.reduceLT, Nat.reduceLeDiff, Nat.reduceAdd, Nat.reduceMul, Nat.reduceSub, Int.reduceAdd, Int.reduceSub, Int.reduceMul, v8S, IntKind.bits, tabs, GWA_set, hop, f2, f3, hQ]; (try simp (disch := omega) only [v8W]); (repeat (first | with_reducible intro _ | ((with_reducible refine And.intro ?_ ?_); exact sX3) | ((with_reducible refine askT_of ?_ (fun hb => ?_)); exact sX3; simp only [hb, v8Y, Nat.beq, Nat.ble, Int.reduceToNat, Int.reduceLE, Int.reduceLT, Nat.reduceLT, Nat.reduceLeDiff, Nat.reduceAdd, Nat.reduceMul, Nat.reduceSub, Int.reduceAdd, Int.reduceSub, Int.reduceMul, v8S, IntKind.bits, tabs, GWA_set, hop, f2, f3, hQ]; (try simp (disch := omega) only [v8W])))); (first | (refine hN _ _ ?_; clear hN N; (try simp (disch := omega) only [v8W])) | skip))
  ((with_reducible refine Vc.seq fun N hN => ?_); (refine Vc.regiont T0_ok GWA_ok ?_); simp only [v8Y, Nat.beq, Nat.ble, Int.reduceToNat, Int.reduceLE, Int.reduceLT, Nat.reduceLT, Nat.reduceLeDiff, Nat.reduceAdd, Nat.reduceMul, Nat.reduceSub, Int.reduceAdd, Int.reduceSub, Int.reduceMul, v8S, IntKind.bits, tabs, GWA_set, hQ4, hd1, ht4, hb3, hm3, List.drop_zero, List.take_succ_cons, List.take_zero]; (try simp (disch := omega) only [v8W]); (repeat (first | with_reducible intro _ | ((with_reducible refine And.intro ?_ ?_); exact sX3) | ((with_reducible refine askT_of ?_ (fun hb => ?_)); exact sX3; simp only [hb, v8Y, Nat.beq, Nat.ble, Int.reduceToNat, Int.reduceLE, Int.reduceLT, Nat.reduceLT, Nat.reduceLeDiff, Nat.reduceAdd, Nat.reduceMul, Nat.reduceSub, Int.reduceAdd, Int.reduceSub, Int.reduceMul, v8S, IntKind.bits, tabs, GWA_set, hQ4, hd1, ht4, hb3, hm3, List.drop_zero, List.take_succ_cons, List.take_zero]; (try simp (disch := omega) only [v8W])))); (first | (refine hN _ _ ?_; clear hN N; (try simp (disch := omega) only [v8W])) | skip))
  rename_i b0 b1 b2 hf9 v b4 dx hdx
  obtain ⟨xa, xc, xR, xh⟩ := dx
  obtain ⟨g1, g2, g3, g4, g5, g6⟩ := hdx
  simp only at g1 g2 g3 g4 g5 g6 ⊢
  have w96 : (96 : Nat) < W := by decide +kernel
  obtain ⟨r0, r1, r2, rfl⟩ : ∃ r0 r1 r2, xR = [r0, r1, r2] := by
   match xR, g4 with
   | [r0, r1, r2], _ => exact ⟨r0, r1, r2, rfl⟩
  have p0 := g6 0 _ _ rfl rfl
  have p1 := g6 1 _ _ rfl rfl
  have p2 := g6 2 _ _ rfl rfl
  have key : ∀ {H : Nat → Obj → Prop} {r : List SV} {a : Nat}, PdR H r ⟨false, a, []⟩ → r = [.bool false, .int .u64 (lm a 0 : Nat), .int .u64 (lm a 1 : Nat), .int .u64 (lm a 2 : Nat), .int .u64 (lm a 3 : Nat), .nilsl] := fun hp => by
   rcases hp with ⟨_, _, h3⟩ | ⟨h3, _⟩
   ·exact h3
   ·cases h3
  obtain rfl := key p0
  obtain rfl := key p1
  obtain rfl := key p2
  have e0 := numI_lm w96
  have e1 := numI_lm hh
  have e2 := numI_lm hn
  have z0 : eqW 96 96 = true := eqW_of rfl
  have z1 : eqW h h = true := eqW_of rfl
  have z2 : eqW n n = true := eqW_of rfl
  have n96 : numI [96, 0, 0, 0] = 96 := by decide +kernel
  have hl3 : (hdP h n).length = 3 := rfl
  have HLx : ∀ m, Blk.heap xh ∈ m → LiesH (HM m) xa (cc (.rows 6 [[.bool false, .int .u64 (lm 96 0 : Nat), .int .u64 (lm 96 1 : Nat), .int .u64 (lm 96 2 : Nat), .int .u64 (lm 96 3 : Nat), .nilsl], [.bool false, .int .u64 (lm h 0 : Nat), .int .u64 (lm h 1 : Nat), .int .u64 (lm h 2 : Nat), .int .u64 (lm h 3 : Nat), .nilsl], [.bool false, .int .u64 (lm n 0 : Nat), .int .u64 (lm n 1 : Nat), .int .u64 (lm n 2 : Nat), .int .u64 (lm n 3 : Nat), .nilsl]])) := fun m hin => g3.mono (Hl.hm hin fun _ h => h)
  rw [hl3] at g1 g2
  clear p0 p1 p2 key
  refine Vc.seq fun N hN => ?_
  ((with_reducible refine Vc.seq fun N hN => ?_); (first | refine Vc.drawt (id := 6) T0_ok GWA_ok (by kernel_rfl) [0, 1, 2, 3, 4, 5, 6, 7, 8, 9, 10, 11, 12, 13, 14, 15, 16, 17, 18, 19, 20, 21, 22, 23] 24 [] trivial (by kernel_rfl) ?_); simp only [v8Y, Nat.beq, Nat.ble, Int.reduceToNat, Int.reduceLE, Int.reduceLT, Nat.reduceLT, Nat.reduceLeDiff, Nat.reduceAdd, Nat.reduceMul, Nat.reduceSub, Int.reduceAdd, Int.reduceSub, Int.reduceMul, v8S, IntKind.bits, tabs, GWA_set, e0, e1, e2, z0, z1, z2, n96, hl3]; (try simp (disch := omega) only [v8W]))
  (repeat (first | with_reducible intro _ | ((with_reducible refine And.intro ?_ ?_); exact sX37) | ((with_reducible refine askT_of ?_ (fun hb => ?_)); exact sX37; simp only [hb, v8Y, Nat.beq, Nat.ble, Int.reduceToNat, Int.reduceLE, Int.reduceLT, Nat.reduceLT, Nat.reduceLeDiff, Nat.reduceAdd, Nat.reduceMul, Nat.reduceSub, Int.reduceAdd, Int.reduceSub, Int.reduceMul, v8S, IntKind.bits, tabs, GWA_set]; (try simp (disch := omega) only [v8W])))); (first | (refine hN _ _ ?_; clear hN N; (try simp (disch := omega) only [v8W])) | skip)
  ((repeat (first | (with_reducible first | refine Vc.seq fun N hN => ?_ | refine Vc.block ?_) | ((with_reducible first | refine Vc.skip ?_ | refine Vc.exit ?_); dsimp only [thenK, blockK, Nat.beq]; (first | (refine hN _ _ ?_; clear hN N) | skip)) | (with_reducible intro _) | ((with_reducible refine And.intro ?_ ?_); exact sdB) | ((first | ((with_reducible refine askT_of ?_ (fun hb => ?_)); exact sdB; (try simp only [hb])) | ((with_reducible refine Vc.fin ?_); dsimp only [thenK, blockK, retK, resS, resOne, resAll]) | ((with_reducible refine Vc.hold ?_); first | refine Vc.regiont T0_ok GWA_ok ?_ | refine Vc.drawt (id := 6) T0_ok GWA_ok (by kernel_rfl) [0, 1, 2, 3, 4, 5, 6, 7, 8, 9, 10, 11, 12, 13, 14, 15, 16, 17, 18, 19, 20, 21, 22, 23] 24 [] trivial (by kernel_rfl) ?_)); (try simp only [v8Y, Nat.beq, Nat.ble, Int.reduceToNat, Int.reduceLE, Int.reduceLT, Nat.reduceLT, Nat.reduceLeDiff, Nat.reduceAdd, Nat.reduceMul, Nat.reduceSub, Int.reduceAdd, Int.reduceSub, Int.reduceMul, v8S, IntKind.bits, tabs, GWA_set]); (try simp (disch := omega) only [v8W])) | ((with_reducible refine hN _ _ ?_); clear hN N; (try simp (disch := omega) only [v8W])))); (try ((with_reducible refine Fin.of ?_); (try with_reducible exact True.intro))))
  (refine Vc.cond T0_ok (t := false) (by rfl) (fun h => Bool.noConfusion h) (fun _ => ?_))
  (refine Vc.skip ?_; dsimp only [thenK, blockK, Nat.beq]; refine hN _ _ ?_; clear hN N)
  clear e0 e1 e2 z0 z1 z2 n96 HLx g3 g4 g5 g6
  generalize ([[.bool false, .int .u64 (lm 96 0 : Nat), .int .u64 (lm 96 1 : Nat), .int .u64 (lm 96 2 : Nat), .int .u64 (lm 96 3 : Nat), .nilsl], [.bool false, .int .u64 (lm h 0 : Nat), .int .u64 (lm h 1 : Nat), .int .u64 (lm h 2 : Nat), .int .u64 (lm h 3 : Nat), .nilsl], [.bool false, .int .u64 (lm n 0 : Nat), .int .u64 (lm n 1 : Nat), .int .u64 (lm n 2 : Nat), .int .u64 (lm n 3 : Nat), .nilsl]] : List (List SV)) = xR9 at *
  ((with_reducible refine Vc.seq fun N hN => ?_); (refine Vc.regiont T0_ok GWA_ok ?_); simp only [v8Y, Nat.beq, Nat.ble, Int.reduceToNat, Int.reduceLE, Int.reduceLT, Nat.reduceLT, Nat.reduceLeDiff, Nat.reduceAdd, Nat.reduceMul, Nat.reduceSub, Int.reduceAdd, Int.reduceSub, Int.reduceMul, v8S, IntKind.bits, tabs, GWA_set, hop, f2, f3]; (try simp (disch := omega) only [v8W]); (repeat (first | with_reducible intro _ | ((with_reducible refine And.intro ?_ ?_); exact sX3) | ((with_reducible refine askT_of ?_ (fun hb => ?_)); exact sX3; simp only [hb, v8Y, Nat.beq, Nat.ble, Int.reduceToNat, Int.reduceLE, Int.reduceLT, Nat.reduceLT, Nat.reduceLeDiff, Nat.reduceAdd, Nat.reduceMul, Nat.reduceSub, Int.reduceAdd, Int.reduceSub, Int.reduceMul, v8S, IntKind.bits, tabs, GWA_set, hop, f2, f3]; (try simp (disch := omega) only [v8W])))); (first | (refine hN _ _ ?_; clear hN N; (try simp (disch := omega) only [v8W])) | skip))
  rename_i pk hpk
  obtain ⟨⟨ya, yc, yR⟩, yh⟩ := pk
  obtain ⟨y1, y2, y3, y4, y5⟩ := hpk
  rw [hP] at y5
  simp only at y1 y2 y3 y4 y5 ⊢
  ((with_reducible refine Vc.seq fun N hN => ?_); (refine Vc.regiont T0_ok GWA_ok ?_); simp only [v8Y, Nat.beq, Nat.ble, Int.reduceToNat, Int.reduceLE, Int.reduceLT, Nat.reduceLT, Nat.reduceLeDiff, Nat.reduceAdd, Nat.reduceMul, Nat.reduceSub, Int.reduceAdd, Int.reduceSub, Int.reduceMul, v8S, IntKind.bits, tabs, GWA_set]; (try simp (disch := omega) only [v8W]); (repeat (first | with_reducible intro _ | ((with_reducible refine And.intro ?_ ?_); exact sdB) | ((with_reducible refine askT_of ?_ (fun hb => ?_)); exact sdB; simp only [hb, v8Y, Nat.beq, Nat.ble, Int.reduceToNat, Int.reduceLE, Int.reduceLT, Nat.reduceLT, Nat.reduceLeDiff, Nat.reduceAdd, Nat.reduceMul, Nat.reduceSub, Int.reduceAdd, Int.reduceSub, Int.reduceMul, v8S, IntKind.bits, tabs, GWA_set]; (try simp (disch := omega) only [v8W])))); (first | (refine hN _ _ ?_; clear hN N; (try simp (disch := omega) only [v8W])) | skip))
  ((repeat (first | (with_reducible first | refine Vc.seq fun N hN => ?_ | refine Vc.block ?_) | ((with_reducible first | refine Vc.skip ?_ | refine Vc.exit ?_); dsimp only [thenK, blockK, Nat.beq]; (first | (refine hN _ _ ?_; clear hN N) | skip)) | (with_reducible intro _) | ((with_reducible refine And.intro ?_ ?_); exact sdB) | ((first | ((with_reducible refine askT_of ?_ (fun hb => ?_)); exact sdB; (try simp only [hb])) | ((with_reducible refine Vc.fin ?_); dsimp only [thenK, blockK, retK, resS, resOne, resAll]) | ((with_reducible refine Vc.hold ?_); first | refine Vc.regiont T0_ok GWA_ok ?_ | refine Vc.drawt (id := 6) T0_ok GWA_ok (by kernel_rfl) [0, 1, 2, 3, 4, 5, 6, 7, 8, 9, 10, 11, 12, 13, 14, 15, 16, 17, 18, 19, 20, 21, 22, 23] 24 [] trivial (by kernel_rfl) ?_)); (try simp only [v8Y, Nat.beq, Nat.ble, Int.reduceToNat, Int.reduceLE, Int.reduceLT, Nat.reduceLT, Nat.reduceLeDiff, Nat.reduceAdd, Nat.reduceMul, Nat.reduceSub, Int.reduceAdd, Int.reduceSub, Int.reduceMul, v8S, IntKind.bits, tabs, GWA_set]); (try simp (disch := omega) only [v8W])) | ((with_reducible refine hN _ _ ?_); clear hN N; (try simp (disch := omega) only [v8W])))); (try ((with_reducible refine Fin.of ?_); (try with_reducible exact True.intro))))
  (revert N; intro N1 hN1)
  refine Vc.nilownC 12 4 rfl ?_
  (simp only [v8Y, Nat.beq, Nat.ble, Int.reduceToNat, Int.reduceLE, Int.reduceLT, Nat.reduceLT, Nat.reduceLeDiff, Nat.reduceAdd, Nat.reduceMul, Nat.reduceSub, Int.reduceAdd, Int.reduceSub, Int.reduceMul, v8S, IntKind.bits, tabs])
  have yl : yR.length = 9 := y5.1.trans hP9
  have yok := y5.ok
  have yfx := y5.fixed
  have ybl := y5.bl
  have YL : ∀ m, Blk.heap yh ∈ m → LiesH (HM m) ya (cc (.rows 6 yR)) := fun m hin => y4.mono (Hl.hm hin fun _ h => h)
  have YP : ∀ m, Blk.heap yh ∈ m → PsR (HM m) yR (P) := fun m hin => ⟨y5.1, y5.2.1, fun i r p hr hp => (y5.2.2 i r p hr hp).mono fun b o h => Hl.hm hin (fun _ h => h) b o h⟩
  have yt : yR.take 9 = yR := List.take_of_length_le (by omega)
  obtain ⟨yr1, yr2, yr3⟩ := y5
  refine Vc.loop 12 92 (fun (z : Nat × Value) => [(12, .own 11 z.2 z.1), (13, .int .i64 (z.1 : Nat))]) (fun z => [.ro (some ⟨1, 0, none⟩) (.ints .u64 kKeys), .ro (some ⟨2, 0, none⟩) (.ints .u8 kPathI), .ro (some ⟨0, 0, none⟩) (.cells [.raw eTy]), allOld w, .blk b0 29 (.cells l), .blk b1 26 (.words [h]), .blk b2 26 (.words [n]), .own v Q.length 5 1 (.ints .u8 Q), .blk b4 4 (.cells [.bool false, .bool false, .bool false]), .heap xh, .heap yh, .own z.2 z.1 4 1 (.cells ((((P).take z.1).map fun p => p.d).map .bool))]) (fun z => z.1 ≤ 9) (fun z => 9 - z.1) (0, .slice none 0 0) ⟨Nat.zero_le _, ?_, ?_⟩ (fun z junk hz => ?_)
  ·((try simp only [v8Y, Nat.beq, Nat.ble, Int.reduceToNat, Int.reduceLE, Int.reduceLT, Nat.reduceLT, Nat.reduceLeDiff, Nat.reduceAdd, Nat.reduceMul, Nat.reduceSub, Int.reduceAdd, Int.reduceSub, Int.reduceMul, v8S, IntKind.bits, tabs]); (repeat' with_reducible apply And.intro) <;> first | with_reducible exact True.intro | rfl | with_reducible rfl | (congr 1 <;> omega) | trivial)
  ·((try simp only [v8Y, Nat.beq, Nat.ble, Int.reduceToNat, Int.reduceLE, Int.reduceLT, Nat.reduceLT, Nat.reduceLeDiff, Nat.reduceAdd, Nat.reduceMul, Nat.reduceSub, Int.reduceAdd, Int.reduceSub, Int.reduceMul, v8S, IntKind.bits, tabs]); (repeat' with_reducible apply And.intro) <;> first | with_reducible exact True.intro | rfl | with_reducible rfl | (congr 1 <;> omega) | trivial)
  ·obtain ⟨k, v9⟩ := z
   simp only at hz ⊢
   (simp only [v8Y, Nat.beq, Nat.ble, Int.reduceToNat, Int.reduceLE, Int.reduceLT, Nat.reduceLT, Nat.reduceLeDiff, Nat.reduceAdd, Nat.reduceMul, Nat.reduceSub, Int.reduceAdd, Int.reduceSub, Int.reduceMul, v8S, IntKind.bits, tabs])
   by_cases hlt : k < 9
   ·have d1 : decide ((k : Int) < ((9 : Nat) : Int)) = true := decide_eq_true (by omega)
    have tk : ((k : Nat) : Int).toNat = k := by omega
    have e4 := List.getElem?_eq_getElem (show k < yR.length by omega)
    have e5 := List.getElem?_eq_getElem (show k < (P).length by omega)
    have hp := yr3 k _ _ e4 e5
    have hgd := getD_of e4
    have z3 : (((P).take k).map fun p => p.d).map SV.bool ++ [SV.bool ((P)[k]'(by omega)).d] = (((P).take (k + 1)).map fun p => p.d).map SV.bool := by rw [take_more e5, List.map_append, List.map_append]; rfl
    generalize yR[k] = r at *
    generalize (P)[k] = p at *
    obtain ⟨s0, s1, s2, s3, pa, pn, pc, rfl, _⟩ := hp
    ((repeat (first | (with_reducible first | refine Vc.seq fun N hN => ?_ | refine Vc.block ?_) | ((with_reducible first | refine Vc.skip ?_ | refine Vc.exit ?_); dsimp only [thenK, blockK, Nat.beq]; (first | (refine hN _ _ ?_; clear hN N) | skip)) | (with_reducible intro _) | ((with_reducible refine And.intro ?_ ?_); exact sdB) | ((first | ((with_reducible refine askT_of ?_ (fun hb => ?_)); exact sdB; (try simp only [hb])) | ((with_reducible refine Vc.fin ?_); dsimp only [thenK, blockK, retK, resS, resOne, resAll]) | ((with_reducible refine Vc.hold ?_); first | refine Vc.regiont T0_ok GWA_ok ?_ | refine Vc.drawt (id := 6) T0_ok GWA_ok (by kernel_rfl) [0, 1, 2, 3, 4, 5, 6, 7, 8, 9, 10, 11, 12, 13, 14, 15, 16, 17, 18, 19, 20, 21, 22, 23] 24 [] trivial (by kernel_rfl) ?_)); (try simp only [v8Y, Nat.beq, Nat.ble, Int.reduceToNat, Int.reduceLE, Int.reduceLT, Nat.reduceLT, Nat.reduceLeDiff, Nat.reduceAdd, Nat.reduceMul, Nat.reduceSub, Int.reduceAdd, Int.reduceSub, Int.reduceMul, v8S, IntKind.bits, tabs, GWA_set, d1, hP9]); (try simp (disch := omega) only [v8W])) | ((with_reducible refine hN _ _ ?_); clear hN N; (try simp (disch := omega) only [v8W])))); (try ((with_reducible refine Fin.of ?_); (try with_reducible exact True.intro))))
    (refine Vc.cond T0_ok (t := true) (by rfl) (fun _ => ?_) (fun h => Bool.noConfusion h))
    ((repeat (first | (with_reducible first | refine Vc.seq fun N hN => ?_ | refine Vc.block ?_) | ((with_reducible first | refine Vc.skip ?_ | refine Vc.exit ?_); dsimp only [thenK, blockK, Nat.beq]; (first | (refine hN _ _ ?_; clear hN N) | skip)) | (with_reducible intro _) | ((with_reducible refine And.intro ?_ ?_); exact sX38) | ((first | ((with_reducible refine askT_of ?_ (fun hb => ?_)); exact sX38; (try simp only [hb])) | ((with_reducible refine Vc.fin ?_); dsimp only [thenK, blockK, retK, resS, resOne, resAll]) | ((with_reducible refine Vc.hold ?_); first | refine Vc.regiont T0_ok GWA_ok ?_ | refine Vc.drawt (id := 6) T0_ok GWA_ok (by kernel_rfl) [0, 1, 2, 3, 4, 5, 6, 7, 8, 9, 10, 11, 12, 13, 14, 15, 16, 17, 18, 19, 20, 21, 22, 23] 24 [] trivial (by kernel_rfl) ?_)); (try simp only [v8Y, Nat.beq, Nat.ble, Int.reduceToNat, Int.reduceLE, Int.reduceLT, Nat.reduceLT, Nat.reduceLeDiff, Nat.reduceAdd, Nat.reduceMul, Nat.reduceSub, Int.reduceAdd, Int.reduceSub, Int.reduceMul, v8S, IntKind.bits, tabs, GWA_set, d1, tk, hgd]); (try simp (disch := omega) only [v8W])) | ((with_reducible refine hN _ _ ?_); clear hN N; (try simp (disch := omega) only [v8W])))); (try ((with_reducible refine Fin.of ?_); (try with_reducible exact True.intro))))
    rename_i _ vn
    refine ⟨(k + 1, vn), by simp only; omega, ?_, ?_, by simp only; omega⟩
    ·((try simp only [v8Y, Nat.beq, Nat.ble, Int.reduceToNat, Int.reduceLE, Int.reduceLT, Nat.reduceLT, Nat.reduceLeDiff, Nat.reduceAdd, Nat.reduceMul, Nat.reduceSub, Int.reduceAdd, Int.reduceSub, Int.reduceMul, v8S, IntKind.bits, tabs]); (repeat' with_reducible apply And.intro) <;> first | with_reducible exact True.intro | rfl | (congr 1 <;> omega))
    ·simp only [List.take_succ_cons, List.take_zero, List.drop_zero]
     rw [← z3]
     ((try simp only [v8Y, Nat.beq, Nat.ble, Int.reduceToNat, Int.reduceLE, Int.reduceLT, Nat.reduceLT, Nat.reduceLeDiff, Nat.reduceAdd, Nat.reduceMul, Nat.reduceSub, Int.reduceAdd, Int.reduceSub, Int.reduceMul, v8S, IntKind.bits, tabs]); (repeat' with_reducible apply And.intro) <;> first | with_reducible exact True.intro | rfl | (congr 1 <;> omega))
   ·have d1 : decide ((k : Int) < ((9 : Nat) : Int)) = false := decide_eq_false (by omega)
    obtain rfl : k = 9 := by omega
    ((repeat (first | (with_reducible first | refine Vc.seq fun N hN => ?_ | refine Vc.block ?_) | ((with_reducible first | refine Vc.skip ?_ | refine Vc.exit ?_); dsimp only [thenK, blockK, Nat.beq]; (first | (refine hN _ _ ?_; clear hN N) | skip)) | (with_reducible intro _) | ((with_reducible refine And.intro ?_ ?_); exact sdB) | ((first | ((with_reducible refine askT_of ?_ (fun hb => ?_)); exact sdB; (try simp only [hb])) | ((with_reducible refine Vc.fin ?_); dsimp only [thenK, blockK, retK, resS, resOne, resAll]) | ((with_reducible refine Vc.hold ?_); first | refine Vc.regiont T0_ok GWA_ok ?_ | refine Vc.drawt (id := 6) T0_ok GWA_ok (by kernel_rfl) [0, 1, 2, 3, 4, 5, 6, 7, 8, 9, 10, 11, 12, 13, 14, 15, 16, 17, 18, 19, 20, 21, 22, 23] 24 [] trivial (by kernel_rfl) ?_)); (try simp only [v8Y, Nat.beq, Nat.ble, Int.reduceToNat, Int.reduceLE, Int.reduceLT, Nat.reduceLT, Nat.reduceLeDiff, Nat.reduceAdd, Nat.reduceMul, Nat.reduceSub, Int.reduceAdd, Int.reduceSub, Int.reduceMul, v8S, IntKind.bits, tabs, GWA_set, d1, hP9]); (try simp (disch := omega) only [v8W])) | ((with_reducible refine hN _ _ ?_); clear hN N; (try simp (disch := omega) only [v8W])))); (try ((with_reducible refine Fin.of ?_); (try with_reducible exact True.intro))))
    (refine Vc.cond T0_ok (t := false) (by rfl) (fun h => Bool.noConfusion h) (fun _ => ?_))
    ((repeat (first | (with_reducible first | refine Vc.seq fun N hN => ?_ | refine Vc.block ?_) | ((with_reducible first | refine Vc.skip ?_ | refine Vc.exit ?_); dsimp only [thenK, blockK, Nat.beq]; (first | (refine hN _ _ ?_; clear hN N) | skip)) | (with_reducible intro _) | ((with_reducible refine And.intro ?_ ?_); exact sdB) | ((first | ((with_reducible refine askT_of ?_ (fun hb => ?_)); exact sdB; (try simp only [hb])) | ((with_reducible refine Vc.fin ?_); dsimp only [thenK, blockK, retK, resS, resOne, resAll]) | ((with_reducible refine Vc.hold ?_); first | refine Vc.regiont T0_ok GWA_ok ?_ | refine Vc.drawt (id := 6) T0_ok GWA_ok (by kernel_rfl) [0, 1, 2, 3, 4, 5, 6, 7, 8, 9, 10, 11, 12, 13, 14, 15, 16, 17, 18, 19, 20, 21, 22, 23] 24 [] trivial (by kernel_rfl) ?_)); (try simp only [v8Y, Nat.beq, Nat.ble, Int.reduceToNat, Int.reduceLE, Int.reduceLT, Nat.reduceLT, Nat.reduceLeDiff, Nat.reduceAdd, Nat.reduceMul, Nat.reduceSub, Int.reduceAdd, Int.reduceSub, Int.reduceMul, v8S, IntKind.bits, tabs, GWA_set]); (try simp (disch := omega) only [v8W])) | ((with_reducible refine hN _ _ ?_); clear hN N; (try simp (disch := omega) only [v8W])))); (try ((with_reducible refine Fin.of ?_); (try with_reducible exact True.intro))))
    (refine hN1 _ _ ?_; (try clear hN N); clear hN1 N1)
    have tn : P.take 9 = P := List.take_of_length_le (by omega)
    simp only [tn]
    obtain ⟨ds, hds, hd2, hdl⟩ : ∃ ds, (P.map fun p => p.d) = ds ∧ abDec D1 ds = some P ∧ ds.length = 9 := ⟨_, rfl, hd2, by rw [List.length_map, hP9]⟩
    simp only [hds]
    have tD : (ds.map SV.bool).take 9 = ds.map SV.bool := List.take_of_length_le (by simp; omega)
    have hao := allOne_map ds
    have hbm := bools_map ds
    have h9 : 9 ≤ (ds.map SV.bool).length := by rw [List.length_map, hdl]; exact Nat.le_refl _
    ((with_reducible refine Vc.seq fun N hN => ?_); (refine Vc.regiont T0_ok GWA_ok ?_); simp only [v8Y, Nat.beq, Nat.ble, Int.reduceToNat, Int.reduceLE, Int.reduceLT, Nat.reduceLT, Nat.reduceLeDiff, Nat.reduceAdd, Nat.reduceMul, Nat.reduceSub, Int.reduceAdd, Int.reduceSub, Int.reduceMul, v8S, IntKind.bits, tabs, GWA_set, tD, hao, hbm, hQ1, ht1, hd2, hP9, List.drop_zero]; (try simp (disch := omega) only [v8W]); (repeat (first | with_reducible intro _ | ((with_reducible refine And.intro ?_ ?_); exact sX39) | ((with_reducible refine askT_of ?_ (fun hb => ?_)); exact sX39; simp only [hb, v8Y, Nat.beq, Nat.ble, Int.reduceToNat, Int.reduceLE, Int.reduceLT, Nat.reduceLT, Nat.reduceLeDiff, Nat.reduceAdd, Nat.reduceMul, Nat.reduceSub, Int.reduceAdd, Int.reduceSub, Int.reduceMul, v8S, IntKind.bits, tabs, GWA_set, tD, hao, hbm, hQ1, ht1, hd2, hP9, List.drop_zero]; (try simp (disch := omega) only [v8W])))); (first | (refine hN _ _ ?_; clear hN N; (try simp (disch := omega) only [v8W])) | skip))
    rename_i dz hdz
    obtain ⟨za, zc, zR, zh⟩ := dz
    obtain ⟨k1, k2, k3, k4⟩ := hdz
    simp only at k1 k2 k3 k4 ⊢
    rw [hP9] at k1 k2
    have zl : zR.length = 9 := k4.1.trans hP9
    have zok := k4.ok
    have zt : zR.take 9 = zR := List.take_of_length_le (by omega)
    have zfx := k4.fix (fun p hp => ⟨hPw p hp, ybl p hp⟩)
    have ZL : ∀ m, Blk.heap zh ∈ m → LiesH (HM m) za (cc (.rows 6 zR)) := fun m hin => k3.mono (Hl.hm hin fun _ h => h)
    have ZP : ∀ m, Blk.heap zh ∈ m → PsR (HM m) (zR.map fixR) (P) := fun m hin => ⟨zfx.1, zfx.2.1, fun i r p hr hp => (zfx.2.2 i r p hr hp).mono fun b o h => Hl.hm hin (fun _ h => h) b o h⟩
    ((with_reducible refine Vc.seq fun N hN => ?_); (refine Vc.regiont T0_ok GWA_ok ?_); simp only [v8Y, Nat.beq, Nat.ble, Int.reduceToNat, Int.reduceLE, Int.reduceLT, Nat.reduceLT, Nat.reduceLeDiff, Nat.reduceAdd, Nat.reduceMul, Nat.reduceSub, Int.reduceAdd, Int.reduceSub, Int.reduceMul, v8S, IntKind.bits, tabs, GWA_set, yok, zok, yt, zt, yfx, List.drop_zero]; (try simp (disch := omega) only [v8W]); (repeat (first | with_reducible intro _ | ((with_reducible refine And.intro ?_ ?_); exact sX40) | ((with_reducible refine askT_of ?_ (fun hb => ?_)); exact sX40; simp only [hb, v8Y, Nat.beq, Nat.ble, Int.reduceToNat, Int.reduceLE, Int.reduceLT, Nat.reduceLT, Nat.reduceLeDiff, Nat.reduceAdd, Nat.reduceMul, Nat.reduceSub, Int.reduceAdd, Int.reduceSub, Int.reduceMul, v8S, IntKind.bits, tabs, GWA_set, yok, zok, yt, zt, yfx, List.drop_zero]; (try simp (disch := omega) only [v8W])))); (first | (refine hN _ _ ?_; clear hN N; (try simp (disch := omega) only [v8W])) | skip))
    ((repeat (first | (with_reducible first | refine Vc.seq fun N hN => ?_ | refine Vc.block ?_) | ((with_reducible first | refine Vc.skip ?_ | refine Vc.exit ?_); dsimp only [thenK, blockK, Nat.beq]; (first | (refine hN _ _ ?_; clear hN N) | skip)) | (with_reducible intro _) | ((with_reducible refine And.intro ?_ ?_); exact sdB) | ((first | ((with_reducible refine askT_of ?_ (fun hb => ?_)); exact sdB; (try simp only [hb])) | ((with_reducible refine Vc.fin ?_); dsimp only [thenK, blockK, retK, resS, resOne, resAll]) | ((with_reducible refine Vc.hold ?_); first | refine Vc.regiont T0_ok GWA_ok ?_ | refine Vc.drawt (id := 6) T0_ok GWA_ok (by kernel_rfl) [0, 1, 2, 3, 4, 5, 6, 7, 8, 9, 10, 11, 12, 13, 14, 15, 16, 17, 18, 19, 20, 21, 22, 23] 24 [] trivial (by kernel_rfl) ?_)); (try simp only [v8Y, Nat.beq, Nat.ble, Int.reduceToNat, Int.reduceLE, Int.reduceLT, Nat.reduceLT, Nat.reduceLeDiff, Nat.reduceAdd, Nat.reduceMul, Nat.reduceSub, Int.reduceAdd, Int.reduceSub, Int.reduceMul, v8S, IntKind.bits, tabs, GWA_set]); (try simp (disch := omega) only [v8W])) | ((with_reducible refine hN _ _ ?_); clear hN N; (try simp (disch := omega) only [v8W])))); (try ((with_reducible refine Fin.of ?_); (try with_reducible exact True.intro))))
    exact ⟨by simp, trivial⟩
end Go.Proofs.YthdpgfdfgidokaaDoor
