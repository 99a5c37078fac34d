/-
  Package foot: among, walked: the set of some places, and what asks it. No condition.
-/
import Derived.Test.YtdanlclhnehieaaV6
import Derived.Test.YtdanlclhnehieaaT9
import Derived.Test.YtdanlclhnehieaaHK
namespace Go.Proofs.Ytdanlclhnehieaa
set_option linter.unusedSimpArgs false
set_option linter.unusedVariables false
set_option maxHeartbeats 4000000
set_option linter.defProp false
open Go.RowKit
def anyIn (xs S : List (List Int)) : Bool := xs.any fun c => decide (c ∈ S)
def plCd (r : List SV) : List Int := (codeC ck_38 r).getD []
theorem plCd_eq {c : List Int} (h : okP c) : plCd (plL c) = c := by unfold plCd; rw [codeC_pl h]; rfl
theorem takeN_fl : ∀ (a : List SV), takeN a 0 a.length = some a
  | [] => rfl
  | x :: l => by simp only [List.length_cons, takeN, takeN_fl l]
theorem takeN_pl {c : List Int} (h : okP c) : takeN (plL c) 0 25 = some (plL c) := by have := takeN_fl (plL c); rwa [plL_len h] at this
theorem addF_getD (S : List (List Int)) (c : List Int) : (addF noF S c).getD (.agg []) = .agg [] := by
  unfold addF noF; split <;> rfl
theorem addF_isD (S : List (List Int)) (c : List Int) : (addF noF S c).isSome = decide (c ∈ S) := by
  rw [Bool.eq_iff_iff, addF_some, decide_eq_true_iff]
set_option maxRecDepth 20000 in
theorem Has_vc (b : Nat) (S : List (List Int)) (c : List Int) (hok1 : okP c) (w : World) (hm : MemOk w [] [.mo b ck_38 (addF noF S), allOld w] w) :
    Calls Try.prog 20 (cvs [.mpv 0 b, .agg (plL c)]).toArray w (fun en w' => ∃ u, en = .returned u ∧ ∃ v' m', u = cv v' ∧ MemOk w [] m' w' ∧ v' = .bool (decide (c ∈ S))) := by
  have hs := addF_isD S c
  have hg := addF_getD S c
  generalize decide (c ∈ S) = z at *
  obtain ⟨x0, x1, x2, x3, x4, x5, x6, x7, x8, x9, x10, x11, x12, x13, x14, x15, x16, x17, x18, x19, bx, k0, k1, k2, k3, hxe, p1, p2, p3⟩ := okP_forms hok1
  have hq : plL c = [.int .u8 x0, .int .u8 x1, .int .u8 x2, .int .u8 x3, .int .u8 x4, .int .u8 x5, .int .u8 x6, .int .u8 x7, .int .u8 x8, .int .u8 x9, .int .u8 x10, .int .u8 x11, .int .u8 x12, .int .u8 x13, .int .u8 x14, .int .u8 x15, .int .u8 x16, .int .u8 x17, .int .u8 x18, .int .u8 x19, .bool (decide (bx = 1)), .int .u64 k0, .int .u64 k1, .int .u64 k2, .int .u64 k3] := by rw [hxe]; rfl
  have hb := bx_code p2
  have hin : inCs ck_38 [x0, x1, x2, x3, x4, x5, x6, x7, x8, x9, x10, x11, x12, x13, x14, x15, x16, x17, x18, x19, bx, k0, k1, k2, k3] := by rw [← hxe]; exact hok1
  rw [hxe] at hs hg
  rw [hq]
  refine Vc.calls T0_ok Try.func20 rfl rfl (args := [.mpv 0 b, .agg [.int .u8 x0, .int .u8 x1, .int .u8 x2, .int .u8 x3, .int .u8 x4, .int .u8 x5, .int .u8 x6, .int .u8 x7, .int .u8 x8, .int .u8 x9, .int .u8 x10, .int .u8 x11, .int .u8 x12, .int .u8 x13, .int .u8 x14, .int .u8 x15, .int .u8 x16, .int .u8 x17, .int .u8 x18, .int .u8 x19, .bool (decide (bx = 1)), .int .u64 k0, .int .u64 k1, .int .u64 k2, .int .u64 k3]]) (k := 12) rfl hm ?_; change Vc _ _ (c8 (.mpv 0 b) (.agg [.int .u8 x0, .int .u8 x1, .int .u8 x2, .int .u8 x3, .int .u8 x4, .int .u8 x5, .int .u8 x6, .int .u8 x7, .int .u8 x8, .int .u8 x9, .int .u8 x10, .int .u8 x11, .int .u8 x12, .int .u8 x13, .int .u8 x14, .int .u8 x15, .int .u8 x16, .int .u8 x17, .int .u8 x18, .int .u8 x19, .bool (decide (bx = 1)), .int .u64 k0, .int .u64 k1, .int .u64 k2, .int .u64 k3]) .undef .undef .undef .undef .undef .undef ([.undef, .undef, .undef, .undef, .undef, .undef])) _ _
  ((repeat (first | (with_reducible refine Vc.seq fun N hN => ?_) | (with_reducible refine Vc.block ?_) | ((first | with_reducible refine Vc.skip ?_ | with_reducible refine Vc.exit ?_); dsimp only [thenK, blockK, Nat.beq]; (first | (refine hN _ _ ?_; clear hN N) | skip)) | (with_reducible intro _) | ((with_reducible refine And.intro ?_ ?_); (focus (first | ((repeat' with_reducible apply And.intro) <;> first | exact sideQ) | exact sd0))) | ((first | ((with_reducible refine askT_of ?_ (fun hb => ?_)); (focus (first | ((repeat' with_reducible apply And.intro) <;> first | exact sideQ) | exact sd0)); (try simp only [hb])) | ((with_reducible refine Vc.fin ?_); dsimp only [thenK, blockK, retK, resS, resOne, resAll]) | ((with_reducible refine Vc.hold ?_); first | refine Vc.regiont T0_ok GT1_ok ?_)); (try simp only [v8X, v8A, v8B, v8C, Nat.beq, Nat.ble, Int.reduceToNat, Int.reduceLE, Int.reduceLT, Nat.reduceLT, Nat.reduceLeDiff, Nat.reduceAdd, Nat.reduceMul, Nat.reduceSub, Int.reduceAdd, Int.reduceSub, Int.reduceMul, eq_self, decide_true, beq_self_eq_true, List.length_cons, List.length_nil, Nat.min_eq_left, IntKind.bits, tabs, GT1_set, hb, hs, hg, Nat.zero_add]); (try simp (disch := omega) only [v8W])) | ((with_reducible refine hN _ _ ?_); clear hN N; (try simp (disch := omega) only [v8W])))); (try ((with_reducible refine Fin.of ?_); (try with_reducible exact True.intro))))
  exact ⟨trivial, trivial⟩
noncomputable def g_pHas (args : List SV) (m : List Blk) : CR :=
  match args with
  | [.mpv nm b, .agg r] => match bget m nm with
    | .mo b' ks f => .pure (b' = b ∧ ks = ck_38 ∧ (∃ S, f = addF noF S) ∧ ∃ c, okP c ∧ r = plL c) (.bool (f (plCd r)).isSome)
    | _ => .none
  | _ => .none
theorem g_pHas_ok (w0 : World) (B : List Nat) (args : List SV) (m : List Blk) : CROk Try.prog w0 B 20 args m (g_pHas args m) := by
  unfold g_pHas
  split
  · rename_i nm b r
    split
    · rename_i b' ks f hb
      rintro ⟨rfl, rfl, ⟨S, rfl⟩, c, hok, rfl⟩ w hm
      have hM := (hm.each _ (bget_mem hb (by simp))).1
      have e : cvs [.mpv nm b', .agg (plL c)] = cvs [.mpv 0 b', .agg (plL c)] := rfl
      rw [e, plCd_eq hok, addF_isD]
      exact calls_pure Try.func20 rfl rfl (Has_vc b' S c hok w (mo_old hm hM))
    · exact trivial
  · exact trivial
def idxP (S : List (List Int)) : List (List Int) → Int → Int
  | [], _ => -1
  | c :: l, i => if decide (c ∈ S) = true then i else idxP S l (i + 1)
theorem idxP_drop {S l : List (List Int)} {k : Nat} {c : List Int} (h : l[k]? = some c) : idxP S (l.drop k) (k : Nat) = if decide (c ∈ S) = true then ((k : Nat) : Int) else idxP S (l.drop (k + 1)) ((k + 1 : Nat) : Int) := by
  have hk := (List.getElem?_eq_some_iff.1 h).1
  rw [List.drop_eq_getElem_cons hk, (List.getElem?_eq_some_iff.1 h).2]; rfl
theorem idxP_any (S : List (List Int)) : ∀ (l : List (List Int)) (i : Int), 0 ≤ i → decide (0 ≤ idxP S l i) = anyIn l S
  | [], i, _ => rfl
  | c :: l, i, h => by
    unfold anyIn
    rw [List.any_cons]
    cases hx : decide (c ∈ S)
    · have h1 : idxP S (c :: l) i = idxP S l (i + 1) := if_neg (by rw [hx]; exact Bool.false_ne_true)
      rw [h1, idxP_any S l (i + 1) (by omega), Bool.false_or]; rfl
    · have h1 : idxP S (c :: l) i = i := if_pos hx
      rw [h1, decide_eq_true h, Bool.true_or]
noncomputable def GI1 : Ctr := fun f args m => match f with
  | 20 => g_pHas args m
  | _ => .none
theorem GI1_ok : GOk Try.prog GI1 := by
  intro w0 B f args m; unfold GI1; split
  · exact g_pHas_ok _ _ _ _
  · exact trivial
theorem GI1_pHas : GI1 20 = g_pHas := by funext args m; rfl
def GI1_set := And.intro (@GI1_pHas) (@g_pHas.eq_def)

set_option maxRecDepth 20000 in
theorem indexP_vc (la : Option Addr) (n c : Nat) (l S : List (List Int)) (b : Nat) (w : World) (hE : PlL (H0 w) la n c l) (hM : n ≤ 1000000) (hm : MemOk w [] [.mo b ck_38 (addF noF S), allOld w] w) :
    Calls Try.prog 29 (cvs [.gh la n c (.rows 25 (l.map plL)), .fn (.func 20) [.mpv 0 b] []]).toArray w (fun en w' => ∃ u, en = .returned u ∧ ∃ v' m', u = cv v' ∧ MemOk w [] m' w' ∧ v' = .int .i64 (idxP S l 0)) := by
  obtain ⟨hl, hn, ha, hL, hok⟩ := hE
  have hLx : ∀ m, allOld w ∈ m → LiesH (HM m) la (cc (.rows 25 (l.map plL))) := fun m hin => hL.mono (H0.hm hin)
  have hrl : (l.map plL).length = n := by rw [List.length_map, hl]
  have hr25 : ∀ r ∈ l.map plL, r.length = 25 := fun r hr => by obtain ⟨c, h1, rfl⟩ := List.mem_map.1 hr; exact plL_len (hok c h1)
  refine Vc.calls T0_ok Try.func29 rfl rfl (args := [.gh la n c (.rows 25 (l.map plL)), .fn (.func 20) [.mpv 0 b] []]) (k := 17) rfl hm ?_; change Vc _ _ (c8 (.gh la n c (.rows 25 (l.map plL))) (.fn (.func 20) [.mpv 0 b] []) .undef .undef .undef .undef .undef .undef (c8 .undef .undef .undef .undef .undef .undef .undef .undef ([.undef, .undef, .undef]))) _ _
  ((repeat (first | (with_reducible refine Vc.seq fun N hN => ?_) | (with_reducible refine Vc.block ?_) | ((first | with_reducible refine Vc.skip ?_ | with_reducible refine Vc.exit ?_); dsimp only [thenK, blockK, Nat.beq]; (first | (refine hN _ _ ?_; clear hN N) | skip)) | (with_reducible intro _) | ((with_reducible refine And.intro ?_ ?_); (focus (first | ((repeat' with_reducible apply And.intro) <;> first | exact sideQ | (exact hLx _ (by simp)) | (exact hX _ (by simp)) | (exact ⟨_, rfl, hok⟩) | (exact ⟨_, rfl, hok1⟩)) | exact sd0))) | ((first | ((with_reducible refine askT_of ?_ (fun hb => ?_)); (focus (first | ((repeat' with_reducible apply And.intro) <;> first | exact sideQ | (exact hLx _ (by simp)) | (exact hX _ (by simp)) | (exact ⟨_, rfl, hok⟩) | (exact ⟨_, rfl, hok1⟩)) | exact sd0)); (try simp only [hb])) | ((with_reducible refine Vc.fin ?_); dsimp only [thenK, blockK, retK, resS, resOne, resAll]) | ((with_reducible refine Vc.hold ?_); first | refine Vc.regiont T0_ok GI1_ok ?_)); (try simp only [v8X, v8A, v8B, v8C, Nat.beq, Nat.ble, Int.reduceToNat, Int.reduceLE, Int.reduceLT, Nat.reduceLT, Nat.reduceLeDiff, Nat.reduceAdd, Nat.reduceMul, Nat.reduceSub, Int.reduceAdd, Int.reduceSub, Int.reduceMul, eq_self, decide_true, beq_self_eq_true, List.length_cons, List.length_nil, Nat.min_eq_left, IntKind.bits, tabs, GI1_set, ]); (try simp (disch := omega) only [v8W])) | ((with_reducible refine hN _ _ ?_); clear hN N; (try simp (disch := omega) only [v8W])))); (try ((with_reducible refine Fin.of ?_); (try with_reducible exact True.intro))))
  (revert N; intro N1 hN1)
  refine Vc.loop 5 19 (fun (k : Nat) => [(6, .gh la n c (.rows 25 (l.map plL))), (7, .int .i64 (n : Nat)), (8, .int .i64 (k : Nat))]) (fun k => [.mo b ck_38 (addF noF S), allOld w]) (fun k => k ≤ n ∧ idxP S (l.drop k) (k : Nat) = idxP S l 0) (fun k => n - k) 0 ⟨⟨Nat.zero_le _, by rw [List.drop_zero]; rfl⟩, ?_, ?_⟩ (fun k junk hk => ?_)
  · ((try simp only [v8X, v8A, v8B, v8C, Nat.beq, Nat.ble, Int.reduceToNat, Int.reduceLE, Int.reduceLT, Nat.reduceLT, Nat.reduceLeDiff, Nat.reduceAdd, Nat.reduceMul, Nat.reduceSub, Int.reduceAdd, Int.reduceSub, Int.reduceMul, eq_self, decide_true, beq_self_eq_true, List.length_cons, List.length_nil, Nat.min_eq_left, IntKind.bits, tabs]); (repeat' with_reducible apply And.intro) <;> first | with_reducible exact True.intro | rfl | with_reducible rfl | (congr 1 <;> omega) | trivial)
  · ((try simp only [v8X, v8A, v8B, v8C, Nat.beq, Nat.ble, Int.reduceToNat, Int.reduceLE, Int.reduceLT, Nat.reduceLT, Nat.reduceLeDiff, Nat.reduceAdd, Nat.reduceMul, Nat.reduceSub, Int.reduceAdd, Int.reduceSub, Int.reduceMul, eq_self, decide_true, beq_self_eq_true, List.length_cons, List.length_nil, Nat.min_eq_left, IntKind.bits, tabs]); (repeat' with_reducible apply And.intro) <;> first | with_reducible exact True.intro | rfl | with_reducible rfl | (congr 1 <;> omega) | trivial)
  · obtain ⟨k1, k2⟩ := hk
    (simp only [v8X, v8A, v8B, v8C, Nat.beq, Nat.ble, Int.reduceToNat, Int.reduceLE, Int.reduceLT, Nat.reduceLT, Nat.reduceLeDiff, Nat.reduceAdd, Nat.reduceMul, Nat.reduceSub, Int.reduceAdd, Int.reduceSub, Int.reduceMul, eq_self, decide_true, beq_self_eq_true, List.length_cons, List.length_nil, Nat.min_eq_left, IntKind.bits, tabs])
    by_cases hc1 : k < n
    · have d1 : decide ((k : Int) < (n : Int)) = true := decide_eq_true (by omega)
      have tk : ((k : Nat) : Int).toNat = k := by omega
      have e1 := List.getElem?_eq_getElem (show k < l.length by omega)
      have hgd : (l.map plL).getD k [] = plL l[k] := by rw [List.getD_eq_getElem?_getD, List.getElem?_map, e1]; rfl
      have hok1 := hok l[k] (List.getElem_mem _)
      rw [idxP_drop e1] at k2
      generalize l[k] = x at *
      have hcd := plCd_eq hok1
      have hl25 := takeN_pl hok1
      have his := addF_isD S x
      have hex : ∃ c, okP c ∧ plL x = plL c := ⟨x, hok1, rfl⟩
      have heS : ∃ S', addF noF S = addF noF S' := ⟨S, rfl⟩
      cases h1 : decide (x ∈ S)
      · rw [if_neg (by rw [h1]; exact Bool.false_ne_true)] at k2
        ((repeat (first | (with_reducible refine Vc.seq fun N hN => ?_) | (with_reducible refine Vc.block ?_) | ((first | with_reducible refine Vc.skip ?_ | with_reducible refine Vc.exit ?_); dsimp only [thenK, blockK, Nat.beq]; (first | (refine hN _ _ ?_; clear hN N) | skip)) | (with_reducible intro _) | ((with_reducible refine And.intro ?_ ?_); (focus (first | ((repeat' with_reducible apply And.intro) <;> first | exact sideQ | (exact hLx _ (by simp)) | (exact hX _ (by simp)) | (exact ⟨_, rfl, hok⟩) | (exact ⟨_, rfl, hok1⟩)) | exact sd0))) | ((first | ((with_reducible refine askT_of ?_ (fun hb => ?_)); (focus (first | ((repeat' with_reducible apply And.intro) <;> first | exact sideQ | (exact hLx _ (by simp)) | (exact hX _ (by simp)) | (exact ⟨_, rfl, hok⟩) | (exact ⟨_, rfl, hok1⟩)) | exact sd0)); (try simp only [hb])) | ((with_reducible refine Vc.fin ?_); dsimp only [thenK, blockK, retK, resS, resOne, resAll]) | ((with_reducible refine Vc.hold ?_); first | refine Vc.regiont T0_ok GI1_ok ?_)); (try simp only [v8X, v8A, v8B, v8C, Nat.beq, Nat.ble, Int.reduceToNat, Int.reduceLE, Int.reduceLT, Nat.reduceLT, Nat.reduceLeDiff, Nat.reduceAdd, Nat.reduceMul, Nat.reduceSub, Int.reduceAdd, Int.reduceSub, Int.reduceMul, eq_self, decide_true, beq_self_eq_true, List.length_cons, List.length_nil, Nat.min_eq_left, IntKind.bits, tabs, GI1_set, d1]); (try simp (disch := omega) only [v8W])) | ((with_reducible refine hN _ _ ?_); clear hN N; (try simp (disch := omega) only [v8W])))); (try ((with_reducible refine Fin.of ?_); (try with_reducible exact True.intro))))
        (refine Vc.cond T0_ok (t := true) (by rfl) (fun _ => ?_) (fun h => Bool.noConfusion h))
        ((repeat (first | (with_reducible refine Vc.seq fun N hN => ?_) | (with_reducible refine Vc.block ?_) | ((first | with_reducible refine Vc.skip ?_ | with_reducible refine Vc.exit ?_); dsimp only [thenK, blockK, Nat.beq]; (first | (refine hN _ _ ?_; clear hN N) | skip)) | (with_reducible intro _) | ((with_reducible refine And.intro ?_ ?_); (focus (first | ((repeat' with_reducible apply And.intro) <;> first | exact sideQ | (exact hLx _ (by simp)) | (exact hX _ (by simp)) | (exact ⟨_, rfl, hok⟩) | (exact ⟨_, rfl, hok1⟩)) | exact sd0))) | ((first | ((with_reducible refine askT_of ?_ (fun hb => ?_)); (focus (first | ((repeat' with_reducible apply And.intro) <;> first | exact sideQ | (exact hLx _ (by simp)) | (exact hX _ (by simp)) | (exact ⟨_, rfl, hok⟩) | (exact ⟨_, rfl, hok1⟩)) | exact sd0)); (try simp only [hb])) | ((with_reducible refine Vc.fin ?_); dsimp only [thenK, blockK, retK, resS, resOne, resAll]) | ((with_reducible refine Vc.hold ?_); first | refine Vc.regiont T0_ok GI1_ok ?_)); (try simp only [v8X, v8A, v8B, v8C, Nat.beq, Nat.ble, Int.reduceToNat, Int.reduceLE, Int.reduceLT, Nat.reduceLT, Nat.reduceLeDiff, Nat.reduceAdd, Nat.reduceMul, Nat.reduceSub, Int.reduceAdd, Int.reduceSub, Int.reduceMul, eq_self, decide_true, beq_self_eq_true, List.length_cons, List.length_nil, Nat.min_eq_left, IntKind.bits, tabs, GI1_set, tk, hgd, hcd, his, h1, hl25]); (try simp (disch := omega) only [v8W])) | ((with_reducible refine hN _ _ ?_); clear hN N; (try simp (disch := omega) only [v8W])))); (try ((with_reducible refine Fin.of ?_); (try with_reducible exact True.intro))))
        (refine Vc.cond T0_ok (t := false) (by rfl) (fun h => Bool.noConfusion h) (fun _ => ?_))
        ((repeat (first | (with_reducible refine Vc.seq fun N hN => ?_) | (with_reducible refine Vc.block ?_) | ((first | with_reducible refine Vc.skip ?_ | with_reducible refine Vc.exit ?_); dsimp only [thenK, blockK, Nat.beq]; (first | (refine hN _ _ ?_; clear hN N) | skip)) | (with_reducible intro _) | ((with_reducible refine And.intro ?_ ?_); (focus (first | ((repeat' with_reducible apply And.intro) <;> first | exact sideQ | (exact hLx _ (by simp)) | (exact hX _ (by simp)) | (exact ⟨_, rfl, hok⟩) | (exact ⟨_, rfl, hok1⟩)) | exact sd0))) | ((first | ((with_reducible refine askT_of ?_ (fun hb => ?_)); (focus (first | ((repeat' with_reducible apply And.intro) <;> first | exact sideQ | (exact hLx _ (by simp)) | (exact hX _ (by simp)) | (exact ⟨_, rfl, hok⟩) | (exact ⟨_, rfl, hok1⟩)) | exact sd0)); (try simp only [hb])) | ((with_reducible refine Vc.fin ?_); dsimp only [thenK, blockK, retK, resS, resOne, resAll]) | ((with_reducible refine Vc.hold ?_); first | refine Vc.regiont T0_ok GI1_ok ?_)); (try simp only [v8X, v8A, v8B, v8C, Nat.beq, Nat.ble, Int.reduceToNat, Int.reduceLE, Int.reduceLT, Nat.reduceLT, Nat.reduceLeDiff, Nat.reduceAdd, Nat.reduceMul, Nat.reduceSub, Int.reduceAdd, Int.reduceSub, Int.reduceMul, eq_self, decide_true, beq_self_eq_true, List.length_cons, List.length_nil, Nat.min_eq_left, IntKind.bits, tabs, GI1_set, ]); (try simp (disch := omega) only [v8W])) | ((with_reducible refine hN _ _ ?_); clear hN N; (try simp (disch := omega) only [v8W])))); (try ((with_reducible refine Fin.of ?_); (try with_reducible exact True.intro))))
        refine ⟨k + 1, ⟨by omega, k2⟩, ?_, ?_, by omega⟩
        · ((try simp only [v8X, v8A, v8B, v8C, Nat.beq, Nat.ble, Int.reduceToNat, Int.reduceLE, Int.reduceLT, Nat.reduceLT, Nat.reduceLeDiff, Nat.reduceAdd, Nat.reduceMul, Nat.reduceSub, Int.reduceAdd, Int.reduceSub, Int.reduceMul, eq_self, decide_true, beq_self_eq_true, List.length_cons, List.length_nil, Nat.min_eq_left, IntKind.bits, tabs]); (repeat' with_reducible apply And.intro) <;> first | with_reducible exact True.intro | rfl | (congr 1 <;> omega))
        · ((try simp only [v8X, v8A, v8B, v8C, Nat.beq, Nat.ble, Int.reduceToNat, Int.reduceLE, Int.reduceLT, Nat.reduceLT, Nat.reduceLeDiff, Nat.reduceAdd, Nat.reduceMul, Nat.reduceSub, Int.reduceAdd, Int.reduceSub, Int.reduceMul, eq_self, decide_true, beq_self_eq_true, List.length_cons, List.length_nil, Nat.min_eq_left, IntKind.bits, tabs]); (repeat' with_reducible apply And.intro) <;> first | with_reducible exact True.intro | rfl | (congr 1 <;> omega))
      · rw [if_pos h1] at k2
        ((repeat (first | (with_reducible refine Vc.seq fun N hN => ?_) | (with_reducible refine Vc.block ?_) | ((first | with_reducible refine Vc.skip ?_ | with_reducible refine Vc.exit ?_); dsimp only [thenK, blockK, Nat.beq]; (first | (refine hN _ _ ?_; clear hN N) | skip)) | (with_reducible intro _) | ((with_reducible refine And.intro ?_ ?_); (focus (first | ((repeat' with_reducible apply And.intro) <;> first | exact sideQ | (exact hLx _ (by simp)) | (exact hX _ (by simp)) | (exact ⟨_, rfl, hok⟩) | (exact ⟨_, rfl, hok1⟩)) | exact sd0))) | ((first | ((with_reducible refine askT_of ?_ (fun hb => ?_)); (focus (first | ((repeat' with_reducible apply And.intro) <;> first | exact sideQ | (exact hLx _ (by simp)) | (exact hX _ (by simp)) | (exact ⟨_, rfl, hok⟩) | (exact ⟨_, rfl, hok1⟩)) | exact sd0)); (try simp only [hb])) | ((with_reducible refine Vc.fin ?_); dsimp only [thenK, blockK, retK, resS, resOne, resAll]) | ((with_reducible refine Vc.hold ?_); first | refine Vc.regiont T0_ok GI1_ok ?_)); (try simp only [v8X, v8A, v8B, v8C, Nat.beq, Nat.ble, Int.reduceToNat, Int.reduceLE, Int.reduceLT, Nat.reduceLT, Nat.reduceLeDiff, Nat.reduceAdd, Nat.reduceMul, Nat.reduceSub, Int.reduceAdd, Int.reduceSub, Int.reduceMul, eq_self, decide_true, beq_self_eq_true, List.length_cons, List.length_nil, Nat.min_eq_left, IntKind.bits, tabs, GI1_set, d1]); (try simp (disch := omega) only [v8W])) | ((with_reducible refine hN _ _ ?_); clear hN N; (try simp (disch := omega) only [v8W])))); (try ((with_reducible refine Fin.of ?_); (try with_reducible exact True.intro))))
        (refine Vc.cond T0_ok (t := true) (by rfl) (fun _ => ?_) (fun h => Bool.noConfusion h))
        ((repeat (first | (with_reducible refine Vc.seq fun N hN => ?_) | (with_reducible refine Vc.block ?_) | ((first | with_reducible refine Vc.skip ?_ | with_reducible refine Vc.exit ?_); dsimp only [thenK, blockK, Nat.beq]; (first | (refine hN _ _ ?_; clear hN N) | skip)) | (with_reducible intro _) | ((with_reducible refine And.intro ?_ ?_); (focus (first | ((repeat' with_reducible apply And.intro) <;> first | exact sideQ | (exact hLx _ (by simp)) | (exact hX _ (by simp)) | (exact ⟨_, rfl, hok⟩) | (exact ⟨_, rfl, hok1⟩)) | exact sd0))) | ((first | ((with_reducible refine askT_of ?_ (fun hb => ?_)); (focus (first | ((repeat' with_reducible apply And.intro) <;> first | exact sideQ | (exact hLx _ (by simp)) | (exact hX _ (by simp)) | (exact ⟨_, rfl, hok⟩) | (exact ⟨_, rfl, hok1⟩)) | exact sd0)); (try simp only [hb])) | ((with_reducible refine Vc.fin ?_); dsimp only [thenK, blockK, retK, resS, resOne, resAll]) | ((with_reducible refine Vc.hold ?_); first | refine Vc.regiont T0_ok GI1_ok ?_)); (try simp only [v8X, v8A, v8B, v8C, Nat.beq, Nat.ble, Int.reduceToNat, Int.reduceLE, Int.reduceLT, Nat.reduceLT, Nat.reduceLeDiff, Nat.reduceAdd, Nat.reduceMul, Nat.reduceSub, Int.reduceAdd, Int.reduceSub, Int.reduceMul, eq_self, decide_true, beq_self_eq_true, List.length_cons, List.length_nil, Nat.min_eq_left, IntKind.bits, tabs, GI1_set, tk, hgd, hcd, his, h1, hl25]); (try simp (disch := omega) only [v8W])) | ((with_reducible refine hN _ _ ?_); clear hN N; (try simp (disch := omega) only [v8W])))); (try ((with_reducible refine Fin.of ?_); (try with_reducible exact True.intro))))
        (refine Vc.cond T0_ok (t := true) (by rfl) (fun _ => ?_) (fun h => Bool.noConfusion h))
        ((repeat (first | (with_reducible refine Vc.seq fun N hN => ?_) | (with_reducible refine Vc.block ?_) | ((first | with_reducible refine Vc.skip ?_ | with_reducible refine Vc.exit ?_); dsimp only [thenK, blockK, Nat.beq]; (first | (refine hN _ _ ?_; clear hN N) | skip)) | (with_reducible intro _) | ((with_reducible refine And.intro ?_ ?_); (focus (first | ((repeat' with_reducible apply And.intro) <;> first | exact sideQ | (exact hLx _ (by simp)) | (exact hX _ (by simp)) | (exact ⟨_, rfl, hok⟩) | (exact ⟨_, rfl, hok1⟩)) | exact sd0))) | ((first | ((with_reducible refine askT_of ?_ (fun hb => ?_)); (focus (first | ((repeat' with_reducible apply And.intro) <;> first | exact sideQ | (exact hLx _ (by simp)) | (exact hX _ (by simp)) | (exact ⟨_, rfl, hok⟩) | (exact ⟨_, rfl, hok1⟩)) | exact sd0)); (try simp only [hb])) | ((with_reducible refine Vc.fin ?_); dsimp only [thenK, blockK, retK, resS, resOne, resAll]) | ((with_reducible refine Vc.hold ?_); first | refine Vc.regiont T0_ok GI1_ok ?_)); (try simp only [v8X, v8A, v8B, v8C, Nat.beq, Nat.ble, Int.reduceToNat, Int.reduceLE, Int.reduceLT, Nat.reduceLT, Nat.reduceLeDiff, Nat.reduceAdd, Nat.reduceMul, Nat.reduceSub, Int.reduceAdd, Int.reduceSub, Int.reduceMul, eq_self, decide_true, beq_self_eq_true, List.length_cons, List.length_nil, Nat.min_eq_left, IntKind.bits, tabs, GI1_set, ]); (try simp (disch := omega) only [v8W])) | ((with_reducible refine hN _ _ ?_); clear hN N; (try simp (disch := omega) only [v8W])))); (try ((with_reducible refine Fin.of ?_); (try with_reducible exact True.intro))))
        exact ⟨trivial, by rw [k2]⟩
    · have d1 : decide ((k : Int) < (n : Int)) = false := decide_eq_false (by omega)
      obtain rfl : k = n := by omega
      rw [List.drop_eq_nil_of_le (by omega)] at k2
      simp only [idxP] at k2
      ((repeat (first | (with_reducible refine Vc.seq fun N hN => ?_) | (with_reducible refine Vc.block ?_) | ((first | with_reducible refine Vc.skip ?_ | with_reducible refine Vc.exit ?_); dsimp only [thenK, blockK, Nat.beq]; (first | (refine hN _ _ ?_; clear hN N) | skip)) | (with_reducible intro _) | ((with_reducible refine And.intro ?_ ?_); (focus (first | ((repeat' with_reducible apply And.intro) <;> first | exact sideQ | (exact hLx _ (by simp)) | (exact hX _ (by simp)) | (exact ⟨_, rfl, hok⟩) | (exact ⟨_, rfl, hok1⟩)) | exact sd0))) | ((first | ((with_reducible refine askT_of ?_ (fun hb => ?_)); (focus (first | ((repeat' with_reducible apply And.intro) <;> first | exact sideQ | (exact hLx _ (by simp)) | (exact hX _ (by simp)) | (exact ⟨_, rfl, hok⟩) | (exact ⟨_, rfl, hok1⟩)) | exact sd0)); (try simp only [hb])) | ((with_reducible refine Vc.fin ?_); dsimp only [thenK, blockK, retK, resS, resOne, resAll]) | ((with_reducible refine Vc.hold ?_); first | refine Vc.regiont T0_ok GI1_ok ?_)); (try simp only [v8X, v8A, v8B, v8C, Nat.beq, Nat.ble, Int.reduceToNat, Int.reduceLE, Int.reduceLT, Nat.reduceLT, Nat.reduceLeDiff, Nat.reduceAdd, Nat.reduceMul, Nat.reduceSub, Int.reduceAdd, Int.reduceSub, Int.reduceMul, eq_self, decide_true, beq_self_eq_true, List.length_cons, List.length_nil, Nat.min_eq_left, IntKind.bits, tabs, GI1_set, d1]); (try simp (disch := omega) only [v8W])) | ((with_reducible refine hN _ _ ?_); clear hN N; (try simp (disch := omega) only [v8W])))); (try ((with_reducible refine Fin.of ?_); (try with_reducible exact True.intro))))
      (refine Vc.cond T0_ok (t := false) (by rfl) (fun h => Bool.noConfusion h) (fun _ => ?_))
      ((repeat (first | (with_reducible refine Vc.seq fun N hN => ?_) | (with_reducible refine Vc.block ?_) | ((first | with_reducible refine Vc.skip ?_ | with_reducible refine Vc.exit ?_); dsimp only [thenK, blockK, Nat.beq]; (first | (refine hN _ _ ?_; clear hN N) | skip)) | (with_reducible intro _) | ((with_reducible refine And.intro ?_ ?_); (focus (first | ((repeat' with_reducible apply And.intro) <;> first | exact sideQ | (exact hLx _ (by simp)) | (exact hX _ (by simp)) | (exact ⟨_, rfl, hok⟩) | (exact ⟨_, rfl, hok1⟩)) | exact sd0))) | ((first | ((with_reducible refine askT_of ?_ (fun hb => ?_)); (focus (first | ((repeat' with_reducible apply And.intro) <;> first | exact sideQ | (exact hLx _ (by simp)) | (exact hX _ (by simp)) | (exact ⟨_, rfl, hok⟩) | (exact ⟨_, rfl, hok1⟩)) | exact sd0)); (try simp only [hb])) | ((with_reducible refine Vc.fin ?_); dsimp only [thenK, blockK, retK, resS, resOne, resAll]) | ((with_reducible refine Vc.hold ?_); first | refine Vc.regiont T0_ok GI1_ok ?_)); (try simp only [v8X, v8A, v8B, v8C, Nat.beq, Nat.ble, Int.reduceToNat, Int.reduceLE, Int.reduceLT, Nat.reduceLT, Nat.reduceLeDiff, Nat.reduceAdd, Nat.reduceMul, Nat.reduceSub, Int.reduceAdd, Int.reduceSub, Int.reduceMul, eq_self, decide_true, beq_self_eq_true, List.length_cons, List.length_nil, Nat.min_eq_left, IntKind.bits, tabs, GI1_set]); (try simp (disch := omega) only [v8W])) | ((with_reducible refine hN _ _ ?_); clear hN N; (try simp (disch := omega) only [v8W])))); (try ((with_reducible refine Fin.of ?_); (try with_reducible exact True.intro))))
      (refine hN1 _ _ ?_; (try clear hN N); clear hN1 N1)
      ((repeat (first | (with_reducible refine Vc.seq fun N hN => ?_) | (with_reducible refine Vc.block ?_) | ((first | with_reducible refine Vc.skip ?_ | with_reducible refine Vc.exit ?_); dsimp only [thenK, blockK, Nat.beq]; (first | (refine hN _ _ ?_; clear hN N) | skip)) | (with_reducible intro _) | ((with_reducible refine And.intro ?_ ?_); (focus (first | ((repeat' with_reducible apply And.intro) <;> first | exact sideQ | (exact hLx _ (by simp)) | (exact hX _ (by simp)) | (exact ⟨_, rfl, hok⟩) | (exact ⟨_, rfl, hok1⟩)) | exact sd0))) | ((first | ((with_reducible refine askT_of ?_ (fun hb => ?_)); (focus (first | ((repeat' with_reducible apply And.intro) <;> first | exact sideQ | (exact hLx _ (by simp)) | (exact hX _ (by simp)) | (exact ⟨_, rfl, hok⟩) | (exact ⟨_, rfl, hok1⟩)) | exact sd0)); (try simp only [hb])) | ((with_reducible refine Vc.fin ?_); dsimp only [thenK, blockK, retK, resS, resOne, resAll]) | ((with_reducible refine Vc.hold ?_); first | refine Vc.regiont T0_ok GI1_ok ?_)); (try simp only [v8X, v8A, v8B, v8C, Nat.beq, Nat.ble, Int.reduceToNat, Int.reduceLE, Int.reduceLT, Nat.reduceLT, Nat.reduceLeDiff, Nat.reduceAdd, Nat.reduceMul, Nat.reduceSub, Int.reduceAdd, Int.reduceSub, Int.reduceMul, eq_self, decide_true, beq_self_eq_true, List.length_cons, List.length_nil, Nat.min_eq_left, IntKind.bits, tabs, GI1_set]); (try simp (disch := omega) only [v8W])) | ((with_reducible refine hN _ _ ?_); clear hN N; (try simp (disch := omega) only [v8W])))); (try ((with_reducible refine Fin.of ?_); (try with_reducible exact True.intro))))
      exact ⟨trivial, by rw [← k2]⟩
noncomputable def g_indexP (args : List SV) (m : List Blk) : CR :=
  match args with
  | [.gh la n c (.rows 25 rs), .fn (.func 20) [.mpv nm b] []] => match bget m nm with
    | .mo b' ks f => .pure (b' = b ∧ ks = ck_38 ∧ n ≤ 1000000 ∧ ∃ l S, f = addF noF S ∧ rs = l.map plL ∧ PlL (HM m) la n c l) (.int .i64 (idxP ((plsOf rs).filter fun c => (f c).isSome) (plsOf rs) 0))
    | _ => .none
  | _ => .none
theorem idxP_filter (S : List (List Int)) (f : List Int → Bool) : ∀ (l k : List (List Int)) (i : Int), (∀ c ∈ k, c ∈ l) → (∀ c, f c = decide (c ∈ S)) → idxP (l.filter f) k i = idxP S k i
  | l, [], i, _, _ => rfl
  | l, c :: k, i, h1, h2 => by
    have h3 : decide (c ∈ l.filter f) = decide (c ∈ S) := by
      rw [← h2 c, Bool.eq_iff_iff, decide_eq_true_iff, List.mem_filter]
      exact ⟨fun h => h.2, fun h => ⟨h1 c List.mem_cons_self, h⟩⟩
    unfold idxP
    rw [h3, idxP_filter S f l k _ (fun x hx => h1 x (List.mem_cons_of_mem _ hx)) h2]
theorem g_indexP_ok (w0 : World) (B : List Nat) (args : List SV) (m : List Blk) : CROk Try.prog w0 B 29 args m (g_indexP args m) := by
  unfold g_indexP
  split
  · rename_i la n c rs nm b
    split
    · rename_i b' ks f hb
      rintro ⟨rfl, rfl, hM, l, S, rfl, rfl, hE⟩ w hm
      have hMp := (hm.each _ (bget_mem hb (by simp))).1
      have e : cvs [.gh la n c (.rows 25 (l.map plL)), .fn (.func 20) [.mpv nm b'] []] = cvs [.gh la n c (.rows 25 (l.map plL)), .fn (.func 20) [.mpv 0 b'] []] := rfl
      rw [e, plsOf_eq hE.ok, idxP_filter S (fun c => (addF noF S c).isSome) l l 0 (fun _ h => h) (fun c => addF_isD S c)]
      exact calls_pure Try.func29 rfl rfl (indexP_vc la n c l S b' w (hE.mono fun b o h => hm.hm h) hM (mo_old hm hMp))
    · exact trivial
  · exact trivial
noncomputable def GI2 : Ctr := fun f args m => match f with
  | 29 => g_indexP args m
  | _ => .none
theorem GI2_ok : GOk Try.prog GI2 := by
  intro w0 B f args m; unfold GI2; split
  · exact g_indexP_ok _ _ _ _
  · exact trivial
theorem GI2_indexP : GI2 29 = g_indexP := by funext args m; rfl
def GI2_set := And.intro (@GI2_indexP) (@g_indexP.eq_def)

set_option maxRecDepth 20000 in
theorem contP_vc (la : Option Addr) (n c : Nat) (l S : List (List Int)) (b : Nat) (w : World) (hE : PlL (H0 w) la n c l) (hM : n ≤ 1000000) (hm : MemOk w [] [.mo b ck_38 (addF noF S), allOld w] w) :
    Calls Try.prog 19 (cvs [.gh la n c (.rows 25 (l.map plL)), .fn (.func 20) [.mpv 0 b] []]).toArray w (fun en w' => ∃ u, en = .returned u ∧ ∃ v' m', u = cv v' ∧ MemOk w [] m' w' ∧ v' = .bool (anyIn l S)) := by
  have hX : ∀ m, allOld w ∈ m → PlL (HM m) la n c l := fun m hin => hE.mono (H0.hm hin)
  have hXx : ∀ m, allOld w ∈ m → ∃ l' S', addF noF S = addF noF S' ∧ l.map plL = l'.map plL ∧ PlL (HM m) la n c l' := fun m hin => ⟨l, S, rfl, rfl, hX m hin⟩
  have e0 := plsOf_eq hE.ok
  have e1 := idxP_any S l 0 (Int.le_refl _)
  have e2 := idxP_filter S (fun c => (addF noF S c).isSome) l l 0 (fun _ h => h) (fun c => addF_isD S c)
  refine Vc.calls T0_ok Try.func19 rfl rfl (args := [.gh la n c (.rows 25 (l.map plL)), .fn (.func 20) [.mpv 0 b] []]) (k := 7) rfl hm ?_; change Vc _ _ (c8 (.gh la n c (.rows 25 (l.map plL))) (.fn (.func 20) [.mpv 0 b] []) .undef .undef .undef .undef .undef .undef ([.undef])) _ _
  ((repeat (first | (with_reducible refine Vc.seq fun N hN => ?_) | (with_reducible refine Vc.block ?_) | ((first | with_reducible refine Vc.skip ?_ | with_reducible refine Vc.exit ?_); dsimp only [thenK, blockK, Nat.beq]; (first | (refine hN _ _ ?_; clear hN N) | skip)) | (with_reducible intro _) | ((with_reducible refine And.intro ?_ ?_); (focus (first | ((repeat' with_reducible apply And.intro) <;> first | exact sideQ | (exact hXx _ (by simp))) | exact sd0))) | ((first | ((with_reducible refine askT_of ?_ (fun hb => ?_)); (focus (first | ((repeat' with_reducible apply And.intro) <;> first | exact sideQ | (exact hXx _ (by simp))) | exact sd0)); (try simp only [hb])) | ((with_reducible refine Vc.fin ?_); dsimp only [thenK, blockK, retK, resS, resOne, resAll]) | ((with_reducible refine Vc.hold ?_); first | refine Vc.regiont T0_ok GI2_ok ?_)); (try simp only [v8X, v8A, v8B, v8C, Nat.beq, Nat.ble, Int.reduceToNat, Int.reduceLE, Int.reduceLT, Nat.reduceLT, Nat.reduceLeDiff, Nat.reduceAdd, Nat.reduceMul, Nat.reduceSub, Int.reduceAdd, Int.reduceSub, Int.reduceMul, eq_self, decide_true, beq_self_eq_true, List.length_cons, List.length_nil, Nat.min_eq_left, IntKind.bits, tabs, GI2_set, e0, e2, e1]); (try simp (disch := omega) only [v8W])) | ((with_reducible refine hN _ _ ?_); clear hN N; (try simp (disch := omega) only [v8W])))); (try ((with_reducible refine Fin.of ?_); (try with_reducible exact True.intro))))
  exact ⟨trivial, trivial⟩
noncomputable def g_contP (args : List SV) (m : List Blk) : CR :=
  match args with
  | [.gh la n c (.rows 25 rs), .fn (.func 20) [.mpv nm b] []] => match bget m nm with
    | .mo b' ks f => .pure (b' = b ∧ ks = ck_38 ∧ n ≤ 1000000 ∧ ∃ l S, f = addF noF S ∧ rs = l.map plL ∧ PlL (HM m) la n c l) (.bool ((plsOf rs).any fun c => (f c).isSome))
    | _ => .none
  | _ => .none
theorem any_isSome (S l : List (List Int)) : (l.any fun c => (addF noF S c).isSome) = anyIn l S := by
  unfold anyIn
  congr 1
  funext c
  exact addF_isD S c
theorem g_contP_ok (w0 : World) (B : List Nat) (args : List SV) (m : List Blk) : CROk Try.prog w0 B 19 args m (g_contP args m) := by
  unfold g_contP
  split
  · rename_i la n c rs nm b
    split
    · rename_i b' ks f hb
      rintro ⟨rfl, rfl, hM, l, S, rfl, rfl, hE⟩ w hm
      have hMp := (hm.each _ (bget_mem hb (by simp))).1
      have e : cvs [.gh la n c (.rows 25 (l.map plL)), .fn (.func 20) [.mpv nm b'] []] = cvs [.gh la n c (.rows 25 (l.map plL)), .fn (.func 20) [.mpv 0 b'] []] := rfl
      rw [e, plsOf_eq hE.ok, any_isSome]
      exact calls_pure Try.func19 rfl rfl (contP_vc la n c l S b' w (hE.mono fun b o h => hm.hm h) hM (mo_old hm hMp))
    · exact trivial
  · exact trivial
def AmgC (H : Nat → Obj → Prop) (b : Nat) (S : List (List Int)) : Prop := ∃ mb o, LiesH H (some ⟨b, 0, none⟩) (cc (.cells [.mpv 0 mb])) ∧ H mb o ∧ ∀ w : World, w.heap[mb]? = some o → MapIs w mb ck_38 (fun c => (addF noF S c).map cv)
theorem AmgC.mono {H H' : Nat → Obj → Prop} {b : Nat} {S : List (List Int)} (h : AmgC H b S) (hH : ∀ b o, H b o → H' b o) : AmgC H' b S := by
  obtain ⟨mb, o, h1, h2, h3⟩ := h
  exact ⟨mb, o, h1.mono hH, hH _ _ h2, h3⟩
noncomputable def GI3 : Ctr := fun f args m => match f with
  | 19 => g_contP args m
  | _ => .none
theorem GI3_ok : GOk Try.prog GI3 := by
  intro w0 B f args m; unfold GI3; split
  · exact g_contP_ok _ _ _ _
  · exact trivial
theorem GI3_contP : GI3 19 = g_contP := by funext args m; rfl
def GI3_set := And.intro (@GI3_contP) (@g_contP.eq_def)

set_option maxRecDepth 20000 in
theorem amg1_vc (la : Option Addr) (n c : Nat) (l S : List (List Int)) (b mb : Nat) (w : World) (hE : PlL (H0 w) la n c l) (hM : n ≤ 1000000) (hb : LiesH (H0 w) (some ⟨b, 0, none⟩) (cc (.cells [.mpv 0 mb]))) (hm : MemOk w [] [.mo mb ck_38 (addF noF S), allOld w] w) :
    Calls Try.prog 18 (cvs [.gh la n c (.rows 25 (l.map plL)), .gp (some ⟨b, 0, none⟩) (.cells [.mpv 0 mb]) 0 0 0]).toArray w (fun en w' => ∃ u, en = .returned u ∧ ∃ v' m', u = cv v' ∧ MemOk w [] m' w' ∧ v' = .bool (anyIn l S)) := by
  have hX : ∀ m, allOld w ∈ m → LiesH (HM m) (some ⟨b, 0, none⟩) (cc (.cells [.mpv 0 mb])) := fun m hin => hb.mono (H0.hm hin)
  have hXx : ∀ m, allOld w ∈ m → ∃ l' S', addF noF S = addF noF S' ∧ l.map plL = l'.map plL ∧ PlL (HM m) la n c l' := fun m hin => ⟨l, S, rfl, rfl, hE.mono (H0.hm hin)⟩
  have e0 := plsOf_eq hE.ok
  have e1 := any_isSome S l
  clear hb hE
  refine Vc.calls T0_ok Try.func18 rfl rfl (args := [.gh la n c (.rows 25 (l.map plL)), .gp (some ⟨b, 0, none⟩) (.cells [.mpv 0 mb]) 0 0 0]) (k := 6) rfl hm ?_; change Vc _ _ (c8 (.gh la n c (.rows 25 (l.map plL))) (.gp (some ⟨b, 0, none⟩) (.cells [.mpv 0 mb]) 0 0 0) .undef .undef .undef .undef .undef .undef ([])) _ _
  ((repeat (first | (with_reducible refine Vc.seq fun N hN => ?_) | (with_reducible refine Vc.block ?_) | ((first | with_reducible refine Vc.skip ?_ | with_reducible refine Vc.exit ?_); dsimp only [thenK, blockK, Nat.beq]; (first | (refine hN _ _ ?_; clear hN N) | skip)) | (with_reducible intro _) | ((with_reducible refine And.intro ?_ ?_); (focus (first | ((repeat' with_reducible apply And.intro) <;> first | exact sideQ | (exact hX _ (by simp)) | (exact hXx _ (by simp))) | exact sd0))) | ((first | ((with_reducible refine askT_of ?_ (fun hb => ?_)); (focus (first | ((repeat' with_reducible apply And.intro) <;> first | exact sideQ | (exact hX _ (by simp)) | (exact hXx _ (by simp))) | exact sd0)); (try simp only [hb])) | ((with_reducible refine Vc.fin ?_); dsimp only [thenK, blockK, retK, resS, resOne, resAll]) | ((with_reducible refine Vc.hold ?_); first | refine Vc.regiont T0_ok GI3_ok ?_)); (try simp only [v8X, v8A, v8B, v8C, Nat.beq, Nat.ble, Int.reduceToNat, Int.reduceLE, Int.reduceLT, Nat.reduceLT, Nat.reduceLeDiff, Nat.reduceAdd, Nat.reduceMul, Nat.reduceSub, Int.reduceAdd, Int.reduceSub, Int.reduceMul, eq_self, decide_true, beq_self_eq_true, List.length_cons, List.length_nil, Nat.min_eq_left, IntKind.bits, tabs, GI3_set, e0, e1]); (try simp (disch := omega) only [v8W])) | ((with_reducible refine hN _ _ ?_); clear hN N; (try simp (disch := omega) only [v8W])))); (try ((with_reducible refine Fin.of ?_); (try with_reducible exact True.intro))))
  exact ⟨trivial, trivial⟩
def srcN (x : SV) (m : List Blk) : Option (Prop × Nat × Con) := match x with
  | .nilsl => some (True, 0, .rows 25 [])
  | x => srcC x m
theorem srcN_nil {m : List Blk} : srcN .nilsl m = some (True, 0, .rows 25 []) := Eq.trans rfl rfl
theorem srcN_gh {a : Option Addr} {n c : Nat} {con : Con} {m : List Blk} : srcN (.gh a n c con) m = srcC (.gh a n c con) m := Eq.trans rfl rfl
theorem srcN_own {n k : Nat} {v : Value} {m : List Blk} : srcN (.own k v n) m = srcC (.own k v n) m := Eq.trans rfl rfl
theorem srcN_sl {nm st st0 es len cap : Nat} {a : Option Addr} {m : List Blk} : srcN (.sl nm a st st0 es len cap) m = srcC (.sl nm a st st0 es len cap) m := Eq.trans rfl rfl
def srcNs := And.intro @srcN_nil <| And.intro @srcN_gh <| And.intro @srcN_own @srcN_sl
theorem srcN_pl {x : SV} {m : List Blk} {q : Prop} {k : Nat} {l : List (List Int)} (h : srcN x m = some (q, k, .rows 25 (l.map plL))) (hq : q) (hok : ∀ c ∈ l, okP c) {w0 : World} {B : List Nat} {w : World} (hm : MemOk w0 B m w) :
    ∃ a cp, cv x = cv (.gh a k cp (.rows 25 (l.map plL))) ∧ PlL (H0 w) a k cp l := by
  unfold srcN at h
  split at h
  · simp only [Option.some.injEq, Prod.mk.injEq, Con.rows.injEq, true_and] at h
    obtain ⟨_, rfl, h2⟩ := h
    have : l = [] := by
      have := congrArg List.length h2
      simp at this
      exact List.length_eq_zero_iff.1 this.symm
    subst this
    exact ⟨none, 0, rfl, rfl, Nat.le_refl _, .inr ⟨rfl, rfl, rfl⟩, .inl rfl, fun _ h => absurd h List.not_mem_nil⟩
  · obtain ⟨l1, a, cp, ex, b1, m1, d1⟩ := src_ro h hq hm
    refine ⟨a, cp, ?_, ?_, b1, d1, lies_of_ro m1, hok⟩
    · rw [ex]; cases a <;> simp [cv, addr_add, conEs, Addr.add]
    · rw [rows25 hok] at l1
      simp only [conEs] at l1
      omega
noncomputable def g_amg1 (args : List SV) (m : List Blk) : CR :=
  match args with
  | [x, .gp (some ⟨b, 0, none⟩) (.rows 25 ss) 0 0 0] => match srcN x m with
    | some (q, k, .rows 25 rs) => .pure (q ∧ k ≤ 1000000 ∧ (∃ l : List (List Int), rs = l.map plL ∧ ∀ x ∈ l, okP x) ∧ ∃ S : List (List Int), ss = S.map plL ∧ (∀ x ∈ S, okP x) ∧ AmgC (HM m) b S) (.bool (anyIn (plsOf rs) (plsOf ss)))
    | _ => .none
  | _ => .none
theorem g_amg1_ok (w0 : World) (B : List Nat) (args : List SV) (m : List Blk) : CROk Try.prog w0 B 18 args m (g_amg1 args m) := by
  unfold g_amg1
  split
  · rename_i x b ss
    split
    · rename_i q k rs hs
      rintro ⟨hq, hk, ⟨l, rfl, hok⟩, S, rfl, hSo, hA⟩ w hm
      obtain ⟨a, cp, ex, hE⟩ := srcN_pl hs hq hok hm
      obtain ⟨mb, o, h1, h2, h3⟩ := hA.mono (fun b o h => hm.hm h)
      have hM := h3 w h2
      have e : cvs [x, .gp (some ⟨b, 0, none⟩) (.rows 25 (S.map plL)) 0 0 0] = cvs [.gh a k cp (.rows 25 (l.map plL)), .gp (some ⟨b, 0, none⟩) (.cells [.mpv 0 mb]) 0 0 0] := by simp only [cvs]; rw [ex]; rfl
      rw [e, plsOf_eq hok, plsOf_eq hSo]
      exact calls_pure Try.func18 rfl rfl (amg1_vc a k cp l S b mb w hE hk h1 (mo_old hm hM))
    · exact trivial
  · exact trivial
structure AmX where
  b : Nat
  h : List (Nat × Obj)
noncomputable def GI4 : Ctr := fun f args m => match f with
  | 11 => g_setAdd args m
  | _ => .none
theorem GI4_ok : GOk Try.prog GI4 := by
  intro w0 B f args m; unfold GI4; split
  · exact g_setAdd_ok _ _ _ _
  · exact trivial
theorem GI4_setAdd : GI4 11 = g_setAdd := by funext args m; rfl
def GI4_set := And.intro (@GI4_setAdd) (@g_setAdd.eq_def)

set_option maxRecDepth 20000 in
theorem among_vc (la : Option Addr) (n c : Nat) (l : List (List Int)) (w : World) (hE : PlL (H0 w) la n c l) (hM : n ≤ 1000000) :
    Calls Try.prog 13 (cvs [.gh la n c (.rows 25 (l.map plL))]).toArray w (fun en w' => ∃ u, en = .returned u ∧ ∃ v' m', u = cv v' ∧ MemOk w [] m' w' ∧ ∃ b mb i j, v' = .fn (.func 18) [] [.ptr i b 0 0 0 0] ∧
      bget m' i = .blk b 40 (.cells [.mpv j mb]) ∧ bget m' j = .mp mb ck_38 (addF noF l)) := by
  obtain ⟨hl, hn, ha, hL, hok⟩ := hE
  have hLx : ∀ m, allOld w ∈ m → LiesH (HM m) la (cc (.rows 25 (l.map plL))) := fun m hin => hL.mono (H0.hm hin)
  have e0 := plsOf_eq hok
  have r0 := rowsOk_pl hok
  have hrl : (l.map plL).length = n := by rw [List.length_map, hl]
  have z1 := List.take_of_length_le (show (l.map plL).length ≤ n by omega)
  refine Vc.calls T0_ok Try.func13 rfl rfl (args := [.gh la n c (.rows 25 (l.map plL))]) (k := 8) rfl (old_start w) ?_; change Vc _ _ (c8 (.gh la n c (.rows 25 (l.map plL))) .undef .undef .undef .undef .undef .undef .undef ([.undef])) _ _
  ((repeat (first | (with_reducible refine Vc.seq fun N hN => ?_) | (with_reducible refine Vc.block ?_) | ((first | with_reducible refine Vc.skip ?_ | with_reducible refine Vc.exit ?_); dsimp only [thenK, blockK, Nat.beq]; (first | (refine hN _ _ ?_; clear hN N) | skip)) | (with_reducible intro _) | ((with_reducible refine And.intro ?_ ?_); (focus (first | ((repeat' with_reducible apply And.intro) <;> first | exact sideQ | (exact hLx _ (by simp)) | (exact hX _ (by simp)) | (exact ⟨_, rfl, hok⟩) | (exact ⟨_, rfl, hok1⟩)) | exact sd0))) | ((first | ((with_reducible refine askT_of ?_ (fun hb => ?_)); (focus (first | ((repeat' with_reducible apply And.intro) <;> first | exact sideQ | (exact hLx _ (by simp)) | (exact hX _ (by simp)) | (exact ⟨_, rfl, hok⟩) | (exact ⟨_, rfl, hok1⟩)) | exact sd0)); (try simp only [hb])) | ((with_reducible refine Vc.fin ?_); dsimp only [thenK, blockK, retK, resS, resOne, resAll]) | ((with_reducible refine Vc.hold ?_); first | refine Vc.regiont T0_ok GI4_ok ?_)); (try simp only [v8X, v8A, v8B, v8C, Nat.beq, Nat.ble, Int.reduceToNat, Int.reduceLE, Int.reduceLT, Nat.reduceLT, Nat.reduceLeDiff, Nat.reduceAdd, Nat.reduceMul, Nat.reduceSub, Int.reduceAdd, Int.reduceSub, Int.reduceMul, eq_self, decide_true, beq_self_eq_true, List.length_cons, List.length_nil, Nat.min_eq_left, IntKind.bits, tabs, GI4_set, e0, r0, z1, List.drop_zero]); (try simp (disch := omega) only [v8W])) | ((with_reducible refine hN _ _ ?_); clear hN N; (try simp (disch := omega) only [v8W])))); (try ((with_reducible refine Fin.of ?_); (try with_reducible exact True.intro))))
  exact ⟨by simp, _, _, _, _, rfl, rfl, rfl⟩
noncomputable def g_among (args : List SV) (m : List Blk) : CR :=
  match args with
  | [x] => match srcN x m with
    | some (q, k, .rows 25 rs) => .grw (q ∧ k ≤ 1000000 ∧ ∃ l : List (List Int), rs = l.map plL ∧ ∀ x ∈ l, okP x) AmX (fun a => AmgC (Hl a.h) a.b (plsOf rs)) (fun a => .fn (.func 18) [] [.gp (some ⟨a.b, 0, none⟩) (.rows 25 rs) 0 0 0]) (fun a => .heap a.h)
    | _ => .none
  | _ => .none
theorem g_among_ok (w0 : World) (B : List Nat) (args : List SV) (m : List Blk) : CROk Try.prog w0 B 13 args m (g_among args m) := by
  unfold g_among
  split
  · rename_i x
    split
    · rename_i q k rs hs
      rintro ⟨hq, hk, l, rfl, hok⟩ w hm
      obtain ⟨a, cp, ex, hE⟩ := srcN_pl hs hq hok hm
      have e : cvs [x] = cvs [.gh a k cp (.rows 25 (l.map plL))] := by simp only [cvs]; rw [ex]
      rw [e, plsOf_eq hok]
      refine .inr ⟨enter_run Try.func13 rfl rfl _ w, (among_vc a k cp l w hE hk).mono fun en w' ⟨u, he, v', m', hu, hm', b, mb, i, j, hv, hi, hj⟩ => ?_⟩
      have h1 := hm'.each _ (bget_mem hi (by simp))
      have h2 := hm'.each _ (bget_mem hj (by simp))
      obtain ⟨es, ck, g1, g2, g3⟩ := h2.1
      have f1 : w.heap.size ≤ b := h1.2.resolve_right List.not_mem_nil
      have f2 : w.heap.size ≤ mb := h2.2.resolve_right List.not_mem_nil
      have hne : b ≠ mb := by
        rintro rfl
        have h5 := h1.1
        rw [g1] at h5
        exact absurd h5 (by simp)
      refine ⟨u, he, ⟨b, [(b, .cells (cc (.cells [.mpv j mb])).toArray 40 (0, 0)), (mb, .map es ck)]⟩, ?_, ?_, hm'.grown, ?_, ?_, ?_⟩
      · refine ⟨mb, .map es ck, .inr ⟨b, 0, _, _, _, rfl, List.mem_cons_self, fun j u hj => ?_⟩, List.mem_cons_of_mem _ List.mem_cons_self, fun w hw => ⟨es, ck, hw, g2, g3⟩⟩
        rw [Nat.zero_add, List.getElem?_toArray, ← hj]; rfl
      · rw [hu, hv]; rfl
      · intro p hp
        simp only [List.mem_cons, List.not_mem_nil, or_false] at hp
        rcases hp with rfl | rfl
        · exact ⟨h1.1, .inl (Nat.le_trans hm.size f1)⟩
        · exact ⟨g1, .inl (Nat.le_trans hm.size f2)⟩
      · intro z hz
        simp [Blk.nums] at hz
        rcases hz with rfl | rfl
        · exact f1
        · exact f2
      · simp [Blk.nums, hne]
    · exact trivial
  · exact trivial
end Go.Proofs.Ytdanlclhnehieaa
