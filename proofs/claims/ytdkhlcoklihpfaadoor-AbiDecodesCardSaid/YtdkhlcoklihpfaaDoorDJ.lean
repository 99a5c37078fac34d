/-
  ABI: what was encoded is decoded again; parts that a law is handed; how much they are. No condition.
-/
import Derived.Test.YtdkhlcoklihpfaaDoorDF
import Derived.Test.YtdkhlcoklihpfaaDoorFV
namespace Go.Proofs.YtdkhlcoklihpfaaDoor
set_option linter.unusedSimpArgs false
set_option linter.unusedVariables false
set_option maxHeartbeats 4000000
set_option maxRecDepth 10000
open Go.RowKit Go.ChangeShapes Go.WideShapes Go.ChangeAt
theorem readN_word {a : Nat} (ha : a < W) : readN (bytI a 32) = a := by
  unfold readN
  rw [bytI_len, show 32 - 32 = 0 from rfl, List.drop_zero, rdI_bytI]
  exact Nat.mod_eq_of_lt (by unfold W at ha; omega)
/-- A part, as it is decoded. -/
def nrm (p : Prt) : Prt := if p.d = true then ⟨true, 0, p.bs⟩ else ⟨false, p.w, []⟩
theorem fold_app (N : Nat) : ∀ (l : List Prt) (s : List Int × List Int), ∃ X Y, l.foldl (stE N) s = (s.1 ++ X, s.2 ++ Y)
  | [], s => ⟨[], [], by simp⟩
  | p :: l, s => by
    obtain ⟨X, Y, h⟩ := fold_app N l (stE N s p)
    unfold stE at h
    simp only [List.foldl_cons]
    unfold stE
    split at h <;> rename_i hd
    · rw [if_pos hd]
      exact ⟨_, _, by rw [h, List.append_assoc, List.append_assoc]⟩
    · rw [if_neg hd]
      exact ⟨_, _, by rw [h, List.append_assoc]⟩
theorem enc_at {l : List Prt} {i : Nat} {p : Prt} (h : l[i]? = some p) : ∃ X Y, encS l.length l = ((stE l.length (encS l.length (l.take i)) p).1 ++ X, (stE l.length (encS l.length (l.take i)) p).2 ++ Y) := by
  obtain ⟨X, Y, e⟩ := fold_app l.length (l.drop (i + 1)) (stE l.length (encS l.length (l.take i)) p)
  refine ⟨X, Y, ?_⟩
  rw [← e, ← encS_s h]
  unfold encS
  rw [← List.foldl_append, List.take_append_drop]
theorem drop_at {α : Type} {x y : List α} {n : Nat} (h : x.length = n) : (x ++ y).drop n = y := by rw [← h]; exact List.drop_left
theorem take_at {α : Type} {x y : List α} {n : Nat} (h : x.length = n) : (x ++ y).take n = x := by rw [← h]; exact List.take_left
/-- A part of what was encoded is decoded. -/
theorem back_part {l : List Prt} {i : Nat} {p : Prt} (more : List Int) (h : l[i]? = some p) (hw : p.d = false → p.w < W) (hz : psz l ≤ 100000) : prtO (abEnc l ++ more) p.d (hdW (abEnc l ++ more) i) = some (nrm p) := by
  obtain ⟨X, Y, hE⟩ := enc_at h
  have hil : i < l.length := (List.getElem?_eq_some_iff.1 h).1
  obtain ⟨q1, q2, q3⟩ := encS_len l.length (l.take i)
  have hpt := psz_take l i
  have hpl := psz_len l
  have hpg := psz_get h
  rw [List.length_take, Nat.min_eq_left (by omega)] at q1
  have qa := (encS_len l.length l).1
  generalize encS l.length (l.take i) = s at *
  obtain ⟨hs, ts⟩ := s
  simp only at q1 q2 q3
  cases hd : p.d with
  | false =>
    have e1 : stE l.length (hs, ts) p = (hs ++ bytI p.w 32, ts) := by unfold stE; rw [if_neg (by rw [hd]; simp)]
    rw [e1] at hE
    have e2 : abEnc l ++ more = hs ++ (bytI p.w 32 ++ (X ++ (ts ++ Y) ++ more)) := by unfold abEnc; rw [hE]; simp only [List.append_assoc]
    have e3 : hdW (abEnc l ++ more) i = p.w := by
      unfold hdW
      rw [e2, drop_at q1, take_at (bytI_len _ _)]
      exact readN_word (hw hd)
    unfold prtO nrm
    rw [e3, hd]; rfl
  | true =>
    have e1 : stE l.length (hs, ts) p = (hs ++ bytI (32 * l.length + ts.length) 32, ts ++ abTail p.bs) := by unfold stE; rw [if_pos hd]
    rw [e1] at hE
    have hN : (hs ++ bytI (32 * l.length + ts.length) 32 ++ X).length = 32 * l.length := by rw [hE] at qa; exact qa
    have e2 : abEnc l ++ more = hs ++ (bytI (32 * l.length + ts.length) 32 ++ (X ++ (ts ++ abTail p.bs ++ Y) ++ more)) := by unfold abEnc; rw [hE]; simp only [List.append_assoc]
    have e4 : abEnc l ++ more = (hs ++ bytI (32 * l.length + ts.length) 32 ++ X ++ ts) ++ (bytI p.bs.length 32 ++ (p.bs ++ (List.replicate (padN p.bs.length) 0 ++ Y ++ more))) := by rw [e2]; unfold abTail; simp only [List.append_assoc]
    have hl4 : (hs ++ bytI (32 * l.length + ts.length) 32 ++ X ++ ts).length = 32 * l.length + ts.length := by rw [List.length_append, hN]
    have e3 : hdW (abEnc l ++ more) i = 32 * l.length + ts.length := by
      unfold hdW
      rw [e2, drop_at q1, take_at (bytI_len _ _)]
      exact readN_word (by unfold W; omega)
    have hsm : smN (32 * l.length + ts.length) = 32 * l.length + ts.length := if_pos (by omega)
    have hsb : smB (32 * l.length + ts.length) = true := decide_eq_true (by omega)
    have hsm2 : smN p.bs.length = p.bs.length := if_pos (by omega)
    have hsb2 : smB p.bs.length = true := decide_eq_true (by omega)
    have e5 : (abEnc l ++ more).drop (32 * l.length + ts.length) = bytI p.bs.length 32 ++ (p.bs ++ (List.replicate (padN p.bs.length) 0 ++ Y ++ more)) := by rw [e4, drop_at hl4]
    have e6 : readN ((bytI p.bs.length 32 ++ (p.bs ++ (List.replicate (padN p.bs.length) 0 ++ Y ++ more))).take 32) = p.bs.length := by rw [take_at (bytI_len _ _)]; exact readN_word (by unfold W; omega)
    have e7 : (bytI p.bs.length 32 ++ (p.bs ++ (List.replicate (padN p.bs.length) 0 ++ Y ++ more))).drop 32 = p.bs ++ (List.replicate (padN p.bs.length) 0 ++ Y ++ more) := drop_at (bytI_len _ _)
    have ht : tailO (abEnc l ++ more) (32 * l.length + ts.length) = some p.bs := by
      unfold tailO
      rw [hsm, e5, e6, e7, hsm2, take_at rfl]
      refine if_pos ⟨?_, ?_, ?_⟩
      · unfold cutB
        rw [hsb, hsm, Bool.true_and, decide_eq_true_eq, e4, List.length_append, hl4]; omega
      · rw [List.length_append, bytI_len]; omega
      · unfold cutB
        rw [hsb2, hsm2, Bool.true_and, decide_eq_true_eq, List.length_append]; omega
    unfold prtO nrm
    rw [e3, hd]
    simp only [ht, if_true]
theorem upR_all {α : Type} {f : Nat → Option α} {g : List α} : ∀ n, n ≤ g.length → (∀ i, i < n → f i = g[i]?) → upR f n = some (g.take n)
  | 0, _, _ => by simp [upR]
  | n + 1, hn, h => by
    have e := List.getElem?_eq_getElem (show n < g.length by omega)
    rw [upR_s (upR_all n (by omega) fun i hi => h i (by omega)) ((h n (by omega)).trans e), take_more e]
/-- What was encoded is decoded, whatever stands behind. -/
theorem abDec_enc (l : List Prt) (more : List Int) (hw : ∀ p ∈ l, p.d = false → p.w < W) (hz : psz l ≤ 100000) : abDec (abEnc l ++ more) (l.map fun p => p.d) = some (l.map nrm) := by
  unfold abDec
  have hlen : 32 * l.length ≤ (abEnc l ++ more).length := by
    unfold abEnc
    rw [List.length_append, List.length_append, (encS_len l.length l).1]; omega
  rw [if_neg (by rw [List.length_map]; omega)]
  have := upR_all (f := prtF (abEnc l ++ more) (l.map fun p => p.d)) (g := l.map nrm) l.length (by simp) (fun i hi => by
    have e := List.getElem?_eq_getElem hi
    unfold prtF
    rw [List.getD_eq_getElem?_getD, List.getElem?_map, List.getElem?_map, e]
    exact back_part more e (hw _ (List.getElem_mem _)) hz)
  rw [List.length_map, this, List.take_of_length_le (by simp)]
/-- How much parts are, as far as it is looked at. -/
def muG : List Prt → Int → Int
  | [], n => n
  | p :: l, n => if n ≤ 2000 then muG l (n + (min (p.bs.length : Int) 2000 + 1)) else n
def muA (l : List Prt) : Bool := decide (2000 < muG l l.length)
theorem muG_big : ∀ (l : List Prt) (n : Int), 2000 < n → muG l n = n
  | [], _, _ => rfl
  | p :: l, n, h => if_neg (by omega)
theorem muG_psz : ∀ (l : List Prt) (n : Int), 0 ≤ n → muG l n ≤ 2000 → n + psz l ≤ 2000
  | [], n, _, h => by simp only [muG] at h; simp only [psz]; omega
  | p :: l, n, h0, h => by
    by_cases hn : n ≤ 2000
    · simp only [muG, if_pos hn] at h
      have := muG_psz l _ (by omega) h
      simp only [psz]; omega
    · rw [muG_big _ _ (by omega)] at h; omega
theorem muA_no {l : List Prt} (h : muA l = false) : psz l ≤ 2000 ∧ l.length ≤ 2000 := by
  unfold muA at h
  have := muG_psz l _ (by omega) (Int.not_lt.1 (of_decide_eq_false h))
  have h2 := psz_len l
  constructor <;> omega
set_option maxRecDepth 20000 in
theorem much_vc (a : Option Addr) (n c : Nat) (rs : List (List SV)) (l : List Prt) (hl : l.length = n) (hn : n ≤ c) (ha : adr a n c) (hm : n ≤ maxLen) (w : World) (hL : LiesH (H0 w) a (cc (.rows 6 rs))) (hR : PsR (H0 w) rs l) :
    Calls Tryd.prog 9 (cvs [.gh a n c (.rows 6 rs)]).toArray w (fun en w' => ∃ u, en = .returned u ∧ ∃ v' m', u = cv v' ∧ MemOk w [] m' w' ∧ v' = .bool (muA l)) := by
  obtain ⟨r1, r2, r3⟩ := hR
  unfold maxLen at hm
  have hLx : ∀ m, allOld w ∈ m → LiesH (HM m) a (cc (.rows 6 rs)) := fun m hin => hL.mono (H0.hm hin)
  refine Vc.calls T0_ok Tryd.func9 rfl rfl (args := [.gh a n c (.rows 6 rs)]) (k := 28) rfl (old_start w) ?_; change Vc _ _ (c8 (.gh a n c (.rows 6 rs)) .undef .undef .undef .undef .undef .undef .undef (c8 .undef .undef .undef .undef .undef .undef .undef .undef (c8 .undef .undef .undef .undef .undef .undef .undef .undef ([.undef, .undef, .undef, .undef, .undef])))) _ _
  ((repeat (first | (with_reducible refine Vc.seq fun N hN => ?_) | (with_reducible refine Vc.block ?_) | ((first | with_reducible refine Vc.skip ?_ | with_reducible refine Vc.exit ?_); dsimp only [thenK, blockK, Nat.beq]; (first | (refine hN _ _ ?_; clear hN N) | skip)) | (with_reducible intro _) | ((with_reducible refine And.intro ?_ ?_); (focus (first | exact sideQ | exact sd0))) | ((first | ((with_reducible refine askT_of ?_ (fun hb => ?_)); (focus (first | exact sideQ | exact sd0)); (try simp only [hb])) | ((with_reducible refine Vc.fin ?_); dsimp only [thenK, blockK, retK, resS, resOne, resAll]) | ((with_reducible refine Vc.hold ?_); first | refine Vc.regiont T0_ok GDF_ok ?_)); (try simp only [v8X, v8A, v8B, v8C, Nat.beq, Nat.ble, Int.reduceToNat, Int.reduceLE, Int.reduceLT, Nat.reduceLT, Nat.reduceLeDiff, Nat.reduceAdd, Nat.reduceMul, Nat.reduceSub, Int.reduceAdd, Int.reduceSub, Int.reduceMul, eq_self, decide_true, beq_self_eq_true, List.length_cons, List.length_nil, Nat.min_eq_left, IntKind.bits, tabs, GDF_set]); (try simp (disch := omega) only [v8W])) | ((with_reducible refine hN _ _ ?_); clear hN N; (try simp (disch := omega) only [v8W])))); (try ((with_reducible refine Fin.of ?_); (try with_reducible exact True.intro))))
  (revert N; intro N1 hN1)
  refine Vc.loop 3 29 (fun (x : Nat × Int) => [(3, .int .i64 x.2), (4, .int .i64 (x.1 : Nat))]) (fun x => [allOld w]) (fun x => x.1 ≤ n ∧ 0 ≤ x.2 ∧ (x.2 ≤ n ∨ x.2 ≤ 5000) ∧ muG (l.drop x.1) x.2 = muG l n) (fun x => n - x.1) (0, (n : Int)) ⟨⟨Nat.zero_le _, by simp only; omega, .inl (Int.le_refl _), by simp⟩, ?_, ?_⟩ (fun x junk hx2 => ?_)
  · ((try simp only [v8X, v8A, v8B, v8C, Nat.beq, Nat.ble, Int.reduceToNat, Int.reduceLE, Int.reduceLT, Nat.reduceLT, Nat.reduceLeDiff, Nat.reduceAdd, Nat.reduceMul, Nat.reduceSub, Int.reduceAdd, Int.reduceSub, Int.reduceMul, eq_self, decide_true, beq_self_eq_true, List.length_cons, List.length_nil, Nat.min_eq_left, IntKind.bits, tabs]); (repeat' with_reducible apply And.intro) <;> first | with_reducible exact True.intro | rfl | with_reducible rfl | (congr 1 <;> omega) | trivial)
  · ((try simp only [v8X, v8A, v8B, v8C, Nat.beq, Nat.ble, Int.reduceToNat, Int.reduceLE, Int.reduceLT, Nat.reduceLT, Nat.reduceLeDiff, Nat.reduceAdd, Nat.reduceMul, Nat.reduceSub, Int.reduceAdd, Int.reduceSub, Int.reduceMul, eq_self, decide_true, beq_self_eq_true, List.length_cons, List.length_nil, Nat.min_eq_left, IntKind.bits, tabs]); (repeat' with_reducible apply And.intro) <;> first | with_reducible exact True.intro | rfl | with_reducible rfl | (congr 1 <;> omega) | trivial)
  · obtain ⟨k, s⟩ := x
    simp only at hx2 ⊢
    obtain ⟨k1, k2, k3, k4⟩ := hx2
    (simp only [v8X, v8A, v8B, v8C, Nat.beq, Nat.ble, Int.reduceToNat, Int.reduceLE, Int.reduceLT, Nat.reduceLT, Nat.reduceLeDiff, Nat.reduceAdd, Nat.reduceMul, Nat.reduceSub, Int.reduceAdd, Int.reduceSub, Int.reduceMul, eq_self, decide_true, beq_self_eq_true, List.length_cons, List.length_nil, Nat.min_eq_left, IntKind.bits, tabs])
    by_cases hc1 : k < n
    · have d1 : decide ((k : Int) < (n : Int)) = true := decide_eq_true (by omega)
      have e1 := List.getElem?_eq_getElem (show k < rs.length by omega)
      have e2 := List.getElem?_eq_getElem (show k < l.length by omega)
      have hp := r3 k _ _ e1 e2
      have hgd := getD_of e1
      have hdk : l.drop k = l[k] :: l.drop (k + 1) := List.drop_eq_getElem_cons (by omega)
      have tk : ((k : Nat) : Int).toNat = k := by omega
      generalize rs[k] = r at *
      generalize l[k] = p at *
      obtain ⟨x0, x1, x2, x3, pa, pn, pc, rfl, g1, g2, g3, g4, g5, g6, g7, g8⟩ := hp
      unfold maxLen at g8
      rw [hdk] at k4
      by_cases hs : s ≤ 2000
      · have d2 : decide (s ≤ 2000) = true := decide_eq_true hs
        simp only [muG, if_pos hs] at k4
        rw [g3] at k4
        ((repeat (first | (with_reducible refine Vc.seq fun N hN => ?_) | (with_reducible refine Vc.block ?_) | ((first | with_reducible refine Vc.skip ?_ | with_reducible refine Vc.exit ?_); dsimp only [thenK, blockK, Nat.beq]; (first | (refine hN _ _ ?_; clear hN N) | skip)) | (with_reducible intro _) | ((with_reducible refine And.intro ?_ ?_); (focus (first | exact sideQ | exact sd0))) | ((first | ((with_reducible refine askT_of ?_ (fun hb => ?_)); (focus (first | exact sideQ | exact sd0)); (try simp only [hb])) | ((with_reducible refine Vc.fin ?_); dsimp only [thenK, blockK, retK, resS, resOne, resAll]) | ((with_reducible refine Vc.hold ?_); first | refine Vc.regiont T0_ok GDF_ok ?_)); (try simp only [v8X, v8A, v8B, v8C, Nat.beq, Nat.ble, Int.reduceToNat, Int.reduceLE, Int.reduceLT, Nat.reduceLT, Nat.reduceLeDiff, Nat.reduceAdd, Nat.reduceMul, Nat.reduceSub, Int.reduceAdd, Int.reduceSub, Int.reduceMul, eq_self, decide_true, beq_self_eq_true, List.length_cons, List.length_nil, Nat.min_eq_left, IntKind.bits, tabs, GDF_set, d1, d2]); (try simp (disch := omega) only [v8W])) | ((with_reducible refine hN _ _ ?_); clear hN N; (try simp (disch := omega) only [v8W])))); (try ((with_reducible refine Fin.of ?_); (try with_reducible exact True.intro))))
        (refine Vc.cond T0_ok (t := true) (by rfl) (fun _ => ?_) (fun h => Bool.noConfusion h))
        ((repeat (first | (with_reducible refine Vc.seq fun N hN => ?_) | (with_reducible refine Vc.block ?_) | ((first | with_reducible refine Vc.skip ?_ | with_reducible refine Vc.exit ?_); dsimp only [thenK, blockK, Nat.beq]; (first | (refine hN _ _ ?_; clear hN N) | skip)) | (with_reducible intro _) | ((with_reducible refine And.intro ?_ ?_); (focus (first | ((repeat' with_reducible apply And.intro) <;> first | exact sideQ | (exact hLx _ (by simp))) | exact sd0))) | ((first | ((with_reducible refine askT_of ?_ (fun hb => ?_)); (focus (first | ((repeat' with_reducible apply And.intro) <;> first | exact sideQ | (exact hLx _ (by simp))) | exact sd0)); (try simp only [hb])) | ((with_reducible refine Vc.fin ?_); dsimp only [thenK, blockK, retK, resS, resOne, resAll]) | ((with_reducible refine Vc.hold ?_); first | refine Vc.regiont T0_ok GDF_ok ?_)); (try simp only [v8X, v8A, v8B, v8C, Nat.beq, Nat.ble, Int.reduceToNat, Int.reduceLE, Int.reduceLT, Nat.reduceLT, Nat.reduceLeDiff, Nat.reduceAdd, Nat.reduceMul, Nat.reduceSub, Int.reduceAdd, Int.reduceSub, Int.reduceMul, eq_self, decide_true, beq_self_eq_true, List.length_cons, List.length_nil, Nat.min_eq_left, IntKind.bits, tabs, GDF_set, d1, d2, tk, hgd]); (try simp (disch := omega) only [v8W])) | ((with_reducible refine hN _ _ ?_); clear hN N; (try simp (disch := omega) only [v8W])))); (try ((with_reducible refine Fin.of ?_); (try with_reducible exact True.intro))))
        have hmin : (if (2000 : Int) < (pn : Int) then (2000 : Int) else (pn : Int)) = min (pn : Int) 2000 := by split <;> omega
        rw [hmin]
        refine ⟨(k + 1, s + (min (pn : Int) 2000 + 1)), ⟨by simp only; omega, by simp only; omega, by simp only; omega, k4⟩, ?_, ?_, by simp only; omega⟩
        · ((try simp only [v8X, v8A, v8B, v8C, Nat.beq, Nat.ble, Int.reduceToNat, Int.reduceLE, Int.reduceLT, Nat.reduceLT, Nat.reduceLeDiff, Nat.reduceAdd, Nat.reduceMul, Nat.reduceSub, Int.reduceAdd, Int.reduceSub, Int.reduceMul, eq_self, decide_true, beq_self_eq_true, List.length_cons, List.length_nil, Nat.min_eq_left, IntKind.bits, tabs]); (repeat' with_reducible apply And.intro) <;> first | with_reducible exact True.intro | rfl | (congr 1 <;> omega))
        · ((try simp only [v8X, v8A, v8B, v8C, Nat.beq, Nat.ble, Int.reduceToNat, Int.reduceLE, Int.reduceLT, Nat.reduceLT, Nat.reduceLeDiff, Nat.reduceAdd, Nat.reduceMul, Nat.reduceSub, Int.reduceAdd, Int.reduceSub, Int.reduceMul, eq_self, decide_true, beq_self_eq_true, List.length_cons, List.length_nil, Nat.min_eq_left, IntKind.bits, tabs]); (repeat' with_reducible apply And.intro) <;> first | with_reducible exact True.intro | rfl | (congr 1 <;> omega))
      · have d2 : decide (s ≤ 2000) = false := decide_eq_false hs
        have hfin : muA l = true := decide_eq_true (by rw [hl, ← k4, muG_big _ _ (by omega)]; omega)
        have d3 : decide (2000 < s) = true := decide_eq_true (by omega)
        ((repeat (first | (with_reducible refine Vc.seq fun N hN => ?_) | (with_reducible refine Vc.block ?_) | ((first | with_reducible refine Vc.skip ?_ | with_reducible refine Vc.exit ?_); dsimp only [thenK, blockK, Nat.beq]; (first | (refine hN _ _ ?_; clear hN N) | skip)) | (with_reducible intro _) | ((with_reducible refine And.intro ?_ ?_); (focus (first | exact sideQ | exact sd0))) | ((first | ((with_reducible refine askT_of ?_ (fun hb => ?_)); (focus (first | exact sideQ | exact sd0)); (try simp only [hb])) | ((with_reducible refine Vc.fin ?_); dsimp only [thenK, blockK, retK, resS, resOne, resAll]) | ((with_reducible refine Vc.hold ?_); first | refine Vc.regiont T0_ok GDF_ok ?_)); (try simp only [v8X, v8A, v8B, v8C, Nat.beq, Nat.ble, Int.reduceToNat, Int.reduceLE, Int.reduceLT, Nat.reduceLT, Nat.reduceLeDiff, Nat.reduceAdd, Nat.reduceMul, Nat.reduceSub, Int.reduceAdd, Int.reduceSub, Int.reduceMul, eq_self, decide_true, beq_self_eq_true, List.length_cons, List.length_nil, Nat.min_eq_left, IntKind.bits, tabs, GDF_set, d1, d2]); (try simp (disch := omega) only [v8W])) | ((with_reducible refine hN _ _ ?_); clear hN N; (try simp (disch := omega) only [v8W])))); (try ((with_reducible refine Fin.of ?_); (try with_reducible exact True.intro))))
        (refine Vc.cond T0_ok (t := false) (by rfl) (fun h => Bool.noConfusion h) (fun _ => ?_))
        ((repeat (first | (with_reducible refine Vc.seq fun N hN => ?_) | (with_reducible refine Vc.block ?_) | ((first | with_reducible refine Vc.skip ?_ | with_reducible refine Vc.exit ?_); dsimp only [thenK, blockK, Nat.beq]; (first | (refine hN _ _ ?_; clear hN N) | skip)) | (with_reducible intro _) | ((with_reducible refine And.intro ?_ ?_); (focus (first | exact sideQ | exact sd0))) | ((first | ((with_reducible refine askT_of ?_ (fun hb => ?_)); (focus (first | exact sideQ | exact sd0)); (try simp only [hb])) | ((with_reducible refine Vc.fin ?_); dsimp only [thenK, blockK, retK, resS, resOne, resAll]) | ((with_reducible refine Vc.hold ?_); first | refine Vc.regiont T0_ok GDF_ok ?_)); (try simp only [v8X, v8A, v8B, v8C, Nat.beq, Nat.ble, Int.reduceToNat, Int.reduceLE, Int.reduceLT, Nat.reduceLT, Nat.reduceLeDiff, Nat.reduceAdd, Nat.reduceMul, Nat.reduceSub, Int.reduceAdd, Int.reduceSub, Int.reduceMul, eq_self, decide_true, beq_self_eq_true, List.length_cons, List.length_nil, Nat.min_eq_left, IntKind.bits, tabs, GDF_set]); (try simp (disch := omega) only [v8W])) | ((with_reducible refine hN _ _ ?_); clear hN N; (try simp (disch := omega) only [v8W])))); (try ((with_reducible refine Fin.of ?_); (try with_reducible exact True.intro))))
        (refine hN1 _ _ ?_; (try clear hN N); clear hN1 N1)
        ((repeat (first | (with_reducible refine Vc.seq fun N hN => ?_) | (with_reducible refine Vc.block ?_) | ((first | with_reducible refine Vc.skip ?_ | with_reducible refine Vc.exit ?_); dsimp only [thenK, blockK, Nat.beq]; (first | (refine hN _ _ ?_; clear hN N) | skip)) | (with_reducible intro _) | ((with_reducible refine And.intro ?_ ?_); (focus (first | exact sideQ | exact sd0))) | ((first | ((with_reducible refine askT_of ?_ (fun hb => ?_)); (focus (first | exact sideQ | exact sd0)); (try simp only [hb])) | ((with_reducible refine Vc.fin ?_); dsimp only [thenK, blockK, retK, resS, resOne, resAll]) | ((with_reducible refine Vc.hold ?_); first | refine Vc.regiont T0_ok GDF_ok ?_)); (try simp only [v8X, v8A, v8B, v8C, Nat.beq, Nat.ble, Int.reduceToNat, Int.reduceLE, Int.reduceLT, Nat.reduceLT, Nat.reduceLeDiff, Nat.reduceAdd, Nat.reduceMul, Nat.reduceSub, Int.reduceAdd, Int.reduceSub, Int.reduceMul, eq_self, decide_true, beq_self_eq_true, List.length_cons, List.length_nil, Nat.min_eq_left, IntKind.bits, tabs, GDF_set, d3]); (try simp (disch := omega) only [v8W])) | ((with_reducible refine hN _ _ ?_); clear hN N; (try simp (disch := omega) only [v8W])))); (try ((with_reducible refine Fin.of ?_); (try with_reducible exact True.intro))))
        exact ⟨trivial, by rw [hfin]⟩
    · have d1 : decide ((k : Int) < (n : Int)) = false := decide_eq_false (by omega)
      obtain rfl : k = n := by omega
      rw [List.drop_eq_nil_of_le (by omega)] at k4
      simp only [muG] at k4
      ((repeat (first | (with_reducible refine Vc.seq fun N hN => ?_) | (with_reducible refine Vc.block ?_) | ((first | with_reducible refine Vc.skip ?_ | with_reducible refine Vc.exit ?_); dsimp only [thenK, blockK, Nat.beq]; (first | (refine hN _ _ ?_; clear hN N) | skip)) | (with_reducible intro _) | ((with_reducible refine And.intro ?_ ?_); (focus (first | exact sideQ | exact sd0))) | ((first | ((with_reducible refine askT_of ?_ (fun hb => ?_)); (focus (first | exact sideQ | exact sd0)); (try simp only [hb])) | ((with_reducible refine Vc.fin ?_); dsimp only [thenK, blockK, retK, resS, resOne, resAll]) | ((with_reducible refine Vc.hold ?_); first | refine Vc.regiont T0_ok GDF_ok ?_)); (try simp only [v8X, v8A, v8B, v8C, Nat.beq, Nat.ble, Int.reduceToNat, Int.reduceLE, Int.reduceLT, Nat.reduceLT, Nat.reduceLeDiff, Nat.reduceAdd, Nat.reduceMul, Nat.reduceSub, Int.reduceAdd, Int.reduceSub, Int.reduceMul, eq_self, decide_true, beq_self_eq_true, List.length_cons, List.length_nil, Nat.min_eq_left, IntKind.bits, tabs, GDF_set, d1]); (try simp (disch := omega) only [v8W])) | ((with_reducible refine hN _ _ ?_); clear hN N; (try simp (disch := omega) only [v8W])))); (try ((with_reducible refine Fin.of ?_); (try with_reducible exact True.intro))))
      (refine Vc.cond T0_ok (t := false) (by rfl) (fun h => Bool.noConfusion h) (fun _ => ?_))
      ((repeat (first | (with_reducible refine Vc.seq fun N hN => ?_) | (with_reducible refine Vc.block ?_) | ((first | with_reducible refine Vc.skip ?_ | with_reducible refine Vc.exit ?_); dsimp only [thenK, blockK, Nat.beq]; (first | (refine hN _ _ ?_; clear hN N) | skip)) | (with_reducible intro _) | ((with_reducible refine And.intro ?_ ?_); (focus (first | exact sideQ | exact sd0))) | ((first | ((with_reducible refine askT_of ?_ (fun hb => ?_)); (focus (first | exact sideQ | exact sd0)); (try simp only [hb])) | ((with_reducible refine Vc.fin ?_); dsimp only [thenK, blockK, retK, resS, resOne, resAll]) | ((with_reducible refine Vc.hold ?_); first | refine Vc.regiont T0_ok GDF_ok ?_)); (try simp only [v8X, v8A, v8B, v8C, Nat.beq, Nat.ble, Int.reduceToNat, Int.reduceLE, Int.reduceLT, Nat.reduceLT, Nat.reduceLeDiff, Nat.reduceAdd, Nat.reduceMul, Nat.reduceSub, Int.reduceAdd, Int.reduceSub, Int.reduceMul, eq_self, decide_true, beq_self_eq_true, List.length_cons, List.length_nil, Nat.min_eq_left, IntKind.bits, tabs, GDF_set]); (try simp (disch := omega) only [v8W])) | ((with_reducible refine hN _ _ ?_); clear hN N; (try simp (disch := omega) only [v8W])))); (try ((with_reducible refine Fin.of ?_); (try with_reducible exact True.intro))))
      (refine hN1 _ _ ?_; (try clear hN N); clear hN1 N1)
      ((repeat (first | (with_reducible refine Vc.seq fun N hN => ?_) | (with_reducible refine Vc.block ?_) | ((first | with_reducible refine Vc.skip ?_ | with_reducible refine Vc.exit ?_); dsimp only [thenK, blockK, Nat.beq]; (first | (refine hN _ _ ?_; clear hN N) | skip)) | (with_reducible intro _) | ((with_reducible refine And.intro ?_ ?_); (focus (first | exact sideQ | exact sd0))) | ((first | ((with_reducible refine askT_of ?_ (fun hb => ?_)); (focus (first | exact sideQ | exact sd0)); (try simp only [hb])) | ((with_reducible refine Vc.fin ?_); dsimp only [thenK, blockK, retK, resS, resOne, resAll]) | ((with_reducible refine Vc.hold ?_); first | refine Vc.regiont T0_ok GDF_ok ?_)); (try simp only [v8X, v8A, v8B, v8C, Nat.beq, Nat.ble, Int.reduceToNat, Int.reduceLE, Int.reduceLT, Nat.reduceLT, Nat.reduceLeDiff, Nat.reduceAdd, Nat.reduceMul, Nat.reduceSub, Int.reduceAdd, Int.reduceSub, Int.reduceMul, eq_self, decide_true, beq_self_eq_true, List.length_cons, List.length_nil, Nat.min_eq_left, IntKind.bits, tabs, GDF_set]); (try simp (disch := omega) only [v8W])) | ((with_reducible refine hN _ _ ?_); clear hN N; (try simp (disch := omega) only [v8W])))); (try ((with_reducible refine Fin.of ?_); (try with_reducible exact True.intro))))
      exact ⟨trivial, by unfold muA; rw [hl, ← k4]⟩
noncomputable def g_much (args : List SV) (m : List Blk) : CR :=
  match args with
  | [.gh a n c (.rows 6 rs)] => .pure (∃ l, PsR (HM m) rs l ∧ l.length = n ∧ n ≤ c ∧ adr a n c ∧ n ≤ maxLen ∧ LiesH (HM m) a (cc (.rows 6 rs))) (.bool (muA (lOf rs)))
  | _ => .none
theorem g_much_ok (w0 : World) (B : List Nat) (args : List SV) (m : List Blk) : CROk Tryd.prog w0 B 9 args m (g_much args m) := by
  unfold g_much
  split
  · rename_i a n c rs
    intro ⟨l, hR, h1, h2, h3, h4, h5⟩ w hm
    rw [lOf_eq hR]
    exact calls_pure Tryd.func9 rfl rfl (much_vc a n c rs l h1 h2 h3 h4 w (h5.mono fun b o h => hm.hm h) (hR.mono fun b o h => hm.hm h))
  · exact trivial
theorem PsR.lt {H : Nat → Obj → Prop} {rs : List (List SV)} {l : List Prt} (h : PsR H rs l) : ∀ p ∈ l, p.w < W := fun p hp => by
  obtain ⟨i, hi⟩ := List.getElem?_of_mem hp
  have hlt : i < rs.length := by rw [h.1]; exact (List.getElem?_eq_some_iff.1 hi).1
  obtain ⟨x0, x1, x2, x3, a, n, c, e, g1, g2, _⟩ := h.2.2 i _ p (List.getElem?_eq_getElem hlt) hi
  rw [← g2]; exact numI_lt g1
theorem PsR.all {H : Nat → Obj → Prop} {rs : List (List SV)} {l : List Prt} (h : PsR H rs l) : ∀ p ∈ l, allB p.bs := fun p hp => by
  obtain ⟨i, hi⟩ := List.getElem?_of_mem hp
  have hlt : i < rs.length := by rw [h.1]; exact (List.getElem?_eq_some_iff.1 hi).1
  obtain ⟨x0, x1, x2, x3, a, n, c, e, g1, g2, g3, g4, g5, g6, g7, g8⟩ := h.2.2 i _ p (List.getElem?_eq_getElem hlt) hi
  exact g7
theorem allB_app {x y : List Int} (hx : allB x) (hy : allB y) : allB (x ++ y) := fun z hz => (List.mem_append.1 hz).elim (hx z) (hy z)
theorem fold_all (N : Nat) : ∀ (l : List Prt) (s : List Int × List Int), allB s.1 → allB s.2 → (∀ p ∈ l, allB p.bs) → allB (l.foldl (stE N) s).1 ∧ allB (l.foldl (stE N) s).2
  | [], s, h1, h2, _ => ⟨h1, h2⟩
  | p :: l, s, h1, h2, h => by
    simp only [List.foldl_cons]
    refine fold_all N l _ ?_ ?_ fun q hq => h q (List.mem_cons_of_mem _ hq)
    · unfold stE; split <;> exact allB_app h1 (bytI_all _ _)
    · unfold stE; split
      · refine allB_app h2 ?_
        unfold abTail
        refine allB_app (allB_app (bytI_all _ _) (h p List.mem_cons_self)) fun z hz => ?_
        rw [List.eq_of_mem_replicate hz]; omega
      · exact h2
theorem abEnc_all {H : Nat → Obj → Prop} {rs : List (List SV)} {l : List Prt} (h : PsR H rs l) : allB (abEnc l) := by
  have := fold_all l.length l ([], []) (fun z hz => absurd hz List.not_mem_nil) (fun z hz => absurd hz List.not_mem_nil) h.all
  exact allB_app this.1 this.2
theorem cellsPart : Tryd.prog.cellsOf 44 = 6 := by kernel_rfl
section
variable {H : Type} {enc : TypeId × Value → H} {w : World}
theorem part_cells {fuel : Nat} {cs : List Value} {x : DataW H × List MemPlace} (h : DataW.trod enc Tryd.prog w 0 (fun _ => true) true fuel 44 cs = some x) : ∃ l p, cs = cvs l ∧ PtR (H0 w) l p := by
  obtain ⟨xs, n, rfl, _, hl, hxl, hf⟩ := DataW.trod_struct Tryd.underlying44 h
  rw [cellsPart] at hl
  match cs, hl, xs, hxl with
  | [c0, c1, c2, c3, c4, c5], _, [y0, y1, y2], _ =>
    have h0 : DataW.trod enc Tryd.prog w 0 (fun _ => true) true n 4 (List.take (Tryd.prog.cellsOf 4) (List.drop 0 [c0, c1, c2, c3, c4, c5])) = some y0 := hf 0 _ rfl
    have h1 : DataW.trod enc Tryd.prog w 0 (fun _ => true) true n 42 (List.take (Tryd.prog.cellsOf 42) (List.drop 1 [c0, c1, c2, c3, c4, c5])) = some y1 := hf 1 _ rfl
    have h2 : DataW.trod enc Tryd.prog w 0 (fun _ => true) true n 26 (List.take (Tryd.prog.cellsOf 26) (List.drop 5 [c0, c1, c2, c3, c4, c5])) = some y2 := hf 2 _ rfl
    clear hf
    have e4 : Tryd.prog.cellsOf 4 = 1 := by kernel_rfl
    have e22 : Tryd.prog.cellsOf 42 = 4 := by kernel_rfl
    have e23 : Tryd.prog.cellsOf 26 = 1 := by kernel_rfl
    rw [e4] at h0
    rw [e22] at h1
    rw [e23] at h2
    replace h0 : DataW.trod enc Tryd.prog w 0 (fun _ => true) true n 4 [c0] = some y0 := h0
    replace h1 : DataW.trod enc Tryd.prog w 0 (fun _ => true) true n 42 [c1, c2, c3, c4] = some y1 := h1
    replace h2 : DataW.trod enc Tryd.prog w 0 (fun _ => true) true n 26 [c5] = some y2 := h2
    obtain ⟨lb, hb0, _⟩ := DataW.trod_bool Tryd.underlying4 h0
    cases hb0
    obtain ⟨a, m, c, bs, hb1, g1, g2, g3, g4, g5, g6⟩ := bytes_cell h2
    cases hb1
    obtain ⟨v, hv, _, hvW⟩ := word_cells h1 rfl
    unfold wcs at hv
    cases hv
    exact ⟨[.bool lb, .int .u64 (lm v 0 : Nat), .int .u64 (lm v 1 : Nat), .int .u64 (lm v 2 : Nat), .int .u64 (lm v 3 : Nat), .gh a m c (.ints .u8 bs)], ⟨lb, v, bs⟩, rfl, _, _, _, _, a, m, c, rfl, allU_lmI v, numI_lmI hvW, g1, g2, g3, g4, g5, g6⟩
instance : Inhabited Prt := ⟨⟨false, 0, []⟩⟩
/-- Parts, wherever they lie. -/
theorem parts_open {r : Reach} {b0 : Nat} {v : Value} {d : DataW H} {p : List MemPlace} (hval : Value.okWide Tryd.prog w r b0 22 v) (h : DataW.Trod enc Tryd.prog w 0 (fun _ => true) true 22 v d p) :
    ∃ (a : Option Addr) (n c : Nat) (rs : List (List SV)) (ps : List Prt), v = .slice a n c ∧ ps.length = n ∧ n ≤ c ∧ adr a n c ∧ n ≤ maxLen ∧ LiesH (H0 w) a (cc (.rows 6 rs)) ∧ PsR (H0 w) rs ps := by
  obtain ⟨a0, n0, c0, rfl⟩ := sl_form Tryd.underlying22 hval
  obtain ⟨fuel, hf⟩ := h
  obtain ⟨a, n, c, rs, ps, h1, h2, h3, h4, h5, h6, h7, h8, h9⟩ := sl_rows (α := Prt) (Q := PtR (H0 w)) (sz := 6) Tryd.underlying22 cellsPart (by omega) hf (fun k cs' y hk => part_cells hk)
  cases h1
  exact ⟨a0, n0, c0, rs, ps, rfl, h3, h4, h5, Nat.le_trans h4 h6, h8, by rw [h2, h3], h7, h9⟩
end
end Go.Proofs.YtdkhlcoklihpfaaDoor
