/-
  Package places: Whole, Add, walked; what a set of places holds. No condition.
-/
import Derived.Test.YtdanlclhnehieaaV5
import Derived.Test.YtdanlclhnehieaaT7
namespace Go.Proofs.Ytdanlclhnehieaa
set_option linter.unusedSimpArgs false
set_option linter.unusedVariables false
set_option maxHeartbeats 4000000
open Go.RowKit
def addF (f : List Int → Option SV) (l : List (List Int)) : List Int → Option SV := fun c => if c ∈ l then some (.agg []) else f c
theorem addF_nil (f : List Int → Option SV) : addF f [] = f := by funext c; unfold addF; rw [if_neg List.not_mem_nil]
theorem addF_put (f : List Int → Option SV) (l : List (List Int)) (c : List Int) : putF (addF f l) c (.agg []) = addF f (l ++ [c]) := by
  funext x
  unfold putF addF
  by_cases h1 : x = c
  · rw [if_pos h1, if_pos (by rw [h1]; simp)]
  · rw [if_neg h1]
    by_cases h2 : x ∈ l
    · rw [if_pos h2, if_pos (List.mem_append_left _ h2)]
    · rw [if_neg h2, if_neg (by rw [List.mem_append, List.mem_singleton, not_or]; exact ⟨h2, h1⟩)]
theorem addF_add (f : List Int → Option SV) (l k : List (List Int)) : addF (addF f l) k = addF f (l ++ k) := by
  funext x
  unfold addF
  by_cases h1 : x ∈ k
  · rw [if_pos h1, if_pos (List.mem_append_right _ h1)]
  · rw [if_neg h1]
    by_cases h2 : x ∈ l
    · rw [if_pos h2, if_pos (List.mem_append_left _ h2)]
    · rw [if_neg h2, if_neg (by rw [List.mem_append, not_or]; exact ⟨h2, h1⟩)]
def noF : List Int → Option SV := fun _ => none
theorem addF_some (l : List (List Int)) (c : List Int) : (addF noF l c).isSome = true ↔ c ∈ l := by
  unfold addF noF
  by_cases h : c ∈ l
  · rw [if_pos h]; simp [h]
  · rw [if_neg h]; simp [h]
def mkP (c : List Int) (h : okP c) : PlT := ⟨c, h⟩
theorem few_add {l : List (List Int)} (hok : ∀ c ∈ l, okP c) (hl : l.length ≤ 1000000) : Few (addF noF l) := by
  refine ⟨l.pmap mkP hok, fun x hx => ?_, by rw [List.length_pmap]; exact hl⟩
  exact List.mem_pmap.2 ⟨x.1, (addF_some l x.1).1 hx, rfl⟩
theorem bx_code {bx : Int} (h : bx = 0 ∨ bx = 1) : cond (decide (bx = 1)) (1 : Int) 0 = bx := by rcases h with rfl | rfl <;> rfl
set_option maxRecDepth 20000 in
theorem Add_vc (b : Nat) (f : List Int → Option SV) (cs : List (List Int)) (hok : ∀ c ∈ cs, okP c) (a : Option Addr) (n cp : Nat) (hn : cs.length = n) (hc : n ≤ cp) (hM : n ≤ 1000000) (ha : adr a n cp) (w : World) (hm : MemOk w [b] [.mp b ck_38 f, .ro a (.rows 25 (cs.map plL))] w) :
    Calls Try.prog 11 (cvs [.mpv 0 b, .sl 1 a 0 0 25 n cp]).toArray w (fun en w' => ∃ u, en = .returned u ∧ ∃ v' m', u = cv v' ∧ MemOk w [b] m' w' ∧ v' = .tup [] ∧ bget m' 0 = .mp b ck_38 (addF f cs)) := by
  have hrl : (cs.map plL).length = n := by rw [List.length_map, hn]
  have hr25 : ∀ r ∈ cs.map plL, r.length = 25 := fun r hr => by obtain ⟨c, h1, rfl⟩ := List.mem_map.1 hr; exact plL_len (hok c h1)
  refine Vc.calls T0_ok Try.func11 rfl rfl (args := [.mpv 0 b, .sl 1 a 0 0 25 n cp]) (k := 14) rfl hm ?_; change Vc _ _ (c8 (.mpv 0 b) (.sl 1 a 0 0 25 n cp) .undef .undef .undef .undef .undef .undef (c8 .undef .undef .undef .undef .undef .undef .undef .undef ([]))) _ _
  ((repeat (first | (with_reducible refine Vc.seq fun N hN => ?_) | (with_reducible refine Vc.block ?_) | ((first | with_reducible refine Vc.skip ?_ | with_reducible refine Vc.exit ?_); dsimp only [thenK, blockK, Nat.beq]; (first | (refine hN _ _ ?_; clear hN N) | skip)) | (with_reducible intro _) | ((with_reducible refine And.intro ?_ ?_); (focus (first | ((repeat' with_reducible apply And.intro) <;> first | exact sideQ) | exact sd0))) | ((first | ((with_reducible refine askT_of ?_ (fun hb => ?_)); (focus (first | ((repeat' with_reducible apply And.intro) <;> first | exact sideQ) | exact sd0)); (try simp only [hb])) | ((with_reducible refine Vc.fin ?_); dsimp only [thenK, blockK, retK, resS, resOne, resAll]) | ((with_reducible refine Vc.hold ?_); first | refine Vc.regiont T0_ok GT1_ok ?_)); (try simp only [v8X, v8A, v8B, v8C, Nat.beq, Nat.ble, Int.reduceToNat, Int.reduceLE, Int.reduceLT, Nat.reduceLT, Nat.reduceLeDiff, Nat.reduceAdd, Nat.reduceMul, Nat.reduceSub, Int.reduceAdd, Int.reduceSub, Int.reduceMul, eq_self, decide_true, beq_self_eq_true, List.length_cons, List.length_nil, Nat.min_eq_left, IntKind.bits, tabs, GT1_set, ]); (try simp (disch := omega) only [v8W])) | ((with_reducible refine hN _ _ ?_); clear hN N; (try simp (disch := omega) only [v8W])))); (try ((with_reducible refine Fin.of ?_); (try with_reducible exact True.intro))))
  refine Vc.loop 5 16 (fun (k : Nat) => [(6, .sl 1 a 0 0 25 n cp), (7, .int .i64 (n : Nat)), (8, .int .i64 (k : Nat))]) (fun k => [.mp b ck_38 (addF f (cs.take k)), .ro a (.rows 25 (cs.map plL))]) (fun k => k ≤ n) (fun k => n - k) 0 ⟨Nat.zero_le _, ?_, ?_⟩ (fun k junk hk => ?_)
  · ((try simp only [v8X, v8A, v8B, v8C, Nat.beq, Nat.ble, Int.reduceToNat, Int.reduceLE, Int.reduceLT, Nat.reduceLT, Nat.reduceLeDiff, Nat.reduceAdd, Nat.reduceMul, Nat.reduceSub, Int.reduceAdd, Int.reduceSub, Int.reduceMul, eq_self, decide_true, beq_self_eq_true, List.length_cons, List.length_nil, Nat.min_eq_left, IntKind.bits, tabs]); (repeat' with_reducible apply And.intro) <;> first | with_reducible exact True.intro | rfl | with_reducible rfl | (congr 1 <;> omega) | trivial)
  · ((try simp only [v8X, v8A, v8B, v8C, Nat.beq, Nat.ble, Int.reduceToNat, Int.reduceLE, Int.reduceLT, Nat.reduceLT, Nat.reduceLeDiff, Nat.reduceAdd, Nat.reduceMul, Nat.reduceSub, Int.reduceAdd, Int.reduceSub, Int.reduceMul, eq_self, decide_true, beq_self_eq_true, List.length_cons, List.length_nil, Nat.min_eq_left, IntKind.bits, tabs]); (repeat' with_reducible apply And.intro) <;> first | with_reducible exact True.intro | (rw [List.take_zero, addF_nil]) | with_reducible rfl | (congr 1 <;> omega) | trivial)
  · (simp only [v8X, v8A, v8B, v8C, Nat.beq, Nat.ble, Int.reduceToNat, Int.reduceLE, Int.reduceLT, Nat.reduceLT, Nat.reduceLeDiff, Nat.reduceAdd, Nat.reduceMul, Nat.reduceSub, Int.reduceAdd, Int.reduceSub, Int.reduceMul, eq_self, decide_true, beq_self_eq_true, List.length_cons, List.length_nil, Nat.min_eq_left, IntKind.bits, tabs])
    by_cases hc1 : k < n
    · have d1 : decide ((k : Int) < (n : Int)) = true := decide_eq_true (by omega)
      have tk : ((k : Nat) : Int).toNat = k := by omega
      have e1 := List.getElem?_eq_getElem (show k < cs.length by omega)
      have hgd : (cs.map plL).getD k [] = plL cs[k] := by rw [List.getD_eq_getElem?_getD, List.getElem?_map, e1]; rfl
      have htk : cs.take (k + 1) = cs.take k ++ [cs[k]] := by rw [List.take_add_one, e1]; rfl
      have hok1 := hok cs[k] (List.getElem_mem _)
      generalize cs[k] = c at *
      obtain ⟨x0, x1, x2, x3, x4, x5, x6, x7, x8, x9, x10, x11, x12, x13, x14, x15, x16, x17, x18, x19, bx, k0, k1, k2, k3, hxe, p1, p2, p3⟩ := okP_forms hok1
      have hq : plL c = [.int .u8 x0, .int .u8 x1, .int .u8 x2, .int .u8 x3, .int .u8 x4, .int .u8 x5, .int .u8 x6, .int .u8 x7, .int .u8 x8, .int .u8 x9, .int .u8 x10, .int .u8 x11, .int .u8 x12, .int .u8 x13, .int .u8 x14, .int .u8 x15, .int .u8 x16, .int .u8 x17, .int .u8 x18, .int .u8 x19, .bool (decide (bx = 1)), .int .u64 k0, .int .u64 k1, .int .u64 k2, .int .u64 k3] := by rw [hxe]; rfl
      rw [hq] at hgd
      have hb := bx_code p2
      have hin : inCs ck_38 [x0, x1, x2, x3, x4, x5, x6, x7, x8, x9, x10, x11, x12, x13, x14, x15, x16, x17, x18, x19, bx, k0, k1, k2, k3] := by rw [← hxe]; exact hok1
      have hput : putF (addF f (cs.take k)) [x0, x1, x2, x3, x4, x5, x6, x7, x8, x9, x10, x11, x12, x13, x14, x15, x16, x17, x18, x19, bx, k0, k1, k2, k3] (.agg []) = addF f (cs.take (k + 1)) := by rw [htk, hxe, addF_put]
      ((repeat (first | (with_reducible refine Vc.seq fun N hN => ?_) | (with_reducible refine Vc.block ?_) | ((first | with_reducible refine Vc.skip ?_ | with_reducible refine Vc.exit ?_); dsimp only [thenK, blockK, Nat.beq]; (first | (refine hN _ _ ?_; clear hN N) | skip)) | (with_reducible intro _) | ((with_reducible refine And.intro ?_ ?_); (focus (first | ((repeat' with_reducible apply And.intro) <;> first | exact sideQ) | exact sd0))) | ((first | ((with_reducible refine askT_of ?_ (fun hb => ?_)); (focus (first | ((repeat' with_reducible apply And.intro) <;> first | exact sideQ) | exact sd0)); (try simp only [hb])) | ((with_reducible refine Vc.fin ?_); dsimp only [thenK, blockK, retK, resS, resOne, resAll]) | ((with_reducible refine Vc.hold ?_); first | refine Vc.regiont T0_ok GT1_ok ?_)); (try simp only [v8X, v8A, v8B, v8C, Nat.beq, Nat.ble, Int.reduceToNat, Int.reduceLE, Int.reduceLT, Nat.reduceLT, Nat.reduceLeDiff, Nat.reduceAdd, Nat.reduceMul, Nat.reduceSub, Int.reduceAdd, Int.reduceSub, Int.reduceMul, eq_self, decide_true, beq_self_eq_true, List.length_cons, List.length_nil, Nat.min_eq_left, IntKind.bits, tabs, GT1_set, d1]); (try simp (disch := omega) only [v8W])) | ((with_reducible refine hN _ _ ?_); clear hN N; (try simp (disch := omega) only [v8W])))); (try ((with_reducible refine Fin.of ?_); (try with_reducible exact True.intro))))
      (refine Vc.cond T0_ok (t := true) (by rfl) (fun _ => ?_) (fun h => Bool.noConfusion h))
      ((repeat (first | (with_reducible refine Vc.seq fun N hN => ?_) | (with_reducible refine Vc.block ?_) | ((first | with_reducible refine Vc.skip ?_ | with_reducible refine Vc.exit ?_); dsimp only [thenK, blockK, Nat.beq]; (first | (refine hN _ _ ?_; clear hN N) | skip)) | (with_reducible intro _) | ((with_reducible refine And.intro ?_ ?_); (focus (first | ((repeat' with_reducible apply And.intro) <;> first | exact sideQ) | exact sd0))) | ((first | ((with_reducible refine askT_of ?_ (fun hb => ?_)); (focus (first | ((repeat' with_reducible apply And.intro) <;> first | exact sideQ) | exact sd0)); (try simp only [hb])) | ((with_reducible refine Vc.fin ?_); dsimp only [thenK, blockK, retK, resS, resOne, resAll]) | ((with_reducible refine Vc.hold ?_); first | refine Vc.regiont T0_ok GT1_ok ?_)); (try simp only [v8X, v8A, v8B, v8C, Nat.beq, Nat.ble, Int.reduceToNat, Int.reduceLE, Int.reduceLT, Nat.reduceLT, Nat.reduceLeDiff, Nat.reduceAdd, Nat.reduceMul, Nat.reduceSub, Int.reduceAdd, Int.reduceSub, Int.reduceMul, eq_self, decide_true, beq_self_eq_true, List.length_cons, List.length_nil, Nat.min_eq_left, IntKind.bits, tabs, GT1_set, tk, hgd, hb, hput, Nat.zero_add]); (try simp (disch := omega) only [v8W])) | ((with_reducible refine hN _ _ ?_); clear hN N; (try simp (disch := omega) only [v8W])))); (try ((with_reducible refine Fin.of ?_); (try with_reducible exact True.intro))))
      refine ⟨k + 1, by omega, ?_, ?_, by omega⟩
      · ((try simp only [v8X, v8A, v8B, v8C, Nat.beq, Nat.ble, Int.reduceToNat, Int.reduceLE, Int.reduceLT, Nat.reduceLT, Nat.reduceLeDiff, Nat.reduceAdd, Nat.reduceMul, Nat.reduceSub, Int.reduceAdd, Int.reduceSub, Int.reduceMul, eq_self, decide_true, beq_self_eq_true, List.length_cons, List.length_nil, Nat.min_eq_left, IntKind.bits, tabs]); (repeat' with_reducible apply And.intro) <;> first | with_reducible exact True.intro | rfl | (congr 1 <;> omega))
      · ((try simp only [v8X, v8A, v8B, v8C, Nat.beq, Nat.ble, Int.reduceToNat, Int.reduceLE, Int.reduceLT, Nat.reduceLT, Nat.reduceLeDiff, Nat.reduceAdd, Nat.reduceMul, Nat.reduceSub, Int.reduceAdd, Int.reduceSub, Int.reduceMul, eq_self, decide_true, beq_self_eq_true, List.length_cons, List.length_nil, Nat.min_eq_left, IntKind.bits, tabs]); (repeat' with_reducible apply And.intro) <;> first | with_reducible exact True.intro | rfl | (congr 1 <;> omega))
    · have d1 : decide ((k : Int) < (n : Int)) = false := decide_eq_false (by omega)
      obtain rfl : k = n := by omega
      ((repeat (first | (with_reducible refine Vc.seq fun N hN => ?_) | (with_reducible refine Vc.block ?_) | ((first | with_reducible refine Vc.skip ?_ | with_reducible refine Vc.exit ?_); dsimp only [thenK, blockK, Nat.beq]; (first | (refine hN _ _ ?_; clear hN N) | skip)) | (with_reducible intro _) | ((with_reducible refine And.intro ?_ ?_); (focus (first | ((repeat' with_reducible apply And.intro) <;> first | exact sideQ) | exact sd0))) | ((first | ((with_reducible refine askT_of ?_ (fun hb => ?_)); (focus (first | ((repeat' with_reducible apply And.intro) <;> first | exact sideQ) | exact sd0)); (try simp only [hb])) | ((with_reducible refine Vc.fin ?_); dsimp only [thenK, blockK, retK, resS, resOne, resAll]) | ((with_reducible refine Vc.hold ?_); first | refine Vc.regiont T0_ok GT1_ok ?_)); (try simp only [v8X, v8A, v8B, v8C, Nat.beq, Nat.ble, Int.reduceToNat, Int.reduceLE, Int.reduceLT, Nat.reduceLT, Nat.reduceLeDiff, Nat.reduceAdd, Nat.reduceMul, Nat.reduceSub, Int.reduceAdd, Int.reduceSub, Int.reduceMul, eq_self, decide_true, beq_self_eq_true, List.length_cons, List.length_nil, Nat.min_eq_left, IntKind.bits, tabs, GT1_set, d1]); (try simp (disch := omega) only [v8W])) | ((with_reducible refine hN _ _ ?_); clear hN N; (try simp (disch := omega) only [v8W])))); (try ((with_reducible refine Fin.of ?_); (try with_reducible exact True.intro))))
      (refine Vc.cond T0_ok (t := false) (by rfl) (fun h => Bool.noConfusion h) (fun _ => ?_))
      ((repeat (first | (with_reducible refine Vc.seq fun N hN => ?_) | (with_reducible refine Vc.block ?_) | ((first | with_reducible refine Vc.skip ?_ | with_reducible refine Vc.exit ?_); dsimp only [thenK, blockK, Nat.beq]; (first | (refine hN _ _ ?_; clear hN N) | skip)) | (with_reducible intro _) | ((with_reducible refine And.intro ?_ ?_); (focus (first | ((repeat' with_reducible apply And.intro) <;> first | exact sideQ) | exact sd0))) | ((first | ((with_reducible refine askT_of ?_ (fun hb => ?_)); (focus (first | ((repeat' with_reducible apply And.intro) <;> first | exact sideQ) | exact sd0)); (try simp only [hb])) | ((with_reducible refine Vc.fin ?_); dsimp only [thenK, blockK, retK, resS, resOne, resAll]) | ((with_reducible refine Vc.hold ?_); first | refine Vc.regiont T0_ok GT1_ok ?_)); (try simp only [v8X, v8A, v8B, v8C, Nat.beq, Nat.ble, Int.reduceToNat, Int.reduceLE, Int.reduceLT, Nat.reduceLT, Nat.reduceLeDiff, Nat.reduceAdd, Nat.reduceMul, Nat.reduceSub, Int.reduceAdd, Int.reduceSub, Int.reduceMul, eq_self, decide_true, beq_self_eq_true, List.length_cons, List.length_nil, Nat.min_eq_left, IntKind.bits, tabs, GT1_set]); (try simp (disch := omega) only [v8W])) | ((with_reducible refine hN _ _ ?_); clear hN N; (try simp (disch := omega) only [v8W])))); (try ((with_reducible refine Fin.of ?_); (try with_reducible exact True.intro))))
      exact ⟨by simp, by first | exact trivial | rfl, by rw [List.take_of_length_le (by omega)]; rfl⟩
theorem ro_mp {w0 w : World} {B : List Nat} {m : List Blk} (hm : MemOk w0 B m w) {nm b : Nat} {ks : List CK} {f : List Int → Option SV} (hb : bget m nm = .mp b ks f) {a : Option Addr} {c : Con} (h1 : MemOk w [] [.ro a c] w) : MemOk w [b] [.mp b ks f, .ro a c] w := by
  have hM := (hm.each _ (bget_mem hb (by simp))).1
  refine ⟨rfl, rfl, rfl, Nat.le_refl _, fun _ _ _ => rfl, fun e he => ?_, by simp [Blk.nums]⟩
  simp only [List.mem_cons, List.not_mem_nil, or_false] at he
  rcases he with rfl | rfl
  · exact ⟨hM, .inr List.mem_cons_self⟩
  · intro j u hj
    obtain ⟨b', off, e1, e2, _, e4⟩ := h1.each _ List.mem_cons_self j u hj
    refine ⟨b', off, e1, e2, ?_, e4⟩
    rw [List.mem_singleton]
    rintro rfl
    obtain ⟨es, clock, h5, _⟩ := hM
    simp [World.cell?, h5] at e4
noncomputable def g_setAdd (args : List SV) (m : List Blk) : CR :=
  match args with
  | [.mpv nm b, x] => match bget m nm, srcC x m with
    | .mp b' ks f, some (q, k, .rows 25 rs) => (.rel (q ∧ b' = b ∧ ks = ck_38 ∧ k ≤ 1000000 ∧ ∃ cs : List (List Int), rs = cs.map plL ∧ ∀ c ∈ cs, okP c) Unit (fun _ => True) (fun _ => .tup []) (fun _ => bset m nm (.mp b' ks (addF f (plsOf rs)))))
    | _, _ => .none
  | _ => .none
theorem g_setAdd_ok (w0 : World) (B : List Nat) (args : List SV) (m : List Blk) : CROk Try.prog w0 B 11 args m (g_setAdd args m) := by
  unfold g_setAdd
  split
  · rename_i nm b x
    split
    · rename_i b' ks f q k rs hb hs
      rintro ⟨hq, rfl, rfl, hk, cs, rfl, hok⟩ w hm
      obtain ⟨l1, a, cp, ex, b1, m1, d1⟩ := src_ro hs hq hm
      have h4 := hm.each _ (bget_mem hb (by simp))
      have hl : cs.length = k := by
        rw [rows25 hok] at l1
        simp only [conEs] at l1
        omega
      have e : cvs [.mpv nm b', x] = cvs [.mpv 0 b', .sl 1 a 0 0 25 k cp] := by simp only [cvs]; rw [ex]; rfl
      rw [e, plsOf_eq hok]
      refine .inr ⟨enter_run Try.func11 rfl rfl _ w, (Add_vc b' f cs hok a k cp hl b1 hk d1 w (ro_mp hm hb m1)).mono fun e w' ⟨u, hu, v', m', hv, hm', hvv, hk⟩ => ⟨u, hu, (), trivial, by rw [hv, hvv], ?_⟩⟩
      have h5 := hm'.each _ (bget_mem hk (by simp))
      exact hm.turns hb (by simp) hm'.chg (fun b hb => by simp [Blk.nums] at hb; subst hb; exact h4.2) ⟨h5.1, h4.2⟩ (fun b hb => .inl hb) (by simp [Blk.nums])
    · exact trivial
  · exact trivial
end Go.Proofs.Ytdanlclhnehieaa
