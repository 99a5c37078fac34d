/-
  SHA-256: contracts of both Sums, the chapter's example by reckoning; the law of Sum, walked. No condition.
-/
import Derived.Test.YtnncomlliobobaaDoorS9
import Derived.Test.YtnncomlliobobaaDoorFR
import Derived.Lib.SlBytesConst
import Derived.WalkKit
import Derived.Below
namespace Go.Proofs.YtnncomlliobobaaDoor
set_option linter.unusedSimpArgs false
set_option linter.unusedVariables false
set_option maxHeartbeats 4000000
set_option maxRecDepth 10000
open Go.RowKit
def g_oSum (args : List SV) (m : List Blk) : CR :=
  match args with
  | [x] => match srcC x m, bget m 0, bget m 1 with
    | some (q, k, .ints .u8 xs), .ro a0 c0, .ro a1 c1 => .pure (q ∧ k ≤ 1000000 ∧ allB xs ∧ a0 = some ⟨0, 0, none⟩ ∧ c0 = .ints .u32 sStart ∧ a1 = some ⟨1, 0, none⟩ ∧ c1 = .ints .u32 sKeys) (.word (sSum xs))
    | _, _, _ => .none
  | _ => .none
theorem g_oSum_ok (w0 : World) (B : List Nat) (args : List SV) (m : List Blk) : CROk Tryd.prog w0 B 13 args m (g_oSum args m) := by
  unfold g_oSum
  split
  · rename_i x
    split
    · rename_i q k xs a0 c0 a1 c1 hs h0 h1
      intro ⟨hq, hk, hx, r0, r1, r2, r3⟩ w hm
      subst r0 r1 r2 r3
      obtain ⟨l1, a, cp, e1, b1, m1, d1⟩ := src_ro hs hq hm
      have hl : xs.length = k := by simpa [cc, conEs] using l1
      have e : cvs [x] = cvs [.sl 2 a 0 0 1 k cp] := by simp only [cvs]; rw [e1]; rfl
      rw [e]
      exact calls_pure Tryd.func13 rfl rfl (osum_vc xs a k cp hl b1 hk hx d1 w (ro_add (ro_add m1 (ro_ro hm h1)) (ro_ro hm h0)))
    · exact trivial
  · exact trivial
def g_uSum (args : List SV) (m : List Blk) : CR :=
  match args with
  | [x] => match srcC x m with
    | some (q, k, .ints .u8 xs) => .pure (q ∧ k ≤ 1000000 ∧ allB xs) (.word (sSum xs))
    | _ => .none
  | _ => .none
theorem g_uSum_ok (w0 : World) (B : List Nat) (args : List SV) (m : List Blk) : CROk Tryd.prog w0 B 14 args m (g_uSum args m) := by
  unfold g_uSum
  split
  · rename_i x
    split
    · rename_i q k xs hs
      intro ⟨hq, hk, hx⟩ w hm
      obtain ⟨l1, a, cp, e1, b1, m1, d1⟩ := src_ro hs hq hm
      have hl : xs.length = k := by simpa [cc, conEs] using l1
      have e : cvs [x] = cvs [.sl 0 a 0 0 1 k cp] := by simp only [cvs]; rw [e1]; rfl
      rw [e, ← qSum_eq xs hx]
      exact calls_pure Tryd.func14 rfl rfl (qsum_vc xs a k cp hl b1 hk hx d1 w m1)
    · exact trivial
  · exact trivial
def GSA : Ctr := fun f args m => match f with
  | 13 => g_oSum args m
  | 14 => g_uSum args m
  | _ => .none
theorem GSA_ok : GOk Tryd.prog GSA := by
  intro w0 B f args m; unfold GSA; split
  · exact g_oSum_ok _ _ _ _
  · exact g_uSum_ok _ _ _ _
  · exact trivial
theorem GSA_oSum : GSA 13 = g_oSum := by funext args m; rfl
theorem GSA_uSum : GSA 14 = g_uSum := by funext args m; rfl

theorem sSum_abc : sSum [97, 98, 99] = num 0xb410ff61f20015ad 0xb00361a396177a9c 0x414140de5dae2223 0xba7816bf8f01cfea := by decide +kernel
theorem numI_abc : numI [12975151322591401389, 12683088330831133340, 4702110809750118947, 13436514500253700074] = sSum [97, 98, 99] := by rw [sSum_abc]; rfl
theorem abc_all : allB [97, 98, 99] := by unfold allB; decide
theorem abc_word : cv (.word (sSum [97, 98, 99])) = .agg #[.int .u64 12975151322591401389, .int .u64 12683088330831133340, .int .u64 4702110809750118947, .int .u64 13436514500253700074] := by
  rw [sSum_abc]
  simp only [cv, wcs]
  rw [lm0_num (by decide), lm1_num (by decide) (by decide), lm2_num (by decide) (by decide) (by decide), lm3_num (by decide) (by decide) (by decide) (by decide)]
  rfl
theorem old_ro {w : World} {a : Option Addr} {c : Con} (h : MemOk w [] [.ro a c] w) (o : Obj) : MemOk (w.alloc o) [] [.ro a c] (w.alloc o) :=
  ro_cons (ro_nil _) fun j u hj => by
    obtain ⟨b, off, e1, e2, _, e3⟩ := h.each _ List.mem_cons_self j u hj
    exact ⟨b, off, e1, by simp only [World.size_alloc]; omega, Lib.cell?_alloc_marked o e3⟩
theorem abc_ro (w : World) : MemOk (w.alloc (.cells #[.int .u8 97, .int .u8 98, .int .u8 99] 5 (3, 4))) [] [.ro (some ⟨w.heap.size, 0, none⟩) (.ints .u8 [97, 98, 99])] (w.alloc (.cells #[.int .u8 97, .int .u8 98, .int .u8 99] 5 (3, 4))) :=
  ro_cons (ro_nil _) fun j u hj => by
    refine ⟨w.heap.size, 0, rfl, by simp only [World.size_alloc]; omega, ?_⟩
    rw [World.cell?_alloc_mark, ← hj, Nat.zero_add, List.getElem?_toArray]; rfl
theorem sknown_at (w : World) (h0 : MemOk w [] [.ro (some ⟨0, 0, none⟩) (.ints .u32 sStart)] w) (h1 : MemOk w [] [.ro (some ⟨1, 0, none⟩) (.ints .u32 sKeys)] w) : Calls Tryd.prog 12 #[] w (fun en w' => en = .returned (.bool true) ∧ MemOk w [] [] w') := by
  have kc := fun (w : World) (C : Array Value) (n c : Nat) => Lib.run_convert_bytes_const (P := Tryd.prog) w 22 5 C n c Tryd.underlying22 Tryd.underlying5
  have heq : ∀ w' : World, (Op.equalIn 10000 26 (.agg #[.int .u64 12975151322591401389, .int .u64 12683088330831133340, .int .u64 4702110809750118947, .int .u64 13436514500253700074]) (.agg #[.int .u64 12975151322591401389, .int .u64 12683088330831133340, .int .u64 4702110809750118947, .int .u64 13436514500253700074])).run Tryd.prog w' = .ok true w' := fun w' => by
    rw [eqlW]; rfl
  have hcon : Calls Tryd.prog 13 #[.slice (some ⟨w.heap.size, 0, none⟩) 3 3] (w.alloc (.cells #[.int .u8 97, .int .u8 98, .int .u8 99] 5 (3, 4))) (fun e w' => e = Ending.returned (.agg #[.int .u64 12975151322591401389, .int .u64 12683088330831133340, .int .u64 4702110809750118947, .int .u64 13436514500253700074]) ∧ (w.alloc (.cells #[.int .u8 97, .int .u8 98, .int .u8 99] 5 (3, 4))).grownBy w' none) := by
    have h := (osum_vc [97, 98, 99] (some ⟨w.heap.size, 0, none⟩) 3 3 rfl (Nat.le_refl _) (by decide) abc_all (.inl rfl) _ (ro_add (ro_add (abc_ro w) (old_ro h1 _)) (old_ro h0 _)))
    have e : (cvs [SV.sl 2 (some ⟨w.heap.size, 0, none⟩) 0 0 1 3 3]).toArray = #[.slice (some ⟨w.heap.size, 0, none⟩) 3 3] := by simp [cvs, cv, Addr.add]
    rw [e] at h
    exact h.mono fun e w' ⟨u, he, v, m', hu, hm', hv⟩ => ⟨by rw [he, hu, hv, abc_word], hm'.grown⟩
  go_enter Tryd.func12, Tryd.ntmps12
  go_wp2_with (go_at_call 13; refine hcon.mono ?_; rintro e w' ⟨rfl, hw⟩)
  go_ret
  refine ⟨rfl, ?_⟩
  have hg := World.grownBy_alloc w (.cells #[.int .u8 97, .int .u8 98, .int .u8 99] 5 (3, 4)) none
  exact ⟨hw.os.trans hg.os, hw.tape.trans hg.tape, hw.output.trans hg.output, Nat.le_trans hg.size hw.size, fun k hk _ => by rw [hw.block k (Nat.lt_of_lt_of_le hk hg.size) (by simp), hg.block k hk (by simp)], fun _ h => absurd h List.not_mem_nil, List.nodup_nil⟩
theorem sknown_vc (w : World) (hm : MemOk w [] [.ro (some ⟨0, 0, none⟩) (.ints .u32 sStart), .ro (some ⟨1, 0, none⟩) (.ints .u32 sKeys)] w) : Calls Tryd.prog 12 (cvs []).toArray w (fun en w' => ∃ u, en = .returned u ∧ ∃ v m', u = cv v ∧ MemOk w [] m' w' ∧ v = .bool true) :=
  (sknown_at w (ro_ro hm (nr := 0) rfl) (ro_ro hm (nr := 1) rfl)).mono fun en w' ⟨h1, h2⟩ => ⟨_, h1, .bool true, [], rfl, h2, rfl⟩
def g_sKnown (args : List SV) (m : List Blk) : CR :=
  match args with
  | [] => match bget m 0, bget m 1 with
    | .ro a0 c0, .ro a1 c1 => .pure (a0 = some ⟨0, 0, none⟩ ∧ c0 = .ints .u32 sStart ∧ a1 = some ⟨1, 0, none⟩ ∧ c1 = .ints .u32 sKeys) (.bool true)
    | _, _ => .none
  | _ => .none
theorem g_sKnown_ok (w0 : World) (B : List Nat) (args : List SV) (m : List Blk) : CROk Tryd.prog w0 B 12 args m (g_sKnown args m) := by
  unfold g_sKnown
  split
  · split
    · rename_i a0 c0 a1 c1 h0 h1
      intro ⟨r0, r1, r2, r3⟩ w hm
      subst r0 r1 r2 r3
      exact calls_pure Tryd.func12 rfl rfl (sknown_vc w (ro_add (ro_ro hm h1) (ro_ro hm h0)))
    · exact trivial
  · exact trivial
def GSB : Ctr := fun f args m => match f with
  | 13 => g_oSum args m
  | 14 => g_uSum args m
  | 12 => g_sKnown args m
  | _ => .none
theorem GSB_ok : GOk Tryd.prog GSB := by
  intro w0 B f args m; unfold GSB; split
  · exact g_oSum_ok _ _ _ _
  · exact g_uSum_ok _ _ _ _
  · exact g_sKnown_ok _ _ _ _
  · exact trivial
theorem GSB_oSum : GSB 13 = g_oSum := by funext args m; rfl
theorem GSB_uSum : GSB 14 = g_uSum := by funext args m; rfl
theorem GSB_sKnown : GSB 12 = g_sKnown := by funext args m; rfl

theorem ssums_law (xs : List Int) (a : Option Addr) (n cp : Nat) (hl : xs.length = n) (hc : n ≤ cp) (ha : adr a n cp) (hx : allB xs) (w : World) (hm : MemOk w [] [.ro (some ⟨0, 0, none⟩) (.ints .u32 sStart), .ro (some ⟨1, 0, none⟩) (.ints .u32 sKeys), .ro a (.ints .u8 xs)] w) :
    Calls Tryd.prog 6 (cvs [.sl 2 a 0 0 1 n cp]).toArray w (Yes w) := by
  have t1 : (xs.drop 0).take n = xs := by rw [List.drop_zero, List.take_of_length_le (by omega)]
  have t2 : xs.take n = xs := List.take_of_length_le (by omega)
  have he : ∀ z, eqW z z = true := fun z => eqW_of rfl
  by_cases hk : n ≤ 1500
  · have d1 : decide ((1500 : Int) < (n : Int)) = false := decide_eq_false (by omega)
    refine Vc.calls T0_ok Tryd.func6 rfl rfl (args := [.sl 2 a 0 0 1 n cp]) (k := 24) rfl hm ?_; change Vc _ _ (c8 (.sl 2 a 0 0 1 n cp) .undef .undef .undef .undef .undef .undef .undef (c8 .undef .undef .undef .undef .undef .undef .undef .undef (c8 .undef .undef .undef .undef .undef .undef .undef .undef ([.undef])))) _ _
    ((repeat (first | (with_reducible refine Vc.seq fun N hN => ?_) | (with_reducible refine Vc.block ?_) | ((with_reducible refine Vc.skip ?_); dsimp only [thenK, blockK, Nat.beq]; (first | (refine hN _ _ ?_; clear hN N) | skip)) | ((with_reducible refine Vc.exit ?_); dsimp only [thenK, blockK, Nat.beq]; (first | (refine hN _ _ ?_; clear hN N) | skip)) | (with_reducible intro _) | ((with_reducible refine And.intro ?_ ?_); (focus (first | ((repeat' with_reducible apply And.intro) <;> first | with_reducible exact True.intro | with_reducible assumption | with_reducible rfl | with_reducible exact allU_0 | omega) | exact sd0))) | ((first | ((with_reducible refine askT_of ?_ (fun hb => ?_)); (focus (first | ((repeat' with_reducible apply And.intro) <;> first | with_reducible exact True.intro | with_reducible assumption | with_reducible rfl | with_reducible exact allU_0 | omega) | exact sd0)); (try simp only [hb])) | ((with_reducible refine Vc.fin ?_); dsimp only [thenK, blockK, retK, resS, resOne, resAll]) | ((with_reducible refine Vc.hold ?_); first | refine Vc.regiont T0_ok GSB_ok ?_)); (try simp only [pickO, nthO, dropO, dOp.eq_def, v8A, strIx.eq_def, appT.eq_def, copyStep.eq_def, copyC.eq_def, v8B, adr_some, adr_nil, true_or, dstOf, Bool.not_true, Bool.not_false, evs, evp, v8C, sget, sset, blen, bpush, bget, bset, Nat.beq, Nat.ble, Nat.blt.eq_def, nth?, tys, takeN, Nat.zero_add, fillS, splice, allOne, ordL, intL, wordL, rowL, sapp, resAll, und, lk, hav, agr, bpre, Int.reduceToNat, Int.reduceLE, Int.reduceLT, Nat.reduceLT, Nat.reduceLeDiff, Nat.reduceAdd, Nat.reduceMul, Nat.reduceSub, Int.reduceAdd, Int.reduceSub, Int.reduceMul, eq_self, decide_true, beq_self_eq_true, List.length_cons, List.length_nil, Nat.min_eq_left, IntKind.bits, tabs, GSB_oSum, g_oSum.eq_def, GSB_uSum, g_uSum.eq_def, GSB_sKnown, g_sKnown.eq_def, d1]); (try simp (disch := omega) only [v8W])) | ((with_reducible refine hN _ _ ?_); clear hN N; (try simp (disch := omega) only [v8W])))); (try ((with_reducible refine Fin.of ?_); (try with_reducible exact True.intro))))
    (refine Vc.cond T0_ok (t := false) (by rfl) (fun h => Bool.noConfusion h) (fun _ => ?_))
    ((repeat (first | (with_reducible refine Vc.seq fun N hN => ?_) | (with_reducible refine Vc.block ?_) | ((with_reducible refine Vc.skip ?_); dsimp only [thenK, blockK, Nat.beq]; (first | (refine hN _ _ ?_; clear hN N) | skip)) | ((with_reducible refine Vc.exit ?_); dsimp only [thenK, blockK, Nat.beq]; (first | (refine hN _ _ ?_; clear hN N) | skip)) | (with_reducible intro _) | ((with_reducible refine And.intro ?_ ?_); (focus (first | ((repeat' with_reducible apply And.intro) <;> first | with_reducible exact True.intro | with_reducible assumption | with_reducible rfl | with_reducible exact allU_0 | omega) | exact sd0))) | ((first | ((with_reducible refine askT_of ?_ (fun hb => ?_)); (focus (first | ((repeat' with_reducible apply And.intro) <;> first | with_reducible exact True.intro | with_reducible assumption | with_reducible rfl | with_reducible exact allU_0 | omega) | exact sd0)); (try simp only [hb])) | ((with_reducible refine Vc.fin ?_); dsimp only [thenK, blockK, retK, resS, resOne, resAll]) | ((with_reducible refine Vc.hold ?_); first | refine Vc.regiont T0_ok GSB_ok ?_)); (try simp only [pickO, nthO, dropO, dOp.eq_def, v8A, strIx.eq_def, appT.eq_def, copyStep.eq_def, copyC.eq_def, v8B, adr_some, adr_nil, true_or, dstOf, Bool.not_true, Bool.not_false, evs, evp, v8C, sget, sset, blen, bpush, bget, bset, Nat.beq, Nat.ble, Nat.blt.eq_def, nth?, tys, takeN, Nat.zero_add, fillS, splice, allOne, ordL, intL, wordL, rowL, sapp, resAll, und, lk, hav, agr, bpre, Int.reduceToNat, Int.reduceLE, Int.reduceLT, Nat.reduceLT, Nat.reduceLeDiff, Nat.reduceAdd, Nat.reduceMul, Nat.reduceSub, Int.reduceAdd, Int.reduceSub, Int.reduceMul, eq_self, decide_true, beq_self_eq_true, List.length_cons, List.length_nil, Nat.min_eq_left, IntKind.bits, tabs, GSB_oSum, g_oSum.eq_def, GSB_uSum, g_uSum.eq_def, GSB_sKnown, g_sKnown.eq_def, t1, t2, he, List.drop_zero]); (try simp (disch := omega) only [v8W])) | ((with_reducible refine hN _ _ ?_); clear hN N; (try simp (disch := omega) only [v8W])))); (try ((with_reducible refine Fin.of ?_); (try with_reducible exact True.intro))))
    exact ⟨trivial, trivial⟩
  · have d1 : decide ((1500 : Int) < (n : Int)) = true := decide_eq_true (by omega)
    refine Vc.calls T0_ok Tryd.func6 rfl rfl (args := [.sl 2 a 0 0 1 n cp]) (k := 24) rfl hm ?_; change Vc _ _ (c8 (.sl 2 a 0 0 1 n cp) .undef .undef .undef .undef .undef .undef .undef (c8 .undef .undef .undef .undef .undef .undef .undef .undef (c8 .undef .undef .undef .undef .undef .undef .undef .undef ([.undef])))) _ _
    ((repeat (first | (with_reducible refine Vc.seq fun N hN => ?_) | (with_reducible refine Vc.block ?_) | ((with_reducible refine Vc.skip ?_); dsimp only [thenK, blockK, Nat.beq]; (first | (refine hN _ _ ?_; clear hN N) | skip)) | ((with_reducible refine Vc.exit ?_); dsimp only [thenK, blockK, Nat.beq]; (first | (refine hN _ _ ?_; clear hN N) | skip)) | (with_reducible intro _) | ((with_reducible refine And.intro ?_ ?_); (focus (first | ((repeat' with_reducible apply And.intro) <;> first | with_reducible exact True.intro | with_reducible assumption | with_reducible rfl | with_reducible exact allU_0 | omega) | exact sd0))) | ((first | ((with_reducible refine askT_of ?_ (fun hb => ?_)); (focus (first | ((repeat' with_reducible apply And.intro) <;> first | with_reducible exact True.intro | with_reducible assumption | with_reducible rfl | with_reducible exact allU_0 | omega) | exact sd0)); (try simp only [hb])) | ((with_reducible refine Vc.fin ?_); dsimp only [thenK, blockK, retK, resS, resOne, resAll]) | ((with_reducible refine Vc.hold ?_); first | refine Vc.regiont T0_ok GSB_ok ?_)); (try simp only [pickO, nthO, dropO, dOp.eq_def, v8A, strIx.eq_def, appT.eq_def, copyStep.eq_def, copyC.eq_def, v8B, adr_some, adr_nil, true_or, dstOf, Bool.not_true, Bool.not_false, evs, evp, v8C, sget, sset, blen, bpush, bget, bset, Nat.beq, Nat.ble, Nat.blt.eq_def, nth?, tys, takeN, Nat.zero_add, fillS, splice, allOne, ordL, intL, wordL, rowL, sapp, resAll, und, lk, hav, agr, bpre, Int.reduceToNat, Int.reduceLE, Int.reduceLT, Nat.reduceLT, Nat.reduceLeDiff, Nat.reduceAdd, Nat.reduceMul, Nat.reduceSub, Int.reduceAdd, Int.reduceSub, Int.reduceMul, eq_self, decide_true, beq_self_eq_true, List.length_cons, List.length_nil, Nat.min_eq_left, IntKind.bits, tabs, GSB_oSum, g_oSum.eq_def, GSB_uSum, g_uSum.eq_def, GSB_sKnown, g_sKnown.eq_def, d1]); (try simp (disch := omega) only [v8W])) | ((with_reducible refine hN _ _ ?_); clear hN N; (try simp (disch := omega) only [v8W])))); (try ((with_reducible refine Fin.of ?_); (try with_reducible exact True.intro))))
    (refine Vc.cond T0_ok (t := true) (by rfl) (fun _ => ?_) (fun h => Bool.noConfusion h))
    ((repeat (first | (with_reducible refine Vc.seq fun N hN => ?_) | (with_reducible refine Vc.block ?_) | ((with_reducible refine Vc.skip ?_); dsimp only [thenK, blockK, Nat.beq]; (first | (refine hN _ _ ?_; clear hN N) | skip)) | ((with_reducible refine Vc.exit ?_); dsimp only [thenK, blockK, Nat.beq]; (first | (refine hN _ _ ?_; clear hN N) | skip)) | (with_reducible intro _) | ((with_reducible refine And.intro ?_ ?_); (focus (first | ((repeat' with_reducible apply And.intro) <;> first | with_reducible exact True.intro | with_reducible assumption | with_reducible rfl | with_reducible exact allU_0 | omega) | exact sd0))) | ((first | ((with_reducible refine askT_of ?_ (fun hb => ?_)); (focus (first | ((repeat' with_reducible apply And.intro) <;> first | with_reducible exact True.intro | with_reducible assumption | with_reducible rfl | with_reducible exact allU_0 | omega) | exact sd0)); (try simp only [hb])) | ((with_reducible refine Vc.fin ?_); dsimp only [thenK, blockK, retK, resS, resOne, resAll]) | ((with_reducible refine Vc.hold ?_); first | refine Vc.regiont T0_ok GSB_ok ?_)); (try simp only [pickO, nthO, dropO, dOp.eq_def, v8A, strIx.eq_def, appT.eq_def, copyStep.eq_def, copyC.eq_def, v8B, adr_some, adr_nil, true_or, dstOf, Bool.not_true, Bool.not_false, evs, evp, v8C, sget, sset, blen, bpush, bget, bset, Nat.beq, Nat.ble, Nat.blt.eq_def, nth?, tys, takeN, Nat.zero_add, fillS, splice, allOne, ordL, intL, wordL, rowL, sapp, resAll, und, lk, hav, agr, bpre, Int.reduceToNat, Int.reduceLE, Int.reduceLT, Nat.reduceLT, Nat.reduceLeDiff, Nat.reduceAdd, Nat.reduceMul, Nat.reduceSub, Int.reduceAdd, Int.reduceSub, Int.reduceMul, eq_self, decide_true, beq_self_eq_true, List.length_cons, List.length_nil, Nat.min_eq_left, IntKind.bits, tabs, GSB_oSum, g_oSum.eq_def, GSB_uSum, g_uSum.eq_def, GSB_sKnown, g_sKnown.eq_def]); (try simp (disch := omega) only [v8W])) | ((with_reducible refine hN _ _ ?_); clear hN N; (try simp (disch := omega) only [v8W])))); (try ((with_reducible refine Fin.of ?_); (try with_reducible exact True.intro))))
    exact ⟨trivial, trivial⟩
end Go.Proofs.YtnncomlliobobaaDoor
