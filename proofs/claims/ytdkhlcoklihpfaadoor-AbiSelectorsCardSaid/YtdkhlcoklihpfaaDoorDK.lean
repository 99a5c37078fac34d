/-
  The law AbiSelectors of package quaestorlaw05 answers true for all names and all parts, and leaves them as they were. No condition.
-/
import Derived.Test.YtdkhlcoklihpfaaDoorDJ
import Derived.Test.YtdkhlcoklihpfaaDoorRB
import Derived.Test.YtdkhlcoklihpfaaDoorFV2
namespace Go.Proofs.YtdkhlcoklihpfaaDoor
set_option linter.unusedSimpArgs false
set_option linter.unusedVariables false
set_option maxHeartbeats 4000000
set_option maxRecDepth 10000
set_option linter.defProp false
open Go.RowKit Go.ChangeShapes Go.WideShapes Go.ChangeAt
noncomputable def GDK : Ctr := fun f args m => match f with
  | 35 => g_From args m
  | 25 => g_rFrom args m
  | 57 => g_Small args m
  | 32 => g_lowByte args m
  | 40 => g_Read args m
  | 21 => g_Bytes args m
  | 23 => g_Count args m
  | 24 => g_apTail args m
  | 12 => g_abEnc args m
  | 22 => g_kSum args m
  | 17 => g_Dec args m
  | 10 => g_alK args m
  | 14 => g_Sel args m
  | 9 => g_much args m
  | 11 => g_same args m
  | _ => .none
theorem GDK_ok : GOk Tryd.prog GDK := by
  intro w0 B f args m; unfold GDK; split
  · exact g_From_ok _ _ _ _
  · exact g_rFrom_ok _ _ _ _
  · exact g_Small_ok _ _ _ _
  · exact g_lowByte_ok _ _ _ _
  · exact g_Read_ok _ _ _ _
  · exact g_Bytes_ok _ _ _ _
  · exact g_Count_ok _ _ _ _
  · exact g_apTail_ok _ _ _ _
  · exact g_abEnc_ok _ _ _ _
  · exact g_kSum_ok _ _ _ _
  · exact g_Dec_ok _ _ _ _
  · exact g_alK_ok _ _ _ _
  · exact g_Sel_ok _ _ _ _
  · exact g_much_ok _ _ _ _
  · exact g_same_ok _ _ _ _
  · exact trivial
theorem GDK_From : GDK 35 = g_From := by funext args m; rfl
theorem GDK_rFrom : GDK 25 = g_rFrom := by funext args m; rfl
theorem GDK_Small : GDK 57 = g_Small := by funext args m; rfl
theorem GDK_lowByte : GDK 32 = g_lowByte := by funext args m; rfl
theorem GDK_Read : GDK 40 = g_Read := by funext args m; rfl
theorem GDK_Bytes : GDK 21 = g_Bytes := by funext args m; rfl
theorem GDK_Count : GDK 23 = g_Count := by funext args m; rfl
theorem GDK_apTail : GDK 24 = g_apTail := by funext args m; rfl
theorem GDK_abEnc : GDK 12 = g_abEnc := by funext args m; rfl
theorem GDK_kSum : GDK 22 = g_kSum := by funext args m; rfl
theorem GDK_Dec : GDK 17 = g_Dec := by funext args m; rfl
theorem GDK_alK : GDK 10 = g_alK := by funext args m; rfl
theorem GDK_Sel : GDK 14 = g_Sel := by funext args m; rfl
theorem GDK_much : GDK 9 = g_much := by funext args m; rfl
theorem GDK_same : GDK 11 = g_same := by funext args m; rfl
def GDK_set := And.intro (And.intro (And.intro (And.intro (@GDK_From) (And.intro (@g_From.eq_def) (@GDK_rFrom))) (And.intro (And.intro (@g_rFrom.eq_def) (@GDK_Small)) (And.intro (@g_Small.eq_def) (@GDK_lowByte)))) (And.intro (And.intro (And.intro (@g_lowByte.eq_def) (@GDK_Read)) (And.intro (@g_Read.eq_def) (@GDK_Bytes))) (And.intro (And.intro (@g_Bytes.eq_def) (@GDK_Count)) (And.intro (@g_Count.eq_def) (@GDK_apTail))))) (And.intro (And.intro (And.intro (@g_apTail.eq_def) (And.intro (@GDK_abEnc) (@g_abEnc.eq_def))) (And.intro (And.intro (@GDK_kSum) (@g_kSum.eq_def)) (And.intro (@GDK_Dec) (@g_Dec.eq_def)))) (And.intro (And.intro (And.intro (@GDK_alK) (@g_alK.eq_def)) (And.intro (@GDK_Sel) (@g_Sel.eq_def))) (And.intro (And.intro (@GDK_much) (@g_much.eq_def)) (And.intro (@GDK_same) (@g_same.eq_def)))))

theorem Vc.nilownC {P : Program} {c : Code} {env : List SV} {m : List Blk} {K : Kont} (i : Nat) (t : TypeId) (h0 : sget env i = .nilsl)
    (h : Vc P c (sset env i (.own (blen m) (.slice none 0 0) 0)) (bpush m (.own (.slice none 0 0) 0 t 1 (.cells []))) K) : Vc P c env m K := by
  intro w0 B a w hf hd hm
  refine h w0 B a w (by unfold Fr at *; rw [cvs_sset_same env i (by rw [h0]; rfl)]; exact hf) hd ?_
  rw [bpush_eq]
  refine hm.push (grown_refl w) ⟨⟨by simp [cc, cvs], .inl ⟨rfl, rfl⟩⟩, fun b hb => by simp [Value.ownBlock] at hb⟩ (fun b hb => ?_)
  simp [Blk.nums, Value.ownBlock] at hb
/-- A region that makes bytes of a string, where that is asked for. -/
theorem Vc.regionCnvG {P : Program} {T : Tab} (hT : TabOk P T) {G : Ctr} (hG : GOk P G) {id : Nat} {pre rest all : List Oper} {d : Tmp} {s t e : TypeId} {es eb : Nat} {x : Operand} {ty : TypeId} {pos : String} {af : Array Edge} {g : Option (Nat × Bool)} {env : List SV} {m : List Blk} {K : Kont}
    (ha : all = pre ++ (⟨some d, .convert s t x, ty, pos, af, g⟩ :: rest)) (hs : T.ty s = .str)
    (ht : T.ty t = .sl e es eb) (he : T.ty e = .int .u8)
    (h : vcOpst .go T G all pre env m (fun _ env' m' => (∃ b want, gd all env' ⟨some d, .convert s t x, ty, pos, af, g⟩ = .ask b want ∧ eqB b want = true) ∧ ∃ xs, ev T env' x = .str xs ∧ allB xs ∧
      ∀ (b cap : Nat) (o : Obj), xs.length ≤ cap → (∀ M, Blk.heap [(b, o)] ∈ M → LiesH (HM M) (some ⟨b, 0, none⟩) (cc (.ints .u8 xs))) →
        vcOpst .go T G all rest (sset env' d (.gh (some ⟨b, 0, none⟩) xs.length cap (.ints .u8 xs))) (bpush m' (.heap [(b, o)])) (fun _ => K .normal))) :
    Vc P (.region id all.toArray false) env m K := by
  intro w0 B a w hf hd hm
  refine wp_region_lit ?_
  show wpList P all.toArray _ all a w
  conv => arg 4; rw [ha]
  refine vcOps_pre hT hG (ds := []) (fun env m a w hf hd hm h4 => ?_) pre env m a w h hf hd hm
  obtain ⟨⟨gb, gw, hg1, hg2⟩, xs, hz, hx, h⟩ := h4
  have hgs := gd_sound (all := all) hf ⟨some d, .convert s t x, ty, pos, af, g⟩
  rw [hg1] at hgs
  unfold wpList
  rw [if_pos (by first | exact hgs.trans hg2 | exact (ha ▸ hgs).trans hg2)]
  refine .inl ?_
  have hxv : a.eval x = .string (bytesOf xs) := by
    have := hf.ev hT.gl x
    rw [hz] at this
    exact this
  have hc := Lib.run_convert_string_bytes (P := P) w s t e (bytesOf xs) (u := .string) (by have := hT.ty s; rw [hs] at this; exact this) (by have := hT.ty t; rw [ht] at this; exact this.1) (by have := hT.ty e; rw [he] at this; exact this)
  refine wp_of_run (w' := Lib.bytesWorld w e (bytesOf xs)) (u := .slice (some ⟨w.heap.size, 0, none⟩) (bytesOf xs).size (grownCap w (bytesOf xs).size 0 e)) (by
    simp only [execOp, hxv, Sem.run_bind, hc, Result.andThen_ok, Sem.run_pure]) ?_
  have hm' := hm.push (grown_bytes w e (bytesOf xs)) (e := .heap [(w.heap.size, .cells (Lib.bytesCells w e (bytesOf xs)) e ((Lib.bytesCells w e (bytesOf xs)).size, (Lib.bytesCells w e (bytesOf xs)).size + 1))])
    (fun p hp => by rw [List.mem_singleton] at hp; subst hp; exact ⟨Lib.bytesWorld_at_new _ _ _, .inl hm.size⟩)
    (fun b hb => by simp only [Blk.nums, List.map_cons, List.map_nil, List.mem_singleton] at hb; omega)
    (by simp [Blk.nums])
  rw [← bpush_eq] at hm'
  rw [bytesOf_size]
  refine vcOps_sound hT hG (ds := []) (fun e m a w h1 h2 h3 h4 => ⟨e, m, h1, h2, h3, h4⟩) rest _ _ _ _ (h w.heap.size (grownCap w xs.length 0 e) _ (grownCap_ge _ _ _ _) (fun M hM => lies_bytes w e xs hx hM)) (hf.put (some d) (.gh (some ⟨w.heap.size, 0, none⟩) xs.length (grownCap w xs.length 0 e) (.ints .u8 xs))) (by rw [← hd]; rfl) hm'
theorem selB_all (xs : List Int) : allB (selB xs) := fun y hy => bytI_all _ _ y (List.mem_of_mem_take hy)
theorem selB_len (xs : List Int) : (selB xs).length = 4 := by unfold selB; rw [List.length_take, bytI_len]; rfl
set_option maxRecDepth 20000 in
theorem sels_law (xs : List Int) (hx : allB xs) (a : Option Addr) (n c : Nat) (rs : List (List SV)) (l : List Prt) (hl : l.length = n) (hn : n ≤ c) (ha : adr a n c) (hm : n ≤ maxLen) (w : World) (hxl : xs.length ≤ maxLen)
    (h1 : MemOk w [] [.ro (some ⟨1, 0, none⟩) (.ints .u64 kKeys)] w) (h2 : MemOk w [] [.ro (some ⟨2, 0, none⟩) (.ints .u8 kPathI)] w) (h3 : MemOk w [] [.ro (some ⟨0, 0, none⟩) (.cells [.raw eTy])] w)
    (hL : LiesH (H0 w) a (cc (.rows 6 rs))) (hR : PsR (H0 w) rs l) :
    Calls Tryd.prog 8 (cvs [.str xs, .gh a n c (.rows 6 rs)]).toArray w (Yes w) := by
  have hm1 := hm
  unfold maxLen at hm hxl
  have hLx : ∀ m, allOld w ∈ m → LiesH (HM m) a (cc (.rows 6 rs)) := fun m hin => hL.mono (H0.hm hin)
  have hlo := lOf_eq hR
  have hPm : ∀ M, allOld w ∈ M → ∃ l, PsR (HM M) rs l ∧ l.length = n ∧ n ≤ c ∧ adr a n c ∧ n ≤ maxLen ∧ LiesH (HM M) a (cc (.rows 6 rs)) := fun M hin => ⟨l, hR.mono (H0.hm hin), hl, hn, ha, hm1, hLx M hin⟩
  have hm0 : MemOk w [] [.ro (some ⟨1, 0, none⟩) (.ints .u64 kKeys), .ro (some ⟨2, 0, none⟩) (.ints .u8 kPathI), .ro (some ⟨0, 0, none⟩) (.cells [.raw eTy]), allOld w] w := ro_front (ro_front (ro_front (old_start w) h3) h2) h1
  by_cases c1 : xs.length ≤ 2000
  · have d1 : decide ((2000 : Int) < (xs.length : Int)) = false := decide_eq_false (by omega)
    cases hmu : muA l with
    | true =>
      refine Vc.calls T0_ok Tryd.func8 rfl rfl (args := [.str xs, .gh a n c (.rows 6 rs)]) (k := 73) rfl hm0 ?_; change Vc _ _ (c8 (.str xs) (.gh a n c (.rows 6 rs)) .undef .undef .undef .undef .undef .undef (c8 .undef .undef .undef .undef .undef .undef .undef .undef (c8 .undef .undef .undef .undef .undef .undef .undef .undef (c8 .undef .undef .undef .undef .undef .undef .undef .undef (c8 .undef .undef .undef .undef .undef .undef .undef .undef (c8 .undef .undef .undef .undef .undef .undef .undef .undef (c8 .undef .undef .undef .undef .undef .undef .undef .undef (c8 .undef .undef .undef .undef .undef .undef .undef .undef (c8 .undef .undef .undef .undef .undef .undef .undef .undef ([.undef, .undef, .undef])))))))))) _ _
      ((repeat (first | (with_reducible refine Vc.seq fun N hN => ?_) | (with_reducible refine Vc.block ?_) | ((first | with_reducible refine Vc.skip ?_ | with_reducible refine Vc.exit ?_); dsimp only [thenK, blockK, Nat.beq]; (first | (refine hN _ _ ?_; clear hN N) | skip)) | (with_reducible intro _) | ((with_reducible refine And.intro ?_ ?_); (focus (first | ((repeat' with_reducible apply And.intro) <;> first | exact sideQ | (exact hPm _ (by simp)) | (exact hLx _ (by simp))) | exact sd0))) | ((first | ((with_reducible refine askT_of ?_ (fun hb => ?_)); (focus (first | ((repeat' with_reducible apply And.intro) <;> first | exact sideQ | (exact hPm _ (by simp)) | (exact hLx _ (by simp))) | exact sd0)); (try simp only [hb])) | ((with_reducible refine Vc.fin ?_); dsimp only [thenK, blockK, retK, resS, resOne, resAll]) | ((with_reducible refine Vc.hold ?_); first | refine Vc.regiont T0_ok GDK_ok ?_)); (try simp only [v8X, v8A, v8B, v8C, Nat.beq, Nat.ble, Int.reduceToNat, Int.reduceLE, Int.reduceLT, Nat.reduceLT, Nat.reduceLeDiff, Nat.reduceAdd, Nat.reduceMul, Nat.reduceSub, Int.reduceAdd, Int.reduceSub, Int.reduceMul, eq_self, decide_true, beq_self_eq_true, List.length_cons, List.length_nil, Nat.min_eq_left, IntKind.bits, tabs, GDK_set, d1, hlo, hmu]); (try simp (disch := omega) only [v8W])) | ((with_reducible refine hN _ _ ?_); clear hN N; (try simp (disch := omega) only [v8W])))); (try ((with_reducible refine Fin.of ?_); (try with_reducible exact True.intro))))
      (refine Vc.cond T0_ok (t := true) (by rfl) (fun _ => ?_) (fun h => Bool.noConfusion h))
      ((repeat (first | (with_reducible refine Vc.seq fun N hN => ?_) | (with_reducible refine Vc.block ?_) | ((first | with_reducible refine Vc.skip ?_ | with_reducible refine Vc.exit ?_); dsimp only [thenK, blockK, Nat.beq]; (first | (refine hN _ _ ?_; clear hN N) | skip)) | (with_reducible intro _) | ((with_reducible refine And.intro ?_ ?_); (focus (first | ((repeat' with_reducible apply And.intro) <;> first | exact sideQ | (exact hPm _ (by simp)) | (exact hLx _ (by simp))) | exact sd0))) | ((first | ((with_reducible refine askT_of ?_ (fun hb => ?_)); (focus (first | ((repeat' with_reducible apply And.intro) <;> first | exact sideQ | (exact hPm _ (by simp)) | (exact hLx _ (by simp))) | exact sd0)); (try simp only [hb])) | ((with_reducible refine Vc.fin ?_); dsimp only [thenK, blockK, retK, resS, resOne, resAll]) | ((with_reducible refine Vc.hold ?_); first | refine Vc.regiont T0_ok GDK_ok ?_)); (try simp only [v8X, v8A, v8B, v8C, Nat.beq, Nat.ble, Int.reduceToNat, Int.reduceLE, Int.reduceLT, Nat.reduceLT, Nat.reduceLeDiff, Nat.reduceAdd, Nat.reduceMul, Nat.reduceSub, Int.reduceAdd, Int.reduceSub, Int.reduceMul, eq_self, decide_true, beq_self_eq_true, List.length_cons, List.length_nil, Nat.min_eq_left, IntKind.bits, tabs, GDK_set, d1, hlo, hmu]); (try simp (disch := omega) only [v8W])) | ((with_reducible refine hN _ _ ?_); clear hN N; (try simp (disch := omega) only [v8W])))); (try ((with_reducible refine Fin.of ?_); (try with_reducible exact True.intro))))
      exact ⟨by simp, trivial⟩
    | false =>
      obtain ⟨hz, hl2⟩ := muA_no hmu
      obtain ⟨r1, r2, r3⟩ := hR
      have hPe : ∀ M, allOld w ∈ M → ∃ l, PsR (HM M) rs l ∧ l.length = n ∧ n ≤ c ∧ adr a n c ∧ psz l ≤ 100000 ∧ LiesH (HM M) a (cc (.rows 6 rs)) := fun M hin => ⟨l, PsR.mono (H0.hm hin) ⟨r1, r2, r3⟩, hl, hn, ha, by omega, hLx M hin⟩
      have hdec : abDec (abEnc l) (l.map fun p => p.d) = some (l.map nrm) := by
        have := abDec_enc l [] (fun p hp _ => PsR.lt ⟨r1, r2, r3⟩ p hp) (by omega)
        rwa [List.append_nil] at this
      refine Vc.calls T0_ok Tryd.func8 rfl rfl (args := [.str xs, .gh a n c (.rows 6 rs)]) (k := 73) rfl hm0 ?_; change Vc _ _ (c8 (.str xs) (.gh a n c (.rows 6 rs)) .undef .undef .undef .undef .undef .undef (c8 .undef .undef .undef .undef .undef .undef .undef .undef (c8 .undef .undef .undef .undef .undef .undef .undef .undef (c8 .undef .undef .undef .undef .undef .undef .undef .undef (c8 .undef .undef .undef .undef .undef .undef .undef .undef (c8 .undef .undef .undef .undef .undef .undef .undef .undef (c8 .undef .undef .undef .undef .undef .undef .undef .undef (c8 .undef .undef .undef .undef .undef .undef .undef .undef (c8 .undef .undef .undef .undef .undef .undef .undef .undef ([.undef, .undef, .undef])))))))))) _ _
      ((repeat (first | (with_reducible refine Vc.seq fun N hN => ?_) | (with_reducible refine Vc.block ?_) | ((first | with_reducible refine Vc.skip ?_ | with_reducible refine Vc.exit ?_); dsimp only [thenK, blockK, Nat.beq]; (first | (refine hN _ _ ?_; clear hN N) | skip)) | (with_reducible intro _) | ((with_reducible refine And.intro ?_ ?_); (focus (first | ((repeat' with_reducible apply And.intro) <;> first | exact sideQ | (exact hPm _ (by simp)) | (exact hPe _ (by simp)) | (exact hLx _ (by simp))) | exact sd0))) | ((first | ((with_reducible refine askT_of ?_ (fun hb => ?_)); (focus (first | ((repeat' with_reducible apply And.intro) <;> first | exact sideQ | (exact hPm _ (by simp)) | (exact hPe _ (by simp)) | (exact hLx _ (by simp))) | exact sd0)); (try simp only [hb])) | ((with_reducible refine Vc.fin ?_); dsimp only [thenK, blockK, retK, resS, resOne, resAll]) | ((with_reducible refine Vc.hold ?_); first | refine Vc.regiont T0_ok GDK_ok ?_)); (try simp only [v8X, v8A, v8B, v8C, Nat.beq, Nat.ble, Int.reduceToNat, Int.reduceLE, Int.reduceLT, Nat.reduceLT, Nat.reduceLeDiff, Nat.reduceAdd, Nat.reduceMul, Nat.reduceSub, Int.reduceAdd, Int.reduceSub, Int.reduceMul, eq_self, decide_true, beq_self_eq_true, List.length_cons, List.length_nil, Nat.min_eq_left, IntKind.bits, tabs, GDK_set, d1, hlo, hmu]); (try simp (disch := omega) only [v8W])) | ((with_reducible refine hN _ _ ?_); clear hN N; (try simp (disch := omega) only [v8W])))); (try ((with_reducible refine Fin.of ?_); (try with_reducible exact True.intro))))
      (refine Vc.cond T0_ok (t := false) (by rfl) (fun h => Bool.noConfusion h) (fun _ => ?_))
      refine Vc.skip ?_
      dsimp only [thenK, blockK, Nat.beq]
      refine hN _ _ ?_
      clear hN N
      ((with_reducible refine Vc.seq fun N hN => ?_); (refine Vc.regiont T0_ok GDK_ok ?_); simp only [v8X, v8A, v8B, v8C, Nat.beq, Nat.ble, Int.reduceToNat, Int.reduceLE, Int.reduceLT, Nat.reduceLT, Nat.reduceLeDiff, Nat.reduceAdd, Nat.reduceMul, Nat.reduceSub, Int.reduceAdd, Int.reduceSub, Int.reduceMul, eq_self, decide_true, beq_self_eq_true, List.length_cons, List.length_nil, Nat.min_eq_left, IntKind.bits, tabs, GDK_set]; (try simp (disch := omega) only [v8W]); (repeat (first | with_reducible intro _ | ((with_reducible refine And.intro ?_ ?_); (focus (first | ((repeat' with_reducible apply And.intro) <;> first | exact sideQ | (exact hPm _ (by simp)) | (exact hPe _ (by simp)) | (exact hLx _ (by simp))) | exact sd0))) | ((with_reducible refine askT_of ?_ (fun hb => ?_)); (focus (first | ((repeat' with_reducible apply And.intro) <;> first | exact sideQ | (exact hPm _ (by simp)) | (exact hPe _ (by simp)) | (exact hLx _ (by simp))) | exact sd0)); simp only [hb, v8X, v8A, v8B, v8C, Nat.beq, Nat.ble, Int.reduceToNat, Int.reduceLE, Int.reduceLT, Nat.reduceLT, Nat.reduceLeDiff, Nat.reduceAdd, Nat.reduceMul, Nat.reduceSub, Int.reduceAdd, Int.reduceSub, Int.reduceMul, eq_self, decide_true, beq_self_eq_true, List.length_cons, List.length_nil, Nat.min_eq_left, IntKind.bits, tabs, GDK_set]; (try simp (disch := omega) only [v8W])))); (first | (refine hN _ _ ?_; clear hN N; (try simp (disch := omega) only [v8W])) | skip))
      refine Vc.seq fun N hN => ?_
      refine Vc.seq fun N hN => ?_
      refine Vc.regionCnvG T0_ok GDK_ok (pre := [_, _, _, _, _, _]) (s := 9) (t := 26) (e := 5) rfl rfl rfl rfl ?_
      have d4 : decide (((4 : Nat) : Int) = 4) = true := rfl
      (simp only [v8X, v8A, v8B, v8C, Nat.beq, Nat.ble, Int.reduceToNat, Int.reduceLE, Int.reduceLT, Nat.reduceLT, Nat.reduceLeDiff, Nat.reduceAdd, Nat.reduceMul, Nat.reduceSub, Int.reduceAdd, Int.reduceSub, Int.reduceMul, eq_self, decide_true, beq_self_eq_true, List.length_cons, List.length_nil, Nat.min_eq_left, IntKind.bits, tabs, d4, Bool.not_true, Bool.not_false])
      (repeat (with_reducible refine And.intro True.intro ?_))
      refine ⟨⟨_, _, rfl, rfl⟩, xs, rfl, hx, fun b cap o hcp hLi => ?_⟩
      have hLb : ∀ M, Blk.heap [(b, o)] ∈ M → LiesH (HM M) (some ⟨b, 0, none⟩) (cc (.ints .u8 xs)) := hLi
      have u1 : xs.take xs.length = xs := List.take_length
      have hsB : decide (selB xs = (bytI (kSum xs) 32).take 4) = true := decide_eq_true rfl
      have u4 : (selB xs).take 4 = selB xs := List.take_of_length_le (by unfold selB; rw [List.length_take]; omega)
      have n4 : (4 : Int).toNat - 0 = 4 := rfl
      (simp only [v8X, v8A, v8B, v8C, Nat.beq, Nat.ble, Int.reduceToNat, Int.reduceLE, Int.reduceLT, Nat.reduceLT, Nat.reduceLeDiff, Nat.reduceAdd, Nat.reduceMul, Nat.reduceSub, Int.reduceAdd, Int.reduceSub, Int.reduceMul, eq_self, decide_true, beq_self_eq_true, List.length_cons, List.length_nil, Nat.min_eq_left, IntKind.bits, tabs, GDK_set, u1, u4, n4, hsB, List.drop_zero]; (try simp (disch := omega) only [v8W]); (repeat (first | with_reducible intro _ | ((with_reducible refine And.intro ?_ ?_); (focus (first | ((repeat' with_reducible apply And.intro) <;> first | exact sideQ | (exact hLb _ (by simp)) | (exact .inl rfl) | (exact kSum_lt _) | (exact selB_all xs) | (rw [selB_len]; exact Nat.le_refl _) | (exact bytI_all _ _) | (rw [bytI_len]; omega)) | exact sd0))) | ((with_reducible refine askT_of ?_ (fun hb => ?_)); (focus (first | ((repeat' with_reducible apply And.intro) <;> first | exact sideQ | (exact hLb _ (by simp)) | (exact .inl rfl) | (exact kSum_lt _) | (exact selB_all xs) | (rw [selB_len]; exact Nat.le_refl _) | (exact bytI_all _ _) | (rw [bytI_len]; omega)) | exact sd0)); simp only [hb, v8X, v8A, v8B, v8C, Nat.beq, Nat.ble, Int.reduceToNat, Int.reduceLE, Int.reduceLT, Nat.reduceLT, Nat.reduceLeDiff, Nat.reduceAdd, Nat.reduceMul, Nat.reduceSub, Int.reduceAdd, Int.reduceSub, Int.reduceMul, eq_self, decide_true, beq_self_eq_true, List.length_cons, List.length_nil, Nat.min_eq_left, IntKind.bits, tabs, GDK_set, u1, u4, n4, hsB, List.drop_zero]; (try simp (disch := omega) only [v8W])))); (first | (refine hN _ _ ?_; clear hN N; (try simp (disch := omega) only [v8W])) | skip))
      rename_i vs vb
      (refine Vc.cond T0_ok (t := false) (by rfl) (fun h => Bool.noConfusion h) (fun _ => ?_))
      ((repeat (first | (with_reducible refine Vc.seq fun N hN => ?_) | (with_reducible refine Vc.block ?_) | ((first | with_reducible refine Vc.skip ?_ | with_reducible refine Vc.exit ?_); dsimp only [thenK, blockK, Nat.beq]; (first | (refine hN _ _ ?_; clear hN N) | skip)) | (with_reducible intro _) | ((with_reducible refine And.intro ?_ ?_); (focus (first | exact sideQ | exact sd0))) | ((first | ((with_reducible refine askT_of ?_ (fun hb => ?_)); (focus (first | exact sideQ | exact sd0)); (try simp only [hb])) | ((with_reducible refine Vc.fin ?_); dsimp only [thenK, blockK, retK, resS, resOne, resAll]) | ((with_reducible refine Vc.hold ?_); first | refine Vc.regiont T0_ok GDK_ok ?_)); (try simp only [v8X, v8A, v8B, v8C, Nat.beq, Nat.ble, Int.reduceToNat, Int.reduceLE, Int.reduceLT, Nat.reduceLT, Nat.reduceLeDiff, Nat.reduceAdd, Nat.reduceMul, Nat.reduceSub, Int.reduceAdd, Int.reduceSub, Int.reduceMul, eq_self, decide_true, beq_self_eq_true, List.length_cons, List.length_nil, Nat.min_eq_left, IntKind.bits, tabs, GDK_set, ]); (try simp (disch := omega) only [v8W])) | ((with_reducible refine hN _ _ ?_); clear hN N; (try simp (disch := omega) only [v8W])))); (try ((with_reducible refine Fin.of ?_); (try with_reducible exact True.intro))))
      (revert N; intro N1 hN1)
      refine Vc.nilownC 6 4 rfl ?_
      (simp only [v8X, v8A, v8B, v8C, Nat.beq, Nat.ble, Int.reduceToNat, Int.reduceLE, Int.reduceLT, Nat.reduceLT, Nat.reduceLeDiff, Nat.reduceAdd, Nat.reduceMul, Nat.reduceSub, Int.reduceAdd, Int.reduceSub, Int.reduceMul, eq_self, decide_true, beq_self_eq_true, List.length_cons, List.length_nil, Nat.min_eq_left, IntKind.bits, tabs])
      refine Vc.loop 6 75 (fun (x : Nat × Value) => [(6, .own 7 x.2 x.1), (7, .int .i64 (x.1 : Nat))]) (fun x => [.ro (some ⟨1, 0, none⟩) (.ints .u64 kKeys), .ro (some ⟨2, 0, none⟩) (.ints .u8 kPathI), .ro (some ⟨0, 0, none⟩) (.cells [.raw eTy]), allOld w, .own vs 4 5 1 (.ints .u8 (selB xs)), .heap [(b, o)], .own vb 32 5 1 (.ints .u8 (bytI (kSum xs) 32)), .own x.2 x.1 4 1 (.cells (((l.take x.1).map fun p => p.d).map .bool))]) (fun x => x.1 ≤ n) (fun x => n - x.1) (0, .slice none 0 0) ⟨Nat.zero_le _, ?_, ?_⟩ (fun x junk hk1 => ?_)
      · ((try simp only [v8X, v8A, v8B, v8C, Nat.beq, Nat.ble, Int.reduceToNat, Int.reduceLE, Int.reduceLT, Nat.reduceLT, Nat.reduceLeDiff, Nat.reduceAdd, Nat.reduceMul, Nat.reduceSub, Int.reduceAdd, Int.reduceSub, Int.reduceMul, eq_self, decide_true, beq_self_eq_true, List.length_cons, List.length_nil, Nat.min_eq_left, IntKind.bits, tabs]); (repeat' with_reducible apply And.intro) <;> first | with_reducible exact True.intro | rfl | with_reducible rfl | (congr 1 <;> omega) | trivial)
      · ((try simp only [v8X, v8A, v8B, v8C, Nat.beq, Nat.ble, Int.reduceToNat, Int.reduceLE, Int.reduceLT, Nat.reduceLT, Nat.reduceLeDiff, Nat.reduceAdd, Nat.reduceMul, Nat.reduceSub, Int.reduceAdd, Int.reduceSub, Int.reduceMul, eq_self, decide_true, beq_self_eq_true, List.length_cons, List.length_nil, Nat.min_eq_left, IntKind.bits, tabs]); (repeat' with_reducible apply And.intro) <;> first | with_reducible exact True.intro | rfl | with_reducible rfl | (congr 1 <;> omega) | trivial)
      · obtain ⟨k, v6⟩ := x
        simp only at hk1 ⊢
        (simp only [v8X, v8A, v8B, v8C, Nat.beq, Nat.ble, Int.reduceToNat, Int.reduceLE, Int.reduceLT, Nat.reduceLT, Nat.reduceLeDiff, Nat.reduceAdd, Nat.reduceMul, Nat.reduceSub, Int.reduceAdd, Int.reduceSub, Int.reduceMul, eq_self, decide_true, beq_self_eq_true, List.length_cons, List.length_nil, Nat.min_eq_left, IntKind.bits, tabs])
        by_cases hc1 : k < n
        · have e0 : decide ((k : Int) < (n : Int)) = true := decide_eq_true (by omega)
          have tk : ((k : Nat) : Int).toNat = k := by omega
          have e1 := List.getElem?_eq_getElem (show k < rs.length by omega)
          have e2 := List.getElem?_eq_getElem (show k < l.length by omega)
          have hp := r3 k _ _ e1 e2
          have hgd := getD_of e1
          generalize rs[k] = r at *
          generalize l[k] = p at *
          obtain ⟨x0, x1, x2, x3, pa, pn, pc, rfl, g1, g2, g3, g4, g5, g6, g7, g8⟩ := hp
          have z2 : ((l.take k).map fun p => p.d).map SV.bool ++ [SV.bool p.d] = ((l.take (k + 1)).map fun p => p.d).map SV.bool := by rw [take_more e2, List.map_append, List.map_append]; rfl
          ((repeat (first | (with_reducible refine Vc.seq fun N hN => ?_) | (with_reducible refine Vc.block ?_) | ((first | with_reducible refine Vc.skip ?_ | with_reducible refine Vc.exit ?_); dsimp only [thenK, blockK, Nat.beq]; (first | (refine hN _ _ ?_; clear hN N) | skip)) | (with_reducible intro _) | ((with_reducible refine And.intro ?_ ?_); (focus (first | exact sideQ | exact sd0))) | ((first | ((with_reducible refine askT_of ?_ (fun hb => ?_)); (focus (first | exact sideQ | exact sd0)); (try simp only [hb])) | ((with_reducible refine Vc.fin ?_); dsimp only [thenK, blockK, retK, resS, resOne, resAll]) | ((with_reducible refine Vc.hold ?_); first | refine Vc.regiont T0_ok GDK_ok ?_)); (try simp only [v8X, v8A, v8B, v8C, Nat.beq, Nat.ble, Int.reduceToNat, Int.reduceLE, Int.reduceLT, Nat.reduceLT, Nat.reduceLeDiff, Nat.reduceAdd, Nat.reduceMul, Nat.reduceSub, Int.reduceAdd, Int.reduceSub, Int.reduceMul, eq_self, decide_true, beq_self_eq_true, List.length_cons, List.length_nil, Nat.min_eq_left, IntKind.bits, tabs, GDK_set, e0]); (try simp (disch := omega) only [v8W])) | ((with_reducible refine hN _ _ ?_); clear hN N; (try simp (disch := omega) only [v8W])))); (try ((with_reducible refine Fin.of ?_); (try with_reducible exact True.intro))))
          (refine Vc.cond T0_ok (t := true) (by rfl) (fun _ => ?_) (fun h => Bool.noConfusion h))
          ((repeat (first | (with_reducible refine Vc.seq fun N hN => ?_) | (with_reducible refine Vc.block ?_) | ((first | with_reducible refine Vc.skip ?_ | with_reducible refine Vc.exit ?_); dsimp only [thenK, blockK, Nat.beq]; (first | (refine hN _ _ ?_; clear hN N) | skip)) | (with_reducible intro _) | ((with_reducible refine And.intro ?_ ?_); (focus (first | ((repeat' with_reducible apply And.intro) <;> first | exact sideQ | (exact hLx _ (by simp))) | exact sd0))) | ((first | ((with_reducible refine askT_of ?_ (fun hb => ?_)); (focus (first | ((repeat' with_reducible apply And.intro) <;> first | exact sideQ | (exact hLx _ (by simp))) | exact sd0)); (try simp only [hb])) | ((with_reducible refine Vc.fin ?_); dsimp only [thenK, blockK, retK, resS, resOne, resAll]) | ((with_reducible refine Vc.hold ?_); first | refine Vc.regiont T0_ok GDK_ok ?_)); (try simp only [v8X, v8A, v8B, v8C, Nat.beq, Nat.ble, Int.reduceToNat, Int.reduceLE, Int.reduceLT, Nat.reduceLT, Nat.reduceLeDiff, Nat.reduceAdd, Nat.reduceMul, Nat.reduceSub, Int.reduceAdd, Int.reduceSub, Int.reduceMul, eq_self, decide_true, beq_self_eq_true, List.length_cons, List.length_nil, Nat.min_eq_left, IntKind.bits, tabs, GDK_set, e0, tk, hgd]); (try simp (disch := omega) only [v8W])) | ((with_reducible refine hN _ _ ?_); clear hN N; (try simp (disch := omega) only [v8W])))); (try ((with_reducible refine Fin.of ?_); (try with_reducible exact True.intro))))
          rename_i _ v'
          refine ⟨(k + 1, v'), by simp only; omega, ?_, ?_, by simp only; omega⟩
          · ((try simp only [v8X, v8A, v8B, v8C, Nat.beq, Nat.ble, Int.reduceToNat, Int.reduceLE, Int.reduceLT, Nat.reduceLT, Nat.reduceLeDiff, Nat.reduceAdd, Nat.reduceMul, Nat.reduceSub, Int.reduceAdd, Int.reduceSub, Int.reduceMul, eq_self, decide_true, beq_self_eq_true, List.length_cons, List.length_nil, Nat.min_eq_left, IntKind.bits, tabs]); (repeat' with_reducible apply And.intro) <;> first | with_reducible exact True.intro | rfl | (congr 1 <;> omega))
          · simp only [List.take_succ_cons, List.take_zero, List.drop_zero]
            rw [← z2]
            ((try simp only [v8X, v8A, v8B, v8C, Nat.beq, Nat.ble, Int.reduceToNat, Int.reduceLE, Int.reduceLT, Nat.reduceLT, Nat.reduceLeDiff, Nat.reduceAdd, Nat.reduceMul, Nat.reduceSub, Int.reduceAdd, Int.reduceSub, Int.reduceMul, eq_self, decide_true, beq_self_eq_true, List.length_cons, List.length_nil, Nat.min_eq_left, IntKind.bits, tabs]); (repeat' with_reducible apply And.intro) <;> first | with_reducible exact True.intro | rfl | (congr 1 <;> omega))
        · have e0 : decide ((k : Int) < (n : Int)) = false := decide_eq_false (by omega)
          obtain rfl : k = n := by omega
          ((repeat (first | (with_reducible refine Vc.seq fun N hN => ?_) | (with_reducible refine Vc.block ?_) | ((first | with_reducible refine Vc.skip ?_ | with_reducible refine Vc.exit ?_); dsimp only [thenK, blockK, Nat.beq]; (first | (refine hN _ _ ?_; clear hN N) | skip)) | (with_reducible intro _) | ((with_reducible refine And.intro ?_ ?_); (focus (first | exact sideQ | exact sd0))) | ((first | ((with_reducible refine askT_of ?_ (fun hb => ?_)); (focus (first | exact sideQ | exact sd0)); (try simp only [hb])) | ((with_reducible refine Vc.fin ?_); dsimp only [thenK, blockK, retK, resS, resOne, resAll]) | ((with_reducible refine Vc.hold ?_); first | refine Vc.regiont T0_ok GDK_ok ?_)); (try simp only [v8X, v8A, v8B, v8C, Nat.beq, Nat.ble, Int.reduceToNat, Int.reduceLE, Int.reduceLT, Nat.reduceLT, Nat.reduceLeDiff, Nat.reduceAdd, Nat.reduceMul, Nat.reduceSub, Int.reduceAdd, Int.reduceSub, Int.reduceMul, eq_self, decide_true, beq_self_eq_true, List.length_cons, List.length_nil, Nat.min_eq_left, IntKind.bits, tabs, GDK_set, e0]); (try simp (disch := omega) only [v8W])) | ((with_reducible refine hN _ _ ?_); clear hN N; (try simp (disch := omega) only [v8W])))); (try ((with_reducible refine Fin.of ?_); (try with_reducible exact True.intro))))
          (refine Vc.cond T0_ok (t := false) (by rfl) (fun h => Bool.noConfusion h) (fun _ => ?_))
          ((repeat (first | (with_reducible refine Vc.seq fun N hN => ?_) | (with_reducible refine Vc.block ?_) | ((first | with_reducible refine Vc.skip ?_ | with_reducible refine Vc.exit ?_); dsimp only [thenK, blockK, Nat.beq]; (first | (refine hN _ _ ?_; clear hN N) | skip)) | (with_reducible intro _) | ((with_reducible refine And.intro ?_ ?_); (focus (first | exact sideQ | exact sd0))) | ((first | ((with_reducible refine askT_of ?_ (fun hb => ?_)); (focus (first | exact sideQ | exact sd0)); (try simp only [hb])) | ((with_reducible refine Vc.fin ?_); dsimp only [thenK, blockK, retK, resS, resOne, resAll]) | ((with_reducible refine Vc.hold ?_); first | refine Vc.regiont T0_ok GDK_ok ?_)); (try simp only [v8X, v8A, v8B, v8C, Nat.beq, Nat.ble, Int.reduceToNat, Int.reduceLE, Int.reduceLT, Nat.reduceLT, Nat.reduceLeDiff, Nat.reduceAdd, Nat.reduceMul, Nat.reduceSub, Int.reduceAdd, Int.reduceSub, Int.reduceMul, eq_self, decide_true, beq_self_eq_true, List.length_cons, List.length_nil, Nat.min_eq_left, IntKind.bits, tabs, GDK_set]); (try simp (disch := omega) only [v8W])) | ((with_reducible refine hN _ _ ?_); clear hN N; (try simp (disch := omega) only [v8W])))); (try ((with_reducible refine Fin.of ?_); (try with_reducible exact True.intro))))
          (refine hN1 _ _ ?_; (try clear hN N); clear hN1 N1)
          have tn : l.take k = l := List.take_of_length_le (by omega)
          have tD : ((l.map fun p => p.d).map SV.bool).take k = (l.map fun p => p.d).map SV.bool := List.take_of_length_le (by simp; omega)
          have hao := allOne_map (l.map fun p => p.d)
          have hbm := bools_map (l.map fun p => p.d)
          have uE : (abEnc l).take (abEnc l).length = abEnc l := List.take_length
          have hdr : (selB xs ++ abEnc l).drop 4 = abEnc l := drop_at (selB_len xs)
          have hEl : (abEnc l).length ≤ 32 * l.length + 64 * psz l := by
            have := encS_len l.length l
            unfold abEnc; rw [List.length_append]; omega
          have hEa : allB (abEnc l) := abEnc_all ⟨r1, r2, r3⟩
          have tE : (abEnc l).take (4 + (abEnc l).length - 4) = abEnc l := List.take_of_length_le (by omega)
          ((with_reducible refine Vc.seq fun N hN => ?_); (refine Vc.regiont T0_ok GDK_ok ?_); simp only [v8X, v8A, v8B, v8C, Nat.beq, Nat.ble, Int.reduceToNat, Int.reduceLE, Int.reduceLT, Nat.reduceLT, Nat.reduceLeDiff, Nat.reduceAdd, Nat.reduceMul, Nat.reduceSub, Int.reduceAdd, Int.reduceSub, Int.reduceMul, eq_self, decide_true, beq_self_eq_true, List.length_cons, List.length_nil, Nat.min_eq_left, IntKind.bits, tabs, GDK_set]; (try simp (disch := omega) only [v8W]); (repeat (first | with_reducible intro _ | ((with_reducible refine And.intro ?_ ?_); (focus (first | exact sideQ | exact sd0))) | ((with_reducible refine askT_of ?_ (fun hb => ?_)); (focus (first | exact sideQ | exact sd0)); simp only [hb, v8X, v8A, v8B, v8C, Nat.beq, Nat.ble, Int.reduceToNat, Int.reduceLE, Int.reduceLT, Nat.reduceLT, Nat.reduceLeDiff, Nat.reduceAdd, Nat.reduceMul, Nat.reduceSub, Int.reduceAdd, Int.reduceSub, Int.reduceMul, eq_self, decide_true, beq_self_eq_true, List.length_cons, List.length_nil, Nat.min_eq_left, IntKind.bits, tabs, GDK_set]; (try simp (disch := omega) only [v8W])))); (first | (refine hN _ _ ?_; clear hN N; (try simp (disch := omega) only [v8W])) | skip))
          refine Vc.nilown 8 5 1 .u8 rfl ?_
          (simp only [v8X, v8A, v8B, v8C, Nat.beq, Nat.ble, Int.reduceToNat, Int.reduceLE, Int.reduceLT, Nat.reduceLT, Nat.reduceLeDiff, Nat.reduceAdd, Nat.reduceMul, Nat.reduceSub, Int.reduceAdd, Int.reduceSub, Int.reduceMul, eq_self, decide_true, beq_self_eq_true, List.length_cons, List.length_nil, Nat.min_eq_left, IntKind.bits, tabs])
          ((with_reducible refine Vc.seq fun N hN => ?_); (refine Vc.regiont T0_ok GDK_ok ?_); simp only [v8X, v8A, v8B, v8C, Nat.beq, Nat.ble, Int.reduceToNat, Int.reduceLE, Int.reduceLT, Nat.reduceLT, Nat.reduceLeDiff, Nat.reduceAdd, Nat.reduceMul, Nat.reduceSub, Int.reduceAdd, Int.reduceSub, Int.reduceMul, eq_self, decide_true, beq_self_eq_true, List.length_cons, List.length_nil, Nat.min_eq_left, IntKind.bits, tabs, GDK_set, u4, List.drop_zero, List.nil_append]; (try simp (disch := omega) only [v8W]); (repeat (first | with_reducible intro _ | ((with_reducible refine And.intro ?_ ?_); (focus (first | ((repeat' with_reducible apply And.intro) <;> first | exact sideQ | (exact hPe _ (by simp)) | (simp [noAlias]; done) | (rw [selB_len]; exact Nat.le_refl _)) | exact sd0))) | ((with_reducible refine askT_of ?_ (fun hb => ?_)); (focus (first | ((repeat' with_reducible apply And.intro) <;> first | exact sideQ | (exact hPe _ (by simp)) | (simp [noAlias]; done) | (rw [selB_len]; exact Nat.le_refl _)) | exact sd0)); simp only [hb, v8X, v8A, v8B, v8C, Nat.beq, Nat.ble, Int.reduceToNat, Int.reduceLE, Int.reduceLT, Nat.reduceLT, Nat.reduceLeDiff, Nat.reduceAdd, Nat.reduceMul, Nat.reduceSub, Int.reduceAdd, Int.reduceSub, Int.reduceMul, eq_self, decide_true, beq_self_eq_true, List.length_cons, List.length_nil, Nat.min_eq_left, IntKind.bits, tabs, GDK_set, u4, List.drop_zero, List.nil_append]; (try simp (disch := omega) only [v8W])))); (first | (refine hN _ _ ?_; clear hN N; (try simp (disch := omega) only [v8W])) | skip))
          ((with_reducible refine Vc.seq fun N hN => ?_); (refine Vc.regiont T0_ok GDK_ok ?_); simp only [v8X, v8A, v8B, v8C, Nat.beq, Nat.ble, Int.reduceToNat, Int.reduceLE, Int.reduceLT, Nat.reduceLT, Nat.reduceLeDiff, Nat.reduceAdd, Nat.reduceMul, Nat.reduceSub, Int.reduceAdd, Int.reduceSub, Int.reduceMul, eq_self, decide_true, beq_self_eq_true, List.length_cons, List.length_nil, Nat.min_eq_left, IntKind.bits, tabs, GDK_set, hlo, uE, List.drop_zero]; (try simp (disch := omega) only [v8W]); (repeat (first | with_reducible intro _ | ((with_reducible refine And.intro ?_ ?_); (focus (first | ((repeat' with_reducible apply And.intro) <;> first | exact sideQ | (exact hPe _ (by simp)) | (simp [noAlias]; done) | (rw [selB_len]; exact Nat.le_refl _)) | exact sd0))) | ((with_reducible refine askT_of ?_ (fun hb => ?_)); (focus (first | ((repeat' with_reducible apply And.intro) <;> first | exact sideQ | (exact hPe _ (by simp)) | (simp [noAlias]; done) | (rw [selB_len]; exact Nat.le_refl _)) | exact sd0)); simp only [hb, v8X, v8A, v8B, v8C, Nat.beq, Nat.ble, Int.reduceToNat, Int.reduceLE, Int.reduceLT, Nat.reduceLT, Nat.reduceLeDiff, Nat.reduceAdd, Nat.reduceMul, Nat.reduceSub, Int.reduceAdd, Int.reduceSub, Int.reduceMul, eq_self, decide_true, beq_self_eq_true, List.length_cons, List.length_nil, Nat.min_eq_left, IntKind.bits, tabs, GDK_set, hlo, uE, List.drop_zero]; (try simp (disch := omega) only [v8W])))); (first | (refine hN _ _ ?_; clear hN N; (try simp (disch := omega) only [v8W])) | skip))
          ((repeat (first | (with_reducible refine Vc.seq fun N hN => ?_) | (with_reducible refine Vc.block ?_) | ((first | with_reducible refine Vc.skip ?_ | with_reducible refine Vc.exit ?_); dsimp only [thenK, blockK, Nat.beq]; (first | (refine hN _ _ ?_; clear hN N) | skip)) | (with_reducible intro _) | ((with_reducible refine And.intro ?_ ?_); (focus (first | ((repeat' with_reducible apply And.intro) <;> first | exact sideQ | (exact hPe _ (by simp)) | (simp; omega) | (rw [List.length_append, selB_len]; omega) | (rw [selB_len]; exact Nat.le_refl _)) | exact sd0))) | ((first | ((with_reducible refine askT_of ?_ (fun hb => ?_)); (focus (first | ((repeat' with_reducible apply And.intro) <;> first | exact sideQ | (exact hPe _ (by simp)) | (simp; omega) | (rw [List.length_append, selB_len]; omega) | (rw [selB_len]; exact Nat.le_refl _)) | exact sd0)); (try simp only [hb])) | ((with_reducible refine Vc.fin ?_); dsimp only [thenK, blockK, retK, resS, resOne, resAll]) | ((with_reducible refine Vc.hold ?_); first | refine Vc.regiont T0_ok GDK_ok ?_)); (try simp only [v8X, v8A, v8B, v8C, Nat.beq, Nat.ble, Int.reduceToNat, Int.reduceLE, Int.reduceLT, Nat.reduceLT, Nat.reduceLeDiff, Nat.reduceAdd, Nat.reduceMul, Nat.reduceSub, Int.reduceAdd, Int.reduceSub, Int.reduceMul, eq_self, decide_true, beq_self_eq_true, List.length_cons, List.length_nil, Nat.min_eq_left, IntKind.bits, tabs, GDK_set, tn, tD, hao, hbm, hdr, tE, hdec, List.drop_zero]); (try simp (disch := omega) only [v8W])) | ((with_reducible refine hN _ _ ?_); clear hN N; (try simp (disch := omega) only [v8W])))); (try ((with_reducible refine Fin.of ?_); (try with_reducible exact True.intro))))
          exact ⟨trivial, by simp [hl]⟩
  · have d1 : decide ((2000 : Int) < (xs.length : Int)) = true := decide_eq_true (by omega)
    refine Vc.calls T0_ok Tryd.func8 rfl rfl (args := [.str xs, .gh a n c (.rows 6 rs)]) (k := 73) rfl hm0 ?_; change Vc _ _ (c8 (.str xs) (.gh a n c (.rows 6 rs)) .undef .undef .undef .undef .undef .undef (c8 .undef .undef .undef .undef .undef .undef .undef .undef (c8 .undef .undef .undef .undef .undef .undef .undef .undef (c8 .undef .undef .undef .undef .undef .undef .undef .undef (c8 .undef .undef .undef .undef .undef .undef .undef .undef (c8 .undef .undef .undef .undef .undef .undef .undef .undef (c8 .undef .undef .undef .undef .undef .undef .undef .undef (c8 .undef .undef .undef .undef .undef .undef .undef .undef (c8 .undef .undef .undef .undef .undef .undef .undef .undef ([.undef, .undef, .undef])))))))))) _ _
    ((repeat (first | (with_reducible refine Vc.seq fun N hN => ?_) | (with_reducible refine Vc.block ?_) | ((first | with_reducible refine Vc.skip ?_ | with_reducible refine Vc.exit ?_); dsimp only [thenK, blockK, Nat.beq]; (first | (refine hN _ _ ?_; clear hN N) | skip)) | (with_reducible intro _) | ((with_reducible refine And.intro ?_ ?_); (focus (first | exact sideQ | exact sd0))) | ((first | ((with_reducible refine askT_of ?_ (fun hb => ?_)); (focus (first | exact sideQ | exact sd0)); (try simp only [hb])) | ((with_reducible refine Vc.fin ?_); dsimp only [thenK, blockK, retK, resS, resOne, resAll]) | ((with_reducible refine Vc.hold ?_); first | refine Vc.regiont T0_ok GDK_ok ?_)); (try simp only [v8X, v8A, v8B, v8C, Nat.beq, Nat.ble, Int.reduceToNat, Int.reduceLE, Int.reduceLT, Nat.reduceLT, Nat.reduceLeDiff, Nat.reduceAdd, Nat.reduceMul, Nat.reduceSub, Int.reduceAdd, Int.reduceSub, Int.reduceMul, eq_self, decide_true, beq_self_eq_true, List.length_cons, List.length_nil, Nat.min_eq_left, IntKind.bits, tabs, GDK_set, d1]); (try simp (disch := omega) only [v8W])) | ((with_reducible refine hN _ _ ?_); clear hN N; (try simp (disch := omega) only [v8W])))); (try ((with_reducible refine Fin.of ?_); (try with_reducible exact True.intro))))
    (refine Vc.cond T0_ok (t := true) (by rfl) (fun _ => ?_) (fun h => Bool.noConfusion h))
    ((repeat (first | (with_reducible refine Vc.seq fun N hN => ?_) | (with_reducible refine Vc.block ?_) | ((first | with_reducible refine Vc.skip ?_ | with_reducible refine Vc.exit ?_); dsimp only [thenK, blockK, Nat.beq]; (first | (refine hN _ _ ?_; clear hN N) | skip)) | (with_reducible intro _) | ((with_reducible refine And.intro ?_ ?_); (focus (first | exact sideQ | exact sd0))) | ((first | ((with_reducible refine askT_of ?_ (fun hb => ?_)); (focus (first | exact sideQ | exact sd0)); (try simp only [hb])) | ((with_reducible refine Vc.fin ?_); dsimp only [thenK, blockK, retK, resS, resOne, resAll]) | ((with_reducible refine Vc.hold ?_); first | refine Vc.regiont T0_ok GDK_ok ?_)); (try simp only [v8X, v8A, v8B, v8C, Nat.beq, Nat.ble, Int.reduceToNat, Int.reduceLE, Int.reduceLT, Nat.reduceLT, Nat.reduceLeDiff, Nat.reduceAdd, Nat.reduceMul, Nat.reduceSub, Int.reduceAdd, Int.reduceSub, Int.reduceMul, eq_self, decide_true, beq_self_eq_true, List.length_cons, List.length_nil, Nat.min_eq_left, IntKind.bits, tabs, GDK_set]); (try simp (disch := omega) only [v8W])) | ((with_reducible refine hN _ _ ?_); clear hN N; (try simp (disch := omega) only [v8W])))); (try ((with_reducible refine Fin.of ?_); (try with_reducible exact True.intro))))
    exact ⟨by simp, trivial⟩
theorem allB_strI (s : ByteArray) : allB (strI s) := by
  intro y hy
  unfold strI at hy
  obtain ⟨b, _, rfl⟩ := List.mem_map.1 hy
  have := b.toNat_lt
  omega
theorem sels_core (s : ByteArray) (hs : s.size ≤ maxLen) (a : Option Addr) (n c : Nat) (rs : List (List SV)) (l : List Prt) (w : World) (i1 : l.length = n ∧ n ≤ c ∧ adr a n c ∧ n ≤ maxLen ∧ LiesH (H0 w) a (cc (.rows 6 rs)) ∧ PsR (H0 w) rs l) (h : laidMetH Tryd.prog Rows.abiSelectorsRow.laid w) :
    Calls Tryd.prog 8 (cvs [.str (strI s), .gh a n c (.rows 6 rs)]).toArray w (Yes w) := by
  obtain ⟨h1, h2, h3⟩ := ab_laid h
  obtain ⟨b1, b2, b3, b4, b5, b6⟩ := i1
  exact sels_law (strI s) (allB_strI s) a n c rs l b1 b2 b3 b4 w (by rw [← bytesOf_size, bytesOf_strI]; exact hs) h1 h2 h3 b5 b6
def abiSelectors_lay0 : Obj → Obj
  | .cells _ t frozen => .cells #[.iface 98 (.agg #[.pointer (some ⟨3, 55, none⟩)])] t frozen
  | o => o
def abiSelectors_lay1 : Obj → Obj
  | .cells _ t frozen => .cells #[.int .u64 1, .int .u64 32898, .int .u64 9223372036854808714, .int .u64 9223372039002292224, .int .u64 32907, .int .u64 2147483649, .int .u64 9223372039002292353, .int .u64 9223372036854808585, .int .u64 138, .int .u64 136, .int .u64 2147516425, .int .u64 2147483658, .int .u64 2147516555, .int .u64 9223372036854775947, .int .u64 9223372036854808713, .int .u64 9223372036854808579, .int .u64 9223372036854808578, .int .u64 9223372036854775936, .int .u64 32778, .int .u64 9223372039002259466, .int .u64 9223372039002292353, .int .u64 9223372036854808704, .int .u64 2147483649, .int .u64 9223372039002292232] t frozen
  | o => o
def abiSelectors_lay2 : Obj → Obj
  | .cells _ t frozen => .cells #[.int .u8 10, .int .u8 7, .int .u8 11, .int .u8 17, .int .u8 18, .int .u8 3, .int .u8 5, .int .u8 16, .int .u8 8, .int .u8 21, .int .u8 24, .int .u8 4, .int .u8 15, .int .u8 23, .int .u8 19, .int .u8 13, .int .u8 12, .int .u8 2, .int .u8 20, .int .u8 14, .int .u8 22, .int .u8 9, .int .u8 6, .int .u8 1] t frozen
  | o => o
/-- A world for the witness: the settled one, the listed variables holding what the row lists. -/
noncomputable def abiSelectors_world (os : Os) : World :=
  { World.holding Tryd.prog os ⟨#[], #[], []⟩ with heap := ((((World.holding Tryd.prog os ⟨#[], #[], []⟩).heap).modify 0 abiSelectors_lay0).modify 1 abiSelectors_lay1).modify 2 abiSelectors_lay2 }
set_option maxRecDepth 100000 in
theorem abiSelectors_laid (os : Os) : laidMetH Tryd.prog Rows.abiSelectorsRow.laid ((abiSelectors_world os).forCall (fun _ _ => 0) ⟨#[], #[.string ⟨#[]⟩, .slice none 0 0], []⟩).memory :=
  laidMetH_of_parts (laidMet_of_run' 8 (by kernel_rfl) (by kernel_rfl)) (by kernel_rfl)
set_option maxRecDepth 100000 in
theorem abiSelectors_reads (os : Os) {H : Type} (enc : TypeId × Value → H) : ∃ places, DataW.whole enc Tryd.prog ((abiSelectors_world os).forCall (fun _ _ => 0) ⟨#[], #[.string ⟨#[]⟩, .slice none 0 0], []⟩).memory Tryd.f8.params.toList Rows.abiSelectorsSpec.vars false (#[.string ⟨#[]⟩, .slice none 0 0] : Array Value).toList 8 = some ([.lit (.string []), .nil], [], places) :=
  ⟨[], by kernel_rfl⟩
set_option maxRecDepth 100000 in
theorem abiSelectors_lifted (os : Os) (started : os.Started) (H : Type) (enc : TypeId × Value → H) (F : Stop.Interp) :
    ReturnsInHanded {} Tryd.checked os 8 .any ((OpenSpec.ofChange Rows.abiSelectorsSpec).preRow enc Tryd.prog Tryd.f8 Rows.abiSelectorsRow.domain false Rows.abiSelectorsRow.laid) (((OpenSpec.ofChange Rows.abiSelectorsSpec).at F).post enc Tryd.prog Tryd.f8 false true false false) := by
  obtain ⟨places, hx⟩ := abiSelectors_reads os enc
  refine returnsInHanded_of_row (C := Tryd.checked) (s := OpenSpec.ofChange Rows.abiSelectorsSpec) Tryd.own started (by kernel_rfl) Tryd.func8
    (witness_row_at (enc := enc) (C := Tryd.checked) false (abiSelectors_world os) #[.string ⟨#[]⟩, .slice none 0 0] rfl (by kernel_rfl) (by kernel_rfl) (by kernel_rfl)
      (OpenSpec.preRow_of_cond 8 hx (by kernel_rfl) (fun k hk => by cases hk) (by kernel_rfl) (abiSelectors_laid os))) ?_
  intro W0 base args ds gs before hval0 hW _ _ _ hlaid _ _
  have hval : ∀ (j : Nat) t v, Tryd.f8.params[j]? = some t → args[j]? = some v → Value.okWide Tryd.prog W0 .any base t v := hval0
  have hW' := hW
  obtain ⟨p, q, hA0, hV, rfl, hfz, hnd⟩ := hW
  have hA : DataW.TrodAll enc Tryd.prog W0 0 (fun _ => true) true Tryd.f8.params.toList args.toList ds p := hA0
  rw [Tryd.params8] at hA hval
  obtain ⟨v0, v1, d0, d1, p0, p1, rfl, rfl, rfl, h0, h1⟩ := trodAll_two hA
  obtain ⟨rfl, rfl⟩ := trodVars_none hV
  obtain ⟨a0, rfl, rfl, rfl, z0⟩ := Go.ChangeMaps.open_string Tryd.underlying9 (hval 0 _ v0 rfl rfl) h0
  obtain ⟨a1, n1, c1, y1, z1, rfl, i1⟩ := parts_open (hval 1 _ v1 rfl rfl) h1
  refine (calls_args (by simp only [cvs, cv, bytesOf_strI]) (sels_core a0 z0 a1 n1 c1 y1 z1 W0 i1 hlaid)).mono fun e W' h => ?_
  obtain ⟨he, hw⟩ := Yes.out h
  subst he
  exact ⟨_, rfl, post_any hW' rfl hw (by kernel_rfl) rfl (fun _ _ _ => trodAll_mk1 (shut_bool Tryd.underlying4 true)) (fun _ => rfl) (ok_one (by kernel_rfl) rfl (okWide_bool_mk Tryd.underlying4 true))⟩
theorem abiSelectors_said : Rows.AbiSelectorsSaid :=
  OpenClaim.holds_of_cond 8 Tryd.f8 rfl rfl rfl rfl rfl rfl rfl ⟨rfl, rfl, rfl, rfl, rfl⟩ rfl rfl rfl rfl rfl (by kernel_rfl) Tryd.func8 (by kernel_rfl)
    (of_decide_eq_true (by kernel_rfl)) (by unfold Func.isWrapper; first | (rw [if_pos (by decide +kernel)]; kernel_rfl) | (rw [if_neg (by decide +kernel)]; exact ⟨rfl, rfl⟩))
    (fun os started H enc _ F => by rw [OpenClaim.pre_eq_preRow]; exact abiSelectors_lifted os started H enc F)
theorem abiSelectors_plain (f : FuncId) (fn : Func) (hf : Tryd.pinned.checked.prog.funcNamed "quaestor/quaestorlaw05.AbiSelectors" = some f) (hfn : Tryd.pinned.checked.prog.funcs[f]? = some fn) :
    true = Tryd.pinned.checked.prog.looks [] ∧ ∀ (j : Nat) t, fn.params[j]? = some t → Tryd.pinned.checked.prog.wantsStandIn t = false := by
  obtain rfl : f = 8 := Option.some.inj ((show Tryd.prog.funcNamed "quaestor/quaestorlaw05.AbiSelectors" = some 8 by kernel_rfl).symm.trans hf) |>.symm
  obtain rfl : fn = Tryd.f8 := (Option.some.inj (Tryd.func8.symm.trans hfn)).symm
  refine ⟨by kernel_rfl, fun j t ht => ?_⟩
  rw [Tryd.params8] at ht
  have ht2 := Array.mem_of_getElem? ht
  simp only [List.mem_toArray, List.mem_cons, List.not_mem_nil, or_false] at ht2
  rcases ht2 with rfl | rfl
  · exact (show Tryd.prog.wantsStandIn 9 = false by kernel_rfl)
  · exact (show Tryd.prog.wantsStandIn 22 = false by kernel_rfl)
theorem AbiSelectors_holds : Rows.AbiSelectorsCardSaid :=
  Claim7.holds_tied_plain_at .later [] _ _ _ _ abiSelectors_said (fun _ h => by cases h) (by kernel_rfl) (fun _ h => by cases h) abiSelectors_row_tie rfl ⟨rfl, rfl⟩ (by kernel_rfl) rfl abiSelectors_plain (by kernel_rfl)
#print axioms AbiSelectors_holds
end Go.Proofs.YtdkhlcoklihpfaaDoor
