/-
  RLP: a number's bytes, walked (appendNumber). No condition.
-/
import Derived.Test.YtlogpdjcgbifhaaEG
import Derived.Test.YtlogpdjcgbifhaaTab
import Derived.Laws.Bits64
namespace Go.Proofs.Ytlogpdjcgbifhaa
set_option linter.unusedSimpArgs false
set_option linter.unusedVariables false
set_option maxHeartbeats 4000000
set_option linter.defProp false
open Go.RowKit
def GZ0 : Ctr := fun _ _ _ => .none
theorem GZ0_ok : GOk Try.prog GZ0 := fun _ _ _ _ _ => trivial
/-! ### Bytes of a number, the lowest first -/
def leF : Nat → Nat → List Int
  | 0, _ => []
  | f + 1, n => if n = 0 then [] else ((n % 256 : Nat) : Int) :: leF f (n / 256)
def leB (n : Nat) : List Int := leF 8 n
theorem leF_fuel : ∀ (f g n : Nat), n < 256 ^ f → n < 256 ^ g → leF f n = leF g n
  | 0, 0, _, _, _ => rfl
  | 0, g + 1, n, h, _ => by have : n = 0 := by simpa using h
                            subst this; rfl
  | f + 1, 0, n, _, h => by have : n = 0 := by simpa using h
                            subst this; rfl
  | f + 1, g + 1, n, h, h' => by
    unfold leF
    split
    · rfl
    · rw [leF_fuel f g (n / 256) (by rw [Nat.pow_succ] at h; exact Nat.div_lt_of_lt_mul (by omega)) (by rw [Nat.pow_succ] at h'; exact Nat.div_lt_of_lt_mul (by omega))]
theorem leB_0 : leB 0 = [] := rfl
theorem leB_s {n : Nat} (h : n < 18446744073709551616) (h0 : n ≠ 0) : leB n = ((n % 256 : Nat) : Int) :: leB (n / 256) := by
  unfold leB
  rw [leF, if_neg h0]
  rw [leF_fuel 7 8 (n / 256) (by rw [show (256 : Nat) ^ 7 = 72057594037927936 from rfl]; omega) (by rw [show (256 : Nat) ^ 8 = 18446744073709551616 from rfl]; omega)]
theorem leF_len : ∀ (f n : Nat), (leF f n).length ≤ f
  | 0, _ => Nat.le_refl _
  | f + 1, n => by unfold leF; split; exact Nat.zero_le _; simp [leF_len f (n / 256)]
theorem leB_len (n : Nat) : (leB n).length ≤ 8 := leF_len 8 n
theorem leF_all : ∀ (f n : Nat), allB (leF f n)
  | 0, _ => fun x h => by simp [leF] at h
  | f + 1, n => by
    unfold leF; split
    · exact fun x h => by simp at h
    · intro x h
      rcases List.mem_cons.1 h with rfl | h
      · omega
      · exact leF_all f _ x h
theorem leB_all (n : Nat) : allB (leB n) := leF_all 8 n
theorem shr8 (k : Nat) : ((k : Int) / 2 ^ min 8 64) = ((k / 256 : Nat) : Int) := by
  rw [show min 8 64 = 8 from rfl]; omega
theorem u8_nat (k : Nat) : IntKind.u8.wrap (k : Int) = ((k % 256 : Nat) : Int) := by rw [IntKind.wrap_u8]; omega
theorem apNum_vc (n : Nat) (hn : n < 18446744073709551616) (xs : List Int) (v : Value) (hx : xs.length ≤ 140737488355000) (B : List Nat) (w : World) (hm : MemOk w B [.own v xs.length 5 1 (.ints .u8 xs)] w) :
    Calls Try.prog 24 (cvs [.own 0 v xs.length, .int .u64 (n : Int)]).toArray w (ApR 5 .u8 w B (xs ++ leB n)) := by
  unfold ApR
  refine Vc.calls T0_ok Try.func24 rfl rfl (args := [.own 0 v xs.length, .int .u64 (n : Int)]) (k := 13) rfl hm ?_; change Vc _ _ (c8 (.own 0 v xs.length) (.int .u64 (n : Int)) .undef .undef .undef .undef .undef .undef ([.undef, .undef, .undef, .undef, .undef, .undef, .undef])) _ _
  ((repeat (first | (with_reducible refine Vc.seq fun N hN => ?_) | (with_reducible refine Vc.block ?_) | ((first | with_reducible refine Vc.skip ?_ | with_reducible refine Vc.exit ?_); dsimp only [thenK, blockK, Nat.beq]; (first | (refine hN _ _ ?_; clear hN N) | skip)) | (with_reducible intro _) | ((with_reducible refine And.intro ?_ ?_); (focus (first | exact sideQ | exact sd0))) | ((first | ((with_reducible refine askT_of ?_ (fun hb => ?_)); (focus (first | exact sideQ | exact sd0)); (try simp only [hb])) | ((with_reducible refine Vc.fin ?_); dsimp only [thenK, blockK, retK, resS, resOne, resAll]) | ((with_reducible refine Vc.hold ?_); first | refine Vc.regiont T0_ok GZ0_ok ?_)); (try simp only [v8X, v8A, v8B, v8C, Nat.beq, Nat.ble, Int.reduceToNat, Int.reduceLE, Int.reduceLT, Nat.reduceLT, Nat.reduceLeDiff, Nat.reduceAdd, Nat.reduceMul, Nat.reduceSub, Int.reduceAdd, Int.reduceSub, Int.reduceMul, eq_self, decide_true, beq_self_eq_true, List.length_cons, List.length_nil, Nat.min_eq_left, IntKind.bits, tabs]); (try simp (disch := omega) only [v8W])) | ((with_reducible refine hN _ _ ?_); clear hN N; (try simp (disch := omega) only [v8W])))); (try ((with_reducible refine Fin.of ?_); (try with_reducible exact True.intro))))
  (revert N; intro N1 hN1)
  refine Vc.loop 0 15 (fun (x : Nat × List Int × Value) => [(0, .own 0 x.2.2 x.2.1.length), (1, .int .u64 (x.1 : Nat)), (4, .nilsl)]) (fun x => [.own x.2.2 x.2.1.length 5 1 (.ints .u8 x.2.1)]) (fun x => x.1 < 18446744073709551616 ∧ xs ++ leB n = x.2.1 ++ leB x.1) (fun x => x.1) (n, xs, v) ⟨⟨hn, rfl⟩, ?_, ?_⟩ (fun x junk hx2 => ?_)
  · ((try simp only [v8X, v8A, v8B, v8C, Nat.beq, Nat.ble, Int.reduceToNat, Int.reduceLE, Int.reduceLT, Nat.reduceLT, Nat.reduceLeDiff, Nat.reduceAdd, Nat.reduceMul, Nat.reduceSub, Int.reduceAdd, Int.reduceSub, Int.reduceMul, eq_self, decide_true, beq_self_eq_true, List.length_cons, List.length_nil, Nat.min_eq_left, IntKind.bits, tabs]); (repeat' with_reducible apply And.intro) <;> first | with_reducible exact True.intro | rfl | with_reducible rfl | (congr 1 <;> omega) | trivial)
  · ((try simp only [v8X, v8A, v8B, v8C, Nat.beq, Nat.ble, Int.reduceToNat, Int.reduceLE, Int.reduceLT, Nat.reduceLT, Nat.reduceLeDiff, Nat.reduceAdd, Nat.reduceMul, Nat.reduceSub, Int.reduceAdd, Int.reduceSub, Int.reduceMul, eq_self, decide_true, beq_self_eq_true, List.length_cons, List.length_nil, Nat.min_eq_left, IntKind.bits, tabs]); (repeat' with_reducible apply And.intro) <;> first | with_reducible exact True.intro | rfl | with_reducible rfl | (congr 1 <;> omega) | trivial)
  · obtain ⟨k, l, u⟩ := x
    simp only at hx2 ⊢
    obtain ⟨hk, hl⟩ := hx2
    have hle := leB_len n
    have hll : l.length + (leB k).length = xs.length + (leB n).length := by have := congrArg List.length hl; simp only [List.length_append] at this; omega
    have u8k := u8_nat k
    (simp only [v8X, v8A, v8B, v8C, Nat.beq, Nat.ble, Int.reduceToNat, Int.reduceLE, Int.reduceLT, Nat.reduceLT, Nat.reduceLeDiff, Nat.reduceAdd, Nat.reduceMul, Nat.reduceSub, Int.reduceAdd, Int.reduceSub, Int.reduceMul, eq_self, decide_true, beq_self_eq_true, List.length_cons, List.length_nil, Nat.min_eq_left, IntKind.bits, tabs])
    by_cases h0 : k = 0
    · have d1 : decide ((0 : Int) < (k : Int)) = false := decide_eq_false (by omega)
      have he : xs ++ leB n = l := by rw [hl, h0, leB_0, List.append_nil]
      ((repeat (first | (with_reducible refine Vc.seq fun N hN => ?_) | (with_reducible refine Vc.block ?_) | ((first | with_reducible refine Vc.skip ?_ | with_reducible refine Vc.exit ?_); dsimp only [thenK, blockK, Nat.beq]; (first | (refine hN _ _ ?_; clear hN N) | skip)) | (with_reducible intro _) | ((with_reducible refine And.intro ?_ ?_); (focus (first | exact sideQ | exact sd0))) | ((first | ((with_reducible refine askT_of ?_ (fun hb => ?_)); (focus (first | exact sideQ | exact sd0)); (try simp only [hb])) | ((with_reducible refine Vc.fin ?_); dsimp only [thenK, blockK, retK, resS, resOne, resAll]) | ((with_reducible refine Vc.hold ?_); first | refine Vc.regiont T0_ok GZ0_ok ?_)); (try simp only [v8X, v8A, v8B, v8C, Nat.beq, Nat.ble, Int.reduceToNat, Int.reduceLE, Int.reduceLT, Nat.reduceLT, Nat.reduceLeDiff, Nat.reduceAdd, Nat.reduceMul, Nat.reduceSub, Int.reduceAdd, Int.reduceSub, Int.reduceMul, eq_self, decide_true, beq_self_eq_true, List.length_cons, List.length_nil, Nat.min_eq_left, IntKind.bits, tabs, d1]); (try simp (disch := omega) only [v8W])) | ((with_reducible refine hN _ _ ?_); clear hN N; (try simp (disch := omega) only [v8W])))); (try ((with_reducible refine Fin.of ?_); (try with_reducible exact True.intro))))
      (refine Vc.cond T0_ok (t := false) (by rfl) (fun h => Bool.noConfusion h) (fun _ => ?_))
      ((repeat (first | (with_reducible refine Vc.seq fun N hN => ?_) | (with_reducible refine Vc.block ?_) | ((first | with_reducible refine Vc.skip ?_ | with_reducible refine Vc.exit ?_); dsimp only [thenK, blockK, Nat.beq]; (first | (refine hN _ _ ?_; clear hN N) | skip)) | (with_reducible intro _) | ((with_reducible refine And.intro ?_ ?_); (focus (first | exact sideQ | exact sd0))) | ((first | ((with_reducible refine askT_of ?_ (fun hb => ?_)); (focus (first | exact sideQ | exact sd0)); (try simp only [hb])) | ((with_reducible refine Vc.fin ?_); dsimp only [thenK, blockK, retK, resS, resOne, resAll]) | ((with_reducible refine Vc.hold ?_); first | refine Vc.regiont T0_ok GZ0_ok ?_)); (try simp only [v8X, v8A, v8B, v8C, Nat.beq, Nat.ble, Int.reduceToNat, Int.reduceLE, Int.reduceLT, Nat.reduceLT, Nat.reduceLeDiff, Nat.reduceAdd, Nat.reduceMul, Nat.reduceSub, Int.reduceAdd, Int.reduceSub, Int.reduceMul, eq_self, decide_true, beq_self_eq_true, List.length_cons, List.length_nil, Nat.min_eq_left, IntKind.bits, tabs]); (try simp (disch := omega) only [v8W])) | ((with_reducible refine hN _ _ ?_); clear hN N; (try simp (disch := omega) only [v8W])))); (try ((with_reducible refine Fin.of ?_); (try with_reducible exact True.intro))))
      (refine hN1 _ _ ?_; (try clear hN N); clear hN1 N1)
      ((repeat (first | (with_reducible refine Vc.seq fun N hN => ?_) | (with_reducible refine Vc.block ?_) | ((first | with_reducible refine Vc.skip ?_ | with_reducible refine Vc.exit ?_); dsimp only [thenK, blockK, Nat.beq]; (first | (refine hN _ _ ?_; clear hN N) | skip)) | (with_reducible intro _) | ((with_reducible refine And.intro ?_ ?_); (focus (first | exact sideQ | exact sd0))) | ((first | ((with_reducible refine askT_of ?_ (fun hb => ?_)); (focus (first | exact sideQ | exact sd0)); (try simp only [hb])) | ((with_reducible refine Vc.fin ?_); dsimp only [thenK, blockK, retK, resS, resOne, resAll]) | ((with_reducible refine Vc.hold ?_); first | refine Vc.regiont T0_ok GZ0_ok ?_)); (try simp only [v8X, v8A, v8B, v8C, Nat.beq, Nat.ble, Int.reduceToNat, Int.reduceLE, Int.reduceLT, Nat.reduceLT, Nat.reduceLeDiff, Nat.reduceAdd, Nat.reduceMul, Nat.reduceSub, Int.reduceAdd, Int.reduceSub, Int.reduceMul, eq_self, decide_true, beq_self_eq_true, List.length_cons, List.length_nil, Nat.min_eq_left, IntKind.bits, tabs]); (try simp (disch := omega) only [v8W])) | ((with_reducible refine hN _ _ ?_); clear hN N; (try simp (disch := omega) only [v8W])))); (try ((with_reducible refine Fin.of ?_); (try with_reducible exact True.intro))))
      exact ⟨trivial, u, by rw [he], by rw [he]⟩
    · have d1 : decide ((0 : Int) < (k : Int)) = true := decide_eq_true (by omega)
      have hs := leB_s hk h0
      ((repeat (first | (with_reducible refine Vc.seq fun N hN => ?_) | (with_reducible refine Vc.block ?_) | ((first | with_reducible refine Vc.skip ?_ | with_reducible refine Vc.exit ?_); dsimp only [thenK, blockK, Nat.beq]; (first | (refine hN _ _ ?_; clear hN N) | skip)) | (with_reducible intro _) | ((with_reducible refine And.intro ?_ ?_); (focus (first | exact sideQ | exact sd0))) | ((first | ((with_reducible refine askT_of ?_ (fun hb => ?_)); (focus (first | exact sideQ | exact sd0)); (try simp only [hb])) | ((with_reducible refine Vc.fin ?_); dsimp only [thenK, blockK, retK, resS, resOne, resAll]) | ((with_reducible refine Vc.hold ?_); first | refine Vc.regiont T0_ok GZ0_ok ?_)); (try simp only [v8X, v8A, v8B, v8C, Nat.beq, Nat.ble, Int.reduceToNat, Int.reduceLE, Int.reduceLT, Nat.reduceLT, Nat.reduceLeDiff, Nat.reduceAdd, Nat.reduceMul, Nat.reduceSub, Int.reduceAdd, Int.reduceSub, Int.reduceMul, eq_self, decide_true, beq_self_eq_true, List.length_cons, List.length_nil, Nat.min_eq_left, IntKind.bits, tabs, d1]); (try simp (disch := omega) only [v8W])) | ((with_reducible refine hN _ _ ?_); clear hN N; (try simp (disch := omega) only [v8W])))); (try ((with_reducible refine Fin.of ?_); (try with_reducible exact True.intro))))
      (refine Vc.cond T0_ok (t := true) (by rfl) (fun _ => ?_) (fun h => Bool.noConfusion h))
      ((repeat (first | (with_reducible refine Vc.seq fun N hN => ?_) | (with_reducible refine Vc.block ?_) | ((first | with_reducible refine Vc.skip ?_ | with_reducible refine Vc.exit ?_); dsimp only [thenK, blockK, Nat.beq]; (first | (refine hN _ _ ?_; clear hN N) | skip)) | (with_reducible intro _) | ((with_reducible refine And.intro ?_ ?_); (focus (first | ((repeat' with_reducible apply And.intro) <;> first | exact sideQ | (simp only [List.length_append, List.length_cons, List.length_nil]; omega)) | exact sd0))) | ((first | ((with_reducible refine askT_of ?_ (fun hb => ?_)); (focus (first | ((repeat' with_reducible apply And.intro) <;> first | exact sideQ | (simp only [List.length_append, List.length_cons, List.length_nil]; omega)) | exact sd0)); (try simp only [hb])) | ((with_reducible refine Vc.fin ?_); dsimp only [thenK, blockK, retK, resS, resOne, resAll]) | ((with_reducible refine Vc.hold ?_); first | refine Vc.regiont T0_ok GZ0_ok ?_)); (try simp only [v8X, v8A, v8B, v8C, Nat.beq, Nat.ble, Int.reduceToNat, Int.reduceLE, Int.reduceLT, Nat.reduceLT, Nat.reduceLeDiff, Nat.reduceAdd, Nat.reduceMul, Nat.reduceSub, Int.reduceAdd, Int.reduceSub, Int.reduceMul, eq_self, decide_true, beq_self_eq_true, List.length_cons, List.length_nil, Nat.min_eq_left, IntKind.bits, tabs, u8k, List.drop_zero, List.take_succ_cons, List.take_zero]); (try simp (disch := omega) only [v8W])) | ((with_reducible refine hN _ _ ?_); clear hN N; (try simp (disch := omega) only [v8W])))); (try ((with_reducible refine Fin.of ?_); (try with_reducible exact True.intro))))
      rename_i b0 v1
      have hle2 : (l ++ [((k % 256 : Nat) : Int)]).length = l.length + 1 := by rw [List.length_append]; rfl
      refine ⟨(k / 256, l ++ [((k % 256 : Nat) : Int)], v1), ⟨by simp only; omega, by simp only; rw [hl, hs, List.append_assoc, List.singleton_append]⟩, ?_, ?_, by simp only; omega⟩
      · ((try simp only [v8X, v8A, v8B, v8C, Nat.beq, Nat.ble, Int.reduceToNat, Int.reduceLE, Int.reduceLT, Nat.reduceLT, Nat.reduceLeDiff, Nat.reduceAdd, Nat.reduceMul, Nat.reduceSub, Int.reduceAdd, Int.reduceSub, Int.reduceMul, eq_self, decide_true, beq_self_eq_true, List.length_cons, List.length_nil, Nat.min_eq_left, IntKind.bits, tabs]); (repeat' with_reducible apply And.intro) <;> first | with_reducible exact True.intro | rw [hle2] | (congr 1; omega) | (congr 1 <;> omega))
      · ((try simp only [v8X, v8A, v8B, v8C, Nat.beq, Nat.ble, Int.reduceToNat, Int.reduceLE, Int.reduceLT, Nat.reduceLT, Nat.reduceLeDiff, Nat.reduceAdd, Nat.reduceMul, Nat.reduceSub, Int.reduceAdd, Int.reduceSub, Int.reduceMul, eq_self, decide_true, beq_self_eq_true, List.length_cons, List.length_nil, Nat.min_eq_left, IntKind.bits, tabs]); (repeat' with_reducible apply And.intro) <;> first | with_reducible exact True.intro | rw [hle2] | (congr 1 <;> omega))
def g_apNum (args : List SV) (m : List Blk) : CR :=
  match args with
  | [x, .int .u64 k] => apC 5 .u8 m x (fun xs => 0 ≤ k ∧ k ≤ 18446744073709551615 ∧ xs.length ≤ 140737488355000) (fun xs => xs ++ leB k.toNat)
  | _ => .none
theorem g_apNum_ok (w0 : World) (B : List Nat) (args : List SV) (m : List Blk) : CROk Try.prog w0 B 24 args m (g_apNum args m) := by
  unfold g_apNum
  split
  · rename_i x k
    exact ap_ok Try.func24 rfl rfl (fun w B v xs ⟨h1, h2, h3⟩ hm => by
      obtain ⟨n, rfl⟩ := Int.eq_ofNat_of_zero_le h1
      exact apNum_vc n (by omega) xs v h3 B w hm) w0 B m
  · exact trivial
noncomputable def GP1 : Ctr := fun f args m => match f with
  | 24 => g_apNum args m
  | _ => .none
theorem GP1_ok : GOk Try.prog GP1 := by
  intro w0 B f args m; unfold GP1; split
  · exact g_apNum_ok _ _ _ _
  · exact trivial
theorem GP1_apNum : GP1 24 = g_apNum := by funext args m; rfl
def GP1_set := And.intro (@GP1_apNum) (@g_apNum.eq_def)

end Go.Proofs.Ytlogpdjcgbifhaa
