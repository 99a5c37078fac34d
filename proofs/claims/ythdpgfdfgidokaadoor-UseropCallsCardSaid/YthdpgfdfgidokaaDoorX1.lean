/-
 Exp of words, walked.
-/
import Derived.Test.YthdpgfdfgidokaaDoorOF
import Derived.Test.YthdpgfdfgidokaaDoorOI
import Derived.Test.YthdpgfdfgidokaaDoorRE
import Derived.Test.YthdpgfdfgidokaaDoorX2
import Derived.Laws.Bits64b
set_option maxRecDepth 10000
set_option maxHeartbeats 4000000
set_option linter.defProp false
set_option linter.unusedVariables false
set_option linter.unusedSimpArgs false
namespace Go.Proofs.YthdpgfdfgidokaaDoor
open Go.RowKit
def kOp : OpD := ⟨z20, 0, false, z20, [], [], 1, 2, 3, 10, 0, false, z20, 0, 0, [], []⟩
set_option maxRecDepth 20000 in
def kL : List SV := (.int .u8 0) :: (.int .u8 0) :: (.int .u8 0) :: (.int .u8 0) :: (.int .u8 0) :: (.int .u8 0) :: (.int .u8 0) :: (.int .u8 0) :: (.int .u8 0) :: (.int .u8 0) :: (.int .u8 0) :: (.int .u8 0) :: (.int .u8 0) :: (.int .u8 0) :: (.int .u8 0) :: (.int .u8 0) :: (.int .u8 0) :: (.int .u8 0) :: (.int .u8 0) :: (.int .u8 0) :: (.int .u64 0) :: (.int .u64 0) :: (.int .u64 0) :: (.int .u64 0) :: (.bool false) :: (.int .u8 0) :: (.int .u8 0) :: (.int .u8 0) :: (.int .u8 0) :: (.int .u8 0) :: (.int .u8 0) :: (.int .u8 0) :: (.int .u8 0) :: (.int .u8 0) :: (.int .u8 0) :: (.int .u8 0) :: (.int .u8 0) :: (.int .u8 0) :: (.int .u8 0) :: (.int .u8 0) :: (.int .u8 0) :: (.int .u8 0) :: (.int .u8 0) :: (.int .u8 0) :: (.int .u8 0) :: (.gh none 0 0 (.ints .u8 [])) :: (.gh none 0 0 (.ints .u8 [])) :: (.int .u64 1) :: (.int .u64 2) :: (.int .u64 3) :: (.int .u64 10) :: (.int .u64 0) :: (.int .u64 0) :: (.int .u64 0) :: (.int .u64 0) :: (.int .u64 0) :: (.int .u64 0) :: (.int .u64 0) :: (.bool false) :: (.int .u8 0) :: (.int .u8 0) :: (.int .u8 0) :: (.int .u8 0) :: (.int .u8 0) :: (.int .u8 0) :: (.int .u8 0) :: (.int .u8 0) :: (.int .u8 0) :: (.int .u8 0) :: (.int .u8 0) :: (.int .u8 0) :: (.int .u8 0) :: (.int .u8 0) :: (.int .u8 0) :: (.int .u8 0) :: (.int .u8 0) :: (.int .u8 0) :: (.int .u8 0) :: (.int .u8 0) :: (.int .u64 0) :: (.int .u64 0) :: (.gh none 0 0 (.ints .u8 [])) :: (.gh none 0 0 (.ints .u8 [])) :: []
set_option maxRecDepth 20000 in
theorem kR (H : Nat → Obj → Prop) : OpR H kL kOp := by
 have h20 : allB z20 := allB_dec (by decide +kernel)
 refine ⟨rfl, rfl, rfl, rfl, rfl, rfl, rfl, rfl, ⟨_, rfl, byR_nil _⟩, ⟨_, rfl, byR_nil _⟩, rfl, rfl, rfl, rfl, rfl, rfl, rfl, rfl, rfl, rfl, ⟨_, rfl, byR_nil _⟩, ⟨_, rfl, byR_nil _⟩, rfl, rfl, rfl, h20, h20, h20, by decide +kernel, by decide +kernel, by decide +kernel, ?_, ?_, ?_, ?_, ?_⟩ <;> (unfold u64I; decide)
theorem kS : OpS 10000 kOp := by unfold OpS; decide
theorem kG : tgO kOp = false := by decide +kernel
theorem kS_v : selB (qsN vNm) = [25, 130, 47, 124] := by decide +kernel
def kV : List Int := askB vNm kOp 0 0
theorem kV_4 : kV.take 4 = [25, 130, 47, 124] := by
 unfold kV askB
 rw [List.take_left' (selB_len2 _), kS_v]
theorem kV_l : 4 < kV.length := by
 unfold kV askB
 rw [List.length_append, List.length_append, selB_len2]
 have : (abEnc (hdP 0 0)).length = 96 := by
  unfold abEnc
  rw [List.length_append]
  decide +kernel
 omega
theorem splice_full : ∀ (l y : List SV), y.length = l.length → splice l 0 y = some y
 | [], [], _ => rfl
 | [], _ :: _, h => by simp at h
 | _ :: _, [], h => by simp at h
 | x :: l, z :: y, h => by
  simp only [splice, splice_full l y (by simpa using h)]
noncomputable def GOT : Ctr := fun f args m => match f with
 | 36 => g_spans args m
 | 38 => g_now args m
 | 30 => g_valid args m
 | 18 => g_prefund args m
 | _ => .none
theorem GOT_ok : GOk Tryd.prog GOT := by
 intro w0 B f args m; unfold GOT; split
 ·exact g_spans_ok _ _ _ _
 ·exact g_now_ok _ _ _ _
 ·exact g_valid_ok _ _ _ _
 ·exact g_prefund_ok _ _ _ _
 ·exact trivial
theorem GOT_spans : GOT 36 = g_spans := by funext args m; rfl
theorem GOT_now : GOT 38 = g_now := by funext args m; rfl
theorem GOT_valid : GOT 30 = g_valid := by funext args m; rfl
theorem GOT_prefund : GOT 18 = g_prefund := by funext args m; rfl
def GOT_set := And.intro (And.intro (And.intro (@GOT_spans) (@g_spans.eq_def)) (And.intro (@GOT_now) (@g_now.eq_def))) (And.intro (And.intro (@GOT_valid) (@g_valid.eq_def)) (And.intro (@GOT_prefund) (@g_prefund.eq_def)))

set_option maxRecDepth 40000 in
theorem known_vc (w : World) (hm : MemOk w [] [.ro (some ⟨1, 0, none⟩) (.ints .u64 kKeys), .ro (some ⟨2, 0, none⟩) (.ints .u8 kPathI)] w) : Calls Tryd.prog 12 (cvs []).toArray w (fun en w' => ∃ u, en = .returned u ∧ ∃ v' m', u = cv v' ∧ MemOk w [] m' w' ∧ v' = .bool true) := by
 have l0 : ((lm (numI [10, 0, 0, 0]) 0 : Nat) : Int) = 10 := by decide +kernel
 have l1 : ((lm (numI [10, 0, 0, 0]) 1 : Nat) : Int) = 0 := by decide +kernel
 have l2 : ((lm (numI [10, 0, 0, 0]) 2 : Nat) : Int) = 0 := by decide +kernel
 have l3 : ((lm (numI [10, 0, 0, 0]) 3 : Nat) : Int) = 0 := by decide +kernel
 have hW0 : (0 : Nat) < W := by decide +kernel
 have hW1 : numI [1, 0, 0, 0] < W := by decide +kernel
 have hW2 : numI [0, 0, 429496729600, 0] < W := by decide +kernel
 have s1 : spB (numI [1, 0, 0, 0]) = true := by decide +kernel
 have s2 : tmN 160 (numI [0, 0, 429496729600, 0]) = 100 := by decide +kernel
 have s3 : nowO (spB (numI [0, 0, 429496729600, 0])) (tmN 208 (numI [0, 0, 429496729600, 0])) 100 100 = true := by decide +kernel
 have s4 : nowO (spB (numI [0, 0, 429496729600, 0])) (tmN 208 (numI [0, 0, 429496729600, 0])) 100 101 = false := by decide +kernel
 have s5 : eqW (pfN kOp) (numI [60, 0, 0, 0]) = true := by decide +kernel
 have hko : opOf kL = kOp := opOf_eq (kR (fun _ _ => True))
 have hkv : askB vNm kOp 0 0 = kV := rfl
 have d4 : decide ((4 : Int) < (kV.length : Int)) = true := decide_eq_true (by have := kV_l; omega)
 have hv4 := kV_4
 have hlk : kL.length = 83 := rfl
 have h1k : allOne kL = true := rfl
 have hak : takeN kL 0 83 = some kL := rfl
 have hz : (zl_29).length = 83 := rfl
 have hvl := kV_l
 have hva : allB ([25, 130, 47, 124] : List Int) := allB_dec (by decide +kernel)
 have n4 : (4 : Int).toNat = 4 := rfl
 refine Vc.calls T0_ok Tryd.func12 rfl rfl (args := []) (k := 46) rfl hm ?_; change Vc _ _ (c8 .undef .undef .undef .undef .undef .undef .undef .undef (c8 .undef .undef .undef .undef .undef .undef .undef .undef (c8 .undef .undef .undef .undef .undef .undef .undef .undef (c8 .undef .undef .undef .undef .undef .undef .undef .undef (c8 .undef .undef .undef .undef .undef .undef .undef .undef ([.undef, .undef, .undef, .undef, .undef, .undef])))))) _ _
 ((with_reducible refine Vc.seq fun N hN => ?_); (refine Vc.regiont T0_ok GOT_ok ?_); simp only [v8Y, Nat.beq, Nat.ble, seval, tabs, GOT_set]; (try simp (disch := omega) only [v8W]); (repeat (first | ((with_reducible refine And.intro ?_ ?_); exact sdB))); (first | (refine hN _ _ ?_; clear hN N; (try simp (disch := omega) only [v8W])) | skip))
 ((with_reducible refine Vc.seq fun N hN => ?_); (refine Vc.regiont T0_ok GOT_ok ?_); simp only [v8Y, Nat.beq, Nat.ble, seval, tabs, GOT_set]; (try simp (disch := omega) only [v8W]); (repeat (first | with_reducible intro _ | ((with_reducible refine And.intro ?_ ?_); exact sX14))); (first | (refine hN _ _ ?_; clear hN N; (try simp (disch := omega) only [v8W])) | skip))
 ((with_reducible refine Vc.seq fun N hN => ?_); (refine Vc.regiont T0_ok GOT_ok ?_); simp only [v8Y, Nat.beq, Nat.ble, seval, tabs, GOT_set, l0, l1, l2, l3, hz, splice_full]; (try simp (disch := omega) only [v8W]); (repeat (first | with_reducible intro _ | ((with_reducible refine And.intro ?_ ?_); exact sX14))); (first | (refine hN _ _ ?_; clear hN N; (try simp (disch := omega) only [v8W])) | skip))
 refine Vc.recon 3 (.cells kL) rfl rfl ?_
 refine Vc.nameS 7 (.agg kL) rfl ?_
 (simp only [v8Y, Nat.beq, Nat.ble, seval, tabs])
 ((repeat (first | (with_reducible refine Vc.seq fun N hN => ?_) | (with_reducible intro _) | ((with_reducible refine And.intro ?_ ?_); exact sX14) | ((first | ((with_reducible refine Vc.fin ?_); dsimp only [thenK, blockK, retK, resS, resOne, resAll]) | ((with_reducible refine Vc.hold ?_); first | refine Vc.regiont T0_ok GOT_ok ?_)); (try simp only [v8Y, Nat.beq, Nat.ble, seval, tabs, GOT_set, hko, hkv, hak, hlk, h1k, s1, s2, s3, s4, s5, d4, hv4, n4, numI_0, List.drop_zero])) | ((with_reducible refine hN _ _ ?_); clear hN N))); (try ((with_reducible refine Fin.of ?_); (try with_reducible exact True.intro))))
 exact ⟨trivial, by first | rfl | trivial⟩
noncomputable def g_ulK (args : List SV) (m : List Blk) : CR :=
 match args with
 | [] => match bget m 0, bget m 1 with
  | .ro a0 c0, .ro a1 c1 => .pure (a0 = some ⟨1, 0, none⟩ ∧ c0 = .ints .u64 kKeys ∧ a1 = some ⟨2, 0, none⟩ ∧ c1 = .ints .u8 kPathI) (.bool true)
  | _, _ => .none
 | _ => .none
theorem g_ulK_ok (w0 : World) (B : List Nat) (args : List SV) (m : List Blk) : CROk Tryd.prog w0 B 12 args m (g_ulK args m) := by
 unfold g_ulK
 split
 ·split
  ·rename_i a0 c0 a1 c1 h0 h1
   intro ⟨r0, r1, r2, r3⟩ w hm
   subst r0 r1 r2 r3
   exact calls_pure Tryd.func12 rfl rfl (known_vc w (ro_front (ro_ro hm h1) (ro_ro hm h0)))
  ·exact trivial
 ·exact trivial
end Go.Proofs.YthdpgfdfgidokaaDoor
namespace Go.Proofs.YthdpgfdfgidokaaDoor
open Go.RowKit
theorem limb_bit (e i : Nat) : lm e (i / 64) / 2 ^ (i % 64) % 2 = e / 2 ^ i % 2 := by
 unfold lm
 rw [show (18446744073709551616 : Nat) = 2 ^ 64 from rfl, ← Nat.pow_mul]
 have h1 : i % 64 < 64 := Nat.mod_lt _ (by decide)
 have h2 : (2 : Nat) ^ 64 = 2 ^ (i % 64) * 2 ^ (64 - i % 64) := by rw [← Nat.pow_add]; congr 1; omega
 have h3 : e / 2 ^ (64 * (i / 64)) % 2 ^ 64 / 2 ^ (i % 64) = e / 2 ^ i % 2 ^ (64 - i % 64) := by
  rw [h2, Nat.mod_mul_right_div_self, Nat.div_div_eq_div_mul, ← Nat.pow_add]
  congr 2
  congr 1
  omega
 rw [h3]
 exact Nat.mod_mod_of_dvd _ (by
  have : (2 : Nat) ^ (64 - i % 64) = 2 * 2 ^ (64 - i % 64 - 1) := by rw [← Nat.pow_succ']; congr 1; omega
  rw [this]; exact Nat.dvd_mul_right _ _)
end Go.Proofs.YthdpgfdfgidokaaDoor
namespace Go.Proofs.YthdpgfdfgidokaaDoor
open Go.RowKit
theorem and_one (x : Nat) (h : x < 18446744073709551616) : bits .and .u64 (x : Int) 1 = ((x % 2 : Nat) : Int) := by
 have := bits_and_u64_nat x 1 h (by decide)
 rw [Nat.and_one_is_mod] at this
 exact this
theorem exp_bit {e k : Nat} (hk : k < 256) : (decide (bits .and .u64 (((lm e ((k : Int) / 64).toNat : Nat) : Int) / 2 ^ min ((k : Int) % 64).toNat 64) 1 = 1)) = decide (e / 2 ^ k % 2 = 1) := by
 have h1 : ((k : Int) / 64).toNat = k / 64 := by omega
 have h2 : min ((k : Int) % 64).toNat 64 = k % 64 := by omega
 rw [h1, h2]
 have h3 : ((lm e (k / 64) : Nat) : Int) / 2 ^ (k % 64) = ((lm e (k / 64) / 2 ^ (k % 64) : Nat) : Int) := by rw [Int.natCast_ediv, Int.natCast_pow]; rfl
 rw [h3, and_one _ (Nat.lt_of_le_of_lt (Nat.div_le_self _ _) (lm_lt _ _)), limb_bit, decide_eq_decide]
 omega
end Go.Proofs.YthdpgfdfgidokaaDoor
