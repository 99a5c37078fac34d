/-
 The document's shifts (quaestorref01), walked: Small, with, far, shift, Shl, Shr, Sar, Extend.
-/
import Derived.Test.YthdpgfdfgidokaaDoorR6
set_option maxRecDepth 10000
set_option maxHeartbeats 4000000
set_option linter.defProp false
set_option linter.unusedVariables false
set_option linter.unusedSimpArgs false
namespace Go.Proofs.YthdpgfdfgidokaaDoor
open Go.RowKit
theorem small_eq {a : Nat} (ha : a < W) : (lm a 1 = 0 ∧ lm a 2 = 0 ∧ lm a 3 = 0 → smN a = lm a 0 ∧ smB a = true) ∧ (¬ (lm a 1 = 0 ∧ lm a 2 = 0 ∧ lm a 3 = 0) → smN a = 0 ∧ smB a = false) := by
 have h := num_lm ha
 have h0 := lm_lt a 0
 unfold num at h
 constructor
 ·rintro ⟨h1, h2, h3⟩
  rw [h1, h2, h3] at h
  unfold smN smB
  have : a < 18446744073709551616 := by omega
  exact ⟨by rw [if_pos this]; omega, decide_eq_true this⟩
 ·intro hn
  have : ¬ a < 18446744073709551616 := by omega
  unfold smN smB
  exact ⟨by rw [if_neg this], decide_eq_false this⟩
theorem ne0_t {n : Nat} (h : n = 0) : decide (((n : Nat) : Int) = 0) = true := decide_eq_true (by omega)
theorem ne0_f {n : Nat} (h : ¬ n = 0) : decide (((n : Nat) : Int) = 0) = false := decide_eq_false (by omega)
theorem rsmall_vc (a : Nat) (ha : a < W) (w : World) : Calls Tryd.prog 82 (cvs [.word a]).toArray w (fun en w' => ∃ u, en = .returned u ∧ ∃ v m', u = cv v ∧ MemOk w [] m' w' ∧ v = .tup [.int .u64 (smN a : Nat), .bool (smB a)]) := by
 obtain ⟨s1, s2⟩ := small_eq ha
 by_cases h1 : lm a 1 = 0
 ·by_cases h2 : lm a 2 = 0
  ·by_cases h3 : lm a 3 = 0
   ·obtain ⟨r1, r2⟩ := s1 ⟨h1, h2, h3⟩
    have d1 := ne0_t h1
    have d2 := ne0_t h2
    have d3 := ne0_t h3
    refine Vc.calls T0_ok Tryd.func82 rfl rfl (args := [.word a]) (k := 18) rfl (MemOk.start _) ?_; change Vc _ _ (c8 (.word a) .undef .undef .undef .undef .undef .undef .undef (c8 .undef .undef .undef .undef .undef .undef .undef .undef ([.undef, .undef, .undef]))) _ _
    ((repeat (first | (with_reducible refine Vc.seq fun N hN => ?_) | (with_reducible intro _) | ((with_reducible refine And.intro ?_ ?_); (focus (exact sd0))) | ((first | ((with_reducible refine Vc.hold ?_); first | refine Vc.regiont T0_ok GC_ok ?_)); (try simp only [v8Y, Nat.beq, Nat.ble, seval, tabs, GC_set, d1, d2, d3])) | ((with_reducible refine hN _ _ ?_); clear hN N))))
    (refine Vc.cond T0_ok (t := false) (by rfl) (fun h => Bool.noConfusion h) (fun _ => ?_))
    ((repeat (first | (with_reducible refine Vc.seq fun N hN => ?_) | ((first | with_reducible refine Vc.skip ?_); dsimp only [thenK, blockK, Nat.beq]; (first | (refine hN _ _ ?_; clear hN N))) | ((with_reducible refine And.intro ?_ ?_); (focus (exact sd0))) | ((first | ((with_reducible refine Vc.fin ?_); dsimp only [thenK, blockK, retK, resS, resOne, resAll]) | ((with_reducible refine Vc.hold ?_); first | refine Vc.regiont T0_ok GC_ok ?_)); (try simp only [v8Y, Nat.beq, Nat.ble, seval, tabs, GC_set])) | ((with_reducible refine hN _ _ ?_); clear hN N))); (try ((with_reducible refine Fin.of ?_); (try with_reducible exact True.intro))))
    ((try simp only [v8Y, Nat.beq, Nat.ble, seval, tabs]); (repeat' with_reducible apply And.intro) <;> first | with_reducible exact True.intro | rw [r1, r2] | with_reducible rfl | (congr 1 <;> omega) | trivial)
   ·obtain ⟨r1, r2⟩ := s2 (fun h => h3 h.2.2)
    have d1 := ne0_t h1
    have d2 := ne0_t h2
    have d3 := ne0_f h3
    refine Vc.calls T0_ok Tryd.func82 rfl rfl (args := [.word a]) (k := 18) rfl (MemOk.start _) ?_; change Vc _ _ (c8 (.word a) .undef .undef .undef .undef .undef .undef .undef (c8 .undef .undef .undef .undef .undef .undef .undef .undef ([.undef, .undef, .undef]))) _ _
    ((repeat (first | (with_reducible refine Vc.seq fun N hN => ?_) | (with_reducible intro _) | ((with_reducible refine And.intro ?_ ?_); (focus (exact sd0))) | ((first | ((with_reducible refine Vc.hold ?_); first | refine Vc.regiont T0_ok GC_ok ?_)); (try simp only [v8Y, Nat.beq, Nat.ble, seval, tabs, GC_set, d1, d2, d3])) | ((with_reducible refine hN _ _ ?_); clear hN N))))
    (refine Vc.cond T0_ok (t := true) (by rfl) (fun _ => ?_) (fun h => Bool.noConfusion h))
    ((repeat (first | (with_reducible refine Vc.seq fun N hN => ?_) | ((first | with_reducible refine Vc.skip ?_); dsimp only [thenK, blockK, Nat.beq]; (first | (refine hN _ _ ?_; clear hN N))) | ((with_reducible refine And.intro ?_ ?_); (focus (exact sd0))) | ((first | ((with_reducible refine Vc.fin ?_); dsimp only [thenK, blockK, retK, resS, resOne, resAll]) | ((with_reducible refine Vc.hold ?_); first | refine Vc.regiont T0_ok GC_ok ?_)); (try simp only [v8Y, Nat.beq, Nat.ble, seval, tabs, GC_set])) | ((with_reducible refine hN _ _ ?_); clear hN N))); (try ((with_reducible refine Fin.of ?_); (try with_reducible exact True.intro))))
    ((try simp only [v8Y, Nat.beq, Nat.ble, seval, tabs]); (repeat' with_reducible apply And.intro) <;> first | with_reducible exact True.intro | rw [r1, r2]; rfl | with_reducible rfl | (congr 1 <;> omega) | trivial)
  ·obtain ⟨r1, r2⟩ := s2 (fun h => h2 h.2.1)
   have d1 := ne0_t h1
   have d2 := ne0_f h2
   refine Vc.calls T0_ok Tryd.func82 rfl rfl (args := [.word a]) (k := 18) rfl (MemOk.start _) ?_; change Vc _ _ (c8 (.word a) .undef .undef .undef .undef .undef .undef .undef (c8 .undef .undef .undef .undef .undef .undef .undef .undef ([.undef, .undef, .undef]))) _ _
   ((repeat (first | (with_reducible refine Vc.seq fun N hN => ?_) | (with_reducible intro _) | ((with_reducible refine And.intro ?_ ?_); (focus (exact sd0))) | ((first | ((with_reducible refine Vc.hold ?_); first | refine Vc.regiont T0_ok GC_ok ?_)); (try simp only [v8Y, Nat.beq, Nat.ble, seval, tabs, GC_set, d1, d2])) | ((with_reducible refine hN _ _ ?_); clear hN N))))
   (refine Vc.cond T0_ok (t := true) (by rfl) (fun _ => ?_) (fun h => Bool.noConfusion h))
   ((repeat (first | (with_reducible refine Vc.seq fun N hN => ?_) | ((with_reducible refine And.intro ?_ ?_); (focus (exact sd0))) | ((first | ((with_reducible refine Vc.fin ?_); dsimp only [thenK, blockK, retK, resS, resOne, resAll]) | ((with_reducible refine Vc.hold ?_); first | refine Vc.regiont T0_ok GC_ok ?_)); (try simp only [v8Y, Nat.beq, Nat.ble, seval, tabs, GC_set])) | ((with_reducible refine hN _ _ ?_); clear hN N))); (try ((with_reducible refine Fin.of ?_); (try with_reducible exact True.intro))))
   ((try simp only [v8Y, Nat.beq, Nat.ble, seval, tabs]); (repeat' with_reducible apply And.intro) <;> first | with_reducible exact True.intro | rw [r1, r2]; rfl | with_reducible rfl | (congr 1 <;> omega) | trivial)
 ·obtain ⟨r1, r2⟩ := s2 (fun h => h1 h.1)
  have d1 := ne0_f h1
  refine Vc.calls T0_ok Tryd.func82 rfl rfl (args := [.word a]) (k := 18) rfl (MemOk.start _) ?_; change Vc _ _ (c8 (.word a) .undef .undef .undef .undef .undef .undef .undef (c8 .undef .undef .undef .undef .undef .undef .undef .undef ([.undef, .undef, .undef]))) _ _
  ((repeat (first | (with_reducible refine Vc.seq fun N hN => ?_) | (with_reducible intro _) | ((with_reducible refine And.intro ?_ ?_); (focus (exact sd0))) | ((first | ((with_reducible refine Vc.hold ?_); first | refine Vc.regiont T0_ok GC_ok ?_)); (try simp only [v8Y, Nat.beq, Nat.ble, seval, tabs, GC_set, d1])) | ((with_reducible refine hN _ _ ?_); clear hN N))))
  (refine Vc.cond T0_ok (t := true) (by rfl) (fun _ => ?_) (fun h => Bool.noConfusion h))
  ((repeat (first | (with_reducible refine Vc.seq fun N hN => ?_) | ((with_reducible refine And.intro ?_ ?_); (focus (exact sd0))) | ((first | ((with_reducible refine Vc.fin ?_); dsimp only [thenK, blockK, retK, resS, resOne, resAll]) | ((with_reducible refine Vc.hold ?_); first | refine Vc.regiont T0_ok GC_ok ?_)); (try simp only [v8Y, Nat.beq, Nat.ble, seval, tabs, GC_set])) | ((with_reducible refine hN _ _ ?_); clear hN N))); (try ((with_reducible refine Fin.of ?_); (try with_reducible exact True.intro))))
  ((try simp only [v8Y, Nat.beq, Nat.ble, seval, tabs]); (repeat' with_reducible apply And.intro) <;> first | with_reducible exact True.intro | rw [r1, r2]; rfl | with_reducible rfl | (congr 1 <;> omega) | trivial)
def g_rSmall (args : List SV) (_m : List Blk) : CR := match args with | [.word a] => .pure (a < W) (.tup [.int .u64 (smN a : Nat), .bool (smB a)]) | _ => .none
theorem g_rSmall_ok (w0 : World) (B : List Nat) (args : List SV) (m : List Blk) : CROk Tryd.prog w0 B 82 args m (g_rSmall args m) := by
 unfold g_rSmall; split
 ·rename_i a; exact fun h w _ => calls_pure Tryd.func82 rfl rfl (rsmall_vc a h w)
 ·exact trivial
noncomputable def GK : Ctr := fun f args m => match f with
 | 52 => g_From args m
 | 43 => g_rFrom args m
 | 141 => g_Small args m
 | 109 => g_lowByte args m
 | 120 => g_Shl args m
 | 89 => g_Shr args m
 | 54 => g_Cmp args m
 | 53 => g_Add args m
 | 51 => g_Mul args m
 | 93 => g_length args m
 | 102 => g_Read args m
 | 79 => g_Addr args m
 | 67 => g_Wide args m
 | 101 => g_Bytes args m
 | 55 => g_rAdd args m
 | 41 => g_rCmp args m
 | 116 => g_rbit args m
 | 82 => g_rSmall args m
 | _ => .none
theorem GK_ok : GOk Tryd.prog GK := by
 intro w0 B f args m; unfold GK; split
 ·exact g_From_ok _ _ _ _
 ·exact g_rFrom_ok _ _ _ _
 ·exact g_Small_ok _ _ _ _
 ·exact g_lowByte_ok _ _ _ _
 ·exact g_Shl_ok _ _ _ _
 ·exact g_Shr_ok _ _ _ _
 ·exact g_Cmp_ok _ _ _ _
 ·exact g_Add_ok _ _ _ _
 ·exact g_Mul_ok _ _ _ _
 ·exact g_length_ok _ _ _ _
 ·exact g_Read_ok _ _ _ _
 ·exact g_Addr_ok _ _ _ _
 ·exact g_Wide_ok _ _ _ _
 ·exact g_Bytes_ok _ _ _ _
 ·exact g_rAdd_ok _ _ _ _
 ·exact g_rCmp_ok _ _ _ _
 ·exact g_rbit_ok _ _ _ _
 ·exact g_rSmall_ok _ _ _ _
 ·exact trivial
theorem GK_From : GK 52 = g_From := by funext args m; rfl
theorem GK_rFrom : GK 43 = g_rFrom := by funext args m; rfl
theorem GK_Small : GK 141 = g_Small := by funext args m; rfl
theorem GK_lowByte : GK 109 = g_lowByte := by funext args m; rfl
theorem GK_Shl : GK 120 = g_Shl := by funext args m; rfl
theorem GK_Shr : GK 89 = g_Shr := by funext args m; rfl
theorem GK_Cmp : GK 54 = g_Cmp := by funext args m; rfl
theorem GK_Add : GK 53 = g_Add := by funext args m; rfl
theorem GK_Mul : GK 51 = g_Mul := by funext args m; rfl
theorem GK_length : GK 93 = g_length := by funext args m; rfl
theorem GK_Read : GK 102 = g_Read := by funext args m; rfl
theorem GK_Addr : GK 79 = g_Addr := by funext args m; rfl
theorem GK_Wide : GK 67 = g_Wide := by funext args m; rfl
theorem GK_Bytes : GK 101 = g_Bytes := by funext args m; rfl
theorem GK_rAdd : GK 55 = g_rAdd := by funext args m; rfl
theorem GK_rCmp : GK 41 = g_rCmp := by funext args m; rfl
theorem GK_rbit : GK 116 = g_rbit := by funext args m; rfl
theorem GK_rSmall : GK 82 = g_rSmall := by funext args m; rfl
def GK_set := And.intro (And.intro (And.intro (And.intro (And.intro (@GK_From) (@g_From.eq_def)) (And.intro (@GK_rFrom) (@g_rFrom.eq_def))) (And.intro (And.intro (@GK_Small) (@g_Small.eq_def)) (And.intro (@GK_lowByte) (And.intro (@g_lowByte.eq_def) (@GK_Shl))))) (And.intro (And.intro (And.intro (@g_Shl.eq_def) (@GK_Shr)) (And.intro (@g_Shr.eq_def) (@GK_Cmp))) (And.intro (And.intro (@g_Cmp.eq_def) (@GK_Add)) (And.intro (@g_Add.eq_def) (And.intro (@GK_Mul) (@g_Mul.eq_def)))))) (And.intro (And.intro (And.intro (And.intro (@GK_length) (@g_length.eq_def)) (And.intro (@GK_Read) (@g_Read.eq_def))) (And.intro (And.intro (@GK_Addr) (@g_Addr.eq_def)) (And.intro (@GK_Wide) (And.intro (@g_Wide.eq_def) (@GK_Bytes))))) (And.intro (And.intro (And.intro (@g_Bytes.eq_def) (@GK_rAdd)) (And.intro (@g_rAdd.eq_def) (@GK_rCmp))) (And.intro (And.intro (@g_rCmp.eq_def) (@GK_rbit)) (And.intro (@g_rbit.eq_def) (And.intro (@GK_rSmall) (@g_rSmall.eq_def))))))

theorem bits_xor_and {x y : Nat} (hx : x < 18446744073709551616) (hy : y < 18446744073709551616) : bits .andNot .u64 (x : Int) (y : Int) = ((x ^^^ (x &&& y) : Nat) : Int) := by
 have h1 : (BitVec.ofInt 64 (x : Int)) = BitVec.ofNat 64 x := by rw [BitVec.ofInt_natCast]
 have h2 : (BitVec.ofInt 64 (y : Int)) = BitVec.ofNat 64 y := by rw [BitVec.ofInt_natCast]
 show IntKind.u64.wrap ((BitVec.ofInt 64 (x : Int) &&& ~~~ BitVec.ofInt 64 (y : Int)).toNat : Int) = _
 have e : (BitVec.ofInt 64 (x : Int) &&& ~~~ BitVec.ofInt 64 (y : Int)).toNat = x ^^^ (x &&& y) := by
  rw [h1, h2]
  apply Nat.eq_of_testBit_eq
  intro i
  rw [BitVec.testBit_toNat, BitVec.getLsbD_and, BitVec.getLsbD_not, BitVec.getLsbD_ofNat, BitVec.getLsbD_ofNat, Nat.testBit_xor, Nat.testBit_and]
  by_cases hi : i < 64
  ·simp [hi]; cases x.testBit i <;> cases y.testBit i <;> rfl
  ·have : x.testBit i = false := Nat.testBit_lt_two_pow (Nat.lt_of_lt_of_le (show x < 2 ^ 64 from hx) (Nat.pow_le_pow_right (by decide) (by omega)))
   simp [hi, this]
 rw [e]
 have : x ^^^ (x &&& y) < 2 ^ 64 := Nat.xor_lt_two_pow hx (Nat.lt_of_le_of_lt Nat.and_le_left hx)
 rw [wrap_u64 (by omega) (by omega)]
theorem drop_bit (q i : Nat) (hi : i < 256) : (lmI q).set ((i : Int) / 64).toNat (bits .andNot .u64 ((lmI q).getD ((i : Int) / 64).toNat 0) (IntKind.u64.wrap (1 * 2 ^ min ((i : Int) % 64).toNat 64))) = lmI (withN q i false) := by
 have h2 : 2 ^ (i % 64) < 18446744073709551616 := (Nat.pow_lt_pow_right (by decide) (by omega) : 2 ^ (i % 64) < 2 ^ 64)
 rw [show ((i : Int) / 64).toNat = i / 64 by omega, wrap_bit, lmI_get _ _ (by omega), bits_xor_and (lm_lt _ _) h2, ← lmI_with q i hi false]
 rfl
theorem rwith_vc (a i : Nat) (on : Bool) (ha : a < W) (hi : i < 256) (w : World) : Calls Tryd.prog 117 (cvs [.word a, .int .i64 i, .bool on]).toArray w (fun en w' => ∃ u, en = .returned u ∧ ∃ v m', u = cv v ∧ MemOk w [] m' w' ∧ v = .word (withN a i on)) := by
 have l1 := withN_lt ha hi on
 have hp := put_bit a i hi
 have hq := drop_bit a i hi
 refine Vc.calls T0_ok Tryd.func117 rfl rfl (args := [.word a, .int .i64 i, .bool on]) (k := 29) rfl (MemOk.start _) ?_; change Vc _ _ (c8 (.word a) (.int .i64 i) (.bool on) .undef .undef .undef .undef .undef (c8 .undef .undef .undef .undef .undef .undef .undef .undef (c8 .undef .undef .undef .undef .undef .undef .undef .undef (c8 .undef .undef .undef .undef .undef .undef .undef .undef ([]))))) _ _
 ((repeat (first | (with_reducible refine Vc.seq fun N hN => ?_) | (with_reducible intro _) | ((with_reducible refine And.intro ?_ ?_); (focus (exact sd0))) | ((first | ((with_reducible refine Vc.hold ?_); first | refine Vc.regiont T0_ok GC_ok ?_)); (try simp only [v8Y, Nat.beq, Nat.ble, seval, tabs, GC_set]); (try simp (disch := omega) only [v8W])) | ((with_reducible refine hN _ _ ?_); clear hN N))))
 refine Vc.recon 0 (.ints .u64 (lmI a)) rfl (cc_lmI a) ?_
 simp only [bset]
 (refine Vc.cond T0_ok (by rfl) (fun hb => ?_) (fun hb => ?_))
 ·subst hb
  ((repeat (first | (with_reducible refine Vc.seq fun N hN => ?_) | ((with_reducible refine And.intro ?_ ?_); (focus (first | ((repeat' with_reducible apply And.intro) <;> first | with_reducible exact True.intro | (rw [lmI_len]; omega) | (rw [hp]; exact allU_lmI _) | (rw [hp]; exact lmI_len _)) | exact sd0))) | ((first | ((with_reducible refine Vc.fin ?_); dsimp only [thenK, blockK, retK, resS, resOne, resAll]) | ((with_reducible refine Vc.hold ?_); first | refine Vc.regiont T0_ok GC_ok ?_)); (try simp only [v8Y, Nat.beq, Nat.ble, seval, tabs, GC_set])) | ((with_reducible refine hN _ _ ?_); clear hN N))); (try ((with_reducible refine Fin.of ?_); (try with_reducible exact True.intro))))
  ((try simp only [v8Y, Nat.beq, Nat.ble, seval, tabs]); (repeat' with_reducible apply And.intro) <;> first | with_reducible exact True.intro | rw [hp, numI_lmI l1] | with_reducible rfl | (congr 1 <;> omega) | trivial)
 ·subst hb
  ((repeat (first | (with_reducible refine Vc.seq fun N hN => ?_) | ((with_reducible refine And.intro ?_ ?_); (focus (first | ((repeat' with_reducible apply And.intro) <;> first | with_reducible exact True.intro | (rw [lmI_len]; omega) | (rw [hq]; exact allU_lmI _) | (rw [hq]; exact lmI_len _)) | exact sd0))) | ((first | ((with_reducible refine Vc.fin ?_); dsimp only [thenK, blockK, retK, resS, resOne, resAll]) | ((with_reducible refine Vc.hold ?_); first | refine Vc.regiont T0_ok GC_ok ?_)); (try simp only [v8Y, Nat.beq, Nat.ble, seval, tabs, GC_set])) | ((with_reducible refine hN _ _ ?_); clear hN N))); (try ((with_reducible refine Fin.of ?_); (try with_reducible exact True.intro))))
  ((try simp only [v8Y, Nat.beq, Nat.ble, seval, tabs]); (repeat' with_reducible apply And.intro) <;> first | with_reducible exact True.intro | rw [hq, numI_lmI l1] | with_reducible rfl | (congr 1 <;> omega) | trivial)
def g_rwith (args : List SV) (_m : List Blk) : CR := match args with | [.word a, .int .i64 i, .bool on] => .pure (a < W ∧ 0 ≤ i ∧ i < 256) (.word (withN a i.toNat on)) | _ => .none
theorem g_rwith_ok (w0 : World) (B : List Nat) (args : List SV) (m : List Blk) : CROk Tryd.prog w0 B 117 args m (g_rwith args m) := by
 unfold g_rwith; split
 ·rename_i a i on; exact fun h w _ => calls_pure Tryd.func117 rfl rfl ((by have := rwith_vc a i.toNat on h.1 (by omega) w; rw [Int.toNat_of_nonneg h.2.1] at this; exact this))
 ·exact trivial
theorem smN_W (n : Nat) : smN n < 18446744073709551616 := sm_lt n
theorem rfar_vc (n : Nat) (hn : n < W) (w : World) : Calls Tryd.prog 91 (cvs [.word n]).toArray w (fun en w' => ∃ u, en = .returned u ∧ ∃ v m', u = cv v ∧ MemOk w [] m' w' ∧ v = .int .i64 (min n 256 : Nat)) := by
 have hs := smN_W n
 cases hb0 : smB n
 ·have : min n 256 = 256 := by have := of_decide_eq_false hb0; omega
  rw [this]
  refine Vc.calls T0_ok Tryd.func91 rfl rfl (args := [.word n]) (k := 17) rfl (MemOk.start _) ?_; change Vc _ _ (c8 (.word n) .undef .undef .undef .undef .undef .undef .undef (c8 .undef .undef .undef .undef .undef .undef .undef .undef ([.undef, .undef]))) _ _
  ((repeat (first | (with_reducible refine Vc.seq fun N hN => ?_) | (with_reducible intro _) | ((with_reducible refine And.intro ?_ ?_); (focus (exact sd0))) | ((first | ((with_reducible refine Vc.hold ?_); first | refine Vc.regiont T0_ok GK_ok ?_)); (try simp only [v8Y, Nat.beq, Nat.ble, seval, tabs, GK_set, hb0])) | ((with_reducible refine hN _ _ ?_); clear hN N))))
  (refine Vc.cond T0_ok (t := true) (by rfl) (fun _ => ?_) (fun h => Bool.noConfusion h))
  ((repeat (first | (with_reducible refine Vc.seq fun N hN => ?_) | ((with_reducible refine And.intro ?_ ?_); (focus (exact sd0))) | ((first | ((with_reducible refine Vc.fin ?_); dsimp only [thenK, blockK, retK, resS, resOne, resAll]) | ((with_reducible refine Vc.hold ?_); first | refine Vc.regiont T0_ok GK_ok ?_)); (try simp only [v8Y, Nat.beq, Nat.ble, seval, tabs, GK_set])) | ((with_reducible refine hN _ _ ?_); clear hN N))); (try ((with_reducible refine Fin.of ?_); (try with_reducible exact True.intro))))
  ((try simp only [v8Y, Nat.beq, Nat.ble, seval, tabs]); (repeat' with_reducible apply And.intro) <;> first | with_reducible exact True.intro | fail | with_reducible rfl | (congr 1 <;> omega) | trivial)
 ·have hv : smN n = n := if_pos (of_decide_eq_true hb0)
  have hl := of_decide_eq_true hb0
  refine Vc.calls T0_ok Tryd.func91 rfl rfl (args := [.word n]) (k := 17) rfl (MemOk.start _) ?_; change Vc _ _ (c8 (.word n) .undef .undef .undef .undef .undef .undef .undef (c8 .undef .undef .undef .undef .undef .undef .undef .undef ([.undef, .undef]))) _ _
  ((repeat (first | (with_reducible refine Vc.seq fun N hN => ?_) | (with_reducible intro _) | ((with_reducible refine And.intro ?_ ?_); (focus (exact sd0))) | ((first | ((with_reducible refine Vc.hold ?_); first | refine Vc.regiont T0_ok GK_ok ?_)); (try simp only [v8Y, Nat.beq, Nat.ble, seval, tabs, GK_set, hb0, hv])) | ((with_reducible refine hN _ _ ?_); clear hN N))))
  (refine Vc.cond T0_ok (by rfl) (fun hb => ?_) (fun hb => ?_))
  ·have h1 := of_decide_eq_true hb
   have : min n 256 = 256 := by omega
   rw [this]
   clear hb
   ((repeat (first | (with_reducible refine Vc.seq fun N hN => ?_) | ((first | with_reducible refine Vc.skip ?_); dsimp only [thenK, blockK, Nat.beq]; (first | (refine hN _ _ ?_; clear hN N))) | ((with_reducible refine And.intro ?_ ?_); (focus (exact sd0))) | ((first | ((with_reducible refine Vc.fin ?_); dsimp only [thenK, blockK, retK, resS, resOne, resAll]) | ((with_reducible refine Vc.hold ?_); first | refine Vc.regiont T0_ok GK_ok ?_)); (try simp only [v8Y, Nat.beq, Nat.ble, seval, tabs, GK_set]); (try simp (disch := omega) only [v8W])) | ((with_reducible refine hN _ _ ?_); clear hN N))); (try ((with_reducible refine Fin.of ?_); (try with_reducible exact True.intro))))
   ((try simp only [v8Y, Nat.beq, Nat.ble, seval, tabs]); (repeat' with_reducible apply And.intro) <;> first | with_reducible exact True.intro | fail | with_reducible rfl | (congr 1 <;> omega) | trivial)
  ·have h1 := of_decide_eq_false hb
   have : min n 256 = n := by omega
   rw [this]
   clear hb
   have hw := wrap_i64 (x := (n : Int)) (by omega) (by omega)
   ((repeat (first | (with_reducible refine Vc.seq fun N hN => ?_) | ((first | with_reducible refine Vc.skip ?_); dsimp only [thenK, blockK, Nat.beq]; (first | (refine hN _ _ ?_; clear hN N))) | ((with_reducible refine And.intro ?_ ?_); (focus (exact sd0))) | ((first | ((with_reducible refine Vc.fin ?_); dsimp only [thenK, blockK, retK, resS, resOne, resAll]) | ((with_reducible refine Vc.hold ?_); first | refine Vc.regiont T0_ok GK_ok ?_)); (try simp only [v8Y, Nat.beq, Nat.ble, seval, tabs, GK_set]); (try simp (disch := omega) only [v8W])) | ((with_reducible refine hN _ _ ?_); clear hN N))); (try ((with_reducible refine Fin.of ?_); (try with_reducible exact True.intro))))
   ((try simp only [v8Y, Nat.beq, Nat.ble, seval, tabs]); (repeat' with_reducible apply And.intro) <;> first | with_reducible exact True.intro | (rw [hw]; done) | with_reducible rfl | (congr 1 <;> omega) | trivial)
def g_rfar (args : List SV) (_m : List Blk) : CR := match args with | [.word n] => .pure (n < W) (.int .i64 (min n 256 : Nat)) | _ => .none
theorem g_rfar_ok (w0 : World) (B : List Nat) (args : List SV) (m : List Blk) : CROk Tryd.prog w0 B 91 args m (g_rfar args m) := by
 unfold g_rfar; split
 ·rename_i n; exact fun h w _ => calls_pure Tryd.func91 rfl rfl (rfar_vc n h w)
 ·exact trivial
theorem mv_set {a : Nat} {d : Int} {fill : Bool} {k : Nat} : withN (bitsN (mvB a d fill) k) k (mvB a d fill k) = bitsN (mvB a d fill) (k + 1) := rfl
theorem mv_in {a : Nat} {d : Int} {fill : Bool} {k : Nat} (h1 : 0 ≤ (k : Int) - d) (h2 : (k : Int) - d < 256) : mvB a d fill k = a.testBit ((k : Int) - d).toNat := if_pos ⟨h1, h2⟩
theorem mv_out {a : Nat} {d : Int} {fill : Bool} {k : Nat} (h : ¬ (0 ≤ (k : Int) - d ∧ (k : Int) - d < 256)) : mvB a d fill k = fill := if_neg h
noncomputable def GL : Ctr := fun f args m => match f with
 | 52 => g_From args m
 | 43 => g_rFrom args m
 | 141 => g_Small args m
 | 109 => g_lowByte args m
 | 120 => g_Shl args m
 | 89 => g_Shr args m
 | 54 => g_Cmp args m
 | 53 => g_Add args m
 | 51 => g_Mul args m
 | 93 => g_length args m
 | 102 => g_Read args m
 | 79 => g_Addr args m
 | 67 => g_Wide args m
 | 101 => g_Bytes args m
 | 55 => g_rAdd args m
 | 41 => g_rCmp args m
 | 116 => g_rbit args m
 | 82 => g_rSmall args m
 | 117 => g_rwith args m
 | 91 => g_rfar args m
 | _ => .none
theorem GL_ok : GOk Tryd.prog GL := by
 intro w0 B f args m; unfold GL; split
 ·exact g_From_ok _ _ _ _
 ·exact g_rFrom_ok _ _ _ _
 ·exact g_Small_ok _ _ _ _
 ·exact g_lowByte_ok _ _ _ _
 ·exact g_Shl_ok _ _ _ _
 ·exact g_Shr_ok _ _ _ _
 ·exact g_Cmp_ok _ _ _ _
 ·exact g_Add_ok _ _ _ _
 ·exact g_Mul_ok _ _ _ _
 ·exact g_length_ok _ _ _ _
 ·exact g_Read_ok _ _ _ _
 ·exact g_Addr_ok _ _ _ _
 ·exact g_Wide_ok _ _ _ _
 ·exact g_Bytes_ok _ _ _ _
 ·exact g_rAdd_ok _ _ _ _
 ·exact g_rCmp_ok _ _ _ _
 ·exact g_rbit_ok _ _ _ _
 ·exact g_rSmall_ok _ _ _ _
 ·exact g_rwith_ok _ _ _ _
 ·exact g_rfar_ok _ _ _ _
 ·exact trivial
theorem GL_From : GL 52 = g_From := by funext args m; rfl
theorem GL_rFrom : GL 43 = g_rFrom := by funext args m; rfl
theorem GL_Small : GL 141 = g_Small := by funext args m; rfl
theorem GL_lowByte : GL 109 = g_lowByte := by funext args m; rfl
theorem GL_Shl : GL 120 = g_Shl := by funext args m; rfl
theorem GL_Shr : GL 89 = g_Shr := by funext args m; rfl
theorem GL_Cmp : GL 54 = g_Cmp := by funext args m; rfl
theorem GL_Add : GL 53 = g_Add := by funext args m; rfl
theorem GL_Mul : GL 51 = g_Mul := by funext args m; rfl
theorem GL_length : GL 93 = g_length := by funext args m; rfl
theorem GL_Read : GL 102 = g_Read := by funext args m; rfl
theorem GL_Addr : GL 79 = g_Addr := by funext args m; rfl
theorem GL_Wide : GL 67 = g_Wide := by funext args m; rfl
theorem GL_Bytes : GL 101 = g_Bytes := by funext args m; rfl
theorem GL_rAdd : GL 55 = g_rAdd := by funext args m; rfl
theorem GL_rCmp : GL 41 = g_rCmp := by funext args m; rfl
theorem GL_rbit : GL 116 = g_rbit := by funext args m; rfl
theorem GL_rSmall : GL 82 = g_rSmall := by funext args m; rfl
theorem GL_rwith : GL 117 = g_rwith := by funext args m; rfl
theorem GL_rfar : GL 91 = g_rfar := by funext args m; rfl
def GL_set := And.intro (And.intro (And.intro (And.intro (And.intro (@GL_From) (@g_From.eq_def)) (And.intro (@GL_rFrom) (And.intro (@g_rFrom.eq_def) (@GL_Small)))) (And.intro (And.intro (@g_Small.eq_def) (@GL_lowByte)) (And.intro (@g_lowByte.eq_def) (And.intro (@GL_Shl) (@g_Shl.eq_def))))) (And.intro (And.intro (And.intro (@GL_Shr) (@g_Shr.eq_def)) (And.intro (@GL_Cmp) (And.intro (@g_Cmp.eq_def) (@GL_Add)))) (And.intro (And.intro (@g_Add.eq_def) (@GL_Mul)) (And.intro (@g_Mul.eq_def) (And.intro (@GL_length) (@g_length.eq_def)))))) (And.intro (And.intro (And.intro (And.intro (@GL_Read) (@g_Read.eq_def)) (And.intro (@GL_Addr) (And.intro (@g_Addr.eq_def) (@GL_Wide)))) (And.intro (And.intro (@g_Wide.eq_def) (@GL_Bytes)) (And.intro (@g_Bytes.eq_def) (And.intro (@GL_rAdd) (@g_rAdd.eq_def))))) (And.intro (And.intro (And.intro (@GL_rCmp) (@g_rCmp.eq_def)) (And.intro (@GL_rbit) (And.intro (@g_rbit.eq_def) (@GL_rSmall)))) (And.intro (And.intro (@g_rSmall.eq_def) (@GL_rwith)) (And.intro (@g_rwith.eq_def) (And.intro (@GL_rfar) (@g_rfar.eq_def))))))

set_option maxRecDepth 8000 in
theorem rshift_vc (a : Nat) (d : Int) (fill : Bool) (ha : a < W) (hd : -256 ≤ d ∧ d ≤ 256) (w : World) : Calls Tryd.prog 90 (cvs [.word a, .int .i64 d, .bool fill]).toArray w (fun en w' => ∃ u, en = .returned u ∧ ∃ v m', u = cv v ∧ MemOk w [] m' w' ∧ v = .word (bitsN (mvB a d fill) 256)) := by
 obtain ⟨hd1, hd2⟩ := hd
 refine Vc.calls T0_ok Tryd.func90 rfl rfl (args := [.word a, .int .i64 d, .bool fill]) (k := 32) rfl (MemOk.start _) ?_; change Vc _ _ (c8 (.word a) (.int .i64 d) (.bool fill) .undef .undef .undef .undef .undef (c8 .undef .undef .undef .undef .undef .undef .undef .undef (c8 .undef .undef .undef .undef .undef .undef .undef .undef (c8 .undef .undef .undef .undef .undef .undef .undef .undef ([.undef, .undef, .undef]))))) _ _
 ((repeat (first | (with_reducible first | refine Vc.seq fun N hN => ?_ | refine Vc.block ?_) | (with_reducible intro _) | ((with_reducible refine And.intro ?_ ?_); (focus (exact sd0))) | ((first | ((with_reducible refine Vc.hold ?_); first | refine Vc.regiont T0_ok GL_ok ?_)); (try simp only [v8Y, Nat.beq, Nat.ble, seval, tabs, GL_set])) | ((with_reducible refine hN _ _ ?_); clear hN N))))
 (revert N; intro N1 hN1)
 rename_i b0 b1 b2
 refine Vc.loop 9 35 (fun k => [(8, .int .i64 (k : Nat))])
  (fun k => [.blk b0 26 (.words [a]), .blk b1 26 (.words [0]), .blk b2 26 (.words [bitsN (mvB a d fill) k])])
  (fun k => k ≤ 256) (fun k => 256 - k) 0 ⟨Nat.zero_le _, ?_, ?_⟩ (fun k junk hk => ?_)
 ·((try simp only [v8Y, Nat.beq, Nat.ble, seval, tabs]); (repeat' with_reducible apply And.intro) <;> first | with_reducible exact True.intro | fail | with_reducible rfl | (congr 1 <;> omega) | trivial)
 ·((try simp only [v8Y, Nat.beq, Nat.ble, seval, tabs]); (repeat' with_reducible apply And.intro) <;> first | with_reducible exact True.intro | fail | with_reducible rfl | (congr 1 <;> omega) | trivial)
 ·have l1 := bitsN_lt (mvB a d fill) hk
  (simp only [v8Y, Nat.beq, Nat.ble, seval, tabs])
  ((repeat (first | (with_reducible refine Vc.seq fun N hN => ?_) | ((with_reducible refine And.intro ?_ ?_); (focus (exact sd0))) | ((first | ((with_reducible refine Vc.hold ?_); first | refine Vc.regiont T0_ok GL_ok ?_)); (try simp only [v8Y, Nat.beq, Nat.ble, seval, tabs, GL_set])) | ((with_reducible refine hN _ _ ?_); clear hN N))))
  (refine Vc.cond T0_ok (by rfl) (fun hb => ?_) (fun hb => ?_))
  ·have hk' := of_decide_eq_true hb
   clear hb
   by_cases h1 : 0 ≤ (k : Int) - d
   ·by_cases h2 : (k : Int) - d < 256
    ·have d1 : decide (0 ≤ (k : Int) - d) = true := decide_eq_true h1
     have d2 : decide ((k : Int) - d < 256) = true := decide_eq_true h2
     have e1 := mv_in (a := a) (fill := fill) h1 h2
     ((repeat (first | (with_reducible first | refine Vc.seq fun N hN => ?_ | refine Vc.block ?_) | ((first | with_reducible refine Vc.skip ?_); dsimp only [thenK, blockK, Nat.beq]; (first | (refine hN _ _ ?_; clear hN N))) | ((with_reducible refine And.intro ?_ ?_); (focus (exact sd0))) | ((first | ((with_reducible refine Vc.hold ?_); first | refine Vc.regiont T0_ok GL_ok ?_)); (try simp only [v8Y, Nat.beq, Nat.ble, seval, tabs, GL_set, d1, d2, tnc])) | ((with_reducible refine hN _ _ ?_); clear hN N))))
     (refine Vc.cond T0_ok (t := true) (by rfl) (fun _ => ?_) (fun h => Bool.noConfusion h))
     ((repeat (first | ((first | with_reducible refine Vc.skip ?_); dsimp only [thenK, blockK, Nat.beq]; (first | (refine hN _ _ ?_; clear hN N))) | ((with_reducible refine And.intro ?_ ?_); (focus (exact sd0))) | ((first | ((with_reducible refine Vc.hold ?_); first | refine Vc.regiont T0_ok GL_ok ?_)); (try simp only [v8Y, Nat.beq, Nat.ble, seval, tabs, GL_set, tnc])) | ((with_reducible refine hN _ _ ?_); clear hN N))))
     refine ⟨k + 1, by omega, ?_, ?_, by omega⟩
     ·((try simp only [v8Y, Nat.beq, Nat.ble, seval, tabs]); (repeat' with_reducible apply And.intro) <;> first | with_reducible exact True.intro | fail | with_reducible rfl | (congr 1 <;> omega) | trivial)
     ·((try simp only [v8Y, Nat.beq, Nat.ble, seval, tabs]); (repeat' with_reducible apply And.intro) <;> first | with_reducible exact True.intro | rw [← e1, mv_set] | with_reducible rfl | (congr 1 <;> omega) | trivial)
    ·have d1 : decide (0 ≤ (k : Int) - d) = true := decide_eq_true h1
     have d2 : decide ((k : Int) - d < 256) = false := decide_eq_false h2
     have e1 := mv_out (a := a) (fill := fill) (fun h => h2 h.2)
     ((repeat (first | (with_reducible first | refine Vc.seq fun N hN => ?_ | refine Vc.block ?_) | ((first | with_reducible refine Vc.skip ?_); dsimp only [thenK, blockK, Nat.beq]; (first | (refine hN _ _ ?_; clear hN N))) | ((with_reducible refine And.intro ?_ ?_); (focus (exact sd0))) | ((first | ((with_reducible refine Vc.hold ?_); first | refine Vc.regiont T0_ok GL_ok ?_)); (try simp only [v8Y, Nat.beq, Nat.ble, seval, tabs, GL_set, d1, d2, tnc])) | ((with_reducible refine hN _ _ ?_); clear hN N))))
     (refine Vc.cond T0_ok (t := false) (by rfl) (fun h => Bool.noConfusion h) (fun _ => ?_))
     ((repeat (first | ((first | with_reducible refine Vc.skip ?_); dsimp only [thenK, blockK, Nat.beq]; (first | (refine hN _ _ ?_; clear hN N))) | ((with_reducible refine And.intro ?_ ?_); (focus (exact sd0))) | ((first | ((with_reducible refine Vc.hold ?_); first | refine Vc.regiont T0_ok GL_ok ?_)); (try simp only [v8Y, Nat.beq, Nat.ble, seval, tabs, GL_set, tnc])) | ((with_reducible refine hN _ _ ?_); clear hN N))))
     refine ⟨k + 1, by omega, ?_, ?_, by omega⟩
     ·((try simp only [v8Y, Nat.beq, Nat.ble, seval, tabs]); (repeat' with_reducible apply And.intro) <;> first | with_reducible exact True.intro | fail | with_reducible rfl | (congr 1 <;> omega) | trivial)
     ·((try simp only [v8Y, Nat.beq, Nat.ble, seval, tabs]); (repeat' with_reducible apply And.intro) <;> first | with_reducible exact True.intro | rw [← mv_set, e1] | with_reducible rfl | (congr 1 <;> omega) | trivial)
   ·have d1 : decide (0 ≤ (k : Int) - d) = false := decide_eq_false h1
    have e1 := mv_out (a := a) (fill := fill) (fun h => h1 h.1)
    ((repeat (first | (with_reducible first | refine Vc.seq fun N hN => ?_ | refine Vc.block ?_) | ((first | with_reducible refine Vc.skip ?_); dsimp only [thenK, blockK, Nat.beq]; (first | (refine hN _ _ ?_; clear hN N))) | ((with_reducible refine And.intro ?_ ?_); (focus (exact sd0))) | ((first | ((with_reducible refine Vc.hold ?_); first | refine Vc.regiont T0_ok GL_ok ?_)); (try simp only [v8Y, Nat.beq, Nat.ble, seval, tabs, GL_set, d1, tnc])) | ((with_reducible refine hN _ _ ?_); clear hN N))))
    (refine Vc.cond T0_ok (t := false) (by rfl) (fun h => Bool.noConfusion h) (fun _ => ?_))
    ((repeat (first | ((first | with_reducible refine Vc.skip ?_); dsimp only [thenK, blockK, Nat.beq]; (first | (refine hN _ _ ?_; clear hN N))) | ((with_reducible refine And.intro ?_ ?_); (focus (exact sd0))) | ((first | ((with_reducible refine Vc.hold ?_); first | refine Vc.regiont T0_ok GL_ok ?_)); (try simp only [v8Y, Nat.beq, Nat.ble, seval, tabs, GL_set, tnc])) | ((with_reducible refine hN _ _ ?_); clear hN N))))
    refine ⟨k + 1, by omega, ?_, ?_, by omega⟩
    ·((try simp only [v8Y, Nat.beq, Nat.ble, seval, tabs]); (repeat' with_reducible apply And.intro) <;> first | with_reducible exact True.intro | fail | with_reducible rfl | (congr 1 <;> omega) | trivial)
    ·((try simp only [v8Y, Nat.beq, Nat.ble, seval, tabs]); (repeat' with_reducible apply And.intro) <;> first | with_reducible exact True.intro | rw [← mv_set, e1] | with_reducible rfl | (congr 1 <;> omega) | trivial)
  ·have hk' := of_decide_eq_false hb
   have hk2 : k = 256 := by omega
   subst hk2
   clear hb
   ((repeat (first | (with_reducible refine Vc.seq fun N hN => ?_) | ((first | with_reducible refine Vc.exit ?_); dsimp only [thenK, blockK, Nat.beq]; (first | skip)) | ((with_reducible refine And.intro ?_ ?_); (focus (exact sd0))) | ((first | ((with_reducible refine Vc.fin ?_); dsimp only [thenK, blockK, retK, resS, resOne, resAll]) | ((with_reducible refine Vc.hold ?_); first | refine Vc.regiont T0_ok GL_ok ?_)); (try simp only [v8Y, Nat.beq, Nat.ble, seval, tabs, GL_set])) | ((with_reducible refine hN _ _ ?_); clear hN N))); (try ((with_reducible refine Fin.of ?_); (try with_reducible exact True.intro))))
   (refine hN1 _ _ ?_; (try clear hN N); clear hN1 N1)
   ((repeat (first | (with_reducible refine Vc.seq fun N hN => ?_) | ((first | with_reducible refine Vc.exit ?_); dsimp only [thenK, blockK, Nat.beq]; (first | skip)) | ((with_reducible refine And.intro ?_ ?_); (focus (exact sd0))) | ((first | ((with_reducible refine Vc.fin ?_); dsimp only [thenK, blockK, retK, resS, resOne, resAll]) | ((with_reducible refine Vc.hold ?_); first | refine Vc.regiont T0_ok GL_ok ?_)); (try simp only [v8Y, Nat.beq, Nat.ble, seval, tabs, GL_set])) | ((with_reducible refine hN _ _ ?_); clear hN N))); (try ((with_reducible refine Fin.of ?_); (try with_reducible exact True.intro))))
   ((try simp only [v8Y, Nat.beq, Nat.ble, seval, tabs]); (repeat' with_reducible apply And.intro) <;> first | with_reducible exact True.intro | fail | with_reducible rfl | (congr 1 <;> omega) | trivial)
def g_rshift (args : List SV) (_m : List Blk) : CR := match args with | [.word a, .int .i64 d, .bool fill] => .pure (a < W ∧ -256 ≤ d ∧ d ≤ 256) (.word (bitsN (mvB a d fill) 256)) | _ => .none
theorem g_rshift_ok (w0 : World) (B : List Nat) (args : List SV) (m : List Blk) : CROk Tryd.prog w0 B 90 args m (g_rshift args m) := by
 unfold g_rshift; split
 ·rename_i a d fill; exact fun h w _ => calls_pure Tryd.func90 rfl rfl (rshift_vc a d fill h.1 h.2 w)
 ·exact trivial
noncomputable def GM : Ctr := fun f args m => match f with
 | 52 => g_From args m
 | 43 => g_rFrom args m
 | 141 => g_Small args m
 | 109 => g_lowByte args m
 | 120 => g_Shl args m
 | 89 => g_Shr args m
 | 54 => g_Cmp args m
 | 53 => g_Add args m
 | 51 => g_Mul args m
 | 93 => g_length args m
 | 102 => g_Read args m
 | 79 => g_Addr args m
 | 67 => g_Wide args m
 | 101 => g_Bytes args m
 | 55 => g_rAdd args m
 | 41 => g_rCmp args m
 | 116 => g_rbit args m
 | 82 => g_rSmall args m
 | 117 => g_rwith args m
 | 91 => g_rfar args m
 | 90 => g_rshift args m
 | _ => .none
theorem GM_ok : GOk Tryd.prog GM := by
 intro w0 B f args m; unfold GM; split
 ·exact g_From_ok _ _ _ _
 ·exact g_rFrom_ok _ _ _ _
 ·exact g_Small_ok _ _ _ _
 ·exact g_lowByte_ok _ _ _ _
 ·exact g_Shl_ok _ _ _ _
 ·exact g_Shr_ok _ _ _ _
 ·exact g_Cmp_ok _ _ _ _
 ·exact g_Add_ok _ _ _ _
 ·exact g_Mul_ok _ _ _ _
 ·exact g_length_ok _ _ _ _
 ·exact g_Read_ok _ _ _ _
 ·exact g_Addr_ok _ _ _ _
 ·exact g_Wide_ok _ _ _ _
 ·exact g_Bytes_ok _ _ _ _
 ·exact g_rAdd_ok _ _ _ _
 ·exact g_rCmp_ok _ _ _ _
 ·exact g_rbit_ok _ _ _ _
 ·exact g_rSmall_ok _ _ _ _
 ·exact g_rwith_ok _ _ _ _
 ·exact g_rfar_ok _ _ _ _
 ·exact g_rshift_ok _ _ _ _
 ·exact trivial
theorem GM_From : GM 52 = g_From := by funext args m; rfl
theorem GM_rFrom : GM 43 = g_rFrom := by funext args m; rfl
theorem GM_Small : GM 141 = g_Small := by funext args m; rfl
theorem GM_lowByte : GM 109 = g_lowByte := by funext args m; rfl
theorem GM_Shl : GM 120 = g_Shl := by funext args m; rfl
theorem GM_Shr : GM 89 = g_Shr := by funext args m; rfl
theorem GM_Cmp : GM 54 = g_Cmp := by funext args m; rfl
theorem GM_Add : GM 53 = g_Add := by funext args m; rfl
theorem GM_Mul : GM 51 = g_Mul := by funext args m; rfl
theorem GM_length : GM 93 = g_length := by funext args m; rfl
theorem GM_Read : GM 102 = g_Read := by funext args m; rfl
theorem GM_Addr : GM 79 = g_Addr := by funext args m; rfl
theorem GM_Wide : GM 67 = g_Wide := by funext args m; rfl
theorem GM_Bytes : GM 101 = g_Bytes := by funext args m; rfl
theorem GM_rAdd : GM 55 = g_rAdd := by funext args m; rfl
theorem GM_rCmp : GM 41 = g_rCmp := by funext args m; rfl
theorem GM_rbit : GM 116 = g_rbit := by funext args m; rfl
theorem GM_rSmall : GM 82 = g_rSmall := by funext args m; rfl
theorem GM_rwith : GM 117 = g_rwith := by funext args m; rfl
theorem GM_rfar : GM 91 = g_rfar := by funext args m; rfl
theorem GM_rshift : GM 90 = g_rshift := by funext args m; rfl
def GM_set := And.intro (And.intro (And.intro (And.intro (And.intro (@GM_From) (@g_From.eq_def)) (And.intro (@GM_rFrom) (And.intro (@g_rFrom.eq_def) (@GM_Small)))) (And.intro (And.intro (@g_Small.eq_def) (@GM_lowByte)) (And.intro (@g_lowByte.eq_def) (And.intro (@GM_Shl) (@g_Shl.eq_def))))) (And.intro (And.intro (And.intro (@GM_Shr) (@g_Shr.eq_def)) (And.intro (@GM_Cmp) (And.intro (@g_Cmp.eq_def) (@GM_Add)))) (And.intro (And.intro (@g_Add.eq_def) (And.intro (@GM_Mul) (@g_Mul.eq_def))) (And.intro (@GM_length) (And.intro (@g_length.eq_def) (@GM_Read)))))) (And.intro (And.intro (And.intro (And.intro (@g_Read.eq_def) (@GM_Addr)) (And.intro (@g_Addr.eq_def) (And.intro (@GM_Wide) (@g_Wide.eq_def)))) (And.intro (And.intro (@GM_Bytes) (@g_Bytes.eq_def)) (And.intro (@GM_rAdd) (And.intro (@g_rAdd.eq_def) (@GM_rCmp))))) (And.intro (And.intro (And.intro (@g_rCmp.eq_def) (@GM_rbit)) (And.intro (@g_rbit.eq_def) (And.intro (@GM_rSmall) (@g_rSmall.eq_def)))) (And.intro (And.intro (@GM_rwith) (And.intro (@g_rwith.eq_def) (@GM_rfar))) (And.intro (@g_rfar.eq_def) (And.intro (@GM_rshift) (@g_rshift.eq_def))))))

end Go.Proofs.YthdpgfdfgidokaaDoor
