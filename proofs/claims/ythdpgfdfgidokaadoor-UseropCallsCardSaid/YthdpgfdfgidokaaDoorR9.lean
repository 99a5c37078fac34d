/-
 The document's bytes of words (quaestorref01), walked: Bytes, Addr, Read, Wide; SameBytes (quaestorref00).
-/
import Derived.Test.YthdpgfdfgidokaaDoorR3
import Derived.Test.YthdpgfdfgidokaaDoorEO
import Derived.Test.YthdpgfdfgidokaaDoorW8
set_option maxRecDepth 10000
set_option maxHeartbeats 4000000
set_option linter.defProp false
set_option linter.unusedVariables false
set_option linter.unusedSimpArgs false
namespace Go.Proofs.YthdpgfdfgidokaaDoor
open Go.RowKit
theorem bytI_get {a n k : Nat} (h : k < n) : (bytI a n)[k]? = some ((byN a (n - 1 - k) : Nat) : Int) := by
 simp only [bytI, List.getElem?_map, List.getElem?_range h, Option.map_some]
theorem wrap_byte (x : Nat) : IntKind.u8.wrap ((x : Nat) : Int) = ((x % 256 : Nat) : Int) := by rw [mod_u8]; omega
theorem byte_val (a k : Nat) (hk : k < 32) : IntKind.u8.wrap (((lm a (((31 : Int) - (k : Int)) / 8).toNat : Nat) : Int) / 2 ^ min (((31 : Int) - (k : Int)) % 8 * 8).toNat 64) = ((byN a (32 - 1 - k) : Nat) : Int) := by
 have h1 : (((31 : Int) - (k : Int)) / 8).toNat = (32 - 1 - k) / 8 := by omega
 have h2 : min (((31 : Int) - (k : Int)) % 8 * 8).toNat 64 = (32 - 1 - k) % 8 * 8 := by omega
 rw [h1, h2]
 have h3 : ((lm a ((32 - 1 - k) / 8) : Nat) : Int) / 2 ^ ((32 - 1 - k) % 8 * 8) = ((lm a ((32 - 1 - k) / 8) / 2 ^ ((32 - 1 - k) % 8 * 8) : Nat) : Int) := by rw [Int.natCast_ediv, Int.natCast_pow]; rfl
 rw [h3, wrap_byte]; rfl
theorem rbytes_vc (a : Nat) (w : World) : Calls Tryd.prog 81 (cvs [.word a]).toArray w (fun en w' => ∃ u, en = .returned u ∧ ∃ v m', u = cv v ∧ MemOk w [] m' w' ∧ ∃ s, v = .own 1 s 32 ∧ bget m' 1 = .own s 32 5 1 (.ints .u8 (bytI a 32))) := by
 refine Vc.calls T0_ok Tryd.func81 rfl rfl (args := [.word a]) (k := 25) rfl (MemOk.start _) ?_; change Vc _ _ (c8 (.word a) .undef .undef .undef .undef .undef .undef .undef (c8 .undef .undef .undef .undef .undef .undef .undef .undef (c8 .undef .undef .undef .undef .undef .undef .undef .undef ([.undef, .undef])))) _ _
 ((repeat (first | (with_reducible first | refine Vc.seq fun N hN => ?_ | refine Vc.block ?_) | (with_reducible intro _) | ((with_reducible refine And.intro ?_ ?_); (focus (exact sd0))) | ((first | ((with_reducible refine Vc.fin ?_); dsimp only [thenK, blockK, retK, resS, resOne, resAll]) | ((with_reducible refine Vc.hold ?_); first | refine Vc.regiont T0_ok G7_ok ?_)); (try simp only [v8Y, Nat.beq, Nat.ble, seval, tabs, G7_set]); (try simp (disch := omega) only [v8W])) | ((with_reducible refine hN _ _ ?_); clear hN N))); (try ((with_reducible refine Fin.of ?_); (try with_reducible exact True.intro))))
 (revert N; intro N1 hN1)
 rename_i b0
 refine Vc.nilown 3 5 1 .u8 rfl ?_
 (simp only [v8Y, Nat.beq, Nat.ble, seval, tabs])
 refine Vc.loop 5 26 (fun x => [(3, .own 1 x.2 x.1), (4, .int .i64 (x.1 : Nat))])
  (fun x => [.blk b0 26 (.words [a]), .own x.2 x.1 5 1 (.ints .u8 ((bytI a 32).take x.1))])
  (fun x => x.1 ≤ 32) (fun x => 32 - x.1) ((0 : Nat), (.slice none 0 0 : Value)) ⟨Nat.zero_le _, ?_, ?_⟩ (fun x junk hk => ?_)
 ·((try simp only [v8Y, Nat.beq, Nat.ble, seval, tabs]); (repeat' with_reducible apply And.intro) <;> first | with_reducible exact True.intro | fail | with_reducible rfl | (congr 1 <;> omega) | trivial)
 ·((try simp only [v8Y, Nat.beq, Nat.ble, seval, tabs]); (repeat' with_reducible apply And.intro) <;> first | with_reducible exact True.intro | fail | with_reducible rfl | (congr 1 <;> omega) | trivial)
 ·obtain ⟨k, s⟩ := x
  simp only at hk ⊢
  (simp only [v8Y, Nat.beq, Nat.ble, seval, tabs])
  ((repeat (first | (with_reducible refine Vc.seq fun N hN => ?_) | ((with_reducible refine And.intro ?_ ?_); (focus (exact sd0))) | ((first | ((with_reducible refine Vc.hold ?_); first | refine Vc.regiont T0_ok G7_ok ?_)); (try simp only [v8Y, Nat.beq, Nat.ble, seval, tabs, G7_set])) | ((with_reducible refine hN _ _ ?_); clear hN N))))
  (refine Vc.cond T0_ok (by rfl) (fun hb => ?_) (fun hb => ?_))
  ·have hk' := of_decide_eq_true hb
   clear hb
   have e1 := byte_val a k (by omega)
   ((repeat (first | (with_reducible first | refine Vc.seq fun N hN => ?_ | refine Vc.block ?_) | ((first | with_reducible refine Vc.skip ?_); dsimp only [thenK, blockK, Nat.beq]; (first | (refine hN _ _ ?_; clear hN N))) | (with_reducible intro _) | ((with_reducible refine And.intro ?_ ?_); (focus (first | ((repeat' with_reducible apply And.intro) <;> first | with_reducible exact True.intro | with_reducible rfl | (simp only [List.length_take, bytI_len, List.length_cons, List.length_nil]; omega) | omega) | exact sd0))) | ((first | ((with_reducible refine Vc.hold ?_); first | refine Vc.regiont T0_ok G7_ok ?_)); (try simp only [v8Y, Nat.beq, Nat.ble, seval, tabs, G7_set]); (try simp (disch := omega) only [v8W])) | ((with_reducible refine hN _ _ ?_); clear hN N))))
   rename_i bb v1
   have e2 := take_push (bytI_get (a := a) (show k < 32 by omega))
   refine ⟨(k + 1, v1), by simp only; omega, ?_, ?_, by simp only; omega⟩
   ·((try simp only [v8Y, Nat.beq, Nat.ble, seval, tabs]); (repeat' with_reducible apply And.intro) <;> first | with_reducible exact True.intro | fail | with_reducible rfl | (congr 1 <;> omega) | trivial)
   ·((try simp only [v8Y, Nat.beq, Nat.ble, seval, tabs]); (repeat' with_reducible apply And.intro) <;> first | with_reducible exact True.intro | (rw [e1]; simp only [List.drop_zero, List.take_succ_cons, List.take_zero]; rw [e2]) | with_reducible rfl | (congr 1 <;> omega) | trivial)
  ·have hk' := of_decide_eq_false hb
   have hk2 : k = 32 := by omega
   subst hk2
   clear hb
   ((repeat (first | (with_reducible refine Vc.seq fun N hN => ?_) | ((first | with_reducible refine Vc.exit ?_); dsimp only [thenK, blockK, Nat.beq]; (first | skip)) | ((with_reducible refine And.intro ?_ ?_); (focus (exact sd0))) | ((first | ((with_reducible refine Vc.fin ?_); dsimp only [thenK, blockK, retK, resS, resOne, resAll]) | ((with_reducible refine Vc.hold ?_); first | refine Vc.regiont T0_ok G7_ok ?_)); (try simp only [v8Y, Nat.beq, Nat.ble, seval, tabs, G7_set])) | ((with_reducible refine hN _ _ ?_); clear hN N))); (try ((with_reducible refine Fin.of ?_); (try with_reducible exact True.intro))))
   (refine hN1 _ _ ?_; (try clear hN N); clear hN1 N1)
   ((repeat (first | (with_reducible refine Vc.seq fun N hN => ?_) | ((first | with_reducible refine Vc.exit ?_); dsimp only [thenK, blockK, Nat.beq]; (first | skip)) | ((with_reducible refine And.intro ?_ ?_); (focus (exact sd0))) | ((first | ((with_reducible refine Vc.fin ?_); dsimp only [thenK, blockK, retK, resS, resOne, resAll]) | ((with_reducible refine Vc.hold ?_); first | refine Vc.regiont T0_ok G7_ok ?_)); (try simp only [v8Y, Nat.beq, Nat.ble, seval, tabs, G7_set])) | ((with_reducible refine hN _ _ ?_); clear hN N))); (try ((with_reducible refine Fin.of ?_); (try with_reducible exact True.intro))))
   exact ⟨trivial, s, rfl, by rw [List.take_of_length_le (by rw [bytI_len]; exact Nat.le_refl _)]⟩
def g_rBytes (args : List SV) (_m : List Blk) : CR :=
 match args with
 | [.word a] => .own True 5 1 32 (.ints .u8 (bytI a 32)) (fun v => v)
 | _ => .none
theorem g_rBytes_ok (w0 : World) (B : List Nat) (args : List SV) (m : List Blk) : CROk Tryd.prog w0 B 81 args m (g_rBytes args m) := by
 unfold g_rBytes
 split
 ·rename_i a
  intro _ w _
  refine .inr ⟨enter_run Tryd.func81 rfl rfl _ w, (rbytes_vc a w).mono fun e w' ⟨u, he, v', m', hu, hm, s, hv, hs⟩ => ⟨u, he, s, ?_, hm.grown, ?_⟩⟩
  ·rw [hu, hv]; rfl
  ·exact own_ok0 (hm.each _ (bget_mem hs (by simp)))
 ·exact trivial
theorem rread_vc (xs : List Int) (a : Option Addr) (n cp : Nat) (hn : xs.length = n) (hc : n ≤ cp) (hb : n ≤ 9223372036854775807) (hx : allB xs) (ha : adr a n cp) (w : World) (hm : MemOk w [] [.ro a (.ints .u8 xs)] w) :
  Calls Tryd.prog 83 (cvs [.sl 0 a 0 0 1 n cp]).toArray w (fun en w' => ∃ u, en = .returned u ∧ ∃ v m', u = cv v ∧ MemOk w [] m' w' ∧ v = .word (readN xs)) := by
 obtain ⟨d, hd⟩ : ∃ d, d = n - 32 := ⟨_, rfl⟩
 obtain ⟨ys, hy⟩ : ∃ ys, ys = xs.drop d := ⟨_, rfl⟩
 have hys : ys.length = n - d := by rw [hy, List.length_drop, hn]
 have hr : readN xs = rdI ys := by unfold readN; rw [hn, hy, hd]
 have hg : ∀ j, xs.getD (d + j) 0 = ys.getD j 0 := fun j => by rw [hy, List.getD_eq_getElem?_getD, List.getD_eq_getElem?_getD, List.getElem?_drop]
 have hby2 : allB ys := by rw [hy]; exact allB_drop hx d
 have hby : ∀ j, j < n - d → 0 ≤ ys.getD j 0 ∧ ys.getD j 0 ≤ 255 := fun j hj => by
  rw [List.getD_eq_getElem?_getD, List.getElem?_eq_getElem (by omega)]
  exact hby2 _ (List.getElem_mem _)
 obtain ⟨L, hL⟩ : ∃ L, L = n - d := ⟨_, rfl⟩
 rw [← hL] at hys hby
 have hL32 : L ≤ 32 := by omega
 have hLn : L = if n < 32 then n else 32 := by split <;> omega
 have h00 : rdI (ys.drop (L - 0)) = 0 := by rw [Nat.sub_zero, List.drop_of_length_le (by omega)]; rfl
 clear hy
 refine Vc.calls T0_ok Tryd.func83 rfl rfl (args := [.sl 0 a 0 0 1 n cp]) (k := 38) rfl hm ?_; change Vc _ _ (c8 (.sl 0 a 0 0 1 n cp) .undef .undef .undef .undef .undef .undef .undef (c8 .undef .undef .undef .undef .undef .undef .undef .undef (c8 .undef .undef .undef .undef .undef .undef .undef .undef (c8 .undef .undef .undef .undef .undef .undef .undef .undef ([.undef, .undef, .undef, .undef, .undef, .undef, .undef]))))) _ _
 ((repeat (first | (with_reducible first | refine Vc.seq fun N hN => ?_ | refine Vc.block ?_) | (with_reducible intro _) | ((with_reducible refine And.intro ?_ ?_); (focus (exact sd0))) | ((first | ((with_reducible refine Vc.hold ?_); first | refine Vc.regiont T0_ok G7_ok ?_)); (try simp only [v8Y, Nat.beq, Nat.ble, seval, tabs, G7_set])) | ((with_reducible refine hN _ _ ?_); clear hN N))))
 (revert N; intro N1 hN1)
 rename_i b1 b2
 refine Vc.recon 2 (.ints .u64 (lmI 0)) rfl (cc_lmI 0) ?_
 simp only [bset]
 refine Vc.loop 6 39 (fun k => [(5, .int .i64 (k : Nat))])
  (fun k => [.ro a (.ints .u8 xs), .blk b1 26 (.words [0]), .blk b2 26 (.ints .u64 (lmI (rdI (ys.drop (L - k)))))])
  (fun k => k ≤ L) (fun k => L - k) 0 ⟨Nat.zero_le _, ?_, ?_⟩ (fun k junk hk => ?_)
 ·((try simp only [v8Y, Nat.beq, Nat.ble, seval, tabs]); (repeat' with_reducible apply And.intro) <;> first | with_reducible exact True.intro | fail | with_reducible rfl | (congr 1 <;> omega) | trivial)
 ·((try simp only [v8Y, Nat.beq, Nat.ble, seval, tabs]); (repeat' with_reducible apply And.intro) <;> first | with_reducible exact True.intro | rw [h00] | with_reducible rfl | (congr 1 <;> omega) | trivial)
 ·have hlt : rdI (ys.drop (L - k)) < 256 ^ k := by
   have := rdI_lt (allB_drop hby2 (L - k))
   rw [List.length_drop, hys] at this
   rwa [show L - (L - k) = k by omega] at this
  by_cases hkL : k < L
  ·have d1 : decide ((k : Int) < 32) = true := decide_eq_true (by omega)
   have d2 : decide ((k : Int) < (n : Int)) = true := decide_eq_true (by omega)
   (simp only [v8Y, Nat.beq, Nat.ble, seval, tabs])
   ((repeat (first | (with_reducible refine Vc.seq fun N hN => ?_) | ((with_reducible refine And.intro ?_ ?_); (focus (exact sd0))) | ((first | ((with_reducible refine Vc.hold ?_); first | refine Vc.regiont T0_ok G7_ok ?_)); (try simp only [v8Y, Nat.beq, Nat.ble, seval, tabs, G7_set, d1, d2])) | ((with_reducible refine hN _ _ ?_); clear hN N))))
   (refine Vc.cond T0_ok (t := true) (by rfl) (fun _ => ?_) (fun h => Bool.noConfusion h))
   ((repeat (first | (with_reducible first | refine Vc.seq fun N hN => ?_ | refine Vc.block ?_) | ((first | with_reducible refine Vc.skip ?_); dsimp only [thenK, blockK, Nat.beq]; (first | (refine hN _ _ ?_; clear hN N))) | ((with_reducible refine And.intro ?_ ?_); (focus (first | ((repeat' with_reducible apply And.intro) <;> first | exact True.intro | omega | (rw [lmI_len]; omega) | with_reducible assumption) | exact sd0))) | ((first | ((with_reducible refine Vc.hold ?_); first | refine Vc.regiont T0_ok G7_ok ?_ | refine Vc.drawt (id := 6) T0_ok G7_ok (by kernel_rfl) [0, 1, 2, 3, 4, 5, 6, 7, 8, 9, 10, 11, 12, 13, 14, 15, 16, 17, 18] 19 [] trivial (by kernel_rfl) ?_)); (try simp only [v8Y, Nat.beq, Nat.ble, seval, tabs, G7_set]); (try simp (disch := omega) only [v8W])) | ((with_reducible refine hN _ _ ?_); clear hN N))))
   have hst := rdI_drop (ys := ys) (k := k) (by omega)
   rw [hys] at hst
   have e1 : ((n : Int) - 1 - (k : Int)).toNat = d + (L - 1 - k) := by omega
   have e2 := hby (L - 1 - k) (by omega)
   have e3 := read_step hlt (by omega) e2.1 e2.2
   refine ⟨k + 1, by omega, ?_, ?_, by omega⟩
   ·((try simp only [v8Y, Nat.beq, Nat.ble, seval, tabs]); (repeat' with_reducible apply And.intro) <;> first | with_reducible exact True.intro | fail | with_reducible rfl | (congr 1 <;> omega) | trivial)
   ·((try simp only [v8Y, Nat.beq, Nat.ble, seval, tabs]); (repeat' with_reducible apply And.intro) <;> first | with_reducible exact True.intro | rw [e1, hg, e3, hst] | with_reducible rfl | (congr 1 <;> omega) | trivial)
  ·have hk2 : k = L := by omega
   subst hk2
   have hend : rdI ys = rdI (ys.drop (k - k)) := by rw [Nat.sub_self, List.drop_zero]
   have hW : rdI ys < W := rdI_W hby2 (by omega)
   rw [← hend]
   by_cases h32 : n < 32
   ·have d1 : decide ((k : Int) < 32) = true := decide_eq_true (by omega)
    have d2 : decide ((k : Int) < (n : Int)) = false := decide_eq_false (by omega)
    (simp only [v8Y, Nat.beq, Nat.ble, seval, tabs])
    ((repeat (first | (with_reducible refine Vc.seq fun N hN => ?_) | ((with_reducible refine And.intro ?_ ?_); (focus (exact sd0))) | ((first | ((with_reducible refine Vc.hold ?_); first | refine Vc.regiont T0_ok G7_ok ?_)); (try simp only [v8Y, Nat.beq, Nat.ble, seval, tabs, G7_set, d1, d2])) | ((with_reducible refine hN _ _ ?_); clear hN N))))
    (refine Vc.cond T0_ok (t := false) (by rfl) (fun h => Bool.noConfusion h) (fun _ => ?_))
    ((repeat (first | ((first | with_reducible refine Vc.exit ?_); dsimp only [thenK, blockK, Nat.beq]; (first | skip)))))
    (refine hN1 _ _ ?_; (try clear hN N); clear hN1 N1)
    ((repeat (first | (with_reducible refine Vc.seq fun N hN => ?_) | ((with_reducible refine And.intro ?_ ?_); exact sX12) | ((first | ((with_reducible refine Vc.fin ?_); dsimp only [thenK, blockK, retK, resS, resOne, resAll]) | ((with_reducible refine Vc.hold ?_); first | refine Vc.regiont T0_ok G7_ok ?_)); (try simp only [v8Y, Nat.beq, Nat.ble, seval, tabs, G7_set])) | ((with_reducible refine hN _ _ ?_); clear hN N))); (try ((with_reducible refine Fin.of ?_); (try with_reducible exact True.intro))))
    ((try simp only [v8Y, Nat.beq, Nat.ble, seval, tabs]); (repeat' with_reducible apply And.intro) <;> first | with_reducible exact True.intro | rw [numI_lmI hW, hr] | with_reducible rfl | (congr 1 <;> omega) | trivial)
   ·have d1 : decide ((k : Int) < 32) = false := decide_eq_false (by omega)
    (simp only [v8Y, Nat.beq, Nat.ble, seval, tabs])
    ((repeat (first | (with_reducible refine Vc.seq fun N hN => ?_) | ((with_reducible refine And.intro ?_ ?_); (focus (exact sd0))) | ((first | ((with_reducible refine Vc.hold ?_); first | refine Vc.regiont T0_ok G7_ok ?_)); (try simp only [v8Y, Nat.beq, Nat.ble, seval, tabs, G7_set, d1])) | ((with_reducible refine hN _ _ ?_); clear hN N))))
    (refine Vc.cond T0_ok (t := false) (by rfl) (fun h => Bool.noConfusion h) (fun _ => ?_))
    ((repeat (first | ((first | with_reducible refine Vc.exit ?_); dsimp only [thenK, blockK, Nat.beq]; (first | skip)))))
    (refine hN1 _ _ ?_; (try clear hN N); clear hN1 N1)
    ((repeat (first | (with_reducible refine Vc.seq fun N hN => ?_) | ((with_reducible refine And.intro ?_ ?_); exact sX12) | ((first | ((with_reducible refine Vc.fin ?_); dsimp only [thenK, blockK, retK, resS, resOne, resAll]) | ((with_reducible refine Vc.hold ?_); first | refine Vc.regiont T0_ok G7_ok ?_)); (try simp only [v8Y, Nat.beq, Nat.ble, seval, tabs, G7_set])) | ((with_reducible refine hN _ _ ?_); clear hN N))); (try ((with_reducible refine Fin.of ?_); (try with_reducible exact True.intro))))
    ((try simp only [v8Y, Nat.beq, Nat.ble, seval, tabs]); (repeat' with_reducible apply And.intro) <;> first | with_reducible exact True.intro | rw [numI_lmI hW, hr] | with_reducible rfl | (congr 1 <;> omega) | trivial)
def g_rRead (args : List SV) (m : List Blk) : CR :=
 match args with
 | [x] => match srcC x m with
  | some (q, k, .ints .u8 xs) => .pure (q ∧ k ≤ 9223372036854775807 ∧ allB xs) (.word (readN xs))
  | _ => .none
 | _ => .none
theorem g_rRead_ok (w0 : World) (B : List Nat) (args : List SV) (m : List Blk) : CROk Tryd.prog w0 B 83 args m (g_rRead args m) := by
 unfold g_rRead
 split
 ·rename_i x
  split
  ·rename_i q k xs hs
   intro ⟨hq, hk, hx⟩ w hm
   obtain ⟨h1, a, cp, h2, h3, h4, h5⟩ := src_ro hs hq hm
   have hl : xs.length = k := by simpa [cc, conEs] using h1
   have e : cvs [x] = cvs [.sl 0 a 0 0 1 k cp] := by simp only [cvs]; rw [h2]; rfl
   rw [e]
   exact calls_pure Tryd.func83 rfl rfl (rread_vc xs a k cp hl h3 hk hx h5 w h4)
  ·exact trivial
 ·exact trivial
noncomputable def GO : Ctr := fun f args m => match f with
 | 52 => g_From args m
 | 43 => g_rFrom args m
 | 141 => g_Small args m
 | 109 => g_lowByte args m
 | 120 => g_Shl args m
 | 89 => g_Shr args m
 | 54 => g_Cmp args m
 | 53 => g_Add args m
 | 51 => g_Mul args m
 | 93 => g_length args m
 | 102 => g_Read args m
 | 79 => g_Addr args m
 | 67 => g_Wide args m
 | 101 => g_Bytes args m
 | 55 => g_rAdd args m
 | 41 => g_rCmp args m
 | 81 => g_rBytes args m
 | 83 => g_rRead args m
 | _ => .none
theorem GO_ok : GOk Tryd.prog GO := by
 intro w0 B f args m; unfold GO; split
 ·exact g_From_ok _ _ _ _
 ·exact g_rFrom_ok _ _ _ _
 ·exact g_Small_ok _ _ _ _
 ·exact g_lowByte_ok _ _ _ _
 ·exact g_Shl_ok _ _ _ _
 ·exact g_Shr_ok _ _ _ _
 ·exact g_Cmp_ok _ _ _ _
 ·exact g_Add_ok _ _ _ _
 ·exact g_Mul_ok _ _ _ _
 ·exact g_length_ok _ _ _ _
 ·exact g_Read_ok _ _ _ _
 ·exact g_Addr_ok _ _ _ _
 ·exact g_Wide_ok _ _ _ _
 ·exact g_Bytes_ok _ _ _ _
 ·exact g_rAdd_ok _ _ _ _
 ·exact g_rCmp_ok _ _ _ _
 ·exact g_rBytes_ok _ _ _ _
 ·exact g_rRead_ok _ _ _ _
 ·exact trivial
theorem GO_From : GO 52 = g_From := by funext args m; rfl
theorem GO_rFrom : GO 43 = g_rFrom := by funext args m; rfl
theorem GO_Small : GO 141 = g_Small := by funext args m; rfl
theorem GO_lowByte : GO 109 = g_lowByte := by funext args m; rfl
theorem GO_Shl : GO 120 = g_Shl := by funext args m; rfl
theorem GO_Shr : GO 89 = g_Shr := by funext args m; rfl
theorem GO_Cmp : GO 54 = g_Cmp := by funext args m; rfl
theorem GO_Add : GO 53 = g_Add := by funext args m; rfl
theorem GO_Mul : GO 51 = g_Mul := by funext args m; rfl
theorem GO_length : GO 93 = g_length := by funext args m; rfl
theorem GO_Read : GO 102 = g_Read := by funext args m; rfl
theorem GO_Addr : GO 79 = g_Addr := by funext args m; rfl
theorem GO_Wide : GO 67 = g_Wide := by funext args m; rfl
theorem GO_Bytes : GO 101 = g_Bytes := by funext args m; rfl
theorem GO_rAdd : GO 55 = g_rAdd := by funext args m; rfl
theorem GO_rCmp : GO 41 = g_rCmp := by funext args m; rfl
theorem GO_rBytes : GO 81 = g_rBytes := by funext args m; rfl
theorem GO_rRead : GO 83 = g_rRead := by funext args m; rfl
def GO_set := And.intro (And.intro (And.intro (And.intro (And.intro (@GO_From) (@g_From.eq_def)) (And.intro (@GO_rFrom) (@g_rFrom.eq_def))) (And.intro (And.intro (@GO_Small) (@g_Small.eq_def)) (And.intro (@GO_lowByte) (And.intro (@g_lowByte.eq_def) (@GO_Shl))))) (And.intro (And.intro (And.intro (@g_Shl.eq_def) (@GO_Shr)) (And.intro (@g_Shr.eq_def) (@GO_Cmp))) (And.intro (And.intro (@g_Cmp.eq_def) (@GO_Add)) (And.intro (@g_Add.eq_def) (And.intro (@GO_Mul) (@g_Mul.eq_def)))))) (And.intro (And.intro (And.intro (And.intro (@GO_length) (@g_length.eq_def)) (And.intro (@GO_Read) (@g_Read.eq_def))) (And.intro (And.intro (@GO_Addr) (@g_Addr.eq_def)) (And.intro (@GO_Wide) (And.intro (@g_Wide.eq_def) (@GO_Bytes))))) (And.intro (And.intro (And.intro (@g_Bytes.eq_def) (@GO_rAdd)) (And.intro (@g_rAdd.eq_def) (@GO_rCmp))) (And.intro (And.intro (@g_rCmp.eq_def) (@GO_rBytes)) (And.intro (@g_rBytes.eq_def) (And.intro (@GO_rRead) (@g_rRead.eq_def))))))

theorem rwide_vc (xs : List Int) (hl : xs.length = 20) (hx : allB xs) (w : World) : Calls Tryd.prog 62 (cvs [.ints .u8 xs]).toArray w (fun en w' => ∃ u, en = .returned u ∧ ∃ v m', u = cv v ∧ MemOk w [] m' w' ∧ v = .word (rdI xs)) := by
 have e0 : xs.take 20 = xs := List.take_of_length_le (by omega)
 have e2 : readN xs = rdI xs := by unfold readN; rw [hl]; rfl
 refine Vc.calls T0_ok Tryd.func62 rfl rfl (args := [.ints .u8 xs]) (k := 16) rfl (MemOk.start _) ?_; change Vc _ _ (c8 (.ints .u8 xs) .undef .undef .undef .undef .undef .undef .undef (c8 .undef .undef .undef .undef .undef .undef .undef .undef ([.undef]))) _ _
 ((repeat (first | (with_reducible first | refine Vc.seq fun N hN => ?_ | refine Vc.block ?_) | (with_reducible intro _) | ((with_reducible refine And.intro ?_ ?_); (focus (exact sd0))) | ((first | ((with_reducible refine Vc.hold ?_); first | refine Vc.regiont T0_ok GO_ok ?_)); (try simp only [v8Y, Nat.beq, Nat.ble, seval, tabs, GO_set])) | ((with_reducible refine hN _ _ ?_); clear hN N))))
 (revert N; intro N1 hN1)
 rename_i b0 b1
 refine Vc.nilown 3 5 1 .u8 rfl ?_
 (simp only [v8Y, Nat.beq, Nat.ble, seval, tabs])
 refine Vc.loop 5 17 (fun x => [(3, .own 2 x.2 x.1), (4, .int .i64 (x.1 : Nat))])
  (fun x => [.blk b0 23 (.ints .u8 xs), .blk b1 26 (.words [0]), .own x.2 x.1 5 1 (.ints .u8 (xs.take x.1))])
  (fun x => x.1 ≤ 20) (fun x => 20 - x.1) ((0 : Nat), (.slice none 0 0 : Value)) ⟨Nat.zero_le _, ?_, ?_⟩ (fun x junk hk => ?_)
 ·((try simp only [v8Y, Nat.beq, Nat.ble, seval, tabs]); (repeat' with_reducible apply And.intro) <;> first | with_reducible exact True.intro | fail | with_reducible rfl | (congr 1 <;> omega) | trivial)
 ·((try simp only [v8Y, Nat.beq, Nat.ble, seval, tabs]); (repeat' with_reducible apply And.intro) <;> first | with_reducible exact True.intro | fail | with_reducible rfl | (congr 1 <;> omega) | trivial)
 ·obtain ⟨k, s⟩ := x
  simp only at hk ⊢
  (simp only [v8Y, Nat.beq, Nat.ble, seval, tabs])
  ((repeat (first | (with_reducible refine Vc.seq fun N hN => ?_) | ((with_reducible refine And.intro ?_ ?_); (focus (exact sd0))) | ((first | ((with_reducible refine Vc.hold ?_); first | refine Vc.regiont T0_ok GO_ok ?_)); (try simp only [v8Y, Nat.beq, Nat.ble, seval, tabs, GO_set])) | ((with_reducible refine hN _ _ ?_); clear hN N))))
  (refine Vc.cond T0_ok (by rfl) (fun hb => ?_) (fun hb => ?_))
  ·have hk' := of_decide_eq_true hb
   clear hb
   have hk2 : k < xs.length := by omega
   have e1 : xs[k]? = some (xs.getD k 0) := getD_get 0 hk2
   ((repeat (first | (with_reducible first | refine Vc.seq fun N hN => ?_ | refine Vc.block ?_) | ((first | with_reducible refine Vc.skip ?_); dsimp only [thenK, blockK, Nat.beq]; (first | (refine hN _ _ ?_; clear hN N))) | (with_reducible intro _) | ((with_reducible refine And.intro ?_ ?_); (focus (first | ((repeat' with_reducible apply And.intro) <;> first | with_reducible exact True.intro | with_reducible rfl | (simp only [List.length_take, List.length_cons, List.length_nil]; omega) | omega) | exact sd0))) | ((first | ((with_reducible refine Vc.hold ?_); first | refine Vc.regiont T0_ok GO_ok ?_)); (try simp only [v8Y, Nat.beq, Nat.ble, seval, tabs, GO_set])) | ((with_reducible refine hN _ _ ?_); clear hN N))))
   rename_i bb v1
   have e3 := take_push e1
   refine ⟨(k + 1, v1), by simp only; omega, ?_, ?_, by simp only; omega⟩
   ·((try simp only [v8Y, Nat.beq, Nat.ble, seval, tabs]); (repeat' with_reducible apply And.intro) <;> first | with_reducible exact True.intro | fail | with_reducible rfl | (congr 1 <;> omega) | trivial)
   ·((try simp only [v8Y, Nat.beq, Nat.ble, seval, tabs]); (repeat' with_reducible apply And.intro) <;> first | with_reducible exact True.intro | (simp only [List.drop_zero, List.take_succ_cons, List.take_zero]; rw [e3]) | with_reducible rfl | (congr 1 <;> omega) | trivial)
  ·have hk' := of_decide_eq_false hb
   have hk2 : k = 20 := by omega
   subst hk2
   clear hb
   rw [e0]
   ((repeat (first | ((first | with_reducible refine Vc.exit ?_); dsimp only [thenK, blockK, Nat.beq]; (first | skip)))))
   (refine hN1 _ _ ?_; (try clear hN N); clear hN1 N1)
   have e4 : (xs.drop 0).take 20 = xs := by rw [List.drop_zero, e0]
   ((repeat (first | (with_reducible refine Vc.seq fun N hN => ?_) | ((with_reducible refine And.intro ?_ ?_); (focus (first | ((repeat' with_reducible apply And.intro) <;> first | with_reducible exact True.intro | with_reducible rfl | (rw [e4]; exact hx) | omega) | exact sd0))) | ((first | ((with_reducible refine Vc.fin ?_); dsimp only [thenK, blockK, retK, resS, resOne, resAll]) | ((with_reducible refine Vc.hold ?_); first | refine Vc.regiont T0_ok GO_ok ?_)); (try simp only [v8Y, Nat.beq, Nat.ble, seval, tabs, GO_set])) | ((with_reducible refine hN _ _ ?_); clear hN N))); (try ((with_reducible refine Fin.of ?_); (try with_reducible exact True.intro))))
   ((try simp only [v8Y, Nat.beq, Nat.ble, seval, tabs]); (repeat' with_reducible apply And.intro) <;> first | with_reducible exact True.intro | rw [e4, e2] | with_reducible rfl | (congr 1 <;> omega) | trivial)
def g_rWide (args : List SV) (_m : List Blk) : CR := match args with | [.ints .u8 xs] => .pure (xs.length = 20 ∧ allB xs) (.word (rdI xs)) | _ => .none
theorem g_rWide_ok (w0 : World) (B : List Nat) (args : List SV) (m : List Blk) : CROk Tryd.prog w0 B 62 args m (g_rWide args m) := by
 unfold g_rWide; split
 ·rename_i xs; exact fun h w _ => calls_pure Tryd.func62 rfl rfl (rwide_vc xs h.1 h.2 w)
 ·exact trivial
theorem same_vc (xs ys : List Int) (a1 a2 : Option Addr) (n1 n2 c1 c2 : Nat) (l1 : xs.length = n1) (l2 : ys.length = n2) (hx : allB xs) (hy : allB ys) (h1 : n1 ≤ c1) (h2 : n2 ≤ c2) (q1 : adr a1 n1 c1) (q2 : adr a2 n2 c2)
  (w : World) (hm : MemOk w [] [.ro a1 (.ints .u8 xs), .ro a2 (.ints .u8 ys)] w) :
  Calls Tryd.prog 29 (cvs [.sl 0 a1 0 0 1 n1 c1, .sl 1 a2 0 0 1 n2 c2]).toArray w (fun en w' => ∃ u, en = .returned u ∧ ∃ v m', u = cv v ∧ MemOk w [] m' w' ∧ v = .bool (decide (xs = ys))) := by
 have t1 : (xs.drop 0).take n1 = xs := by rw [List.drop_zero, List.take_of_length_le (by omega)]
 have t2 : (ys.drop 0).take n2 = ys := by rw [List.drop_zero, List.take_of_length_le (by omega)]
 refine Vc.calls T0_ok Tryd.func29 rfl rfl (args := [.sl 0 a1 0 0 1 n1 c1, .sl 1 a2 0 0 1 n2 c2]) (k := 8) rfl hm ?_; change Vc _ _ (c8 (.sl 0 a1 0 0 1 n1 c1) (.sl 1 a2 0 0 1 n2 c2) .undef .undef .undef .undef .undef .undef ([.undef, .undef])) _ _
 ((repeat (first | (with_reducible refine Vc.seq fun N hN => ?_) | ((with_reducible refine And.intro ?_ ?_); (focus (first | ((repeat' with_reducible apply And.intro) <;> first | with_reducible exact True.intro | with_reducible assumption | (rw [t1]; assumption) | (rw [t2]; assumption) | omega) | exact sd0))) | ((first | ((with_reducible refine Vc.fin ?_); dsimp only [thenK, blockK, retK, resS, resOne, resAll]) | ((with_reducible refine Vc.hold ?_); first | refine Vc.regiont T0_ok GO_ok ?_)); (try simp only [v8Y, Nat.beq, Nat.ble, seval, tabs, GO_set])) | ((with_reducible refine hN _ _ ?_); clear hN N))); (try ((with_reducible refine Fin.of ?_); (try with_reducible exact True.intro))))
 rw [t1, t2]
 exact ⟨trivial, rfl⟩
def g_same (args : List SV) (m : List Blk) : CR :=
 match args with
 | [x, y] => match srcC x m, srcC y m with
  | some (q, _, .ints .u8 xs), some (q', _, .ints .u8 ys) => .pure (q ∧ q' ∧ allB xs ∧ allB ys) (.bool (decide (xs = ys)))
  | _, _ => .none
 | _ => .none
theorem g_same_ok (w0 : World) (B : List Nat) (args : List SV) (m : List Blk) : CROk Tryd.prog w0 B 29 args m (g_same args m) := by
 unfold g_same
 split
 ·rename_i x y
  split
  ·rename_i q k xs q' k' ys hs hs'
   intro ⟨hq, hq', hx, hy⟩ w hm
   obtain ⟨l1, a1, c1, e1, b1, m1, d1⟩ := src_ro hs hq hm
   obtain ⟨l2, a2, c2, e2, b2, m2, d2⟩ := src_ro hs' hq' hm
   have e : cvs [x, y] = cvs [.sl 0 a1 0 0 1 k c1, .sl 1 a2 0 0 1 k' c2] := by simp only [cvs]; rw [e1, e2]; rfl
   rw [e]
   exact calls_pure Tryd.func29 rfl rfl (same_vc xs ys a1 a2 k k' c1 c2 (by simpa [cc, conEs] using l1) (by simpa [cc, conEs] using l2) hx hy b1 b2 d1 d2 w (ro_two m1 m2))
  ·exact trivial
 ·exact trivial
end Go.Proofs.YthdpgfdfgidokaaDoor
