/-
 Read and Wide of words, walked; contracts of bytes.
-/
import Derived.Test.YtoadeekdgikghaaDoorX2
import Derived.Test.YtoadeekdgikghaaDoorRE
set_option maxRecDepth 10000
set_option maxHeartbeats 4000000
set_option linter.defProp false
set_option linter.unusedVariables false
set_option linter.unusedSimpArgs false
namespace Go.Proofs.YtoadeekdgikghaaDoor
open Go.RowKit
theorem rdI_drop {ys : List Int} {k : Nat} (h : k < ys.length) : rdI (ys.drop (ys.length - (k + 1))) = (ys.getD (ys.length - 1 - k) 0).toNat * 256 ^ k + rdI (ys.drop (ys.length - k)) := by
 have h1 : ys.length - (k + 1) < ys.length := by omega
 rw [List.drop_eq_getElem_cons h1, rdI, show ys.length - (k + 1) + 1 = ys.length - k by omega]
 simp only [List.length_drop]
 rw [show ys.length - (ys.length - k) = k by omega, List.getD_eq_getElem?_getD, show ys.length - 1 - k = ys.length - (k + 1) by omega, List.getElem?_eq_getElem h1]
 rfl
theorem read_step {x k : Nat} {y : Int} (hx : x < 256 ^ k) (hk : k < 32) (h0 : 0 ≤ y) (h1 : y ≤ 255) :
  (lmI x).set ((k : Int) / 8).toNat (bits .or .u64 ((lmI x).getD ((k : Int) / 8).toNat 0) (IntKind.u64.wrap (IntKind.u64.wrap y * 2 ^ min ((k : Int) % 8 * 8).toNat 64))) = lmI (y.toNat * 256 ^ k + x) := by
 have e1 : ((k : Int) / 8).toNat = k / 8 := by omega
 have e2 : min ((k : Int) % 8 * 8).toNat 64 = k % 8 * 8 := by omega
 have e3 : IntKind.u64.wrap y = ((y.toNat : Nat) : Int) := by rw [wrap_u64 h0 (by omega)]; omega
 have hm : k % 8 * 8 ≤ 56 := by omega
 have hp : y.toNat * 2 ^ (k % 8 * 8) < 18446744073709551616 := by
  have h2 : y.toNat * 2 ^ (k % 8 * 8) ≤ 255 * 2 ^ 56 := Nat.mul_le_mul (by omega) (Nat.pow_le_pow_right (by decide) hm)
  exact Nat.lt_of_le_of_lt h2 (by decide)
 have e4 : IntKind.u64.wrap (((y.toNat : Nat) : Int) * 2 ^ (k % 8 * 8)) = ((y.toNat * 2 ^ (k % 8 * 8) : Nat) : Int) := by
  have e5 : ((y.toNat : Nat) : Int) * 2 ^ (k % 8 * 8) = ((y.toNat * 2 ^ (k % 8 * 8) : Nat) : Int) := by rw [Int.natCast_mul, Int.natCast_pow]; rfl
  rw [e5, wrap_u64 (by omega) (by omega)]
 rw [e1, e2, e3, e4, lmI_get _ _ (by omega), bits_or_u64_nat _ _ (lm_lt _ _) hp]
 exact lmI_put hk hx (by omega)
def readN (xs : List Int) : Nat := rdI (xs.drop (xs.length - 32))
theorem allB_drop {xs : List Int} (h : allB xs) (n : Nat) : allB (xs.drop n) := fun x hx => h x (List.mem_of_mem_drop hx)
theorem rdI_W {l : List Int} (h : allB l) (hl : l.length ≤ 32) : rdI l < W := by
 have h1 := rdI_lt h
 have h2 : (256 : Nat) ^ l.length ≤ 256 ^ 32 := Nat.pow_le_pow_right (by decide) hl
 have h3 : (256 : Nat) ^ 32 = W := by decide
 omega
theorem read_vc (xs : List Int) (a : Option Addr) (n cp : Nat) (hn : xs.length = n) (hc : n ≤ cp) (hb : n ≤ 9223372036854775807) (hx : allB xs) (ha : adr a n cp) (w : World) (hm : MemOk w [] [.ro a (.ints .u8 xs)] w) :
  Calls Tryd.prog 53 (cvs [.sl 0 a 0 0 1 n cp]).toArray w (fun en w' => ∃ u, en = .returned u ∧ ∃ v m', u = cv v ∧ MemOk w [] m' w' ∧ v = .word (readN xs)) := by
 refine Vc.calls T0_ok Tryd.func53 rfl rfl (args := [.sl 0 a 0 0 1 n cp]) (k := 36) rfl hm ?_; change Vc _ _ (c8 (.sl 0 a 0 0 1 n cp) .undef .undef .undef .undef .undef .undef .undef (c8 .undef .undef .undef .undef .undef .undef .undef .undef (c8 .undef .undef .undef .undef .undef .undef .undef .undef (c8 .undef .undef .undef .undef .undef .undef .undef .undef ([.undef, .undef, .undef, .undef, .undef]))))) _ _
 have em : (if (0 : Int) < (n : Int) - 32 then (n : Int) - 32 else 0) = ((n - 32 : Nat) : Int) := by split <;> omega
 ((repeat (first | (with_reducible first | refine Vc.seq fun N hN => ?_ | refine Vc.block ?_) | (with_reducible intro _) | ((with_reducible refine And.intro ?_ ?_); (focus (first | ((repeat' apply And.intro) <;> first | exact True.intro | (rw [em]; omega) | omega) | exact sd0))) | ((first | ((with_reducible refine Vc.hold ?_); first | refine Vc.regiont T0_ok G2_ok ?_)); (try simp only [v8Y, Nat.beq, Nat.ble, seval, tabs, G2_set])) | ((with_reducible refine hN _ _ ?_); clear hN N))))
 (revert N; intro N1 hN1)
 rename_i b1 b2
 simp only [em, ite_self, tnc]
 clear em
 have ha2 : adr a (n - (n - 32)) (cp - (n - 32)) := adr_cut (l := n - 32) ha (by omega) rfl
 generalize hd : n - 32 = d at *
 have hys : (xs.drop d).length = n - d := by rw [List.length_drop, hn]
 have hr : readN xs = rdI (xs.drop d) := by unfold readN; rw [hn, hd]
 have hg : ∀ j, xs.getD (d + j) 0 = (xs.drop d).getD j 0 := fun j => by rw [List.getD_eq_getElem?_getD, List.getD_eq_getElem?_getD, List.getElem?_drop]
 have hby : ∀ j, j < n - d → 0 ≤ (xs.drop d).getD j 0 ∧ (xs.drop d).getD j 0 ≤ 255 := fun j hj => by
  rw [List.getD_eq_getElem?_getD, List.getElem?_eq_getElem (by omega)]
  exact allB_drop hx d _ (List.getElem_mem _)
 have hby2 := allB_drop hx d
 generalize hy : xs.drop d = ys at *
 generalize hL : n - d = L at *
 generalize hC : cp - d = C at *
 have hL32 : L ≤ 32 := by omega
 have h00 : rdI (ys.drop (L - 0)) = 0 := by rw [Nat.sub_zero, List.drop_of_length_le (by omega)]; rfl
 refine Vc.recon 2 (.ints .u64 (lmI 0)) rfl (cc_lmI 0) ?_
 simp only [bset]
 refine Vc.loop 4 37 (fun k => [(12, .int .i64 (L : Nat)), (13, .int .i64 (k : Nat))])
  (fun k => [.ro a (.ints .u8 xs), .blk b1 27 (.words [0]), .blk b2 27 (.ints .u64 (lmI (rdI (ys.drop (L - k)))))])
  (fun k => k ≤ L) (fun k => L - k) 0 ⟨Nat.zero_le _, ?_, ?_⟩ (fun k junk hk => ?_)
 ·((try simp only [v8Y, Nat.beq, Nat.ble, seval, tabs]); (repeat' with_reducible apply And.intro) <;> first | with_reducible exact True.intro | fail | with_reducible rfl | (congr 1 <;> omega) | trivial)
 ·((try simp only [v8Y, Nat.beq, Nat.ble, seval, tabs]); (repeat' with_reducible apply And.intro) <;> first | with_reducible exact True.intro | rw [h00] | with_reducible rfl | (congr 1 <;> omega) | trivial)
 ·have hlt : rdI (ys.drop (L - k)) < 256 ^ k := by
   have := rdI_lt (allB_drop hby2 (L - k))
   rw [List.length_drop, hys] at this
   rwa [show L - (L - k) = k by omega] at this
  (simp only [v8Y, Nat.beq, Nat.ble, seval, tabs])
  ((repeat (first | (with_reducible refine Vc.seq fun N hN => ?_) | ((with_reducible refine And.intro ?_ ?_); (focus (exact sd0))) | ((first | ((with_reducible refine Vc.hold ?_); first | refine Vc.regiont T0_ok G2_ok ?_)); (try simp only [v8Y, Nat.beq, Nat.ble, seval, tabs, G2_set])) | ((with_reducible refine hN _ _ ?_); clear hN N))))
  (refine Vc.cond T0_ok (by rfl) (fun hb => ?_) (fun hb => ?_))
  ·have hk' := of_decide_eq_true hb
   ((repeat (first | (with_reducible first | refine Vc.seq fun N hN => ?_ | refine Vc.block ?_) | ((first | with_reducible refine Vc.skip ?_); dsimp only [thenK, blockK, Nat.beq]; (first | (refine hN _ _ ?_; clear hN N))) | ((with_reducible refine And.intro ?_ ?_); (focus (first | ((repeat' apply And.intro) <;> first | exact True.intro | omega | (rw [lmI_len]; omega) | with_reducible assumption) | exact sd0))) | ((first | ((with_reducible refine Vc.hold ?_); first | refine Vc.regiont T0_ok G2_ok ?_ | refine Vc.drawt (id := 6) T0_ok G2_ok (by kernel_rfl) [0, 1, 2, 3, 4, 5, 6, 7, 8, 9, 10, 11, 12, 13, 14, 15, 16] 17 [] trivial (by kernel_rfl) ?_)); (try simp only [v8Y, Nat.beq, Nat.ble, seval, tabs, G2_set])) | ((with_reducible refine hN _ _ ?_); clear hN N))))
   have hst := rdI_drop (ys := ys) (k := k) (by omega)
   rw [hys] at hst
   have e1 : ((L : Int) - 1 - (k : Int)).toNat = L - 1 - k := by omega
   have e2 := hby (L - 1 - k) (by omega)
   refine ⟨k + 1, by omega, ?_, ?_, by omega⟩
   ·((try simp only [v8Y, Nat.beq, Nat.ble, seval, tabs]); (repeat' with_reducible apply And.intro) <;> first | with_reducible exact True.intro | fail | with_reducible rfl | (congr 1 <;> omega) | trivial)
   ·((try simp only [v8Y, Nat.beq, Nat.ble, seval, tabs]); (repeat' with_reducible apply And.intro) <;> first | with_reducible exact True.intro | rw [e1, hg, read_step hlt (by omega) e2.1 e2.2, hst] | with_reducible rfl | (congr 1 <;> omega) | trivial)
  ·have hk' := of_decide_eq_false hb
   have hk2 : k = L := by omega
   subst hk2
   ((repeat (first | ((first | with_reducible refine Vc.exit ?_); dsimp only [thenK, blockK, Nat.beq]; (first | skip)))))
   (refine hN1 _ _ ?_; (try clear hN N); clear hN1 N1)
   ((repeat (first | (with_reducible refine Vc.seq fun N hN => ?_) | ((with_reducible refine And.intro ?_ ?_); (focus (first | ((repeat' with_reducible apply And.intro) <;> first | exact True.intro | exact allU_lmI _ | exact lmI_len _) | exact sd0))) | ((first | ((with_reducible refine Vc.fin ?_); dsimp only [thenK, blockK, retK, resS, resOne, resAll]) | ((with_reducible refine Vc.hold ?_); first | refine Vc.regiont T0_ok G2_ok ?_)); (try simp only [v8Y, Nat.beq, Nat.ble, seval, tabs, G2_set])) | ((with_reducible refine hN _ _ ?_); clear hN N))); (try ((with_reducible refine Fin.of ?_); (try with_reducible exact True.intro))))
   ((try simp only [v8Y, Nat.beq, Nat.ble, seval, tabs]); (repeat' with_reducible apply And.intro) <;> first | with_reducible exact True.intro | rw [numI_lmI (rdI_W (allB_drop hby2 _) (by rw [List.length_drop]; omega)), Nat.sub_self, List.drop_zero, hr] | with_reducible rfl | (congr 1 <;> omega) | trivial)
def g_Read (args : List SV) (m : List Blk) : CR :=
 match args with
 | [x] => match srcC x m with
  | some (q, k, .ints .u8 xs) => .pure (q ∧ k ≤ 9223372036854775807 ∧ allB xs) (.word (readN xs))
  | _ => .none
 | _ => .none
theorem g_Read_ok (w0 : World) (B : List Nat) (args : List SV) (m : List Blk) : CROk Tryd.prog w0 B 53 args m (g_Read args m) := by
 unfold g_Read
 split
 ·rename_i x
  split
  ·rename_i q k xs hs
   intro ⟨hq, hk, hx⟩ w hm
   obtain ⟨h1, a, cp, h2, h3, h4, h5⟩ := src_ro hs hq hm
   have hl : xs.length = k := by simpa [cc, conEs] using h1
   have e : cvs [x] = cvs [.sl 0 a 0 0 1 k cp] := by simp only [cvs]; rw [h2]; rfl
   rw [e]
   exact calls_pure Tryd.func53 rfl rfl (read_vc xs a k cp hl h3 hk hx h5 w h4)
  ·exact trivial
 ·exact trivial
noncomputable def G4 : Ctr := fun f args m => match f with
 | 43 => g_From args m
 | 54 => g_lowByte args m
 | 42 => g_Cmp args m
 | 41 => g_Sub args m
 | 53 => g_Read args m
 | _ => .none
theorem G4_ok : GOk Tryd.prog G4 := by
 intro w0 B f args m; unfold G4; split
 ·exact g_From_ok _ _ _ _
 ·exact g_lowByte_ok _ _ _ _
 ·exact g_Cmp_ok _ _ _ _
 ·exact g_Sub_ok _ _ _ _
 ·exact g_Read_ok _ _ _ _
 ·exact trivial
theorem G4_From : G4 43 = g_From := by funext args m; rfl
theorem G4_lowByte : G4 54 = g_lowByte := by funext args m; rfl
theorem G4_Cmp : G4 42 = g_Cmp := by funext args m; rfl
theorem G4_Sub : G4 41 = g_Sub := by funext args m; rfl
theorem G4_Read : G4 53 = g_Read := by funext args m; rfl
def G4_set := And.intro (And.intro (And.intro (@G4_From) (@g_From.eq_def)) (And.intro (@G4_lowByte) (And.intro (@g_lowByte.eq_def) (@G4_Cmp)))) (And.intro (And.intro (@g_Cmp.eq_def) (@G4_Sub)) (And.intro (@g_Sub.eq_def) (And.intro (@G4_Read) (@g_Read.eq_def))))

end Go.Proofs.YtoadeekdgikghaaDoor
