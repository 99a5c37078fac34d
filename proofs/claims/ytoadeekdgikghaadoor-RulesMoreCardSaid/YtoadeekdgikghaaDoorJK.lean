/-
 Package quaestorlaw17: how much is looked at (heavy), walked. No condition.
-/
import Derived.Test.YtoadeekdgikghaaDoorJD
import Derived.Test.YtoadeekdgikghaaDoorJI
set_option maxRecDepth 20000
set_option maxHeartbeats 4000000
set_option linter.unusedVariables false
set_option linter.unusedSimpArgs false
namespace Go.Proofs.YtoadeekdgikghaaDoor
open Go.RowKit
section
variable {P : Program} {a b c : Code} {env : List SV} {m : List Blk} {K : Kont}
end
end Go.Proofs.YtoadeekdgikghaaDoor
namespace Go.Proofs.YtoadeekdgikghaaDoor
open Go.RowKit
def szR (r : List SV) (i : Nat) : Nat := match nth? r i with | some (.gh _ n _ _) => n | _ => 0
def entR (most : Int) : List (List SV) → Int → Int
 | [], s => s
 | r :: l, s => if s ≤ most then entR most l (s + (1 + (szR r 25 : Int) / 16 + (szR r 26 : Int))) else s
theorem entR_big {most : Int} : ∀ (l : List (List SV)) (s : Int), most < s → entR most l s = s
 | [], _, _ => rfl
 | r :: l, s, h => if_neg (by omega)
theorem entR_len {most : Int} : ∀ (l : List (List SV)) (s : Int), entR most l s ≤ most → s + l.length ≤ most ∧ ∀ r ∈ l, (szR r 25 : Int) / 16 ≤ most - s ∧ (szR r 26 : Int) ≤ most - s
 | [], s, h => by simp only [entR] at h; exact ⟨by simpa using h, fun e he => by simp at he⟩
 | r :: l, s, h => by
  by_cases hs : s ≤ most
  ·simp only [entR, if_pos hs] at h
   obtain ⟨h1, h2⟩ := entR_len l _ h
   refine ⟨by rw [List.length_cons]; omega, fun x hx => ?_⟩
   rcases List.mem_cons.1 hx with rfl | hx
   ·omega
   ·have := h2 x hx; omega
  ·simp only [entR, if_neg hs] at h; omega
theorem ent_nth (z : EntV) (h : z.a.length = 20) : nth? (entL z) 25 = some (.gh z.ca z.c.length z.cp (.ints .u8 z.c)) ∧ nth? (entL z) 26 = some (.gh z.sa z.s.length z.sp (.rows 8 (z.s.map slR))) := by
 rw [nth?_get, nth?_get]
 unfold entL
 rw [List.getElem?_append_right (by simp [h]), List.getElem?_append_right (by simp [h])]
 simp only [List.length_map, h]
 exact ⟨rfl, rfl⟩
set_option maxRecDepth 20000 in
theorem Ents_vc (most : Int) (h0 : 0 ≤ most) (hM : most ≤ 1000000) (a : Option Addr) (n c : Nat) (es : List EntV) (w : World) (hn : es.length = n) (hc : n ≤ c) (hm : n ≤ 9223372036854775807) (ha : adr a n c) (hL : LiesH (H0 w) a (cc (.rows 27 (es.map entL)))) (hE : ∀ z ∈ es, EntO z) :
  Calls Tryd.prog 10 (cvs [.gh a n c (.rows 27 (es.map entL)), .int .i64 most]).toArray w (fun en w' => ∃ u, en = .returned u ∧ ∃ v' m', u = cv v' ∧ MemOk w [] m' w' ∧ v' = .int .i64 (entR most (es.map entL) 0)) := by
 have hLx : ∀ m, allOld w ∈ m → LiesH (HM m) a (cc (.rows 27 (es.map entL))) := fun m hin => hL.mono (H0.hm hin)
 have r2 : ∀ r ∈ es.map entL, r.length = 27 := fun r hr => by obtain ⟨z, hz, rfl⟩ := List.mem_map.1 hr; exact entL_len (hE z hz).1.1
 refine Vc.calls T0_ok Tryd.func10 rfl rfl (args := [.gh a n c (.rows 27 (es.map entL)), .int .i64 most]) (k := 36) rfl (old_start w) ?_; change Vc _ _ (c8 (.gh a n c (.rows 27 (es.map entL))) (.int .i64 most) .undef .undef .undef .undef .undef .undef (c8 .undef .undef .undef .undef .undef .undef .undef .undef (c8 .undef .undef .undef .undef .undef .undef .undef .undef (c8 .undef .undef .undef .undef .undef .undef .undef .undef ([.undef, .undef, .undef, .undef, .undef, .undef]))))) _ _
 ((repeat (first | (with_reducible first | refine Vc.seq fun N hN => ?_ | refine Vc.block ?_) | ((with_reducible refine And.intro ?_ ?_); exact sX0) | ((first | ((with_reducible refine Vc.hold ?_); first | refine Vc.regiont T0_ok GT1_ok ?_)); (try simp only [v8Y, Nat.beq, Nat.ble, seval, tabs, GT1_set, ])) | ((with_reducible refine hN _ _ ?_); clear hN N))))
 (revert N; intro N1 hN1)
 refine Vc.loop 5 38 (fun (x : Nat × Int) => [(5, .int .i64 x.2), (6, .int .i64 (x.1 : Nat))]) (fun x => [allOld w]) (fun x => x.1 ≤ n ∧ 0 ≤ x.2 ∧ x.2 ≤ most + 10000000000000000000 ∧ entR most ((es.map entL).drop x.1) x.2 = entR most (es.map entL) 0) (fun x => n - x.1) (0, 0) ⟨⟨Nat.zero_le _, Int.le_refl _, by simp only; omega, by simp⟩, ?_, ?_⟩ (fun x junk hx2 => ?_)
 ·((try simp only [v8Y, Nat.beq, Nat.ble, seval, tabs]); (repeat' with_reducible apply And.intro) <;> first | with_reducible exact True.intro | rfl | with_reducible rfl | (congr 1 <;> omega) | trivial)
 ·((try simp only [v8Y, Nat.beq, Nat.ble, seval, tabs]); (repeat' with_reducible apply And.intro) <;> first | with_reducible exact True.intro | rfl | with_reducible rfl | (congr 1 <;> omega) | trivial)
 ·obtain ⟨k, s⟩ := x
  simp only at hx2 ⊢
  obtain ⟨k1, k2, k3, k4⟩ := hx2
  (simp only [v8Y, Nat.beq, Nat.ble, seval, tabs])
  by_cases hc1 : k < n
  ·have d1 : decide ((k : Int) < (n : Int)) = true := decide_eq_true (by omega)
   have e1 := List.getElem?_eq_getElem (show k < (es.map entL).length by rw [List.length_map]; omega)
   have hkl : k < (es.map entL).length := by rw [List.length_map]; omega
   have hz : (es.map entL)[k] = entL es[k] := by simp
   have hO := hE es[k] (List.getElem_mem _)
   obtain ⟨n25, n26⟩ := ent_nth es[k] hO.1.1
   have hdk : (es.map entL).drop k = (es.map entL)[k] :: (es.map entL).drop (k + 1) := List.drop_eq_getElem_cons hkl
   have hgd := getD_of e1
   have tk : ((k : Nat) : Int).toNat = k := by omega
   have s25 : szR (es.map entL)[k] 25 = es[k].c.length := by rw [hz]; unfold szR; rw [n25]
   have s26 : szR (es.map entL)[k] 26 = es[k].s.length := by rw [hz]; unfold szR; rw [n26]
   obtain ⟨_, ⟨_, _, _, hcl⟩, _, _, _, _, _, hsl⟩ := hO
   have hcl : es[k].c.length ≤ 9223372036854775807 := hcl
   rw [← hz] at n25 n26
   generalize (es.map entL)[k] = r at *
   generalize es[k] = z at *
   rw [hdk] at k4
   by_cases hs : s ≤ most
   ·have d2 : decide (s ≤ most) = true := decide_eq_true hs
    simp only [entR, if_pos hs] at k4
    rw [s25, s26] at k4
    have i1 : inK .i64 (z.c.length : Int) := by show -9223372036854775808 ≤ _ ∧ _ ≤ 9223372036854775807; omega
    have i2 : inK .i64 (1 + (z.c.length : Int) / 16) := by show -9223372036854775808 ≤ _ ∧ _ ≤ 9223372036854775807; omega
    have i3 : inK .i64 (1 + (z.c.length : Int) / 16 + (z.s.length : Int)) := by show -9223372036854775808 ≤ _ ∧ _ ≤ 9223372036854775807; omega
    have i4 : inK .i64 (s + (1 + (z.c.length : Int) / 16 + (z.s.length : Int))) := by show -9223372036854775808 ≤ _ ∧ _ ≤ 9223372036854775807; omega
    ((repeat (first | (with_reducible refine Vc.seq fun N hN => ?_) | ((with_reducible refine And.intro ?_ ?_); exact sX0) | ((first | ((with_reducible refine Vc.hold ?_); first | refine Vc.regiont T0_ok GT1_ok ?_)); (try simp only [v8Y, Nat.beq, Nat.ble, seval, tabs, GT1_set, d1, d2])) | ((with_reducible refine hN _ _ ?_); clear hN N))))
    (refine Vc.cond T0_ok (t := true) (by rfl) (fun _ => ?_) (fun h => Bool.noConfusion h))
    ((repeat (first | (with_reducible first | refine Vc.seq fun N hN => ?_ | refine Vc.block ?_) | ((first | with_reducible refine Vc.skip ?_); dsimp only [thenK, blockK, Nat.beq]; (first | (refine hN _ _ ?_; clear hN N))) | ((with_reducible refine And.intro ?_ ?_); exact sX5) | ((first | ((with_reducible refine Vc.hold ?_); first | refine Vc.regiont T0_ok GT1_ok ?_ | refine Vc.drawt (id := 5) T0_ok GT1_ok (by kernel_rfl) [0, 1, 2, 3, 4, 5, 6, 7, 8, 9, 10, 11, 12, 13, 14, 15, 16] 17 [] trivial (by kernel_rfl) ?_)); (try simp only [v8Y, Nat.beq, Nat.ble, seval, tabs, GT1_set, d1, d2, tk, hgd, n25, n26])) | ((with_reducible refine hN _ _ ?_); clear hN N))))
    trace_state
    refine ⟨(k + 1, s + (1 + (z.c.length : Int) / 16 + (z.s.length : Int))), ⟨by dsimp only; omega, by dsimp only; omega, by dsimp only; omega, k4⟩, ?_, ?_, by dsimp only; omega⟩
    ·((try simp only [v8Y, Nat.beq, Nat.ble, seval, tabs]); (repeat' with_reducible apply And.intro) <;> first | with_reducible exact True.intro | rfl | with_reducible rfl | (congr 1 <;> omega) | trivial)
    ·((try simp only [v8Y, Nat.beq, Nat.ble, seval, tabs]); (repeat' with_reducible apply And.intro) <;> first | with_reducible exact True.intro | rfl | with_reducible rfl | (congr 1 <;> omega) | trivial)
   ·have d2 : decide (s ≤ most) = false := decide_eq_false hs
    rw [entR_big _ _ (by omega)] at k4
    ((repeat (first | (with_reducible refine Vc.seq fun N hN => ?_) | ((with_reducible refine And.intro ?_ ?_); exact sX0) | ((first | ((with_reducible refine Vc.hold ?_); first | refine Vc.regiont T0_ok GT1_ok ?_)); (try simp only [v8Y, Nat.beq, Nat.ble, seval, tabs, GT1_set, d1, d2])) | ((with_reducible refine hN _ _ ?_); clear hN N))))
    (refine Vc.cond T0_ok (t := false) (by rfl) (fun h => Bool.noConfusion h) (fun _ => ?_))
    ((repeat (first | ((first | with_reducible refine Vc.exit ?_); dsimp only [thenK, blockK, Nat.beq]; (first | skip)))))
    (refine hN1 _ _ ?_; (try clear hN N); clear hN1 N1)
    ((repeat (first | (with_reducible refine Vc.seq fun N hN => ?_) | ((with_reducible refine And.intro ?_ ?_); exact sX0) | ((first | ((with_reducible refine Vc.fin ?_); dsimp only [thenK, blockK, retK, resS, resOne, resAll]) | ((with_reducible refine Vc.hold ?_); first | refine Vc.regiont T0_ok GT1_ok ?_)); (try simp only [v8Y, Nat.beq, Nat.ble, seval, tabs, GT1_set, ])) | ((with_reducible refine hN _ _ ?_); clear hN N))); (try ((with_reducible refine Fin.of ?_); (try with_reducible exact True.intro))))
    exact ⟨trivial, by rw [k4]⟩
  ·have d1 : decide ((k : Int) < (n : Int)) = false := decide_eq_false (by omega)
   obtain rfl : k = n := by omega
   rw [List.drop_eq_nil_of_le (by rw [List.length_map]; omega)] at k4
   simp only [entR] at k4
   ((repeat (first | (with_reducible refine Vc.seq fun N hN => ?_) | ((with_reducible refine And.intro ?_ ?_); exact sX0) | ((first | ((with_reducible refine Vc.hold ?_); first | refine Vc.regiont T0_ok GT1_ok ?_)); (try simp only [v8Y, Nat.beq, Nat.ble, seval, tabs, GT1_set, d1])) | ((with_reducible refine hN _ _ ?_); clear hN N))))
   (refine Vc.cond T0_ok (t := false) (by rfl) (fun h => Bool.noConfusion h) (fun _ => ?_))
   ((repeat (first | (with_reducible refine Vc.seq fun N hN => ?_) | ((first | with_reducible refine Vc.exit ?_); dsimp only [thenK, blockK, Nat.beq]; (first | skip)) | ((with_reducible refine And.intro ?_ ?_); exact sX0) | ((first | ((with_reducible refine Vc.fin ?_); dsimp only [thenK, blockK, retK, resS, resOne, resAll]) | ((with_reducible refine Vc.hold ?_); first | refine Vc.regiont T0_ok GT1_ok ?_)); (try simp only [v8Y, Nat.beq, Nat.ble, seval, tabs, GT1_set])) | ((with_reducible refine hN _ _ ?_); clear hN N))); (try ((with_reducible refine Fin.of ?_); (try with_reducible exact True.intro))))
   (refine hN1 _ _ ?_; (try clear hN N); clear hN1 N1)
   ((repeat (first | (with_reducible refine Vc.seq fun N hN => ?_) | ((first | with_reducible refine Vc.exit ?_); dsimp only [thenK, blockK, Nat.beq]; (first | skip)) | ((with_reducible refine And.intro ?_ ?_); exact sX0) | ((first | ((with_reducible refine Vc.fin ?_); dsimp only [thenK, blockK, retK, resS, resOne, resAll]) | ((with_reducible refine Vc.hold ?_); first | refine Vc.regiont T0_ok GT1_ok ?_)); (try simp only [v8Y, Nat.beq, Nat.ble, seval, tabs, GT1_set])) | ((with_reducible refine hN _ _ ?_); clear hN N))); (try ((with_reducible refine Fin.of ?_); (try with_reducible exact True.intro))))
   exact ⟨trivial, by rw [k4]⟩
end Go.Proofs.YtoadeekdgikghaaDoor
