/-
 Keccak-256: plain arithmetic: the document's message, padded, block by block, is what the code takes in. No condition.
-/
import Derived.Test.YthdpgfdfgidokaaDoorK8
set_option maxRecDepth 10000
set_option linter.unusedVariables false
set_option linter.unusedSimpArgs false
namespace Go.Proofs.YthdpgfdfgidokaaDoor
open Go.RowKit
theorem qMx_n (l : List Int) (n : Nat) : qMx l (n + 1) = qRnd (kKeys.getD n 0) kTurns (qMx l n) := it_s _ _ _
theorem kPm_n (l : List Int) (n : Nat) : kPm l (n + 1) = kRnd (kKeys.getD n 0) (kPm l n) := it_s _ _ _
theorem qMx_0 (l : List Int) : qMx l 0 = l := it_0 _ _
theorem kPm_0 (l : List Int) : kPm l 0 = l := it_0 _ _
theorem qMx_eq (l : List Int) (h : l.length = 25) (n : Nat) : qMx l n = kPm l n := by
 induction n with
 | zero => rw [qMx_0, kPm_0]
 | succ n ih => rw [qMx_n, kPm_n, rnd_eq _ _ (qMx_len l h n), ih]
theorem qMx_perm (l : List Int) (h : l.length = 25) : qMx l 24 = kPerm l := by unfold kPerm; exact qMx_eq l h 24
def qZ (xs : List Int) (k : Nat) : List Int := xs ++ [1] ++ List.replicate k 0
def qNz (n : Nat) : Nat := (136 - (n + 1) % 136) % 136
def qP (xs : List Int) : List Int := (qZ xs (qNz xs.length)).set ((qZ xs (qNz xs.length)).length - 1) (bits .xor .u8 ((qZ xs (qNz xs.length)).getD ((qZ xs (qNz xs.length)).length - 1) 0) 128)
theorem qZ_len (xs : List Int) (k : Nat) : (qZ xs k).length = xs.length + 1 + k := by unfold qZ; simp; omega
theorem qP_len (xs : List Int) : (qP xs).length = 136 * (xs.length / 136 + 1) := by
 unfold qP qNz; rw [List.length_set, qZ_len]; omega
theorem qP_front (xs : List Int) (k : Nat) (h : k < xs.length / 136) : ((qP xs).drop (136 * k)).take 136 = (xs.drop (136 * k)).take 136 := by
 have hl := qZ_len xs (qNz xs.length)
 apply List.ext_getElem?
 intro i
 simp only [List.getElem?_take, List.getElem?_drop]
 by_cases hi : i < 136
 ·rw [if_pos hi, if_pos hi]
  unfold qP
  rw [List.getElem?_set_ne (by unfold qNz at hl ⊢; omega)]
  unfold qZ
  rw [List.append_assoc, List.getElem?_append_left (by omega)]
 ·rw [if_neg hi, if_neg hi]
theorem kPad0_eq (ys : List Int) (h : ys.length < 136) : (kPad0 ys).set ys.length 1 = ys ++ [1] ++ List.replicate (135 - ys.length) 0 := by
 unfold kPad0
 rw [List.take_zero, List.nil_append, List.drop_replicate, show 136 - ys.length = (135 - ys.length) + 1 by omega, List.replicate_succ]
 rw [List.set_append_right _ _ (Nat.le_refl _), Nat.sub_self, List.set_cons_zero, List.append_assoc]; rfl
theorem qP_last (xs : List Int) : ((qP xs).drop (136 * (xs.length / 136))).take 136 = kPad (xs.drop (136 * (xs.length / 136))) := by
 have hd : (xs.drop (136 * (xs.length / 136))).length = xs.length - 136 * (xs.length / 136) := List.length_drop
 have hl := qP_len xs
 rw [List.take_of_length_le (by rw [List.length_drop]; omega)]
 unfold kPad kPad1
 rw [kPad0_eq _ (by omega)]
 have hz := qZ_len xs (qNz xs.length)
 have e : (qZ xs (qNz xs.length)).drop (136 * (xs.length / 136)) = xs.drop (136 * (xs.length / 136)) ++ [1] ++ List.replicate (135 - (xs.drop (136 * (xs.length / 136))).length) 0 := by
  unfold qZ
  rw [List.append_assoc, List.drop_append_of_le_length (by omega), List.append_assoc]
  congr 3
  rw [hd]; unfold qNz; omega
 rw [← e]
 have hlen : (qZ xs (qNz xs.length)).length - 1 = 136 * (xs.length / 136) + 135 := by rw [hz]; unfold qNz; omega
 unfold qP
 rw [hlen, List.drop_set, if_neg (by omega)]
 have e2 : ((qZ xs (qNz xs.length)).drop (136 * (xs.length / 136))).getD 135 0 = (qZ xs (qNz xs.length)).getD (136 * (xs.length / 136) + 135) 0 := by
  rw [List.getD_eq_getElem?_getD, List.getD_eq_getElem?_getD, List.getElem?_drop]
 rw [e2, show 136 * (xs.length / 136) + 135 - 136 * (xs.length / 136) = 135 by omega]
def qSt (xs : List Int) (n : Nat) : List Int := it (fun s k => qMx (kAb (((qP xs).drop (136 * k)).take 136) s 17) 24) n (List.replicate 25 0)
theorem qSt_s (xs : List Int) (k : Nat) : qSt xs (k + 1) = qMx (kAb (((qP xs).drop (136 * k)).take 136) (qSt xs k) 17) 24 := it_s _ _ _
theorem qSt_0 (xs : List Int) : qSt xs 0 = List.replicate 25 0 := it_0 _ _
theorem kSt_0 (xs : List Int) : kSt xs 0 = List.replicate 25 0 := it_0 _ _
theorem qSt_eq (xs : List Int) (k : Nat) (h : k ≤ xs.length / 136) : qSt xs k = kSt xs k := by
 induction k with
 | zero => rw [qSt_0, kSt_0]
 | succ k ih => rw [qSt_s, kSt_s, ih (by omega), qP_front xs k (by omega), qMx_perm _ (by rw [kAb_len, kSt_len]), kAbs]
theorem qSt_all (xs : List Int) : qSt xs (xs.length / 136 + 1) = kAbs (kSt xs (xs.length / 136)) (kPad (xs.drop (136 * (xs.length / 136)))) := by
 rw [qSt_s, qSt_eq xs _ (Nat.le_refl _), qP_last, qMx_perm _ (by rw [kAb_len, kSt_len]), kAbs]
theorem kSum_q (xs : List Int) : kSum xs = readN (kHs (qSt xs (xs.length / 136 + 1)) 32) := by rw [qSt_all, kSum]
def hB (s : List Int) (k : Nat) : Int := IntKind.u8.wrap (s.getD (k / 8) 0 / 2 ^ (k % 8 * 8))
theorem kHs_map (s : List Int) (n : Nat) (h : n ≤ 32) : kHs s n = (List.range n).map (hB s) ++ List.replicate (32 - n) 0 := by
 induction n with
 | zero => rw [show kHs s 0 = List.replicate 32 0 from it_0 _ _]; rfl
 | succ n ih =>
  rw [kHs_s, ih (by omega), List.range_succ, List.map_append]
  have hl : ((List.range n).map (hB s)).length = n := by rw [List.length_map, List.length_range]
  rw [List.set_append_right _ _ (by omega), hl, Nat.sub_self, show 32 - n = (32 - (n + 1)) + 1 by omega, List.replicate_succ, List.set_cons_zero, List.append_assoc]
  rfl
def qHi (s : List Int) (i : Nat) (o : List Int) (j : Nat) : List Int := o ++ [IntKind.u8.wrap (s.getD i 0 / 2 ^ (8 * j))]
def qHo (s : List Int) (o : List Int) (i : Nat) : List Int := it (qHi s i) 8 o
def qHs (s : List Int) (n : Nat) : List Int := it (qHo s) n []
theorem qHi_map (s : List Int) (i j : Nat) (h : j ≤ 8) (o : List Int) (ho : o = (List.range (8 * i)).map (hB s)) : it (qHi s i) j o = (List.range (8 * i + j)).map (hB s) := by
 induction j with
 | zero => rw [it_0, ho, Nat.add_zero]
 | succ j ih =>
  rw [it_s, ih (by omega), qHi, show 8 * i + (j + 1) = (8 * i + j) + 1 by omega, List.range_succ, List.map_append]
  congr 1
  simp only [List.map_cons, List.map_nil, hB]
  rw [show (8 * i + j) / 8 = i by omega, show (8 * i + j) % 8 * 8 = 8 * j by omega]
theorem qHs_map (s : List Int) (n : Nat) : qHs s n = (List.range (8 * n)).map (hB s) := by
 induction n with
 | zero => rw [show qHs s 0 = [] from it_0 _ _]; rfl
 | succ n ih =>
  have : qHs s (n + 1) = qHo s (qHs s n) n := it_s _ _ _
  rw [this, qHo, qHi_map s n 8 (Nat.le_refl _) _ ih]; rfl
theorem qHs_eq (s : List Int) : qHs s 4 = kHs s 32 := by
 rw [qHs_map, kHs_map s 32 (Nat.le_refl _)]
 exact (List.append_nil _).symm
def qSum (xs : List Int) : Nat := readN (qHs (qSt xs (xs.length / 136 + 1)) 4)
theorem qSum_eq (xs : List Int) : qSum xs = kSum xs := by rw [kSum_q, qSum, qHs_eq]
end Go.Proofs.YthdpgfdfgidokaaDoor
