/-
  SHA-256: plain arithmetic: the document's block is the code's; the message, padded, block by block; the hash's bytes. No condition.
-/
import Derived.Test.YtnncomlliobobaaDoorS6
namespace Go.Proofs.YtnncomlliobobaaDoor
set_option linter.unusedSimpArgs false
set_option linter.unusedVariables false
set_option maxRecDepth 10000
open Go.RowKit
theorem wraps_u32 (n : Int) (h0 : 0 ≤ n) (h1 : n < 2 ^ 32) : IntKind.u32.wrap n = n := by rw [IntKind.wrap_u32]; omega
theorem wraps_u64 (n : Int) (h0 : 0 ≤ n) (h1 : n < 2 ^ 64) : IntKind.u64.wrap n = n := by rw [IntKind.wrap_u64]; omega
theorem or32_join (i : Nat) (x y : Int) (h0 : 0 ≤ x) (h1 : x % 2 ^ i = 0) (h2 : x < 2 ^ 32) (h3 : 0 ≤ y) (h4 : y < 2 ^ i) (h5 : y < 2 ^ 32) : bits .or .u32 x y = x + y := bits_join .u32 32 (by decide) wraps_u32 i x y h0 h1 h2 h3 h4 h5
/-! ### A block's words. -/
theorem byte_join (b0 b1 b2 b3 : Int) (h0 : 0 ≤ b0 ∧ b0 ≤ 255) (h1 : 0 ≤ b1 ∧ b1 ≤ 255) (h2 : 0 ≤ b2 ∧ b2 ≤ 255) (h3 : 0 ≤ b3 ∧ b3 ≤ 255) :
    bits .or .u32 (IntKind.u32.wrap (bits .or .u32 (IntKind.u32.wrap (bits .or .u32 (IntKind.u32.wrap (bits .or .u32 (IntKind.u32.wrap (0 * 2 ^ 8)) b0 * 2 ^ 8)) b1 * 2 ^ 8)) b2 * 2 ^ 8)) b3
      = bits .or .u32 (bits .or .u32 (bits .or .u32 (b0 * 2 ^ 24) (b1 * 2 ^ 16)) (b2 * 2 ^ 8)) b3 := by
  have a0 : bits .or .u32 (IntKind.u32.wrap (0 * 2 ^ 8)) b0 = b0 := by
    rw [show IntKind.u32.wrap (0 * 2 ^ 8) = 0 by decide, or32_join 8 0 b0 (by omega) (by decide) (by decide) h0.1 (by omega) (by omega)]; omega
  have a1 : bits .or .u32 (IntKind.u32.wrap (b0 * 2 ^ 8)) b1 = b0 * 256 + b1 := by
    rw [wraps_u32 _ (by omega) (by omega), or32_join 8 _ b1 (by omega) (by omega) (by omega) h1.1 (by omega) (by omega)]; omega
  have a2 : bits .or .u32 (IntKind.u32.wrap ((b0 * 256 + b1) * 2 ^ 8)) b2 = b0 * 65536 + b1 * 256 + b2 := by
    rw [wraps_u32 _ (by omega) (by omega), or32_join 8 _ b2 (by omega) (by omega) (by omega) h2.1 (by omega) (by omega)]; omega
  have a3 : bits .or .u32 (IntKind.u32.wrap ((b0 * 65536 + b1 * 256 + b2) * 2 ^ 8)) b3 = b0 * 16777216 + b1 * 65536 + b2 * 256 + b3 := by
    rw [wraps_u32 _ (by omega) (by omega), or32_join 8 _ b3 (by omega) (by omega) (by omega) h3.1 (by omega) (by omega)]; omega
  have c1 : bits .or .u32 (b0 * 2 ^ 24) (b1 * 2 ^ 16) = b0 * 16777216 + b1 * 65536 := by
    rw [or32_join 24 _ _ (by omega) (by omega) (by omega) (by omega) (by omega) (by omega)]; omega
  have c2 : bits .or .u32 (b0 * 16777216 + b1 * 65536) (b2 * 2 ^ 8) = b0 * 16777216 + b1 * 65536 + b2 * 256 := by
    rw [or32_join 16 _ _ (by omega) (by omega) (by omega) (by omega) (by omega) (by omega)]; omega
  have c3 : bits .or .u32 (b0 * 16777216 + b1 * 65536 + b2 * 256) b3 = b0 * 16777216 + b1 * 65536 + b2 * 256 + b3 := by
    rw [or32_join 8 _ _ (by omega) (by omega) (by omega) (by omega) (by omega) (by omega)]
  rw [a0, a1, a2, a3, c1, c2, c3]
theorem set_mid (l r : List Int) (x v : Int) : (l ++ x :: r).set l.length v = l ++ v :: r := by rw [List.set_append_right _ _ (Nat.le_refl _), Nat.sub_self, List.set_cons_zero]
theorem get_mid (l r : List Int) (x : Int) : (l ++ x :: r).getD l.length 0 = x := by
  rw [List.getD_eq_getElem?_getD, List.getElem?_append_right (Nat.le_refl _), Nat.sub_self]; rfl
theorem get_left (l r : List Int) (k : Nat) (h : k < l.length) : (l ++ r).getD k 0 = l.getD k 0 := by
  rw [List.getD_eq_getElem?_getD, List.getD_eq_getElem?_getD, List.getElem?_append_left h]
theorem rep_cons (n : Nat) (h : 0 < n) : List.replicate n (0 : Int) = 0 :: List.replicate (n - 1) 0 := by
  obtain ⟨k, rfl⟩ : ∃ k, n = k + 1 := ⟨n - 1, by omega⟩
  rfl
theorem sW_0 (b : List Int) : sW b 0 = List.replicate 64 0 := it_0 _ _
theorem sW_quart (b : List Int) (hx : allB b) : ∀ i, i ≤ 16 → sW b (4 * i) = qW b i ++ List.replicate (64 - i) 0
  | 0, _ => by rw [Nat.mul_zero, sW_0, qW_0]; rfl
  | i + 1, h => by
    have ih := sW_quart b hx i (by omega)
    have hl := qW_len b i
    rw [rep_cons (64 - i) (by omega)] at ih
    have d0 : 4 * i / 4 = i := by omega
    have d1 : (4 * i + 1) / 4 = i := by omega
    have d2 : (4 * i + 2) / 4 = i := by omega
    have d3 : (4 * i + 3) / 4 = i := by omega
    generalize hR : List.replicate (64 - i - 1) (0 : Int) = R at *
    have gm : ∀ x : Int, (qW b i ++ x :: R).getD i 0 = x := fun x => by have := get_mid (qW b i) R x; rwa [hl] at this
    have sm : ∀ x v : Int, (qW b i ++ x :: R).set i v = qW b i ++ v :: R := fun x v => by have := set_mid (qW b i) R x v; rwa [hl] at this
    have s1 := sW_s b (4 * i)
    rw [ih, d0, gm, sm] at s1
    have s2 := sW_s b (4 * i + 1)
    rw [s1, d1, gm, sm] at s2
    have s3 := sW_s b (4 * i + 2)
    rw [s2, d2, gm, sm] at s3
    have s4 := sW_s b (4 * i + 3)
    rw [s3, d3, gm, sm] at s4
    rw [show 4 * (i + 1) = 4 * i + 3 + 1 by omega, s4, byte_join _ _ _ _ (by_rng hx _) (by_rng hx _) (by_rng hx _) (by_rng hx _), qW_s, List.append_assoc]
    rfl
theorem sX_0 (b : List Int) : sX b 0 = sW b 64 := it_0 _ _
theorem sX_eq (b : List Int) (hx : allB b) : ∀ k, k ≤ 48 → sX b k = qX b k ++ List.replicate (48 - k) 0
  | 0, _ => by rw [sX_0, qX_0]; exact sW_quart b hx 16 (Nat.le_refl _)
  | k + 1, h => by
    have ih := sX_eq b hx k (by omega)
    have hl := qX_len b k
    have sm : ∀ (r : List Int) (x v : Int), (qX b k ++ x :: r).set (16 + k) v = qX b k ++ v :: r := fun r x v => by have := set_mid (qX b k) r x v; rwa [hl] at this
    rw [sX_s, ih, get_left _ _ _ (by omega), get_left _ _ _ (by omega), get_left _ _ _ (by omega), get_left _ _ _ (by omega), rep_cons (48 - k) (by omega), sm, qX_s, List.append_assoc]
    rfl
theorem sX_48 (b : List Int) (hx : allB b) : sX b 48 = qX b 48 := by rw [sX_eq b hx 48 (Nat.le_refl _), Nat.sub_self]; exact List.append_nil _
/-! ### The rounds. -/
theorem ad_assoc (a b c : Int) : ad a (ad b c) = ad (ad a b) c := by unfold ad; rw [IntKind.wrap_u32, IntKind.wrap_u32, IntKind.wrap_u32, IntKind.wrap_u32]; omega
theorem tu_eq (s : List Int) (k w : Int) : sTu s (ad k w) = qTu s k w := by
  have : tOne s (ad k w) = qOne s k w := by unfold tOne qOne; rw [ad_assoc]
  unfold sTu qTu; rw [this]
theorem sR_eq (w xs : List Int) : ∀ n, sR w xs n = qV w xs n
  | 0 => by rw [sR_0, qV_0]
  | n + 1 => by
    have h : sR w xs (n + 1) = sTu (sR w xs n) (ad (sKeys.getD n 0) (w.getD n 0)) := sR_s w xs n
    rw [h, qV_s, sR_eq w xs n, tu_eq]
theorem sA_eq (xs r : List Int) : ∀ n, n ≤ xs.length → sA xs r n = qO xs r n ++ xs.drop n
  | 0, _ => by rw [sA_0, qO_0]; rfl
  | n + 1, h => by
    have ih := sA_eq xs r n (by omega)
    have hl := qO_len xs r n
    have hd : xs.drop n = xs.getD n 0 :: xs.drop (n + 1) := by rw [List.drop_eq_getElem_cons (by omega), List.getD_eq_getElem?_getD, List.getElem?_eq_getElem (by omega)]; rfl
    have sm : ∀ (q : List Int) (x v : Int), (qO xs r n ++ x :: q).set n v = qO xs r n ++ v :: q := fun q x v => by have := set_mid (qO xs r n) q x v; rwa [hl] at this
    have gm : ∀ (q : List Int) (x : Int), (qO xs r n ++ x :: q).getD n 0 = x := fun q x => by have := get_mid (qO xs r n) q x; rwa [hl] at this
    rw [sA_s, ih, hd, gm, sm, qO_s, List.append_assoc]
    rfl
theorem blk_eq (h p : List Int) (hl : h.length = 8) (hx : allB p) : qBlk h p = sAbs h p := by
  unfold qBlk sAbs
  rw [sX_48 p hx, sR_eq, sA_eq h _ 8 (by omega), List.drop_of_length_le (by omega), List.append_nil]
/-! ### The message, padded. -/
def qZ (xs : List Int) (k : Nat) : List Int := xs ++ [128] ++ List.replicate k 0
def qNz (n : Nat) : Nat := (119 - n % 64) % 64
def qB8 (L : Int) (j : Nat) : List Int := (List.range j).map fun i => IntKind.u8.wrap (L / 2 ^ (56 - 8 * i))
def qPj (xs : List Int) (j : Nat) : List Int := qZ xs (qNz xs.length) ++ qB8 ((xs.length : Int) * 8) j
def qP (xs : List Int) : List Int := qPj xs 8
theorem qB8_s (L : Int) (j : Nat) : qB8 L (j + 1) = qB8 L j ++ [IntKind.u8.wrap (L / 2 ^ (56 - 8 * j))] := by unfold qB8; rw [List.range_succ, List.map_append]; rfl
theorem qB8_len (L : Int) (j : Nat) : (qB8 L j).length = j := by unfold qB8; rw [List.length_map, List.length_range]
theorem qB8_all (L : Int) (j : Nat) : allB (qB8 L j) := by
  intro y hy
  obtain ⟨i, _, rfl⟩ := List.mem_map.1 hy
  exact wrap8_rng _
theorem qZ_len (xs : List Int) (k : Nat) : (qZ xs k).length = xs.length + 1 + k := by unfold qZ; simp; omega
theorem qZ_s (xs : List Int) (k : Nat) : qZ xs (k + 1) = qZ xs k ++ [0] := by unfold qZ; rw [List.replicate_succ', List.append_assoc, List.append_assoc, List.append_assoc]
theorem qZ_0 (xs : List Int) : qZ xs 0 = xs ++ [128] := by unfold qZ; rw [List.replicate_zero, List.append_nil]
theorem qZ_all {xs : List Int} (h : allB xs) (k : Nat) : allB (qZ xs k) := by
  intro y hy
  unfold qZ at hy
  rcases List.mem_append.1 hy with hy | hy
  · rcases List.mem_append.1 hy with hy | hy
    · exact h y hy
    · rw [List.mem_singleton.1 hy]; decide
  · exact allB_rep k y hy
theorem qPj_all {xs : List Int} (h : allB xs) (j : Nat) : allB (qPj xs j) := by
  intro y hy
  rcases List.mem_append.1 hy with hy | hy
  · exact qZ_all h _ y hy
  · exact qB8_all _ _ y hy
theorem qP_all {xs : List Int} (h : allB xs) : allB (qP xs) := qPj_all h 8
def qNb (n : Nat) : Nat := if n % 64 < 56 then n / 64 + 1 else n / 64 + 2
theorem qPj_len (xs : List Int) (j : Nat) : (qPj xs j).length = xs.length + 1 + qNz xs.length + j := by unfold qPj; rw [List.length_append, qZ_len, qB8_len]
theorem qP_len (xs : List Int) : (qP xs).length = 64 * qNb xs.length := by
  unfold qP; rw [qPj_len]; unfold qNz qNb; split <;> omega
theorem qP_front (xs : List Int) (k : Nat) (h : k < xs.length / 64) : ((qP xs).drop (64 * k)).take 64 = (xs.drop (64 * k)).take 64 := by
  unfold qP qPj qZ
  rw [List.append_assoc, List.append_assoc, List.drop_append_of_le_length (by omega), List.take_append_of_le_length (by rw [List.length_drop]; omega)]
theorem qP_rest (xs : List Int) : (qP xs).drop (64 * (xs.length / 64)) = xs.drop (64 * (xs.length / 64)) ++ ([128] ++ (List.replicate (qNz xs.length) 0 ++ qB8 ((xs.length : Int) * 8) 8)) := by
  unfold qP qPj qZ
  rw [List.append_assoc, List.append_assoc, List.drop_append_of_le_length (by omega)]
theorem sP1_eq (ys : List Int) (h : ys.length < 64) : sP1 ys = ys ++ ([128] ++ List.replicate (63 - ys.length) 0) := by
  unfold sP1 sP0
  rw [List.take_zero, List.nil_append, List.drop_replicate, rep_cons (64 - ys.length) (by omega), set_mid, show 64 - ys.length - 1 = 63 - ys.length by omega]
  rfl
theorem qB8_8 (L : Int) : qB8 L 8 = [IntKind.u8.wrap (L / 2 ^ 56), IntKind.u8.wrap (L / 2 ^ 48), IntKind.u8.wrap (L / 2 ^ 40), IntKind.u8.wrap (L / 2 ^ 32), IntKind.u8.wrap (L / 2 ^ 24), IntKind.u8.wrap (L / 2 ^ 16), IntKind.u8.wrap (L / 2 ^ 8), IntKind.u8.wrap (L / 2 ^ 0)] := rfl
theorem set_far (l r : List Int) (n k : Nat) (v : Int) (h : l.length + k = n) : (l ++ r).set n v = l ++ r.set k v := by
  rw [List.set_append_right _ _ (by omega), show n - l.length = k by omega]
theorem sTl_8 (l : List Int) (L : Int) (h : l.length = 56) : sTl (l ++ List.replicate 8 0) L 8 = l ++ qB8 L 8 := by
  have e : List.replicate 8 (0 : Int) = [0, 0, 0, 0, 0, 0, 0, 0] := rfl
  rw [qB8_8, e, sTl_s, sTl_s, sTl_s, sTl_s, sTl_s, sTl_s, sTl_s, sTl_s, sTl_0]
  rw [set_far l _ (63 - 0) 7 _ (by omega), set_far l _ (63 - 1) 6 _ (by omega), set_far l _ (63 - 2) 5 _ (by omega), set_far l _ (63 - 3) 4 _ (by omega), set_far l _ (63 - 4) 3 _ (by omega), set_far l _ (63 - 5) 2 _ (by omega), set_far l _ (63 - 6) 1 _ (by omega), set_far l _ (63 - 7) 0 _ (by omega)]
  rfl
/-- The states behind so many blocks of the document's message. -/
def qSt (xs : List Int) (n : Nat) : List Int := it (fun s k => qBlk s (((qP xs).drop (64 * k)).take 64)) n sStart
theorem qSt_s (xs : List Int) (k : Nat) : qSt xs (k + 1) = qBlk (qSt xs k) (((qP xs).drop (64 * k)).take 64) := it_s _ _ _
theorem qSt_0 (xs : List Int) : qSt xs 0 = sStart := it_0 _ _
theorem qBlk_len (h p : List Int) : (qBlk h p).length = 8 := qO_len _ _ _
theorem qSt_len (xs : List Int) : ∀ k, (qSt xs k).length = 8
  | 0 => by rw [qSt_0]; rfl
  | k + 1 => by rw [qSt_s, qBlk_len]
theorem qSt_front (xs : List Int) (hx : allB xs) : ∀ k, k ≤ xs.length / 64 → qSt xs k = sSt xs k
  | 0, _ => by rw [qSt_0, sSt_0]
  | k + 1, h => by
    rw [qSt_s, blk_eq _ _ (qSt_len xs k) (allB_take (allB_drop (qP_all hx) _) _), qSt_front xs hx k (by omega), qP_front xs k (by omega), sSt_s]
theorem qSt_eq (xs : List Int) (hx : allB xs) : qSt xs (qNb xs.length) = sLast (sSt xs (xs.length / 64)) (xs.drop (64 * (xs.length / 64))) ((xs.length : Int) * 8) := by
  have hr : (xs.drop (64 * (xs.length / 64))).length = xs.length % 64 := by rw [List.length_drop]; omega
  have h1 := qP_rest xs
  have h2 := qSt_front xs hx _ (Nat.le_refl _)
  have h3 := qSt_s xs (xs.length / 64)
  rw [blk_eq _ _ (qSt_len xs _) (allB_take (allB_drop (qP_all hx) _) _), h2, h1] at h3
  generalize hL : (xs.length : Int) * 8 = L at *
  generalize hys : xs.drop (64 * (xs.length / 64)) = ys at *
  generalize sSt xs (xs.length / 64) = s at *
  unfold sLast qNb
  by_cases h : xs.length % 64 < 56
  · rw [if_pos h, if_neg (by omega), h3, sP1_eq ys (by omega)]
    have e1 : List.replicate (63 - ys.length) (0 : Int) = List.replicate (qNz xs.length) 0 ++ List.replicate 8 0 := by
      rw [List.replicate_append_replicate]; congr 1; unfold qNz; omega
    rw [e1, ← List.append_assoc, ← List.append_assoc, ← List.append_assoc, ← List.append_assoc, sTl_8 _ L (by simp only [List.length_append, List.length_cons, List.length_nil, List.length_replicate]; unfold qNz; omega)]
    rw [List.take_of_length_le (by simp only [List.length_append, List.length_cons, List.length_nil, List.length_replicate, qB8_len]; unfold qNz; omega)]
  · rw [if_neg h, if_pos (by omega), qSt_s, blk_eq _ _ (qSt_len xs _) (allB_take (allB_drop (qP_all hx) _) _), h3, sP1_eq ys (by omega)]
    have e1 : List.replicate (qNz xs.length) (0 : Int) = List.replicate (63 - ys.length) 0 ++ List.replicate 56 0 := by
      rw [List.replicate_append_replicate]; congr 1; unfold qNz; omega
    have e2 : sTl (List.replicate 64 0) L 8 = List.replicate 56 0 ++ qB8 L 8 := sTl_8 (List.replicate 56 0) L List.length_replicate
    have e3 : (qP xs).drop (64 * (xs.length / 64 + 1)) = ((qP xs).drop (64 * (xs.length / 64))).drop 64 := by rw [List.drop_drop]; congr 1
    have e4 : ys ++ ([128] ++ (List.replicate (qNz xs.length) 0 ++ qB8 L 8)) = (ys ++ ([128] ++ List.replicate (63 - ys.length) 0)) ++ (List.replicate 56 0 ++ qB8 L 8) := by
      rw [e1]; simp only [List.append_assoc]
    have l1 : (ys ++ ([128] ++ List.replicate (63 - ys.length) (0 : Int))).length = 64 := by simp only [List.length_append, List.length_cons, List.length_nil, List.length_replicate]; omega
    rw [e3, h1, e4, e2, List.drop_append_of_le_length (by omega), List.take_append_of_le_length (by omega), List.drop_of_length_le (by omega), List.take_of_length_le (by omega), List.nil_append, List.take_of_length_le (by simp only [List.length_append, List.length_replicate, qB8_len]; omega)]
/-! ### The hash's bytes. -/
def b4 (h : Int) : List Int := [IntKind.u8.wrap (h / 2 ^ 24), IntKind.u8.wrap (h / 2 ^ 16), IntKind.u8.wrap (h / 2 ^ 8), IntKind.u8.wrap h]
def qOt (h : List Int) (n : Nat) : List Int := it (fun o i => o ++ b4 (h.getD i 0)) n []
theorem qOt_s (h : List Int) (i : Nat) : qOt h (i + 1) = qOt h i ++ [IntKind.u8.wrap (h.getD i 0 / 2 ^ 24), IntKind.u8.wrap (h.getD i 0 / 2 ^ 16), IntKind.u8.wrap (h.getD i 0 / 2 ^ 8), IntKind.u8.wrap (h.getD i 0)] := it_s _ _ _
theorem qOt_0 (h : List Int) : qOt h 0 = [] := it_0 _ _
theorem qOt_len (h : List Int) : ∀ n, (qOt h n).length = 4 * n
  | 0 => by rw [qOt_0]; rfl
  | n + 1 => by rw [qOt_s, List.length_append, qOt_len h n]; rfl
theorem qOt_all (h : List Int) : ∀ n, allB (qOt h n)
  | 0 => by rw [qOt_0]; intro y hy; cases hy
  | n + 1 => by
    rw [qOt_s]
    intro y hy
    rcases List.mem_append.1 hy with hy | hy
    · exact qOt_all h n y hy
    · simp only [List.mem_cons, List.not_mem_nil, or_false] at hy
      rcases hy with rfl | rfl | rfl | rfl <;> exact wrap8_rng _
theorem rdI_app : ∀ a b : List Int, rdI (a ++ b) = rdI a * 256 ^ b.length + rdI b
  | [], b => by rw [List.nil_append, rdI, Nat.zero_mul, Nat.zero_add]
  | y :: a, b => by
    rw [List.cons_append, rdI, rdI, rdI_app a b, List.length_append, Nat.pow_add, Nat.add_mul, Nat.mul_assoc, Nat.add_assoc]
theorem rdI_b4 (h : Int) (hh : 0 ≤ h ∧ h ≤ 4294967295) : rdI (b4 h) = h.toNat := by
  unfold b4
  simp only [rdI, List.length_cons, List.length_nil, IntKind.wrap_u8]
  omega
theorem or64_join (x y : Int) (hx : 0 ≤ x ∧ x ≤ 4294967295) (hy : 0 ≤ y ∧ y ≤ 4294967295) : bits .or .u64 (x * 2 ^ 32) y = x * 4294967296 + y := by
  rw [bits_join .u64 64 (by decide) wraps_u64 32 (x * 2 ^ 32) y (by omega) (by omega) (by omega) hy.1 (by omega) (by omega)]; omega
theorem sH_4 (h0 h1 h2 h3 h4 h5 h6 h7 : Int) : sH [h0, h1, h2, h3, h4, h5, h6, h7] 4 = [bits .or .u64 (h6 * 2 ^ 32) h7, bits .or .u64 (h4 * 2 ^ 32) h5, bits .or .u64 (h2 * 2 ^ 32) h3, bits .or .u64 (h0 * 2 ^ 32) h1] := by
  rw [sH_s, sH_s, sH_s, sH_s, sH_0]; rfl
theorem list8 (l : List Int) (h : l.length = 8) : ∃ a b c d e f g k, l = [a, b, c, d, e, f, g, k] := by
  match l, h with
  | [a, b, c, d, e, f, g, k], _ => exact ⟨a, b, c, d, e, f, g, k, rfl⟩
theorem num_parts (a0 a1 a2 a3 a4 a5 a6 a7 : Nat) : ((((((a0 * 256 ^ 4 + a1) * 256 ^ 4 + a2) * 256 ^ 4 + a3) * 256 ^ 4 + a4) * 256 ^ 4 + a5) * 256 ^ 4 + a6) * 256 ^ 4 + a7 = num (a6 * 4294967296 + a7) (a4 * 4294967296 + a5) (a2 * 4294967296 + a3) (a0 * 4294967296 + a1) := by
  unfold num
  rw [show (256 : Nat) ^ 4 = 4294967296 from rfl]
  omega
theorem out_eq (h : List Int) (hl : h.length = 8) (ha : all32 h) : readN (qOt h 8) = numI (sH h 4) := by
  obtain ⟨h0, h1, h2, h3, h4, h5, h6, h7, rfl⟩ := list8 h hl
  have r0 := ha h0 (by simp)
  have r1 := ha h1 (by simp)
  have r2 := ha h2 (by simp)
  have r3 := ha h3 (by simp)
  have r4 := ha h4 (by simp)
  have r5 := ha h5 (by simp)
  have r6 := ha h6 (by simp)
  have r7 := ha h7 (by simp)
  have e : qOt [h0, h1, h2, h3, h4, h5, h6, h7] 8 = b4 h0 ++ b4 h1 ++ b4 h2 ++ b4 h3 ++ b4 h4 ++ b4 h5 ++ b4 h6 ++ b4 h7 := by
    rw [qOt_s, qOt_s, qOt_s, qOt_s, qOt_s, qOt_s, qOt_s, qOt_s, qOt_0, List.nil_append]; rfl
  have hlen : (qOt [h0, h1, h2, h3, h4, h5, h6, h7] 8).length = 32 := qOt_len _ 8
  have l4 : ∀ x, (b4 x).length = 4 := fun _ => rfl
  unfold readN
  rw [hlen, Nat.sub_self, List.drop_zero, e, sH_4, or64_join _ _ r6 r7, or64_join _ _ r4 r5, or64_join _ _ r2 r3, or64_join _ _ r0 r1]
  simp only [rdI_app, l4, rdI_b4 _ r0, rdI_b4 _ r1, rdI_b4 _ r2, rdI_b4 _ r3, rdI_b4 _ r4, rdI_b4 _ r5, rdI_b4 _ r6, rdI_b4 _ r7, numI]
  have tn : ∀ x y : Int, (0 ≤ x ∧ x ≤ 4294967295) → (0 ≤ y ∧ y ≤ 4294967295) → (x * 4294967296 + y).toNat = x.toNat * 4294967296 + y.toNat := fun x y hx hy => by omega
  rw [tn _ _ r6 r7, tn _ _ r4 r5, tn _ _ r2 r3, tn _ _ r0 r1]
  clear r0 r1 r2 r3 r4 r5 r6 r7 ha hl e hlen l4 tn
  generalize h0.toNat = a0
  generalize h1.toNat = a1
  generalize h2.toNat = a2
  generalize h3.toNat = a3
  generalize h4.toNat = a4
  generalize h5.toNat = a5
  generalize h6.toNat = a6
  generalize h7.toNat = a7
  exact num_parts a0 a1 a2 a3 a4 a5 a6 a7
/-- The document's hash. -/
def qSum (xs : List Int) : Nat := readN (qOt (qSt xs (qNb xs.length)) 8)
theorem qSum_eq (xs : List Int) (hx : allB xs) : qSum xs = sSum xs := by
  have h := qSt_eq xs hx
  unfold qSum sSum
  rw [out_eq _ (qSt_len xs _) (by rw [h]; exact sLast_all (sSt_all xs _) _ _), h]
end Go.Proofs.YtnncomlliobobaaDoor
