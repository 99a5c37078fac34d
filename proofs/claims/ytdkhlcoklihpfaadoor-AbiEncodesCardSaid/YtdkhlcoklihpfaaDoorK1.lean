/-
  Keccak-256: plain arithmetic on lists of numbers: a round as the code does it, and as the document says it: they are one. No condition.
-/
import Derived.Test.YtdkhlcoklihpfaaDoorBS
namespace Go.Proofs.YtdkhlcoklihpfaaDoor
set_option linter.unusedSimpArgs false
set_option linter.unusedVariables false
set_option maxRecDepth 10000
open Go.RowKit
def xo (a b : Int) : Int := bits .xor .u64 a b
def an (a b : Int) : Int := bits .and .u64 a b
def no (a : Int) : Int := bits .xor .u64 18446744073709551615 a
def rt (v : Int) (n : Nat) : Int := bits .or .u64 (IntKind.u64.wrap (v * 2 ^ n)) (v / 2 ^ (64 - n))
/-- A loop's rounds, one behind the other. -/
def it {α : Type} (f : α → Nat → α) (n : Nat) (a : α) : α := (List.range n).foldl f a
theorem it_0 {α : Type} (f : α → Nat → α) (a : α) : it f 0 a = a := rfl
theorem it_s {α : Type} (f : α → Nat → α) (n : Nat) (a : α) : it f (n + 1) a = f (it f n a) n := by unfold it; rw [List.range_succ, List.foldl_append]; rfl
theorem it_5 {α : Type} (f : α → Nat → α) (a : α) : it f 5 a = f (f (f (f (f a 0) 1) 2) 3) 4 := rfl
theorem it_24 {α : Type} (f : α → Nat → α) (a : α) : it f 24 a = f (f (f (f (f (f (f (f (f (f (f (f (f (f (f (f (f (f (f (f (f (f (f (f a 0) 1) 2) 3) 4) 5) 6) 7) 8) 9) 10) 11) 12) 13) 14) 15) 16) 17) 18) 19) 20) 21) 22) 23 := rfl
def kPath : List Nat := [10, 7, 11, 17, 18, 3, 5, 16, 8, 21, 24, 4, 15, 23, 19, 13, 12, 2, 20, 14, 22, 9, 6, 1]
def kTurns : List Nat := [0, 1, 62, 28, 27, 36, 44, 6, 55, 20, 3, 10, 43, 25, 39, 41, 45, 15, 21, 8, 18, 2, 61, 56, 14]
/-- The columns. -/
def kCs (l c : List Int) (k : Nat) : List Int := c.set k (xo (xo (xo (xo (l.getD k 0) (l.getD (k + 5) 0)) (l.getD (k + 10) 0)) (l.getD (k + 15) 0)) (l.getD (k + 20) 0))
def kC (l : List Int) (n : Nat) : List Int := it (kCs l) n [0, 0, 0, 0, 0]
def kD (c : List Int) (x : Nat) : Int := xo (c.getD ((x + 4) % 5) 0) (rt (c.getD ((x + 1) % 5) 0) 1)
def kIs (d : Int) (x : Nat) (s : List Int) (y : Nat) : List Int := s.set (5 * y + x) (xo (s.getD (5 * y + x) 0) d)
def kIn (s : List Int) (d : Int) (x n : Nat) : List Int := it (kIs d x) n s
def kSs (d : Nat → Int) (s : List Int) (x : Nat) : List Int := kIn s (d x) x 5
def kSp (l : List Int) (d : Nat → Int) (n : Nat) : List Int := it (kSs d) n l
def kMs (p : List Int × Int) (t : Nat) : List Int × Int := (p.1.set (kPath.getD t 0) (rt p.2 ((t + 1) * (t + 2) / 2 % 64)), p.1.getD (kPath.getD t 0) 0)
def kMv (l : List Int) (n : Nat) : List Int × Int := it kMs n (l, l.getD 1 0)
def kRow (l : List Int) (y x : Nat) : Int := xo (l.getD (5 * y + x) 0) (an (no (l.getD (5 * y + (x + 1) % 5) 0)) (l.getD (5 * y + (x + 2) % 5) 0))
def kBs (l : List Int) (y : Nat) : List Int := ((((l.set (5 * y) (kRow l y 0)).set (5 * y + 1) (kRow l y 1)).set (5 * y + 2) (kRow l y 2)).set (5 * y + 3) (kRow l y 3)).set (5 * y + 4) (kRow l y 4)
def kBe (l : List Int) (n : Nat) : List Int := it kBs n l
def kSpr (l : List Int) : List Int := kSp l (kD (kC l 5)) 5
def kMov (l : List Int) : List Int := (kMv l 24).1
def kBen (l : List Int) : List Int := kBe l 5
def kRnd (k : Int) (l : List Int) : List Int := (kBen (kMov (kSpr l))).set 0 (xo ((kBen (kMov (kSpr l))).getD 0 0) k)
/-! The document's. -/
def qCs (l c : List Int) (k : Nat) : List Int := c ++ [xo (xo (xo (xo (l.getD k 0) (l.getD (5 + k) 0)) (l.getD (10 + k) 0)) (l.getD (15 + k) 0)) (l.getD (20 + k) 0)]
def qC (l : List Int) (n : Nat) : List Int := it (qCs l) n []
def qRot (v : Int) (n : Nat) : Int := if n = 0 then v else rt v n
def qIs (l : List Int) (r : List Nat) (d : Int) (x : Nat) (b : List Int) (y : Nat) : List Int := b.set (5 * ((2 * x + 3 * y) % 5) + y) (qRot (xo (l.getD (5 * y + x) 0) d) (r.getD (5 * y + x) 0))
def qBs (l : List Int) (r : List Nat) (d : Nat → Int) (b : List Int) (x : Nat) : List Int := it (qIs l r (d x) x) 5 b
def qB (l : List Int) (r : List Nat) (d : Nat → Int) (n : Nat) : List Int := it (qBs l r d) n (List.replicate 25 0)
def qNi (b : List Int) (y : Nat) (n : List Int) (x : Nat) : List Int := n ++ [kRow b y x]
def qNs (b n : List Int) (y : Nat) : List Int := it (qNi b y) 5 n
def qN (b : List Int) (n : Nat) : List Int := it (qNs b) n []
def qBB (l : List Int) (r : List Nat) : List Int := qB l r (kD (qC l 5)) 5
def qRnd (k : Int) (r : List Nat) (l : List Int) : List Int := (qN (qBB l r) 5).set 0 (xo ((qN (qBB l r) 5).getD 0 0) k)
theorem qRot_0 (v : Int) : qRot v 0 = v := if_pos rfl
theorem qRot_s (v : Int) (n : Nat) : qRot v (n + 1) = rt v (n + 1) := if_neg (Nat.succ_ne_zero n)
section
variable (x0 x1 x2 x3 x4 x5 x6 x7 x8 x9 x10 x11 x12 x13 x14 x15 x16 x17 x18 x19 x20 x21 x22 x23 x24 : Int) (d : Nat → Int)
theorem sp_at : kSp [x0, x1, x2, x3, x4, x5, x6, x7, x8, x9, x10, x11, x12, x13, x14, x15, x16, x17, x18, x19, x20, x21, x22, x23, x24] d 5 = [xo x0 (d 0), xo x1 (d 1), xo x2 (d 2), xo x3 (d 3), xo x4 (d 4), xo x5 (d 0), xo x6 (d 1), xo x7 (d 2), xo x8 (d 3), xo x9 (d 4), xo x10 (d 0), xo x11 (d 1), xo x12 (d 2), xo x13 (d 3), xo x14 (d 4), xo x15 (d 0), xo x16 (d 1), xo x17 (d 2), xo x18 (d 3), xo x19 (d 4), xo x20 (d 0), xo x21 (d 1), xo x22 (d 2), xo x23 (d 3), xo x24 (d 4)] := by
  simp only [kSp, kSs, kIn, kIs, it_5, Nat.reduceMul, Nat.reduceAdd, Nat.reduceMod, Nat.reduceDiv, List.set_cons_succ, List.set_cons_zero, List.getD_cons_succ, List.getD_cons_zero]
theorem mv_at : (kMv [x0, x1, x2, x3, x4, x5, x6, x7, x8, x9, x10, x11, x12, x13, x14, x15, x16, x17, x18, x19, x20, x21, x22, x23, x24] 24).1 = [x0, rt x6 44, rt x12 43, rt x18 21, rt x24 14, rt x3 28, rt x9 20, rt x10 3, rt x16 45, rt x22 61, rt x1 1, rt x7 6, rt x13 25, rt x19 8, rt x20 18, rt x4 27, rt x5 36, rt x11 10, rt x17 15, rt x23 56, rt x2 62, rt x8 55, rt x14 39, rt x15 41, rt x21 2] := by
  simp only [kMv, kMs, kPath, it_24, Nat.reduceMul, Nat.reduceAdd, Nat.reduceMod, Nat.reduceDiv, List.set_cons_succ, List.set_cons_zero, List.getD_cons_succ, List.getD_cons_zero]
theorem be_at : kBe [x0, x1, x2, x3, x4, x5, x6, x7, x8, x9, x10, x11, x12, x13, x14, x15, x16, x17, x18, x19, x20, x21, x22, x23, x24] 5 = [xo x0 (an (no x1) x2), xo x1 (an (no x2) x3), xo x2 (an (no x3) x4), xo x3 (an (no x4) x0), xo x4 (an (no x0) x1), xo x5 (an (no x6) x7), xo x6 (an (no x7) x8), xo x7 (an (no x8) x9), xo x8 (an (no x9) x5), xo x9 (an (no x5) x6), xo x10 (an (no x11) x12), xo x11 (an (no x12) x13), xo x12 (an (no x13) x14), xo x13 (an (no x14) x10), xo x14 (an (no x10) x11), xo x15 (an (no x16) x17), xo x16 (an (no x17) x18), xo x17 (an (no x18) x19), xo x18 (an (no x19) x15), xo x19 (an (no x15) x16), xo x20 (an (no x21) x22), xo x21 (an (no x22) x23), xo x22 (an (no x23) x24), xo x23 (an (no x24) x20), xo x24 (an (no x20) x21)] := by
  simp only [kBe, kBs, kRow, it_5, Nat.reduceMul, Nat.reduceAdd, Nat.reduceMod, Nat.reduceDiv, List.set_cons_succ, List.set_cons_zero, List.getD_cons_succ, List.getD_cons_zero]
theorem qn_at : qN [x0, x1, x2, x3, x4, x5, x6, x7, x8, x9, x10, x11, x12, x13, x14, x15, x16, x17, x18, x19, x20, x21, x22, x23, x24] 5 = [xo x0 (an (no x1) x2), xo x1 (an (no x2) x3), xo x2 (an (no x3) x4), xo x3 (an (no x4) x0), xo x4 (an (no x0) x1), xo x5 (an (no x6) x7), xo x6 (an (no x7) x8), xo x7 (an (no x8) x9), xo x8 (an (no x9) x5), xo x9 (an (no x5) x6), xo x10 (an (no x11) x12), xo x11 (an (no x12) x13), xo x12 (an (no x13) x14), xo x13 (an (no x14) x10), xo x14 (an (no x10) x11), xo x15 (an (no x16) x17), xo x16 (an (no x17) x18), xo x17 (an (no x18) x19), xo x18 (an (no x19) x15), xo x19 (an (no x15) x16), xo x20 (an (no x21) x22), xo x21 (an (no x22) x23), xo x22 (an (no x23) x24), xo x23 (an (no x24) x20), xo x24 (an (no x20) x21)] := by
  simp only [qN, qNs, qNi, kRow, it_5, List.nil_append, List.cons_append, Nat.reduceMul, Nat.reduceAdd, Nat.reduceMod, Nat.reduceDiv, List.set_cons_succ, List.set_cons_zero, List.getD_cons_succ, List.getD_cons_zero]
theorem rep25 : List.replicate 25 (0 : Int) = [0, 0, 0, 0, 0, 0, 0, 0, 0, 0, 0, 0, 0, 0, 0, 0, 0, 0, 0, 0, 0, 0, 0, 0, 0] := rfl
theorem qb_at : qB [x0, x1, x2, x3, x4, x5, x6, x7, x8, x9, x10, x11, x12, x13, x14, x15, x16, x17, x18, x19, x20, x21, x22, x23, x24] kTurns d 5 = [xo x0 (d 0), rt (xo x6 (d 1)) 44, rt (xo x12 (d 2)) 43, rt (xo x18 (d 3)) 21, rt (xo x24 (d 4)) 14, rt (xo x3 (d 3)) 28, rt (xo x9 (d 4)) 20, rt (xo x10 (d 0)) 3, rt (xo x16 (d 1)) 45, rt (xo x22 (d 2)) 61, rt (xo x1 (d 1)) 1, rt (xo x7 (d 2)) 6, rt (xo x13 (d 3)) 25, rt (xo x19 (d 4)) 8, rt (xo x20 (d 0)) 18, rt (xo x4 (d 4)) 27, rt (xo x5 (d 0)) 36, rt (xo x11 (d 1)) 10, rt (xo x17 (d 2)) 15, rt (xo x23 (d 3)) 56, rt (xo x2 (d 2)) 62, rt (xo x8 (d 3)) 55, rt (xo x14 (d 4)) 39, rt (xo x15 (d 0)) 41, rt (xo x21 (d 1)) 2] := by
  simp only [qB, qBs, qIs, kTurns, it_5, rep25, qRot_0, qRot_s, Nat.reduceMul, Nat.reduceAdd, Nat.reduceMod, Nat.reduceDiv, List.set_cons_succ, List.set_cons_zero, List.getD_cons_succ, List.getD_cons_zero]
theorem c_at : qC [x0, x1, x2, x3, x4, x5, x6, x7, x8, x9, x10, x11, x12, x13, x14, x15, x16, x17, x18, x19, x20, x21, x22, x23, x24] 5 = kC [x0, x1, x2, x3, x4, x5, x6, x7, x8, x9, x10, x11, x12, x13, x14, x15, x16, x17, x18, x19, x20, x21, x22, x23, x24] 5 := by
  simp only [qC, qCs, kC, kCs, it_5, List.nil_append, List.cons_append, Nat.reduceMul, Nat.reduceAdd, Nat.reduceMod, Nat.reduceDiv, List.set_cons_succ, List.set_cons_zero, List.getD_cons_succ, List.getD_cons_zero]
end
theorem list25 (l : List Int) (h : l.length = 25) : ∃ x0 x1 x2 x3 x4 x5 x6 x7 x8 x9 x10 x11 x12 x13 x14 x15 x16 x17 x18 x19 x20 x21 x22 x23 x24, l = [x0, x1, x2, x3, x4, x5, x6, x7, x8, x9, x10, x11, x12, x13, x14, x15, x16, x17, x18, x19, x20, x21, x22, x23, x24] := by
  match l, h with
  | [x0, x1, x2, x3, x4, x5, x6, x7, x8, x9, x10, x11, x12, x13, x14, x15, x16, x17, x18, x19, x20, x21, x22, x23, x24], _ => exact ⟨x0, x1, x2, x3, x4, x5, x6, x7, x8, x9, x10, x11, x12, x13, x14, x15, x16, x17, x18, x19, x20, x21, x22, x23, x24, rfl⟩
theorem rnd_eq (k : Int) (l : List Int) (h : l.length = 25) : qRnd k kTurns l = kRnd k l := by
  obtain ⟨x0, x1, x2, x3, x4, x5, x6, x7, x8, x9, x10, x11, x12, x13, x14, x15, x16, x17, x18, x19, x20, x21, x22, x23, x24, rfl⟩ := list25 l h
  unfold qRnd kRnd qBB kBen kMov kSpr
  rw [c_at]
  generalize kD (kC [x0, x1, x2, x3, x4, x5, x6, x7, x8, x9, x10, x11, x12, x13, x14, x15, x16, x17, x18, x19, x20, x21, x22, x23, x24] 5) = d
  rw [qb_at, sp_at, mv_at, be_at, qn_at]
end Go.Proofs.YtdkhlcoklihpfaaDoor
