/-
  What the laws ask first (known) answers true, walked.
-/
import Derived.Test.YtbdigomddnpllaaWC
namespace Go.Proofs.Ytbdigomddnpllaa
set_option linter.unusedSimpArgs false
set_option linter.unusedVariables false
open Go.RowKit
theorem known_mul : WV 57896044618658097711785492504343953926634992332820282019728792003956564819968 = .agg #[.int .u64 0, .int .u64 0, .int .u64 0, .int .u64 9223372036854775808] := by
  have h0 : lm 57896044618658097711785492504343953926634992332820282019728792003956564819968 0 = 0 := by decide
  have h1 : lm 57896044618658097711785492504343953926634992332820282019728792003956564819968 1 = 0 := by decide
  have h2 : lm 57896044618658097711785492504343953926634992332820282019728792003956564819968 2 = 0 := by decide
  have h3 : lm 57896044618658097711785492504343953926634992332820282019728792003956564819968 3 = 9223372036854775808 := by decide
  unfold WV
  rw [h0, h1, h2, h3]
  rfl
theorem k_sub : (subN 0 1, subB 0 1) = (W - 1, true) := by kernel_rfl
theorem k_div : (sdQ (W - 7) 2, sdR (W - 7) 2) = (W - 3, W - 1) := by kernel_rfl
theorem k_mul : rstN (57896044618658097711785492504343953926634992332820282019728792003956564819968 * 2) 3 = 1 := by kernel_rfl
theorem k_ext : exN 0 255 = W - 1 := by kernel_rfl
theorem k_sar : shdM 1 (W - 3) (sgF (W - 3)) = W - 2 := by kernel_rfl
theorem k_byte : byteN 31 43981 = 205 := by kernel_rfl
theorem ltW {n : Nat} (h : n < 18446744073709551616) : n < W := Nat.lt_trans h (by unfold W; decide)
theorem subW (n : Nat) (h : 0 < n) : W - n < W := Nat.sub_lt W_pos h
end Go.Proofs.Ytbdigomddnpllaa
