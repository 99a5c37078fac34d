/-
  Read and Wide of words, walked; contracts of bytes.
-/
import Derived.Test.YtgllfgpnbdpcdaaDoorX2
import Derived.Test.YtgllfgpnbdpcdaaDoorRE
namespace Go.Proofs.YtgllfgpnbdpcdaaDoor
set_option linter.unusedSimpArgs false
set_option linter.unusedVariables false
set_option maxRecDepth 10000
open Go.RowKit
theorem rdI_drop {ys : List Int} {k : Nat} (h : k < ys.length) : rdI (ys.drop (ys.length - (k + 1))) = (ys.getD (ys.length - 1 - k) 0).toNat * 256 ^ k + rdI (ys.drop (ys.length - k)) := by
  have h1 : ys.length - (k + 1) < ys.length := by omega
  rw [List.drop_eq_getElem_cons h1, rdI, show ys.length - (k + 1) + 1 = ys.length - k by omega]
  simp only [List.length_drop]
  rw [show ys.length - (ys.length - k) = k by omega, List.getD_eq_getElem?_getD, show ys.length - 1 - k = ys.length - (k + 1) by omega, List.getElem?_eq_getElem h1]
  rfl
theorem read_step {x k : Nat} {y : Int} (hx : x < 256 ^ k) (hk : k < 32) (h0 : 0 ≤ y) (h1 : y ≤ 255) :
    (lmI x).set ((k : Int) / 8).toNat (bits .or .u64 ((lmI x).getD ((k : Int) / 8).toNat 0) (IntKind.u64.wrap (IntKind.u64.wrap y * 2 ^ min ((k : Int) % 8 * 8).toNat 64))) = lmI (y.toNat * 256 ^ k + x) := by
  have e1 : ((k : Int) / 8).toNat = k / 8 := by omega
  have e2 : min ((k : Int) % 8 * 8).toNat 64 = k % 8 * 8 := by omega
  have e3 : IntKind.u64.wrap y = ((y.toNat : Nat) : Int) := by rw [wrap_u64 h0 (by omega)]; omega
  have hm : k % 8 * 8 ≤ 56 := by omega
  have hp : y.toNat * 2 ^ (k % 8 * 8) < 18446744073709551616 := by
    have h2 : y.toNat * 2 ^ (k % 8 * 8) ≤ 255 * 2 ^ 56 := Nat.mul_le_mul (by omega) (Nat.pow_le_pow_right (by decide) hm)
    exact Nat.lt_of_le_of_lt h2 (by decide)
  have e4 : IntKind.u64.wrap (((y.toNat : Nat) : Int) * 2 ^ (k % 8 * 8)) = ((y.toNat * 2 ^ (k % 8 * 8) : Nat) : Int) := by
    have e5 : ((y.toNat : Nat) : Int) * 2 ^ (k % 8 * 8) = ((y.toNat * 2 ^ (k % 8 * 8) : Nat) : Int) := by rw [Int.natCast_mul, Int.natCast_pow]; rfl
    rw [e5, wrap_u64 (by omega) (by omega)]
  rw [e1, e2, e3, e4, lmI_get _ _ (by omega), bits_or_u64_nat _ _ (lm_lt _ _) hp]
  exact lmI_put hk hx (by omega)
/-- What bytes are read as: the last 32. -/
def readN (xs : List Int) : Nat := rdI (xs.drop (xs.length - 32))
theorem allB_drop {xs : List Int} (h : allB xs) (n : Nat) : allB (xs.drop n) := fun x hx => h x (List.mem_of_mem_drop hx)
theorem rdI_W {l : List Int} (h : allB l) (hl : l.length ≤ 32) : rdI l < W := by
  have h1 := rdI_lt h
  have h2 : (256 : Nat) ^ l.length ≤ 256 ^ 32 := Nat.pow_le_pow_right (by decide) hl
  have h3 : (256 : Nat) ^ 32 = W := by decide
  omega
theorem readN_lt {xs : List Int} (h : allB xs) : readN xs < W := rdI_W (allB_drop h _) (by rw [List.length_drop]; omega)
/-- What a callee reads. -/
def g_Read (args : List SV) (m : List Blk) : CR :=
  match args with
  | [x] => match srcC x m with
    | some (q, k, .ints .u8 xs) => .pure (q ∧ k ≤ 9223372036854775807 ∧ allB xs) (.word (readN xs))
    | _ => .none
  | _ => .none
def G4 : Ctr := fun f args m => match f with
  | 42 => g_From args m
  | 33 => g_Small args m
  | 40 => g_lowByte args m
  | _ => .none
theorem G4_ok : GOk Tryd.prog G4 := by
  intro w0 B f args m; unfold G4; split
  · exact g_From_ok _ _ _ _
  · exact g_Small_ok _ _ _ _
  · exact g_lowByte_ok _ _ _ _
  · exact trivial
theorem G4_From : G4 42 = g_From := by funext args m; rfl
theorem G4_Small : G4 33 = g_Small := by funext args m; rfl
theorem G4_lowByte : G4 40 = g_lowByte := by funext args m; rfl

end Go.Proofs.YtgllfgpnbdpcdaaDoor
