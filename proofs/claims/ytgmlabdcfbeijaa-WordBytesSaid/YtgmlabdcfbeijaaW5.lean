/-
  A number of two parts divided by one part, walked, where the upper part is below the divisor.
-/
import Derived.Test.YtgmlabdcfbeijaaW3
import Derived.Deep.DeepCutAuto
import Derived.Deep.CutBlock
namespace Go.Proofs.Ytgmlabdcfbeijaa
set_option linter.unusedSimpArgs false
set_option linter.unusedVariables false
open Go.RowKit

theorem bitLenAux_spec : ∀ (f x : Nat), x < 2 ^ f → x < 2 ^ Lib.bitLenAux f x ∧ (x ≠ 0 → 2 ^ (Lib.bitLenAux f x - 1) ≤ x)
  | 0, x, h => by simp at h; subst h; simp [Lib.bitLenAux]
  | f + 1, x, h => by
    simp only [Lib.bitLenAux]
    split
    · rename_i h0; subst h0; simp
    · rename_i h0
      obtain ⟨h1, h2⟩ := bitLenAux_spec f (x / 2) (by rw [Nat.pow_succ] at h; omega)
      refine ⟨by rw [Nat.add_comm, Nat.pow_succ]; omega, fun _ => ?_⟩
      by_cases hx : x / 2 = 0
      · have hz : Lib.bitLenAux f (x / 2) = 0 := by
          rw [hx]; cases f with
          | zero => rfl
          | succ f => simp [Lib.bitLenAux]
        rw [hz]; simp; omega
      · have h3 := h2 hx
        have h4 : 1 ≤ Lib.bitLenAux f (x / 2) := by
          rcases Nat.eq_zero_or_pos (Lib.bitLenAux f (x / 2)) with h5 | h5
          · rw [h5] at h1; simp at h1; omega
          · exact h5
        have e : 1 + Lib.bitLenAux f (x / 2) - 1 = (Lib.bitLenAux f (x / 2) - 1) + 1 := by omega
        rw [e, Nat.pow_succ]; omega
theorem bitLen_spec {y : Nat} (hy : y < 18446744073709551616) : y < 2 ^ Lib.bitLen y ∧ (y ≠ 0 → 2 ^ (Lib.bitLen y - 1) ≤ y) := bitLenAux_spec 64 y hy
theorem bitLen_top {y : Nat} (h : 9223372036854775808 ≤ y) (hy : y < 18446744073709551616) : Lib.bitLen y = 64 := by
  have h1 := bitLen_spec hy
  have h2 := Lib.bitLen_le y 64 (by omega) hy
  have h3 : ¬ Lib.bitLen y ≤ 63 := fun h4 => by
    have h5 : 2 ^ Lib.bitLen y ≤ 2 ^ 63 := Nat.pow_le_pow_right (by decide) h4
    have := h1.1
    omega
  omega

/-! ### Two digits by one -/
/-- What holds of a guess q at a digit, and of what it leaves. -/
structure Gs (u y1 y0 u1 q r : Nat) : Prop where
  ge : (u * 4294967296 + u1) / (y1 * 4294967296 + y0) ≤ q
  le : q ≤ 4294967297
  eq : r + q * y1 = u
  rlt : r < 4294967296
theorem Gs.stop {u y1 y0 u1 q r : Nat} (h : Gs u y1 y0 u1 q r) (_h1 : 0 < y1) (hq : q * y0 ≤ 4294967296 * r + u1) :
    q = (u * 4294967296 + u1) / (y1 * 4294967296 + y0) := by
  refine Nat.le_antisymm ((Nat.le_div_iff_mul_le (by omega)).2 ?_) h.ge
  have e : q * (y1 * 4294967296 + y0) = (q * y1) * 4294967296 + q * y0 := by rw [Nat.mul_add, Nat.mul_assoc]
  have := h.eq
  omega
theorem Gs.more {u y1 y0 u1 q r : Nat} (h : Gs u y1 y0 u1 q r) (_h1 : 0 < y1) (hu : u < y1 * 4294967296 + y0) (h11 : u1 < 4294967296)
    (hq : 4294967296 ≤ q ∨ 4294967296 * r + u1 < q * y0) :
    (u * 4294967296 + u1) / (y1 * 4294967296 + y0) < q := by
  refine (Nat.div_lt_iff_lt_mul (by omega)).2 ?_
  have e : q * (y1 * 4294967296 + y0) = (q * y1) * 4294967296 + q * y0 := by rw [Nat.mul_add, Nat.mul_assoc]
  have h2 := h.eq
  rcases hq with hq | hq
  · have h3 : 4294967296 * (y1 * 4294967296 + y0) ≤ q * (y1 * 4294967296 + y0) := Nat.mul_le_mul_right _ hq
    omega
  · omega
theorem Gs.next {u y1 y0 u1 q r : Nat} (h : Gs u y1 y0 u1 q r) (hq : (u * 4294967296 + u1) / (y1 * 4294967296 + y0) < q) (hr : r + y1 < 4294967296) :
    Gs u y1 y0 u1 (q - 1) (r + y1) := by
  have h2 := h.eq
  have h3 := h.le
  have hq0 : 0 < q := Nat.lt_of_le_of_lt (Nat.zero_le _) hq
  obtain ⟨p, rfl⟩ : ∃ p, q = p + 1 := ⟨q - 1, by clear hq; omega⟩
  exact ⟨Nat.le_of_lt_succ hq, by clear hq; omega, by clear hq; rw [Nat.add_mul] at h2; simp; omega, hr⟩
theorem Gs.brk {u y1 y0 u1 q r : Nat} (h : Gs u y1 y0 u1 q r) (_h1 : 0 < y1) (h0 : y0 < 4294967296) (hq : (u * 4294967296 + u1) / (y1 * 4294967296 + y0) < q) (hr : 4294967296 ≤ r + y1) :
    q - 1 = (u * 4294967296 + u1) / (y1 * 4294967296 + y0) := by
  refine Nat.le_antisymm ((Nat.le_div_iff_mul_le (by omega)).2 ?_) (Nat.le_sub_one_of_lt hq)
  have h2 := h.eq
  have h3 := h.le
  have hq0 : 0 < q := Nat.lt_of_le_of_lt (Nat.zero_le _) hq
  obtain ⟨p, rfl⟩ : ∃ p, q = p + 1 := ⟨q - 1, by clear hq; omega⟩
  clear hq
  have e : p * (y1 * 4294967296 + y0) = (p * y1) * 4294967296 + p * y0 := by rw [Nat.mul_add, Nat.mul_assoc]
  have e2 : p * y0 ≤ 4294967296 * 4294967295 := Nat.mul_le_mul (by omega) (by omega)
  rw [Nat.add_mul] at h2
  simp only [Nat.add_sub_cancel]
  omega
theorem Gs.start {u y1 y0 u1 : Nat} (h1 : 2147483648 ≤ y1) (h1b : y1 < 4294967296) (h0 : y0 < 4294967296) (hu : u < y1 * 4294967296 + y0) (h11 : u1 < 4294967296) : Gs u y1 y0 u1 (u / y1) (u % y1) := by
  have e := Nat.div_add_mod u y1
  have hm := Nat.mod_lt u (by omega : 0 < y1)
  refine ⟨?_, ?_, by rw [Nat.mul_comm]; omega, by omega⟩
  · refine (Nat.le_div_iff_mul_le (by omega)).2 ?_
    have h2 := Nat.div_mul_le_self (u * 4294967296 + u1) (y1 * 4294967296 + y0)
    generalize (u * 4294967296 + u1) / (y1 * 4294967296 + y0) = q at *
    rw [Nat.mul_add, ← Nat.mul_assoc] at h2
    omega
  · refine Nat.lt_succ_iff.1 ((Nat.div_lt_iff_lt_mul (by omega)).2 ?_)
    omega
theorem lz_top {y : Nat} (h : 9223372036854775808 ≤ y) (hy : y < 18446744073709551616) (w : World) :
    Calls Try.prog 73 #[.int .u64 y] w fun e w' => e = .returned (.int .i64 0) ∧ w' = w := by
  have h1 := Try.bits_LeadingZeros64 (y : Int) w (by omega) (by omega)
  rw [Int.toNat_natCast, bitLen_top h hy] at h1
  exact h1
theorem rest_arith {y q u h l1 : Nat} (hN : y * q + u = h * 4294967296 + l1) (hu : u < y) (hy : y < 18446744073709551616) : ∃ z1 z2 z3 : Nat,
    IntKind.u64.wrap ((h : Int) * 4294967296) = (z1 : Int) ∧ IntKind.u64.wrap ((z1 : Int) + (l1 : Int)) = (z2 : Int) ∧
    IntKind.u64.wrap ((q : Int) * (y : Int)) = (z3 : Int) ∧ IntKind.u64.wrap ((z2 : Int) - (z3 : Int)) = (u : Int) := by
  refine ⟨h * 4294967296 % 18446744073709551616, (h * 4294967296 + l1) % 18446744073709551616, y * q % 18446744073709551616, ?_, ?_, ?_, ?_⟩
  · rw [IntKind.wrap_u64]; omega
  · rw [IntKind.wrap_u64]; omega
  · rw [IntKind.wrap_u64, Int.mul_comm, ← Int.natCast_mul]; omega
  · rw [IntKind.wrap_u64]; omega
theorem and32 (z : Nat) (h : z < 18446744073709551616) : bits .and .u64 (z : Int) 4294967295 = ((z % 4294967296 : Nat) : Int) := by
  have h1 := bits_and_u64_nat z 4294967295 h (by omega)
  rw [show z &&& 4294967295 = z % 4294967296 from Nat.and_two_pow_sub_one_eq_mod z 32] at h1
  exact h1
set_option maxHeartbeats 1000000 in
set_option maxRecDepth 100000 in
theorem div64_top (h l y : Nat) (hy : 9223372036854775808 ≤ y) (hy2 : y < 18446744073709551616) (hh : h < y) (h0 : 0 < h) (hl : l < 18446744073709551616) (qq rr : Nat)
    (hqq : qq = (h * 18446744073709551616 + l) / y) (hrr : rr = (h * 18446744073709551616 + l) % y) (w : World) :
    Calls Try.prog 83 #[.int .u64 h, .int .u64 l, .int .u64 y] w (Ret w (.tuple #[.int .u64 (qq : Nat), .int .u64 (rr : Nat)])) := by
  have HQQ := Lib.hid hqq
  have HRR := Lib.hid hrr
  clear hqq hrr
  have e0 : ((y : Int) == 0) = false := by rw [beq_eq_false_iff_ne]; omega
  have e1 : decide ((y : Int) ≤ (h : Int)) = false := by simp; omega
  have e2 : ((h : Int) == 0) = false := by rw [beq_eq_false_iff_ne]; omega
  have LZ := Lib.hid (lz_top hy hy2)
  have f2 := and32 y hy2
  have f6 := and32 l hl
  have f3 : (l : Int) / 18446744073709551616 = 0 := by omega
  have f4 : bits .or .u64 (h : Int) 0 = (h : Int) := by
    have := or_u64 (x := h) (y := 0) (by omega) (by omega)
    simpa using this
  have f1 : (y : Int) / 4294967296 = ((y / 4294967296 : Nat) : Int) := by omega
  have f5 : (l : Int) / 4294967296 = ((l / 4294967296 : Nat) : Int) := by omega
  obtain ⟨y1, hy1⟩ : ∃ y1, y1 = y / 4294967296 := ⟨_, rfl⟩
  obtain ⟨y0, hy0⟩ : ∃ y0, y0 = y % 4294967296 := ⟨_, rfl⟩
  obtain ⟨l1, hl1⟩ : ∃ l1, l1 = l / 4294967296 := ⟨_, rfl⟩
  obtain ⟨l0, hl0⟩ : ∃ l0, l0 = l % 4294967296 := ⟨_, rfl⟩
  rw [← hy1] at f1; rw [← hy0] at f2; rw [← hl1] at f5; rw [← hl0] at f6
  have ey : y = y1 * 4294967296 + y0 := by omega
  have el : l = l1 * 4294967296 + l0 := by omega
  have b1 : 2147483648 ≤ y1 := by omega
  have b2 : y1 < 4294967296 := by omega
  have b3 : y0 < 4294967296 := by omega
  have b4 : l1 < 4294967296 := by omega
  have b5 : l0 < 4294967296 := by omega
  have EY := Lib.hid ey
  have EL := Lib.hid el
  clear hy1 hy0 hl1 hl0 ey el
  have g0 := Gs.start (u1 := l1) b1 b2 b3 (by rw [← EY.out]; exact hh) b4
  have dm := Nat.div_add_mod h y1
  have f7 : (h : Int).tdiv (y1 : Int) = ((h / y1 : Nat) : Int) := by rw [Int.tdiv_eq_ediv_of_nonneg (by omega)]; rfl
  have f8 : IntKind.u64.wrap ((h / y1 : Nat) : Int) = ((h / y1 : Nat) : Int) := by
    rw [IntKind.wrap_u64]; have := g0.le; clear g0; generalize h / y1 = q at *; omega
  have f9 : IntKind.u64.wrap (((h / y1 : Nat) : Int) * (y1 : Int)) = ((h / y1 * y1 : Nat) : Int) := by
    rw [IntKind.wrap_u64, ← Int.natCast_mul]; have := Nat.div_mul_le_self h y1; omega
  have f10 : IntKind.u64.wrap ((h : Int) - ((h / y1 * y1 : Nat) : Int)) = ((h % y1 : Nat) : Int) := by
    rw [IntKind.wrap_u64]; rw [Nat.mul_comm] at dm; omega
  have G0 := Lib.hid g0
  clear g0 dm
  generalize h / y1 = q0 at *
  generalize h % y1 = r0 at *
  generalize q0 * y1 = m0 at *
  go_enter Try.func83, Try.ntmps83
  go_upto_block 0 with (go_at_call 73; (with_reducible refine calls_same (LZ.out _) ?_))
  go_cut [15] (fun s wx => s = .int .u64 ((h * 4294967296 + l1) / (y1 * 4294967296 + y0) : Nat) ∧ w = wx)
  case first =>
    go_wp2
    go_loop [15, 16] (fun q r => ∃ Q R : Nat, q = .int .u64 Q ∧ r = .int .u64 R ∧ Gs h y1 y0 l1 Q R) (fun q _ => (intOf q).toNat)
    case atStart => exact ⟨q0, r0, rfl, rfl, G0.out⟩
    case round =>
      obtain ⟨Q, R, rfl, rfl, hG⟩ := hrel
      have hQ := hG.le
      have hR := hG.rlt
      have HG := Lib.hid hG
      clear hG f7 f8 f9 f10
      by_cases hcont : 4294967296 ≤ Q ∨ 4294967296 * R + l1 < Q * y0
      · have hgt := HG.out.more (by omega) (by rw [← EY.out]; exact hh) b4 hcont
        have hQ0 : 0 < Q := Nat.lt_of_le_of_lt (Nat.zero_le _) hgt
        have HGT := Lib.hid hgt
        clear hgt e0 e1 e2 LZ f1 f2 f3 f4 f5 f6 hy hy2 hh hl
        by_cases hb : R + y1 < 4294967296
        · have j1 : (R : Int) + (y1 : Int) < 4294967296 := by omega
          have j2 : ¬ ((4294967296 : Int) ≤ (R : Int) + (y1 : Int)) := by omega
          have HN := Lib.hid (HG.out.next HGT.out hb)
          by_cases hA : 4294967296 ≤ Q
          · clear hcont
            have i1 : ¬ ((Q : Int) < 4294967296) := by omega
            have i2 : (4294967296 : Int) ≤ (Q : Int) := by omega
            go_wp2
            go_round
            case rel => exact ⟨Q - 1, R + y1, by go_num, by go_num, HN.out⟩
            case measure => simp [intOf]; omega
          · have hC : 4294967296 * R + l1 < Q * y0 := hcont.resolve_left hA
            have hm : Q * y0 ≤ 4294967295 * 4294967295 := Nat.mul_le_mul (by omega) (by omega)
            have hp : IntKind.u64.wrap ((Q : Int) * (y0 : Int)) = ((Q * y0 : Nat) : Int) := by rw [IntKind.wrap_u64, ← Int.natCast_mul]; omega
            clear hcont
            generalize Q * y0 = m at *
            have i1 : (Q : Int) < 4294967296 := by omega
            have i2 : ¬ ((4294967296 : Int) ≤ (Q : Int)) := by omega
            have i3 : 4294967296 * (R : Int) + (l1 : Int) < (m : Int) := by omega
            have i4 : ¬ ((m : Int) ≤ 4294967296 * (R : Int) + (l1 : Int)) := by omega
            go_wp2
            go_round
            case rel => exact ⟨Q - 1, R + y1, by go_num, by go_num, HN.out⟩
            case measure => simp [intOf]; omega
        · have j1 : ¬ ((R : Int) + (y1 : Int) < 4294967296) := by omega
          have j2 : (4294967296 : Int) ≤ (R : Int) + (y1 : Int) := by omega
          have HN := Lib.hid (HG.out.brk (by omega) b3 HGT.out (by omega))
          by_cases hA : 4294967296 ≤ Q
          · clear hcont
            have i1 : ¬ ((Q : Int) < 4294967296) := by omega
            have i2 : (4294967296 : Int) ≤ (Q : Int) := by omega
            go_wp2
            go_meet
            exact ⟨by rw [← HN.out]; go_num, rfl⟩
          · have hC : 4294967296 * R + l1 < Q * y0 := hcont.resolve_left hA
            have hm : Q * y0 ≤ 4294967295 * 4294967295 := Nat.mul_le_mul (by omega) (by omega)
            have hp : IntKind.u64.wrap ((Q : Int) * (y0 : Int)) = ((Q * y0 : Nat) : Int) := by rw [IntKind.wrap_u64, ← Int.natCast_mul]; omega
            clear hcont
            generalize Q * y0 = m at *
            have i1 : (Q : Int) < 4294967296 := by omega
            have i2 : ¬ ((4294967296 : Int) ≤ (Q : Int)) := by omega
            have i3 : 4294967296 * (R : Int) + (l1 : Int) < (m : Int) := by omega
            have i4 : ¬ ((m : Int) ≤ 4294967296 * (R : Int) + (l1 : Int)) := by omega
            go_wp2
            go_meet
            exact ⟨by rw [← HN.out]; go_num, rfl⟩
      · have hA : Q < 4294967296 := by omega
        have hC : Q * y0 ≤ 4294967296 * R + l1 := by omega
        have hm : Q * y0 ≤ 4294967295 * 4294967295 := Nat.mul_le_mul (by omega) (by omega)
        have hp : IntKind.u64.wrap ((Q : Int) * (y0 : Int)) = ((Q * y0 : Nat) : Int) := by rw [IntKind.wrap_u64, ← Int.natCast_mul]; omega
        have HN := Lib.hid (HG.out.stop (by omega) hC)
        clear hcont e0 e1 e2 LZ f1 f2 f3 f4 f5 f6 hy hy2 hh hl
        generalize Q * y0 = m at *
        have i1 : (Q : Int) < 4294967296 := by omega
        have i2 : ¬ ((4294967296 : Int) ≤ (Q : Int)) := by omega
        have i3 : ¬ (4294967296 * (R : Int) + (l1 : Int) < (m : Int)) := by omega
        have i4 : (m : Int) ≤ 4294967296 * (R : Int) + (l1 : Int) := by omega
        go_wp2
        go_meet
        exact ⟨by rw [← HN.out], rfl⟩
  case rest =>
    obtain ⟨hs, hw⟩ := hcut
    subst hs
    subst hw
    have n1 := Nat.div_add_mod (h * 4294967296 + l1) (y1 * 4294967296 + y0)
    have n2 := Nat.mod_lt (h * 4294967296 + l1) (show 0 < y1 * 4294967296 + y0 by omega)
    have n3 : (h * 4294967296 + l1) / (y1 * 4294967296 + y0) < 4294967296 := by
      refine (Nat.div_lt_iff_lt_mul (by omega)).2 ?_
      have := EY.out
      omega
    rw [← EY.out] at n1 n2 n3 ⊢
    clear f7 f8 f9 f10 G0
    obtain ⟨Q1, hQ1⟩ : ∃ Q1, Q1 = (h * 4294967296 + l1) / y := ⟨_, rfl⟩
    obtain ⟨u2, hu⟩ : ∃ u2, u2 = (h * 4294967296 + l1) % y := ⟨_, rfl⟩
    have HQ1 := Lib.hid hQ1
    have HU2 := Lib.hid hu
    rw [← hQ1] at n1 n3 ⊢
    rw [← hu] at n1 n2
    clear hQ1 hu
    have hu2 : u2 < y := n2
    obtain ⟨z1, z2, z3, k1, k2, k3, k4⟩ := rest_arith n1 n2 hy2
    have N1 := Lib.hid n1
    clear n1 n2
    have g0 := Gs.start (u1 := l0) b1 b2 b3 (by rw [← EY.out]; exact hu2) b5
    have dm := Nat.div_add_mod u2 y1
    have t7 : (u2 : Int).tdiv (y1 : Int) = ((u2 / y1 : Nat) : Int) := by rw [Int.tdiv_eq_ediv_of_nonneg (by omega)]; rfl
    have t8 : IntKind.u64.wrap ((u2 / y1 : Nat) : Int) = ((u2 / y1 : Nat) : Int) := by
      rw [IntKind.wrap_u64]; have := g0.le; clear g0; generalize u2 / y1 = q at *; omega
    have t9 : IntKind.u64.wrap (((u2 / y1 : Nat) : Int) * (y1 : Int)) = ((u2 / y1 * y1 : Nat) : Int) := by
      rw [IntKind.wrap_u64, ← Int.natCast_mul]; have := Nat.div_mul_le_self u2 y1; omega
    have t10 : IntKind.u64.wrap ((u2 : Int) - ((u2 / y1 * y1 : Nat) : Int)) = ((u2 % y1 : Nat) : Int) := by
      rw [IntKind.wrap_u64]; rw [Nat.mul_comm] at dm; omega
    have G0 := Lib.hid g0
    clear g0 dm
    generalize u2 / y1 = q0 at *
    generalize u2 % y1 = r0 at *
    generalize q0 * y1 = m0 at *
    go_upto_block 2 with fail
    go_cut [18] (fun s wx => s = .int .u64 ((u2 * 4294967296 + l0) / (y1 * 4294967296 + y0) : Nat) ∧ w = wx)
    case first =>
      go_wp2
      go_loop [18, 16] (fun q r => ∃ Q R : Nat, q = .int .u64 Q ∧ r = .int .u64 R ∧ Gs u2 y1 y0 l0 Q R) (fun q _ => (intOf q).toNat)
      case atStart => exact ⟨q0, r0, rfl, rfl, G0.out⟩
      case round =>
        obtain ⟨Q, R, rfl, rfl, hG⟩ := hrel
        have hQ := hG.le
        have hR := hG.rlt
        have HG := Lib.hid hG
        clear hG t7 t8 t9 t10
        by_cases hcont : 4294967296 ≤ Q ∨ 4294967296 * R + l0 < Q * y0
        · have hgt := HG.out.more (by omega) (by rw [← EY.out]; exact hu2) b5 hcont
          have hQ0 : 0 < Q := Nat.lt_of_le_of_lt (Nat.zero_le _) hgt
          have HGT := Lib.hid hgt
          clear hgt e0 e1 e2 LZ f1 f2 f3 f4 f5 f6 hy hy2 hh hl hu2
          by_cases hb : R + y1 < 4294967296
          · have j1 : (R : Int) + (y1 : Int) < 4294967296 := by omega
            have j2 : ¬ ((4294967296 : Int) ≤ (R : Int) + (y1 : Int)) := by omega
            have HN := Lib.hid (HG.out.next HGT.out hb)
            by_cases hA : 4294967296 ≤ Q
            · clear hcont
              have i1 : ¬ ((Q : Int) < 4294967296) := by omega
              have i2 : (4294967296 : Int) ≤ (Q : Int) := by omega
              go_wp2
              go_round
              case rel => exact ⟨Q - 1, R + y1, by go_num, by go_num, HN.out⟩
              case measure => simp [intOf]; omega
            · have hC : 4294967296 * R + l0 < Q * y0 := hcont.resolve_left hA
              have hm : Q * y0 ≤ 4294967295 * 4294967295 := Nat.mul_le_mul (by omega) (by omega)
              have hp : IntKind.u64.wrap ((Q : Int) * (y0 : Int)) = ((Q * y0 : Nat) : Int) := by rw [IntKind.wrap_u64, ← Int.natCast_mul]; omega
              clear hcont
              generalize Q * y0 = m at *
              have i1 : (Q : Int) < 4294967296 := by omega
              have i2 : ¬ ((4294967296 : Int) ≤ (Q : Int)) := by omega
              have i3 : 4294967296 * (R : Int) + (l0 : Int) < (m : Int) := by omega
              have i4 : ¬ ((m : Int) ≤ 4294967296 * (R : Int) + (l0 : Int)) := by omega
              go_wp2
              go_round
              case rel => exact ⟨Q - 1, R + y1, by go_num, by go_num, HN.out⟩
              case measure => simp [intOf]; omega
          · have j1 : ¬ ((R : Int) + (y1 : Int) < 4294967296) := by omega
            have j2 : (4294967296 : Int) ≤ (R : Int) + (y1 : Int) := by omega
            have HN := Lib.hid (HG.out.brk (by omega) b3 HGT.out (by omega))
            by_cases hA : 4294967296 ≤ Q
            · clear hcont
              have i1 : ¬ ((Q : Int) < 4294967296) := by omega
              have i2 : (4294967296 : Int) ≤ (Q : Int) := by omega
              go_wp2
              go_meet
              exact ⟨by rw [← HN.out]; go_num, rfl⟩
            · have hC : 4294967296 * R + l0 < Q * y0 := hcont.resolve_left hA
              have hm : Q * y0 ≤ 4294967295 * 4294967295 := Nat.mul_le_mul (by omega) (by omega)
              have hp : IntKind.u64.wrap ((Q : Int) * (y0 : Int)) = ((Q * y0 : Nat) : Int) := by rw [IntKind.wrap_u64, ← Int.natCast_mul]; omega
              clear hcont
              generalize Q * y0 = m at *
              have i1 : (Q : Int) < 4294967296 := by omega
              have i2 : ¬ ((4294967296 : Int) ≤ (Q : Int)) := by omega
              have i3 : 4294967296 * (R : Int) + (l0 : Int) < (m : Int) := by omega
              have i4 : ¬ ((m : Int) ≤ 4294967296 * (R : Int) + (l0 : Int)) := by omega
              go_wp2
              go_meet
              exact ⟨by rw [← HN.out]; go_num, rfl⟩
        · have hA : Q < 4294967296 := by omega
          have hC : Q * y0 ≤ 4294967296 * R + l0 := by omega
          have hm : Q * y0 ≤ 4294967295 * 4294967295 := Nat.mul_le_mul (by omega) (by omega)
          have hp : IntKind.u64.wrap ((Q : Int) * (y0 : Int)) = ((Q * y0 : Nat) : Int) := by rw [IntKind.wrap_u64, ← Int.natCast_mul]; omega
          have HN := Lib.hid (HG.out.stop (by omega) hC)
          clear hcont e0 e1 e2 LZ f1 f2 f3 f4 f5 f6 hy hy2 hh hl hu2
          generalize Q * y0 = m at *
          have i1 : (Q : Int) < 4294967296 := by omega
          have i2 : ¬ ((4294967296 : Int) ≤ (Q : Int)) := by omega
          have i3 : ¬ (4294967296 * (R : Int) + (l0 : Int) < (m : Int)) := by omega
          have i4 : (m : Int) ≤ 4294967296 * (R : Int) + (l0 : Int) := by omega
          go_wp2
          go_meet
          exact ⟨by rw [← HN.out], rfl⟩

    case rest =>
      obtain ⟨hs, hw⟩ := hcut
      subst hs
      subst hw
      have n1 := Nat.div_add_mod (u2 * 4294967296 + l0) (y1 * 4294967296 + y0)
      have n2 := Nat.mod_lt (u2 * 4294967296 + l0) (show 0 < y1 * 4294967296 + y0 by omega)
      have n4 : (u2 * 4294967296 + l0) / (y1 * 4294967296 + y0) < 4294967296 := by
        refine (Nat.div_lt_iff_lt_mul (by omega)).2 ?_
        have := EY.out
        omega
      rw [← EY.out] at n1 n2 n4 ⊢
      clear t7 t8 t9 t10 G0
      obtain ⟨Q2, hQ2⟩ : ∃ Q2, Q2 = (u2 * 4294967296 + l0) / y := ⟨_, rfl⟩
      obtain ⟨u3, hu⟩ : ∃ u3, u3 = (u2 * 4294967296 + l0) % y := ⟨_, rfl⟩
      rw [← hQ2] at n1 n4 ⊢
      rw [← hu] at n1 n2
      clear hQ2 hu
      obtain ⟨v1, v2, v3, m1, m2, m3, m4⟩ := rest_arith n1 n2 hy2
      have hfin : qq = Q1 * 4294967296 + Q2 ∧ rr = u3 := by
        have e1 := HQQ.out
        have e2 := HRR.out
        have e3 := EL.out
        have e4 := N1.out
        have e5 : h * 18446744073709551616 + l = u3 + y * (Q1 * 4294967296 + Q2) := by
          rw [Nat.mul_add, ← Nat.mul_assoc]; omega
        rw [e1, e2, e5]
        constructor
        · rw [Nat.add_mul_div_left _ _ (by omega), Nat.div_eq_of_lt n2, Nat.zero_add]
        · rw [Nat.add_mul_mod_self_left, Nat.mod_eq_of_lt n2]
      obtain ⟨hq9, hr9⟩ := hfin
      have hq10 : ((qq : Nat) : Int) = (Q1 : Int) * 4294967296 + (Q2 : Int) := by omega
      have H9 := Lib.hid hr9
      have H10 := Lib.hid hq10
      clear n1 n2 hq9 hr9 hq10 HQQ HRR hu2 f1 f2 f3 f4 f5 f6 e0 e1 e2 k1 k2 k3 k4
      go_wp2
      rw [H9.out, H10.out]
      exact bodyPost_ret (v := .tuple #[.int .u64 ((Q1 : Int) * 4294967296 + (Q2 : Int)), .int .u64 (u3 : Nat)]) (by simp [results, Try.results83, go_sem]) rfl (Ret.of' rfl (by (repeat (first | with_reducible exact Below.refl _ _ | refine below_gw ?_ (by first | exact Nat.le_refl _ | ((repeat (first | rw [World.size_alloc] | rw [World.size_setCell] | rw [World.size_drew] | rw [gw_size])); first | done | omega)) _ | refine Below.alloc ?_ (by first | exact Nat.le_refl _ | ((repeat (first | rw [World.size_alloc] | rw [World.size_setCell] | rw [World.size_drew] | rw [gw_size])); first | done | omega)) _ | refine Below.setCell ?_ (by first | exact Nat.le_refl _ | ((repeat (first | rw [World.size_alloc] | rw [World.size_setCell] | rw [World.size_drew] | rw [gw_size])); first | done | omega)) _ | refine Below.drew ?_))))
set_option maxHeartbeats 1000000 in
theorem div64_any (h l y : Nat) (hy : 9223372036854775808 ≤ y) (hy2 : y < 18446744073709551616) (hh : h < y) (hl : l < 18446744073709551616) (w : World) :
    Calls Try.prog 83 #[.int .u64 h, .int .u64 l, .int .u64 y] w (Ret w (.tuple #[.int .u64 ((h * 18446744073709551616 + l) / y : Nat), .int .u64 ((h * 18446744073709551616 + l) % y : Nat)])) := by
  by_cases h1 : 0 < h
  · exact div64_top h l y hy hy2 hh h1 hl _ _ rfl rfl w
  · have hz : h = 0 := by omega
    subst hz
    rw [Nat.zero_mul, Nat.zero_add]
    have e0 : ((y : Int) == 0) = false := by rw [beq_eq_false_iff_ne]; omega
    have e00 : (y : Int) ≠ 0 := by omega
    have e1 : decide ((y : Int) ≤ 0) = false := by simp; omega
    have t1 : (l : Int).tdiv (y : Int) = ((l / y : Nat) : Int) := by rw [Int.tdiv_eq_ediv_of_nonneg (by omega)]; rfl
    have t2 : (l : Int).tmod (y : Int) = ((l % y : Nat) : Int) := by rw [Int.tmod_eq_emod_of_nonneg (by omega)]; rfl
    have t3 : IntKind.u64.wrap ((l / y : Nat) : Int) = ((l / y : Nat) : Int) := by
      rw [IntKind.wrap_u64]; have := Nat.div_le_self l y; generalize l / y = q at *; omega
    have t4 : IntKind.u64.wrap ((l % y : Nat) : Int) = ((l % y : Nat) : Int) := by
      rw [IntKind.wrap_u64]; have := Nat.mod_le l y; generalize l % y = q at *; omega
    generalize l / y = q at *
    generalize l % y = r at *
    go_enter Try.func83, Try.ntmps83
    go_wp2
    (refine wp_quiet (by kernel_rfl) (by kernel_rfl) ?_; (repeat (first | go_big_quiet_step (fail) | quiet_step (fail))); refine wpQuiet_nil ?_; intro p)
    go_wp2
    exact bodyPost_ret (v := .tuple #[.int .u64 (q : Nat), .int .u64 (r : Nat)]) (by simp [results, Try.results83, go_sem]) rfl (Ret.of' rfl (by (repeat (first | with_reducible exact Below.refl _ _ | refine below_gw ?_ (by first | exact Nat.le_refl _ | ((repeat (first | rw [World.size_alloc] | rw [World.size_setCell] | rw [World.size_drew] | rw [gw_size])); first | done | omega)) _ | refine Below.alloc ?_ (by first | exact Nat.le_refl _ | ((repeat (first | rw [World.size_alloc] | rw [World.size_setCell] | rw [World.size_drew] | rw [gw_size])); first | done | omega)) _ | refine Below.setCell ?_ (by first | exact Nat.le_refl _ | ((repeat (first | rw [World.size_alloc] | rw [World.size_setCell] | rw [World.size_drew] | rw [gw_size])); first | done | omega)) _ | refine Below.drew ?_))))
end Go.Proofs.Ytgmlabdcfbeijaa

/-
  One digit of the long division, and the length of a list of parts, walked.
-/
namespace Go.Proofs.Ytgmlabdcfbeijaa
set_option linter.unusedSimpArgs false
set_option linter.unusedVariables false
open Go.RowKit

/-- What holds of a digit q, of what it leaves, and of whether that fell below 0. -/
structure DInv (xs ys : List Nat) (o n q : Nat) (b : Bool) (xs' : List Nat) : Prop where
  dg : DgPost xs o n xs'
  qlt : q < 18446744073709551616
  ge : val (seg xs o (n + 1)) / val (seg ys 0 n) ≤ q
  eq : val (seg xs' o (n + 1)) + q * val (seg ys 0 n) = val (seg xs o (n + 1)) + b.toNat * Bp (n + 1)
theorem DInv.neg {xs ys xs' : List Nat} {o n q : Nat} (h : DInv xs ys o n q true xs') (hV : 0 < val (seg ys 0 n)) :
    val (seg xs o (n + 1)) / val (seg ys 0 n) < q := by
  refine (Nat.div_lt_iff_lt_mul hV).2 ?_
  have h1 := h.eq
  have h2 := val_seg_lt h.dg.ok o (n + 1)
  simp at h1
  omega
theorem DInv.next {xs ys xs' xs'' : List Nat} {o n q : Nat} {b : Bool} (h : DInv xs ys o n q true xs') (hV : 0 < val (seg ys 0 n))
    (hg : DgPost xs' o n xs'') (he : val (seg xs'' o (n + 1)) + b.toNat * Bp (n + 1) = val (seg xs' o (n + 1)) + val (seg ys 0 n)) :
    DInv xs ys o n (q - 1) (!b) xs'' := by
  have h1 := h.neg hV
  have h2 : 0 < q := Nat.lt_of_le_of_lt (Nat.zero_le _) h1
  have h3 := h.eq
  have h4 := h.qlt
  refine ⟨⟨hg.len.trans h.dg.len, hg.ok, fun k hk => (hg.same k hk).trans (h.dg.same k hk)⟩, by clear h1; omega, Nat.le_sub_one_of_lt h1, ?_⟩
  obtain ⟨p, rfl⟩ : ∃ p, q = p + 1 := ⟨q - 1, by clear h1; omega⟩
  rw [Nat.add_mul] at h3
  cases b <;> simp at he h3 ⊢ <;> omega
theorem DInv.done {xs ys xs' : List Nat} {o n q : Nat} (h : DInv xs ys o n q false xs') (hV : 0 < val (seg ys 0 n)) :
    q = val (seg xs o (n + 1)) / val (seg ys 0 n) ∧ val (seg xs' o (n + 1)) = val (seg xs o (n + 1)) % val (seg ys 0 n) := by
  have h1 := h.eq
  simp at h1
  have h2 : q = val (seg xs o (n + 1)) / val (seg ys 0 n) := Nat.le_antisymm ((Nat.le_div_iff_mul_le hV).2 (by omega)) h.ge
  have h3 := Nat.div_add_mod (val (seg xs o (n + 1))) (val (seg ys 0 n))
  refine ⟨h2, ?_⟩
  rw [← h2, Nat.mul_comm] at h3
  omega
/-- The first guess is not too small. -/
theorem guess_ge {U V a v P rest vr : Nat} (hU : U = rest + P * a) (hr : rest < P) (hV : V = vr + P * v) (hv : 0 < v) (hP : 0 < P) : U / V ≤ a / v := by
  refine (Nat.le_div_iff_mul_le hv).2 ?_
  have h1 := Nat.div_mul_le_self U V
  have hVp : 0 < V := by rw [hV]; have := Nat.mul_pos hP hv; omega
  generalize U / V = q at *
  subst hU hV
  refine Nat.lt_succ_iff.1 (Nat.lt_of_mul_lt_mul_left (a := P) ?_)
  have e : q * (vr + P * v) = q * vr + P * (q * v) := by grind
  have e2 : P * (a + 1) = P * a + P := by grind
  rw [Nat.succ_eq_add_one, e2]
  omega
def DPost (w : World) (xs ys : List Nat) (bu o n : Nat) (tu : TypeId) (e : Ending) (w' : World) : Prop :=
  ∃ xs' : List Nat, ∃ p : Gro, e = .returned (.int .u64 (val (seg xs o (n + 1)) / val (seg ys 0 n) : Nat)) ∧ w' = gw (putA w bu xs' tu) p ∧ DgPost xs o n xs' ∧
    val (seg xs' o (n + 1)) = val (seg xs o (n + 1)) % val (seg ys 0 n)
/-- The guess at a digit. -/
theorem guess_spec {xs ys : List Nat} {o m : Nat} (hxs : Ok xs) (_hys : Ok ys) (ho : o + (m + 1) < xs.length) (hn : m + 1 ≤ ys.length) (htop : 0 < ys.getD m 0) :
    0 < val (seg ys 0 (m + 1)) ∧ val (seg xs o (m + 1 + 1)) / val (seg ys 0 (m + 1)) ≤ (xs.getD (o + (m + 1)) 0 * 18446744073709551616 + xs.getD (o + m) 0) / ys.getD m 0 := by
  have hV : val (seg ys 0 (m + 1)) = val (seg ys 0 m) + Bp m * ys.getD m 0 := val_take_succ (by omega)
  have hU : val (seg xs o (m + 1 + 1)) = val (seg xs o m) + Bp m * (xs.getD (o + (m + 1)) 0 * 18446744073709551616 + xs.getD (o + m) 0) := by
    rw [val_seg_succ (by omega), val_seg_succ (by omega), Bp_succ]; grind
  exact ⟨by rw [hV]; have := Nat.mul_pos (Bp_pos m) htop; omega, guess_ge hU (val_seg_lt hxs _ _) hV htop (Bp_pos m)⟩
set_option maxHeartbeats 2000000 in
theorem digit_any (xs ys : List Nat) (bu bv o m cu cv : Nat) (tu tv : TypeId) (w : World) (hu : Arr w bu xs tu) (hv : Arr w bv ys tv) (hne : bu ≠ bv)
    (hxs : Ok xs) (hys : Ok ys) (ho : o + (m + 1) < xs.length) (hn : m + 1 ≤ ys.length) (hy4 : ys.length ≤ 4) (htop : 9223372036854775808 ≤ ys.getD m 0)
    (hlt : val (seg xs o (m + 1 + 1)) < val (seg ys 0 (m + 1)) * 18446744073709551616) :
    Calls Try.prog 74 #[SlV bu o (m + 1 + 1) cu, SlV bv 0 (m + 1) cv] w (DPost w xs ys bu o (m + 1) tu) := by
  have cu1 := hu.cell (i := o + (m + 1)) (by omega)
  have cu0 := hu.cell (i := o + m) (by omega)
  have cv0 := hv.cell (i := m) (by omega)
  have x1 := hxs.getD (o + (m + 1))
  have x0 := hxs.getD (o + m)
  have y0 := hys.getD m
  have l1 := hu.lt
  have l2 := hv.lt
  obtain ⟨hV, hG⟩ := guess_spec hxs hys ho hn (by omega)
  have hQ : val (seg xs o (m + 1 + 1)) / val (seg ys 0 (m + 1)) ≤ 18446744073709551615 := by
    have h9 : val (seg xs o (m + 1 + 1)) / val (seg ys 0 (m + 1)) < 18446744073709551616 := (Nat.div_lt_iff_lt_mul hV).2 (by rw [Nat.mul_comm]; exact hlt)
    exact Nat.le_of_lt_succ h9
  have TK := Lib.hid (fun q w hu hv => takeAway_any xs ys bu bv o (m + 1) q cu cv tu tv w hu hv hne hxs hys ho hn hy4)
  have GV := Lib.hid (fun xs w hu hv hxs ho => giveBack_any xs ys bu bv o (m + 1) cu cv tu tv w hu hv hne hxs hys ho hn hy4)
  have HG := Lib.hid hG
  have HQ := Lib.hid hQ
  clear hG hQ hlt
  generalize xs.getD (o + (m + 1)) 0 = a1 at *
  generalize xs.getD (o + m) 0 = a0 at *
  generalize ys.getD m 0 = v0 at *
  go_enter Try.func74, Try.ntmps74
  go_wp2
  (refine wp_quiet (by kernel_rfl) (by kernel_rfl) ?_; (repeat (first | go_big_quiet_step (fail) | quiet_step (fail))); refine wpQuiet_nil ?_; intro p)
  go_upto_if 19 with fail
  go_cut [6] (fun s wx => ∃ qh : Nat, ∃ p : Gro, s = .int .u64 qh ∧ qh < 18446744073709551616 ∧ val (seg xs o (m + 1 + 1)) / val (seg ys 0 (m + 1)) ≤ qh ∧ wx = gw w p)
  case first =>
    by_cases hc : a1 < v0
    · have i1 : (a1 : Int) < (v0 : Int) := by omega
      go_wp2
      (refine wp_quiet (by kernel_rfl) (by kernel_rfl) ?_; (repeat (first | go_big_quiet_step ((go_at_call 83; first | (with_reducible refine quiet_ret (div64_any a1 a0 v0 htop y0 hc x0 _)) | (with_reducible refine quiet_ret2 (div64_any a1 a0 v0 htop y0 hc x0 _)))) | quiet_step ((go_at_call 83; first | (with_reducible refine quiet_ret (div64_any a1 a0 v0 htop y0 hc x0 _)) | (with_reducible refine quiet_ret2 (div64_any a1 a0 v0 htop y0 hc x0 _)))))); refine wpQuiet_nil ?_; intro p)
      go_wp2
      go_meet
      refine ⟨(a1 * 18446744073709551616 + a0) / v0, ⟨p.d, _⟩, ?_, ?_, HG.out, gw_gw _ _ _⟩
      · congr 1
      · refine (Nat.div_lt_iff_lt_mul (by omega)).2 ?_
        have : (a1 + 1) * 18446744073709551616 ≤ v0 * 18446744073709551616 := Nat.mul_le_mul_right _ hc
        omega
    · have i1 : ¬ ((a1 : Int) < (v0 : Int)) := by omega
      go_wp2
      go_meet
      exact ⟨18446744073709551615, p, rfl, by decide, HQ.out, rfl⟩
  case rest =>
    obtain ⟨qh, p2, hs, hq1, hq2, hw⟩ := hcut
    subst hs
    subst hw
    go_wp2_with (go_at_call 84; refine (TK.out qh _ (gw_arr hu _) (gw_arr hv _) hq1).mono ?_; rintro e w' ⟨xs1, b1, p1, rfl, rfl, hD, hE⟩)
    go_loopw [6, 7] (fun q b wr => ∃ qh : Nat, ∃ b' : Bool, ∃ xs' : List Nat, ∃ p : Gro, q = .int .u64 qh ∧ b = .bool b' ∧ DInv xs ys o (m + 1) qh b' xs' ∧ wr = gw (putA w bu xs' tu) p) (fun q _ _ => (intOf q).toNat)
    case atStart => exact ⟨qh, b1, xs1, ⟨p1.d, p2.os ++ p1.os⟩, rfl, rfl, ⟨hD, hq1, hq2, hE⟩, by rw [gw_putA _ _ l1, gw_gw]⟩
    case round =>
      obtain ⟨q, b, xs', p3, rfl, rfl, hI, hw⟩ := hrel
      have hAu : Arr wr bu xs' tu := by rw [hw]; exact gw_arr (putA_arr l1 _ _) p3
      have hAv : Arr wr bv ys tv := by rw [hw]; exact gw_arr (putA_other hne _ _ _ _ hv) p3
      have HW := Lib.hid hw
      clear hw hE hD
      cases b
      · obtain ⟨d1, d2⟩ := hI.done hV
        have HD := Lib.hid d1
        have HD2 := Lib.hid d2
        clear d1 d2
        go_wp2
        go_ret
        exact ⟨xs', p3, (show Ending.returned (.int .u64 (q : Nat)) = _ from by rw [← HD.out]), HW.out, hI.dg, HD2.out⟩
      · have hq0 : 0 < q := Nat.lt_of_le_of_lt (Nat.zero_le _) (hI.neg hV)
        have hqb := hI.qlt
        go_wp2_with (go_at_call 85; refine (GV.out xs' _ hAu hAv hI.dg.ok (by rw [hI.dg.len]; exact ho)).mono ?_; rintro e w' ⟨xs2, b2, p4, rfl, rfl, hD2, hE2⟩)
        refine ⟨⟨q - 1, !b2, xs2, ⟨p4.d, p3.os ++ p4.os⟩, by go_num, rfl, hI.next hV hD2 hE2, ?_⟩, by simp [intOf]; omega⟩
        rw [HW.out, gw_putA _ _ (by rw [putA_size]; exact l1), putA_putA, gw_gw]

/-- How many parts a number has without the noughts at its top. -/
def topN (xs : List Nat) : Nat → Nat
  | 0 => 0
  | n + 1 => if xs.getD n 0 = 0 then topN xs n else n + 1
theorem topN_le (xs : List Nat) : ∀ n, topN xs n ≤ n
  | 0 => Nat.le_refl _
  | n + 1 => by unfold topN; split
                · exact Nat.le_succ_of_le (topN_le xs n)
                · exact Nat.le_refl _
theorem topN_zero (xs : List Nat) : ∀ n k, topN xs n ≤ k → k < n → xs.getD k 0 = 0
  | 0, _, _, h => absurd h (Nat.not_lt_zero _)
  | n + 1, k, h, hk => by
    unfold topN at h
    split at h
    · rename_i h0
      by_cases hkn : k = n
      · rw [hkn]; exact h0
      · exact topN_zero xs n k h (by omega)
    · omega
theorem topN_top (xs : List Nat) : ∀ n, 0 < topN xs n → xs.getD (topN xs n - 1) 0 ≠ 0
  | 0, h => absurd h (Nat.lt_irrefl _)
  | n + 1, h => by
    unfold topN at h ⊢
    split
    · rename_i h0; rw [if_pos h0] at h; exact topN_top xs n h
    · rename_i h0; exact h0
set_option maxHeartbeats 1000000 in
theorem length_any (xs : List Nat) (b c : Nat) (t : TypeId) (w : World) (hA : Arr w b xs t) (hl : xs.length ≤ 100) :
    Calls Try.prog 58 #[SlV b 0 xs.length c] w (Ret w (.int .i64 (topN xs xs.length : Nat))) := by
  generalize hn : xs.length = n
  rw [hn] at hl
  have HN := Lib.hid hn
  clear hn
  go_enter Try.func58, Try.ntmps58
  go_wp2
  go_loop [3] (fun i => ∃ k : Nat, k ≤ n ∧ i = .int .i64 k ∧ topN xs n = topN xs k) (fun i => (intOf i).toNat)
  case atStart => exact ⟨n, Nat.le_refl _, rfl, rfl⟩
  case round =>
    obtain ⟨k, hk, rfl, ht⟩ := hrel
    have HT := Lib.hid ht
    clear ht
    cases k with
    | zero =>
      go_wp2
      rw [HT.out]
      exact bodyPost_ret (v := .int .i64 0) (by simp [results, Try.results58, go_sem]) rfl (Ret.of' rfl (by (repeat (first | with_reducible exact Below.refl _ _ | refine below_gw ?_ (by first | exact Nat.le_refl _ | ((repeat (first | rw [World.size_alloc] | rw [World.size_setCell] | rw [World.size_drew] | rw [gw_size])); first | done | omega)) _ | refine Below.alloc ?_ (by first | exact Nat.le_refl _ | ((repeat (first | rw [World.size_alloc] | rw [World.size_setCell] | rw [World.size_drew] | rw [gw_size])); first | done | omega)) _ | refine Below.setCell ?_ (by first | exact Nat.le_refl _ | ((repeat (first | rw [World.size_alloc] | rw [World.size_setCell] | rw [World.size_drew] | rw [gw_size])); first | done | omega)) _ | refine Below.drew ?_))))
    | succ j =>
      have c1 := hA.cell (i := j) (by rw [HN.out]; omega)
      have i1 : (0 : Int) < ((j : Nat) : Int) + 1 := by omega
      by_cases h0 : xs.getD j 0 = 0
      · have HS := Lib.hid (show topN xs (j + 1) = topN xs j by unfold topN; rw [if_pos h0]; cases j <;> rfl)
        rw [h0] at c1
        clear h0
        go_wp2
        go_round
        case rel => exact ⟨j, by omega, by go_num, HT.out.trans HS.out⟩
        case measure => simp [intOf]
      · have HS := Lib.hid (show topN xs (j + 1) = j + 1 by unfold topN; rw [if_neg h0])
        generalize xs.getD j 0 = x at *
        have hx : ((x : Int) == 0) = false := by rw [beq_eq_false_iff_ne]; omega
        clear h0
        go_wp2
        rw [HT.out, HS.out]
        exact bodyPost_ret (v := .int .i64 ((j : Nat) + 1)) (by simp [results, Try.results58, go_sem]) rfl (Ret.of' rfl (by (repeat (first | with_reducible exact Below.refl _ _ | refine below_gw ?_ (by first | exact Nat.le_refl _ | ((repeat (first | rw [World.size_alloc] | rw [World.size_setCell] | rw [World.size_drew] | rw [gw_size])); first | done | omega)) _ | refine Below.alloc ?_ (by first | exact Nat.le_refl _ | ((repeat (first | rw [World.size_alloc] | rw [World.size_setCell] | rw [World.size_drew] | rw [gw_size])); first | done | omega)) _ | refine Below.setCell ?_ (by first | exact Nat.le_refl _ | ((repeat (first | rw [World.size_alloc] | rw [World.size_setCell] | rw [World.size_drew] | rw [gw_size])); first | done | omega)) _ | refine Below.drew ?_))))
end Go.Proofs.Ytgmlabdcfbeijaa

/-
  A word made wide, walked.
-/
namespace Go.Proofs.Ytgmlabdcfbeijaa
set_option linter.unusedSimpArgs false
set_option linter.unusedVariables false
open Go.RowKit
/-- A wide number. -/
abbrev WX (u : Nat) : Value := .agg #[.int .u64 (lm u 0 : Nat), .int .u64 (lm u 1 : Nat), .int .u64 (lm u 2 : Nat), .int .u64 (lm u 3 : Nat), .int .u64 (lm u 4 : Nat), .int .u64 (lm u 5 : Nat), .int .u64 (lm u 6 : Nat), .int .u64 (lm u 7 : Nat)]
theorem lm_high {a : Nat} (h : a < W) (i : Nat) (hi : 4 ≤ i) : lm a i = 0 := by
  unfold lm
  rw [Nat.div_eq_of_lt, Nat.zero_mod]
  refine Nat.lt_of_lt_of_le h ?_
  rw [show W = 18446744073709551616 ^ 4 from rfl]
  exact Nat.pow_le_pow_right (by decide) hi
theorem gw_setRow (w : World) (p : Gro) {b : Nat} (cs : Array Value) (h : b < w.heap.size) : (gw w p).setRow b cs = gw (w.setRow b cs) p := by
  simp only [gw, World.setRow]
  congr 1
  apply Array.ext_getElem?
  intro k
  simp only [Array.getElem?_modify, Array.getElem?_append, Array.size_modify]
  by_cases hk : b = k
  · subst hk; simp [h]
  · simp [hk]
theorem setRow_at (w : World) (c cs : Array Value) (t : TypeId) (n : Nat) (h : n = w.heap.size) : (w.alloc (.cells c t)).setRow n cs = w.alloc (.cells cs t) := by
  subst h
  simp only [World.alloc, World.setRow]
  congr 1
  apply Array.ext_getElem?
  intro k
  simp only [Array.getElem?_modify, Array.getElem?_push]
  by_cases hk : w.heap.size = k
  · subst hk; simp
  · simp [hk, Ne.symm hk]
theorem setRow_past (w : World) (o : Obj) (cs : Array Value) (n : Nat) (h : n < w.heap.size) : (w.alloc o).setRow n cs = (w.setRow n cs).alloc o := by
  simp only [World.alloc, World.setRow]
  congr 1
  apply Array.ext_getElem?
  intro k
  simp only [Array.getElem?_modify, Array.getElem?_push, Array.size_modify]
  by_cases hk : n = k
  · subst hk
    rw [if_pos rfl, if_neg (by omega), if_neg (by omega), if_pos rfl]
  · simp [hk]
theorem block_past (w : World) (o : Obj) (n : Nat) (h : n < w.heap.size) : (w.alloc o).heap[n]? = w.heap[n]? := Below.heap_alloc w o n h
theorem block_at (w : World) (o : Obj) (n : Nat) (h : n = w.heap.size) : (w.alloc o).heap[n]? = some o := by subst h; show (w.heap.push o)[w.heap.size]? = some o; simp
set_option maxHeartbeats 1000000 in
theorem widen_any (a : Nat) (h : a < W) (w : World) : Calls Try.prog 43 #[WV a] w (Ret w (WX a)) := by
  have h4 := lm_high h 4 (by decide)
  have h5 := lm_high h 5 (by decide)
  have h6 := lm_high h 6 (by decide)
  have h7 := lm_high h 7 (by decide)
  unfold WX
  rw [h4, h5, h6, h7]
  clear h4 h5 h6 h7
  have hcp : ∀ (o : Obj) (p : Gro), (Builtin.copy_ #[59, 59] 3 #[.slice (some ⟨w.heap.size + 1 + 1, 0, none⟩) 8 8, .slice (some ⟨w.heap.size, 0, none⟩) 4 4]).run Try.prog
      (gw (((w.alloc (.cells #[.int .u64 (lm a 0 : Nat), .int .u64 (lm a 1 : Nat), .int .u64 (lm a 2 : Nat), .int .u64 (lm a 3 : Nat)] 24)).alloc o).alloc (.cells #[.int .u64 0, .int .u64 0, .int .u64 0, .int .u64 0, .int .u64 0, .int .u64 0, .int .u64 0, .int .u64 0] 46)) p) =
      .ok (goInt 4) (gw (((w.alloc (.cells #[.int .u64 (lm a 0 : Nat), .int .u64 (lm a 1 : Nat), .int .u64 (lm a 2 : Nat), .int .u64 (lm a 3 : Nat)] 24)).alloc o).alloc (.cells #[.int .u64 (lm a 0 : Nat), .int .u64 (lm a 1 : Nat), .int .u64 (lm a 2 : Nat), .int .u64 (lm a 3 : Nat), .int .u64 0, .int .u64 0, .int .u64 0, .int .u64 0] 46)) p) := by
    intro o p
    rw [run_copy_row (P := Try.prog) _ _ _ _ 22 _ _ _ _ _ _ _ #[.int .u64 0, .int .u64 0, .int .u64 0, .int .u64 0, .int .u64 0, .int .u64 0, .int .u64 0, .int .u64 0] 46 [.int .u64 (lm a 0 : Nat), .int .u64 (lm a 1 : Nat), .int .u64 (lm a 2 : Nat), .int .u64 (lm a 3 : Nat)] Try.underlying59 (by kernel_rfl) ?_ rfl ?_ (by simp) (by simp [Value.oneCell'])]
    · rw [gw_setRow _ _ _ (by simp), setRow_at _ _ _ _ _ (by simp)]
      simp
    · rw [gw_block _ _ (by simp), block_at _ _ _ (by simp)]
    · intro j v hj
      have hj4 : j < 4 := by
        have := (List.getElem?_eq_some_iff.1 hj).1
        simpa using this
      have h4 : j = 0 ∨ j = 1 ∨ j = 2 ∨ j = 3 := by omega
      rcases h4 with rfl | rfl | rfl | rfl <;> (simp at hj; subst hj; rw [Addr.add_lit, gw_cell _ _ _ _ (by first | (simp only [World.size_alloc]; omega) | (simp only [gw_size]; omega) | (simp only [World.size_alloc, gw_size]; omega)), World.cell?_alloc_lt _ _ _ (by first | (simp only [World.size_alloc]; omega) | (simp only [gw_size]; omega) | (simp only [World.size_alloc, gw_size]; omega)), World.cell?_alloc_lt _ _ _ (by first | (simp only [World.size_alloc]; omega) | (simp only [gw_size]; omega) | (simp only [World.size_alloc, gw_size]; omega)), World.cell?_alloc_new]; rfl)
  go_enter Try.func43, Try.ntmps43
  go_wp2
  (refine wp_quiet_tail 2 (by kernel_rfl) (by kernel_rfl) (by intro c a d u w h; cases d <;> exact h) ?_; simp only [List.take_succ_cons, List.take_zero, List.drop_succ_cons, List.drop_zero]; (repeat (first | go_big_quiet_step (fail) | quiet_step (fail))); refine wpQuiet_nil ?_; intro p)
  go_wp2
  exact bodyPost_ret (v := .agg #[.int .u64 (lm a 0 : Nat), .int .u64 (lm a 1 : Nat), .int .u64 (lm a 2 : Nat), .int .u64 (lm a 3 : Nat), .int .u64 0, .int .u64 0, .int .u64 0, .int .u64 0]) (by simp [results, Try.results43, go_sem]) rfl (Ret.of' rfl (by (repeat (first | with_reducible exact Below.refl _ _ | refine below_gw ?_ (by first | exact Nat.le_refl _ | ((repeat (first | rw [World.size_alloc] | rw [World.size_setCell] | rw [World.size_drew] | rw [gw_size])); first | done | omega)) _ | refine Below.alloc ?_ (by first | exact Nat.le_refl _ | ((repeat (first | rw [World.size_alloc] | rw [World.size_setCell] | rw [World.size_drew] | rw [gw_size])); first | done | omega)) _ | refine Below.setCell ?_ (by first | exact Nat.le_refl _ | ((repeat (first | rw [World.size_alloc] | rw [World.size_setCell] | rw [World.size_drew] | rw [gw_size])); first | done | omega)) _ | refine Below.drew ?_))))
end Go.Proofs.Ytgmlabdcfbeijaa
