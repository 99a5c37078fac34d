/-
  A number of two parts divided by one part, walked, where the upper part is below the divisor.
-/
import Derived.Test.YtkljpgdcmahenaaW4
import Derived.Deep.DeepCutAuto
import Derived.Deep.CutBlock
namespace Go.Proofs.Ytkljpgdcmahenaa
set_option linter.unusedSimpArgs false
set_option linter.unusedVariables false
open Go.RowKit

theorem bitLenAux_spec : ∀ (f x : Nat), x < 2 ^ f → x < 2 ^ Lib.bitLenAux f x ∧ (x ≠ 0 → 2 ^ (Lib.bitLenAux f x - 1) ≤ x)
  | 0, x, h => by simp at h; subst h; simp [Lib.bitLenAux]
  | f + 1, x, h => by
    simp only [Lib.bitLenAux]
    split
    · rename_i h0; subst h0; simp
    · rename_i h0
      obtain ⟨h1, h2⟩ := bitLenAux_spec f (x / 2) (by rw [Nat.pow_succ] at h; omega)
      refine ⟨by rw [Nat.add_comm, Nat.pow_succ]; omega, fun _ => ?_⟩
      by_cases hx : x / 2 = 0
      · have hz : Lib.bitLenAux f (x / 2) = 0 := by
          rw [hx]; cases f with
          | zero => rfl
          | succ f => simp [Lib.bitLenAux]
        rw [hz]; simp; omega
      · have h3 := h2 hx
        have h4 : 1 ≤ Lib.bitLenAux f (x / 2) := by
          rcases Nat.eq_zero_or_pos (Lib.bitLenAux f (x / 2)) with h5 | h5
          · rw [h5] at h1; simp at h1; omega
          · exact h5
        have e : 1 + Lib.bitLenAux f (x / 2) - 1 = (Lib.bitLenAux f (x / 2) - 1) + 1 := by omega
        rw [e, Nat.pow_succ]; omega
theorem bitLen_spec {y : Nat} (hy : y < 18446744073709551616) : y < 2 ^ Lib.bitLen y ∧ (y ≠ 0 → 2 ^ (Lib.bitLen y - 1) ≤ y) := bitLenAux_spec 64 y hy
theorem bitLen_top {y : Nat} (h : 9223372036854775808 ≤ y) (hy : y < 18446744073709551616) : Lib.bitLen y = 64 := by
  have h1 := bitLen_spec hy
  have h2 := Lib.bitLen_le y 64 (by omega) hy
  have h3 : ¬ Lib.bitLen y ≤ 63 := fun h4 => by
    have h5 : 2 ^ Lib.bitLen y ≤ 2 ^ 63 := Nat.pow_le_pow_right (by decide) h4
    have := h1.1
    omega
  omega

/-! ### Two digits by one -/
/-- What holds of a guess q at a digit, and of what it leaves. -/
structure Gs (u y1 y0 u1 q r : Nat) : Prop where
  ge : (u * 4294967296 + u1) / (y1 * 4294967296 + y0) ≤ q
  le : q ≤ 4294967297
  eq : r + q * y1 = u
  rlt : r < 4294967296
theorem Gs.stop {u y1 y0 u1 q r : Nat} (h : Gs u y1 y0 u1 q r) (_h1 : 0 < y1) (hq : q * y0 ≤ 4294967296 * r + u1) :
    q = (u * 4294967296 + u1) / (y1 * 4294967296 + y0) := by
  refine Nat.le_antisymm ((Nat.le_div_iff_mul_le (by omega)).2 ?_) h.ge
  have e : q * (y1 * 4294967296 + y0) = (q * y1) * 4294967296 + q * y0 := by rw [Nat.mul_add, Nat.mul_assoc]
  have := h.eq
  omega
theorem Gs.more {u y1 y0 u1 q r : Nat} (h : Gs u y1 y0 u1 q r) (_h1 : 0 < y1) (hu : u < y1 * 4294967296 + y0) (h11 : u1 < 4294967296)
    (hq : 4294967296 ≤ q ∨ 4294967296 * r + u1 < q * y0) :
    (u * 4294967296 + u1) / (y1 * 4294967296 + y0) < q := by
  refine (Nat.div_lt_iff_lt_mul (by omega)).2 ?_
  have e : q * (y1 * 4294967296 + y0) = (q * y1) * 4294967296 + q * y0 := by rw [Nat.mul_add, Nat.mul_assoc]
  have h2 := h.eq
  rcases hq with hq | hq
  · have h3 : 4294967296 * (y1 * 4294967296 + y0) ≤ q * (y1 * 4294967296 + y0) := Nat.mul_le_mul_right _ hq
    omega
  · omega
theorem Gs.next {u y1 y0 u1 q r : Nat} (h : Gs u y1 y0 u1 q r) (hq : (u * 4294967296 + u1) / (y1 * 4294967296 + y0) < q) (hr : r + y1 < 4294967296) :
    Gs u y1 y0 u1 (q - 1) (r + y1) := by
  have h2 := h.eq
  have h3 := h.le
  have hq0 : 0 < q := Nat.lt_of_le_of_lt (Nat.zero_le _) hq
  obtain ⟨p, rfl⟩ : ∃ p, q = p + 1 := ⟨q - 1, by clear hq; omega⟩
  exact ⟨Nat.le_of_lt_succ hq, by clear hq; omega, by clear hq; rw [Nat.add_mul] at h2; simp; omega, hr⟩
theorem Gs.brk {u y1 y0 u1 q r : Nat} (h : Gs u y1 y0 u1 q r) (_h1 : 0 < y1) (h0 : y0 < 4294967296) (hq : (u * 4294967296 + u1) / (y1 * 4294967296 + y0) < q) (hr : 4294967296 ≤ r + y1) :
    q - 1 = (u * 4294967296 + u1) / (y1 * 4294967296 + y0) := by
  refine Nat.le_antisymm ((Nat.le_div_iff_mul_le (by omega)).2 ?_) (Nat.le_sub_one_of_lt hq)
  have h2 := h.eq
  have h3 := h.le
  have hq0 : 0 < q := Nat.lt_of_le_of_lt (Nat.zero_le _) hq
  obtain ⟨p, rfl⟩ : ∃ p, q = p + 1 := ⟨q - 1, by clear hq; omega⟩
  clear hq
  have e : p * (y1 * 4294967296 + y0) = (p * y1) * 4294967296 + p * y0 := by rw [Nat.mul_add, Nat.mul_assoc]
  have e2 : p * y0 ≤ 4294967296 * 4294967295 := Nat.mul_le_mul (by omega) (by omega)
  rw [Nat.add_mul] at h2
  simp only [Nat.add_sub_cancel]
  omega
theorem Gs.start {u y1 y0 u1 : Nat} (h1 : 2147483648 ≤ y1) (h1b : y1 < 4294967296) (h0 : y0 < 4294967296) (hu : u < y1 * 4294967296 + y0) (h11 : u1 < 4294967296) : Gs u y1 y0 u1 (u / y1) (u % y1) := by
  have e := Nat.div_add_mod u y1
  have hm := Nat.mod_lt u (by omega : 0 < y1)
  refine ⟨?_, ?_, by rw [Nat.mul_comm]; omega, by omega⟩
  · refine (Nat.le_div_iff_mul_le (by omega)).2 ?_
    have h2 := Nat.div_mul_le_self (u * 4294967296 + u1) (y1 * 4294967296 + y0)
    generalize (u * 4294967296 + u1) / (y1 * 4294967296 + y0) = q at *
    rw [Nat.mul_add, ← Nat.mul_assoc] at h2
    omega
  · refine Nat.lt_succ_iff.1 ((Nat.div_lt_iff_lt_mul (by omega)).2 ?_)
    omega
theorem lz_top {y : Nat} (h : 9223372036854775808 ≤ y) (hy : y < 18446744073709551616) (w : World) :
    Calls Try.prog 89 #[.int .u64 y] w fun e w' => e = .returned (.int .i64 0) ∧ w' = w := by
  have h1 := Try.bits_LeadingZeros64 (y : Int) w (by omega) (by omega)
  rw [Int.toNat_natCast, bitLen_top h hy] at h1
  exact h1
theorem rest_arith {y q u h l1 : Nat} (hN : y * q + u = h * 4294967296 + l1) (hu : u < y) (hy : y < 18446744073709551616) : ∃ z1 z2 z3 : Nat,
    IntKind.u64.wrap ((h : Int) * 4294967296) = (z1 : Int) ∧ IntKind.u64.wrap ((z1 : Int) + (l1 : Int)) = (z2 : Int) ∧
    IntKind.u64.wrap ((q : Int) * (y : Int)) = (z3 : Int) ∧ IntKind.u64.wrap ((z2 : Int) - (z3 : Int)) = (u : Int) := by
  refine ⟨h * 4294967296 % 18446744073709551616, (h * 4294967296 + l1) % 18446744073709551616, y * q % 18446744073709551616, ?_, ?_, ?_, ?_⟩
  · rw [IntKind.wrap_u64]; omega
  · rw [IntKind.wrap_u64]; omega
  · rw [IntKind.wrap_u64, Int.mul_comm, ← Int.natCast_mul]; omega
  · rw [IntKind.wrap_u64]; omega
theorem and32 (z : Nat) (h : z < 18446744073709551616) : bits .and .u64 (z : Int) 4294967295 = ((z % 4294967296 : Nat) : Int) := by
  have h1 := bits_and_u64_nat z 4294967295 h (by omega)
  rw [show z &&& 4294967295 = z % 4294967296 from Nat.and_two_pow_sub_one_eq_mod z 32] at h1
  exact h1
set_option maxHeartbeats 1000000 in
set_option maxRecDepth 100000 in
theorem div64_top (h l y : Nat) (hy : 9223372036854775808 ≤ y) (hy2 : y < 18446744073709551616) (hh : h < y) (h0 : 0 < h) (hl : l < 18446744073709551616) (qq rr : Nat)
    (hqq : qq = (h * 18446744073709551616 + l) / y) (hrr : rr = (h * 18446744073709551616 + l) % y) (w : World) :
    Calls Try.prog 94 #[.int .u64 h, .int .u64 l, .int .u64 y] w (Ret w (.tuple #[.int .u64 (qq : Nat), .int .u64 (rr : Nat)])) := by
  have HQQ := Lib.hid hqq
  have HRR := Lib.hid hrr
  clear hqq hrr
  have e0 : ((y : Int) == 0) = false := by rw [beq_eq_false_iff_ne]; omega
  have e1 : decide ((y : Int) ≤ (h : Int)) = false := by simp; omega
  have e2 : ((h : Int) == 0) = false := by rw [beq_eq_false_iff_ne]; omega
  have LZ := Lib.hid (lz_top hy hy2)
  have f2 := and32 y hy2
  have f6 := and32 l hl
  have f3 : (l : Int) / 18446744073709551616 = 0 := by omega
  have f4 : bits .or .u64 (h : Int) 0 = (h : Int) := by
    have := or_u64 (x := h) (y := 0) (by omega) (by omega)
    simpa using this
  have f1 : (y : Int) / 4294967296 = ((y / 4294967296 : Nat) : Int) := by omega
  have f5 : (l : Int) / 4294967296 = ((l / 4294967296 : Nat) : Int) := by omega
  obtain ⟨y1, hy1⟩ : ∃ y1, y1 = y / 4294967296 := ⟨_, rfl⟩
  obtain ⟨y0, hy0⟩ : ∃ y0, y0 = y % 4294967296 := ⟨_, rfl⟩
  obtain ⟨l1, hl1⟩ : ∃ l1, l1 = l / 4294967296 := ⟨_, rfl⟩
  obtain ⟨l0, hl0⟩ : ∃ l0, l0 = l % 4294967296 := ⟨_, rfl⟩
  rw [← hy1] at f1; rw [← hy0] at f2; rw [← hl1] at f5; rw [← hl0] at f6
  have ey : y = y1 * 4294967296 + y0 := by omega
  have el : l = l1 * 4294967296 + l0 := by omega
  have b1 : 2147483648 ≤ y1 := by omega
  have b2 : y1 < 4294967296 := by omega
  have b3 : y0 < 4294967296 := by omega
  have b4 : l1 < 4294967296 := by omega
  have b5 : l0 < 4294967296 := by omega
  have EY := Lib.hid ey
  have EL := Lib.hid el
  clear hy1 hy0 hl1 hl0 ey el
  have g0 := Gs.start (u1 := l1) b1 b2 b3 (by rw [← EY.out]; exact hh) b4
  have dm := Nat.div_add_mod h y1
  have f7 : (h : Int).tdiv (y1 : Int) = ((h / y1 : Nat) : Int) := by rw [Int.tdiv_eq_ediv_of_nonneg (by omega)]; rfl
  have f8 : IntKind.u64.wrap ((h / y1 : Nat) : Int) = ((h / y1 : Nat) : Int) := by
    rw [IntKind.wrap_u64]; have := g0.le; clear g0; generalize h / y1 = q at *; omega
  have f9 : IntKind.u64.wrap (((h / y1 : Nat) : Int) * (y1 : Int)) = ((h / y1 * y1 : Nat) : Int) := by
    rw [IntKind.wrap_u64, ← Int.natCast_mul]; have := Nat.div_mul_le_self h y1; omega
  have f10 : IntKind.u64.wrap ((h : Int) - ((h / y1 * y1 : Nat) : Int)) = ((h % y1 : Nat) : Int) := by
    rw [IntKind.wrap_u64]; rw [Nat.mul_comm] at dm; omega
  have G0 := Lib.hid g0
  clear g0 dm
  generalize h / y1 = q0 at *
  generalize h % y1 = r0 at *
  generalize q0 * y1 = m0 at *
  go_enter Try.func94, Try.ntmps94
  go_upto_block 0 with (go_at_call 89; (with_reducible refine calls_same (LZ.out _) ?_))
  go_cut [15] (fun s wx => s = .int .u64 ((h * 4294967296 + l1) / (y1 * 4294967296 + y0) : Nat) ∧ w = wx)
  case first =>
    go_wp2
    go_loop [15, 16] (fun q r => ∃ Q R : Nat, q = .int .u64 Q ∧ r = .int .u64 R ∧ Gs h y1 y0 l1 Q R) (fun q _ => (intOf q).toNat)
    case atStart => exact ⟨q0, r0, rfl, rfl, G0.out⟩
    case round =>
      obtain ⟨Q, R, rfl, rfl, hG⟩ := hrel
      have hQ := hG.le
      have hR := hG.rlt
      have HG := Lib.hid hG
      clear hG f7 f8 f9 f10
      by_cases hcont : 4294967296 ≤ Q ∨ 4294967296 * R + l1 < Q * y0
      · have hgt := HG.out.more (by omega) (by rw [← EY.out]; exact hh) b4 hcont
        have hQ0 : 0 < Q := Nat.lt_of_le_of_lt (Nat.zero_le _) hgt
        have HGT := Lib.hid hgt
        clear hgt e0 e1 e2 LZ f1 f2 f3 f4 f5 f6 hy hy2 hh hl
        by_cases hb : R + y1 < 4294967296
        · have j1 : (R : Int) + (y1 : Int) < 4294967296 := by omega
          have j2 : ¬ ((4294967296 : Int) ≤ (R : Int) + (y1 : Int)) := by omega
          have HN := Lib.hid (HG.out.next HGT.out hb)
          by_cases hA : 4294967296 ≤ Q
          · clear hcont
            have i1 : ¬ ((Q : Int) < 4294967296) := by omega
            have i2 : (4294967296 : Int) ≤ (Q : Int) := by omega
            go_wp2
            go_round
            case rel => exact ⟨Q - 1, R + y1, by go_num, by go_num, HN.out⟩
            case measure => simp [intOf]; omega
          · have hC : 4294967296 * R + l1 < Q * y0 := hcont.resolve_left hA
            have hm : Q * y0 ≤ 4294967295 * 4294967295 := Nat.mul_le_mul (by omega) (by omega)
            have hp : IntKind.u64.wrap ((Q : Int) * (y0 : Int)) = ((Q * y0 : Nat) : Int) := by rw [IntKind.wrap_u64, ← Int.natCast_mul]; omega
            clear hcont
            generalize Q * y0 = m at *
            have i1 : (Q : Int) < 4294967296 := by omega
            have i2 : ¬ ((4294967296 : Int) ≤ (Q : Int)) := by omega
            have i3 : 4294967296 * (R : Int) + (l1 : Int) < (m : Int) := by omega
            have i4 : ¬ ((m : Int) ≤ 4294967296 * (R : Int) + (l1 : Int)) := by omega
            go_wp2
            go_round
            case rel => exact ⟨Q - 1, R + y1, by go_num, by go_num, HN.out⟩
            case measure => simp [intOf]; omega
        · have j1 : ¬ ((R : Int) + (y1 : Int) < 4294967296) := by omega
          have j2 : (4294967296 : Int) ≤ (R : Int) + (y1 : Int) := by omega
          have HN := Lib.hid (HG.out.brk (by omega) b3 HGT.out (by omega))
          by_cases hA : 4294967296 ≤ Q
          · clear hcont
            have i1 : ¬ ((Q : Int) < 4294967296) := by omega
            have i2 : (4294967296 : Int) ≤ (Q : Int) := by omega
            go_wp2
            go_meet
            exact ⟨by rw [← HN.out]; go_num, rfl⟩
          · have hC : 4294967296 * R + l1 < Q * y0 := hcont.resolve_left hA
            have hm : Q * y0 ≤ 4294967295 * 4294967295 := Nat.mul_le_mul (by omega) (by omega)
            have hp : IntKind.u64.wrap ((Q : Int) * (y0 : Int)) = ((Q * y0 : Nat) : Int) := by rw [IntKind.wrap_u64, ← Int.natCast_mul]; omega
            clear hcont
            generalize Q * y0 = m at *
            have i1 : (Q : Int) < 4294967296 := by omega
            have i2 : ¬ ((4294967296 : Int) ≤ (Q : Int)) := by omega
            have i3 : 4294967296 * (R : Int) + (l1 : Int) < (m : Int) := by omega
            have i4 : ¬ ((m : Int) ≤ 4294967296 * (R : Int) + (l1 : Int)) := by omega
            go_wp2
            go_meet
            exact ⟨by rw [← HN.out]; go_num, rfl⟩
      · have hA : Q < 4294967296 := by omega
        have hC : Q * y0 ≤ 4294967296 * R + l1 := by omega
        have hm : Q * y0 ≤ 4294967295 * 4294967295 := Nat.mul_le_mul (by omega) (by omega)
        have hp : IntKind.u64.wrap ((Q : Int) * (y0 : Int)) = ((Q * y0 : Nat) : Int) := by rw [IntKind.wrap_u64, ← Int.natCast_mul]; omega
        have HN := Lib.hid (HG.out.stop (by omega) hC)
        clear hcont e0 e1 e2 LZ f1 f2 f3 f4 f5 f6 hy hy2 hh hl
        generalize Q * y0 = m at *
        have i1 : (Q : Int) < 4294967296 := by omega
        have i2 : ¬ ((4294967296 : Int) ≤ (Q : Int)) := by omega
        have i3 : ¬ (4294967296 * (R : Int) + (l1 : Int) < (m : Int)) := by omega
        have i4 : (m : Int) ≤ 4294967296 * (R : Int) + (l1 : Int) := by omega
        go_wp2
        go_meet
        exact ⟨by rw [← HN.out], rfl⟩
  case rest =>
    obtain ⟨hs, hw⟩ := hcut
    subst hs
    subst hw
    have n1 := Nat.div_add_mod (h * 4294967296 + l1) (y1 * 4294967296 + y0)
    have n2 := Nat.mod_lt (h * 4294967296 + l1) (show 0 < y1 * 4294967296 + y0 by omega)
    have n3 : (h * 4294967296 + l1) / (y1 * 4294967296 + y0) < 4294967296 := by
      refine (Nat.div_lt_iff_lt_mul (by omega)).2 ?_
      have := EY.out
      omega
    rw [← EY.out] at n1 n2 n3 ⊢
    clear f7 f8 f9 f10 G0
    obtain ⟨Q1, hQ1⟩ : ∃ Q1, Q1 = (h * 4294967296 + l1) / y := ⟨_, rfl⟩
    obtain ⟨u2, hu⟩ : ∃ u2, u2 = (h * 4294967296 + l1) % y := ⟨_, rfl⟩
    have HQ1 := Lib.hid hQ1
    have HU2 := Lib.hid hu
    rw [← hQ1] at n1 n3 ⊢
    rw [← hu] at n1 n2
    clear hQ1 hu
    have hu2 : u2 < y := n2
    obtain ⟨z1, z2, z3, k1, k2, k3, k4⟩ := rest_arith n1 n2 hy2
    have N1 := Lib.hid n1
    clear n1 n2
    have g0 := Gs.start (u1 := l0) b1 b2 b3 (by rw [← EY.out]; exact hu2) b5
    have dm := Nat.div_add_mod u2 y1
    have t7 : (u2 : Int).tdiv (y1 : Int) = ((u2 / y1 : Nat) : Int) := by rw [Int.tdiv_eq_ediv_of_nonneg (by omega)]; rfl
    have t8 : IntKind.u64.wrap ((u2 / y1 : Nat) : Int) = ((u2 / y1 : Nat) : Int) := by
      rw [IntKind.wrap_u64]; have := g0.le; clear g0; generalize u2 / y1 = q at *; omega
    have t9 : IntKind.u64.wrap (((u2 / y1 : Nat) : Int) * (y1 : Int)) = ((u2 / y1 * y1 : Nat) : Int) := by
      rw [IntKind.wrap_u64, ← Int.natCast_mul]; have := Nat.div_mul_le_self u2 y1; omega
    have t10 : IntKind.u64.wrap ((u2 : Int) - ((u2 / y1 * y1 : Nat) : Int)) = ((u2 % y1 : Nat) : Int) := by
      rw [IntKind.wrap_u64]; rw [Nat.mul_comm] at dm; omega
    have G0 := Lib.hid g0
    clear g0 dm
    generalize u2 / y1 = q0 at *
    generalize u2 % y1 = r0 at *
    generalize q0 * y1 = m0 at *
    go_upto_block 2 with fail
    go_cut [18] (fun s wx => s = .int .u64 ((u2 * 4294967296 + l0) / (y1 * 4294967296 + y0) : Nat) ∧ w = wx)
    case first =>
      go_wp2
      go_loop [18, 16] (fun q r => ∃ Q R : Nat, q = .int .u64 Q ∧ r = .int .u64 R ∧ Gs u2 y1 y0 l0 Q R) (fun q _ => (intOf q).toNat)
      case atStart => exact ⟨q0, r0, rfl, rfl, G0.out⟩
      case round =>
        obtain ⟨Q, R, rfl, rfl, hG⟩ := hrel
        have hQ := hG.le
        have hR := hG.rlt
        have HG := Lib.hid hG
        clear hG t7 t8 t9 t10
        by_cases hcont : 4294967296 ≤ Q ∨ 4294967296 * R + l0 < Q * y0
        · have hgt := HG.out.more (by omega) (by rw [← EY.out]; exact hu2) b5 hcont
          have hQ0 : 0 < Q := Nat.lt_of_le_of_lt (Nat.zero_le _) hgt
          have HGT := Lib.hid hgt
          clear hgt e0 e1 e2 LZ f1 f2 f3 f4 f5 f6 hy hy2 hh hl hu2
          by_cases hb : R + y1 < 4294967296
          · have j1 : (R : Int) + (y1 : Int) < 4294967296 := by omega
            have j2 : ¬ ((4294967296 : Int) ≤ (R : Int) + (y1 : Int)) := by omega
            have HN := Lib.hid (HG.out.next HGT.out hb)
            by_cases hA : 4294967296 ≤ Q
            · clear hcont
              have i1 : ¬ ((Q : Int) < 4294967296) := by omega
              have i2 : (4294967296 : Int) ≤ (Q : Int) := by omega
              go_wp2
              go_round
              case rel => exact ⟨Q - 1, R + y1, by go_num, by go_num, HN.out⟩
              case measure => simp [intOf]; omega
            · have hC : 4294967296 * R + l0 < Q * y0 := hcont.resolve_left hA
              have hm : Q * y0 ≤ 4294967295 * 4294967295 := Nat.mul_le_mul (by omega) (by omega)
              have hp : IntKind.u64.wrap ((Q : Int) * (y0 : Int)) = ((Q * y0 : Nat) : Int) := by rw [IntKind.wrap_u64, ← Int.natCast_mul]; omega
              clear hcont
              generalize Q * y0 = m at *
              have i1 : (Q : Int) < 4294967296 := by omega
              have i2 : ¬ ((4294967296 : Int) ≤ (Q : Int)) := by omega
              have i3 : 4294967296 * (R : Int) + (l0 : Int) < (m : Int) := by omega
              have i4 : ¬ ((m : Int) ≤ 4294967296 * (R : Int) + (l0 : Int)) := by omega
              go_wp2
              go_round
              case rel => exact ⟨Q - 1, R + y1, by go_num, by go_num, HN.out⟩
              case measure => simp [intOf]; omega
          · have j1 : ¬ ((R : Int) + (y1 : Int) < 4294967296) := by omega
            have j2 : (4294967296 : Int) ≤ (R : Int) + (y1 : Int) := by omega
            have HN := Lib.hid (HG.out.brk (by omega) b3 HGT.out (by omega))
            by_cases hA : 4294967296 ≤ Q
            · clear hcont
              have i1 : ¬ ((Q : Int) < 4294967296) := by omega
              have i2 : (4294967296 : Int) ≤ (Q : Int) := by omega
              go_wp2
              go_meet
              exact ⟨by rw [← HN.out]; go_num, rfl⟩
            · have hC : 4294967296 * R + l0 < Q * y0 := hcont.resolve_left hA
              have hm : Q * y0 ≤ 4294967295 * 4294967295 := Nat.mul_le_mul (by omega) (by omega)
              have hp : IntKind.u64.wrap ((Q : Int) * (y0 : Int)) = ((Q * y0 : Nat) : Int) := by rw [IntKind.wrap_u64, ← Int.natCast_mul]; omega
              clear hcont
              generalize Q * y0 = m at *
              have i1 : (Q : Int) < 4294967296 := by omega
              have i2 : ¬ ((4294967296 : Int) ≤ (Q : Int)) := by omega
              have i3 : 4294967296 * (R : Int) + (l0 : Int) < (m : Int) := by omega
              have i4 : ¬ ((m : Int) ≤ 4294967296 * (R : Int) + (l0 : Int)) := by omega
              go_wp2
              go_meet
              exact ⟨by rw [← HN.out]; go_num, rfl⟩
        · have hA : Q < 4294967296 := by omega
          have hC : Q * y0 ≤ 4294967296 * R + l0 := by omega
          have hm : Q * y0 ≤ 4294967295 * 4294967295 := Nat.mul_le_mul (by omega) (by omega)
          have hp : IntKind.u64.wrap ((Q : Int) * (y0 : Int)) = ((Q * y0 : Nat) : Int) := by rw [IntKind.wrap_u64, ← Int.natCast_mul]; omega
          have HN := Lib.hid (HG.out.stop (by omega) hC)
          clear hcont e0 e1 e2 LZ f1 f2 f3 f4 f5 f6 hy hy2 hh hl hu2
          generalize Q * y0 = m at *
          have i1 : (Q : Int) < 4294967296 := by omega
          have i2 : ¬ ((4294967296 : Int) ≤ (Q : Int)) := by omega
          have i3 : ¬ (4294967296 * (R : Int) + (l0 : Int) < (m : Int)) := by omega
          have i4 : (m : Int) ≤ 4294967296 * (R : Int) + (l0 : Int) := by omega
          go_wp2
          go_meet
          exact ⟨by rw [← HN.out], rfl⟩

    case rest =>
      obtain ⟨hs, hw⟩ := hcut
      subst hs
      subst hw
      have n1 := Nat.div_add_mod (u2 * 4294967296 + l0) (y1 * 4294967296 + y0)
      have n2 := Nat.mod_lt (u2 * 4294967296 + l0) (show 0 < y1 * 4294967296 + y0 by omega)
      have n4 : (u2 * 4294967296 + l0) / (y1 * 4294967296 + y0) < 4294967296 := by
        refine (Nat.div_lt_iff_lt_mul (by omega)).2 ?_
        have := EY.out
        omega
      rw [← EY.out] at n1 n2 n4 ⊢
      clear t7 t8 t9 t10 G0
      obtain ⟨Q2, hQ2⟩ : ∃ Q2, Q2 = (u2 * 4294967296 + l0) / y := ⟨_, rfl⟩
      obtain ⟨u3, hu⟩ : ∃ u3, u3 = (u2 * 4294967296 + l0) % y := ⟨_, rfl⟩
      rw [← hQ2] at n1 n4 ⊢
      rw [← hu] at n1 n2
      clear hQ2 hu
      obtain ⟨v1, v2, v3, m1, m2, m3, m4⟩ := rest_arith n1 n2 hy2
      have hfin : qq = Q1 * 4294967296 + Q2 ∧ rr = u3 := by
        have e1 := HQQ.out
        have e2 := HRR.out
        have e3 := EL.out
        have e4 := N1.out
        have e5 : h * 18446744073709551616 + l = u3 + y * (Q1 * 4294967296 + Q2) := by
          rw [Nat.mul_add, ← Nat.mul_assoc]; omega
        rw [e1, e2, e5]
        constructor
        · rw [Nat.add_mul_div_left _ _ (by omega), Nat.div_eq_of_lt n2, Nat.zero_add]
        · rw [Nat.add_mul_mod_self_left, Nat.mod_eq_of_lt n2]
      obtain ⟨hq9, hr9⟩ := hfin
      have hq10 : ((qq : Nat) : Int) = (Q1 : Int) * 4294967296 + (Q2 : Int) := by omega
      have H9 := Lib.hid hr9
      have H10 := Lib.hid hq10
      clear n1 n2 hq9 hr9 hq10 HQQ HRR hu2 f1 f2 f3 f4 f5 f6 e0 e1 e2 k1 k2 k3 k4
      go_wp2
      rw [H9.out, H10.out]
      exact bodyPost_ret (v := .tuple #[.int .u64 ((Q1 : Int) * 4294967296 + (Q2 : Int)), .int .u64 (u3 : Nat)]) (by simp [results, Try.results94, go_sem]) rfl (Ret.of' rfl (by (repeat (first | with_reducible exact Below.refl _ _ | refine below_gw ?_ (by first | exact Nat.le_refl _ | ((repeat (first | rw [World.size_alloc] | rw [World.size_setCell] | rw [World.size_drew] | rw [gw_size])); first | done | omega)) _ | refine Below.alloc ?_ (by first | exact Nat.le_refl _ | ((repeat (first | rw [World.size_alloc] | rw [World.size_setCell] | rw [World.size_drew] | rw [gw_size])); first | done | omega)) _ | refine Below.setCell ?_ (by first | exact Nat.le_refl _ | ((repeat (first | rw [World.size_alloc] | rw [World.size_setCell] | rw [World.size_drew] | rw [gw_size])); first | done | omega)) _ | refine Below.drew ?_))))
set_option maxHeartbeats 1000000 in
theorem div64_any (h l y : Nat) (hy : 9223372036854775808 ≤ y) (hy2 : y < 18446744073709551616) (hh : h < y) (hl : l < 18446744073709551616) (w : World) :
    Calls Try.prog 94 #[.int .u64 h, .int .u64 l, .int .u64 y] w (Ret w (.tuple #[.int .u64 ((h * 18446744073709551616 + l) / y : Nat), .int .u64 ((h * 18446744073709551616 + l) % y : Nat)])) := by
  by_cases h1 : 0 < h
  · exact div64_top h l y hy hy2 hh h1 hl _ _ rfl rfl w
  · have hz : h = 0 := by omega
    subst hz
    rw [Nat.zero_mul, Nat.zero_add]
    have e0 : ((y : Int) == 0) = false := by rw [beq_eq_false_iff_ne]; omega
    have e00 : (y : Int) ≠ 0 := by omega
    have e1 : decide ((y : Int) ≤ 0) = false := by simp; omega
    have t1 : (l : Int).tdiv (y : Int) = ((l / y : Nat) : Int) := by rw [Int.tdiv_eq_ediv_of_nonneg (by omega)]; rfl
    have t2 : (l : Int).tmod (y : Int) = ((l % y : Nat) : Int) := by rw [Int.tmod_eq_emod_of_nonneg (by omega)]; rfl
    have t3 : IntKind.u64.wrap ((l / y : Nat) : Int) = ((l / y : Nat) : Int) := by
      rw [IntKind.wrap_u64]; have := Nat.div_le_self l y; generalize l / y = q at *; omega
    have t4 : IntKind.u64.wrap ((l % y : Nat) : Int) = ((l % y : Nat) : Int) := by
      rw [IntKind.wrap_u64]; have := Nat.mod_le l y; generalize l % y = q at *; omega
    generalize l / y = q at *
    generalize l % y = r at *
    go_enter Try.func94, Try.ntmps94
    go_wp2
    (refine wp_quiet (by kernel_rfl) (by kernel_rfl) ?_; (repeat (first | go_big_quiet_step (fail) | quiet_step (fail))); refine wpQuiet_nil ?_; intro p)
    go_wp2
    exact bodyPost_ret (v := .tuple #[.int .u64 (q : Nat), .int .u64 (r : Nat)]) (by simp [results, Try.results94, go_sem]) rfl (Ret.of' rfl (by (repeat (first | with_reducible exact Below.refl _ _ | refine below_gw ?_ (by first | exact Nat.le_refl _ | ((repeat (first | rw [World.size_alloc] | rw [World.size_setCell] | rw [World.size_drew] | rw [gw_size])); first | done | omega)) _ | refine Below.alloc ?_ (by first | exact Nat.le_refl _ | ((repeat (first | rw [World.size_alloc] | rw [World.size_setCell] | rw [World.size_drew] | rw [gw_size])); first | done | omega)) _ | refine Below.setCell ?_ (by first | exact Nat.le_refl _ | ((repeat (first | rw [World.size_alloc] | rw [World.size_setCell] | rw [World.size_drew] | rw [gw_size])); first | done | omega)) _ | refine Below.drew ?_))))
end Go.Proofs.Ytkljpgdcmahenaa
