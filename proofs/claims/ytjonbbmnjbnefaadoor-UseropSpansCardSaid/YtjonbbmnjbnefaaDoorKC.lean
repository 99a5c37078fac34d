/-
 Keccak-256: the contract of the code's Sum; the chapter's example by reckoning. No condition.
-/
import Derived.Test.YtjonbbmnjbnefaaDoorK6
import Derived.Test.YtjonbbmnjbnefaaDoorHK
set_option maxRecDepth 10000
set_option linter.unusedVariables false
set_option linter.unusedSimpArgs false
namespace Go.Proofs.YtjonbbmnjbnefaaDoor
open Go.RowKit
def g_kSum (args : List SV) (m : List Blk) : CR :=
 match args with
 | [.nilsl] => match bget m 0, bget m 1 with
  | .ro a0 c0, .ro a1 c1 => .pure (a0 = some ⟨1, 0, none⟩ ∧ c0 = .ints .u64 kKeys ∧ a1 = some ⟨2, 0, none⟩ ∧ c1 = .ints .u8 kPathI) (.word (kSum []))
  | _, _ => .none
 | [x] => match srcC x m, bget m 0, bget m 1 with
  | some (q, k, .ints .u8 xs), .ro a0 c0, .ro a1 c1 => .pure (q ∧ k ≤ 1000000 ∧ allB xs ∧ a0 = some ⟨1, 0, none⟩ ∧ c0 = .ints .u64 kKeys ∧ a1 = some ⟨2, 0, none⟩ ∧ c1 = .ints .u8 kPathI) (.word (kSum xs))
  | _, _, _ => .none
 | _ => .none
theorem g_kSum_ok (w0 : World) (B : List Nat) (args : List SV) (m : List Blk) : CROk Tryd.prog w0 B 100 args m (g_kSum args m) := by
 unfold g_kSum
 split
 ·split
  ·rename_i a0 c0 a1 c1 h0 h1
   intro ⟨r0, r1, r2, r3⟩ w hm
   subst r0 r1 r2 r3
   have hnil : MemOk w [] [.ro none (.ints .u8 [])] w := ro_cons (ro_nil w) (by intro j u hj; simp [cc] at hj)
   have e : cvs [SV.nilsl] = cvs [.sl 2 none 0 0 1 0 0] := rfl
   rw [e]
   exact calls_pure Tryd.func100 rfl rfl (ksum_vc [] none 0 0 rfl (Nat.le_refl _) (Nat.zero_le _) (by intro y hy; cases hy) (.inr ⟨rfl, rfl, rfl⟩) w (ro_front (ro_front hnil (ro_ro hm h1)) (ro_ro hm h0)))
  ·exact trivial
 ·rename_i x _
  split
  ·rename_i q k xs a0 c0 a1 c1 hs h0 h1
   intro ⟨hq, hk, hx, r0, r1, r2, r3⟩ w hm
   subst r0 r1 r2 r3
   obtain ⟨l1, a, cp, e1, b1, m1, d1⟩ := src_ro hs hq hm
   have hl : xs.length = k := by simpa [cc, conEs] using l1
   have e : cvs [x] = cvs [.sl 2 a 0 0 1 k cp] := by simp only [cvs]; rw [e1]; rfl
   rw [e]
   exact calls_pure Tryd.func100 rfl rfl (ksum_vc xs a k cp hl b1 hk hx d1 w (ro_front (ro_front m1 (ro_ro hm h1)) (ro_ro hm h0)))
  ·exact trivial
 ·exact trivial
end Go.Proofs.YtjonbbmnjbnefaaDoor
