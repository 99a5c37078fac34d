/-
 The document's shifts (quaestorref01), walked: Shl, Shr, Sar, Extend, Byte.
-/
import Derived.Test.YthdpgfdfgidokaaDoorR8
import Derived.Test.YthdpgfdfgidokaaDoorR9
set_option maxRecDepth 10000
set_option maxHeartbeats 4000000
set_option linter.defProp false
set_option linter.unusedVariables false
set_option linter.unusedSimpArgs false
namespace Go.Proofs.YthdpgfdfgidokaaDoor
open Go.RowKit
set_option maxRecDepth 8000 in
theorem rshr_vc (n a : Nat) (hn : n < W) (ha : a < W) (w : World) : Calls Tryd.prog 49 (cvs [.word n, .word a]).toArray w (fun en w' => ∃ u, en = .returned u ∧ ∃ v m', u = cv v ∧ MemOk w [] m' w' ∧ v = .word (shdM n a 0)) := by
 have e1 := mv_shd ha n false
 rw [if_neg (by decide)] at e1
 refine Vc.calls T0_ok Tryd.func49 rfl rfl (args := [.word n, .word a]) (k := 8) rfl (MemOk.start _) ?_; change Vc _ _ (c8 (.word n) (.word a) .undef .undef .undef .undef .undef .undef ([.undef, .undef])) _ _
 ((repeat (first | (with_reducible first | refine Vc.seq fun N hN => ?_ | refine Vc.block ?_) | ((with_reducible first | refine Vc.skip ?_ | refine Vc.exit ?_); dsimp only [thenK, blockK, Nat.beq]; (first | (refine hN _ _ ?_; clear hN N) | skip)) | (with_reducible intro _) | ((with_reducible refine And.intro ?_ ?_); (focus (exact sd0))) | ((first | ((with_reducible refine askT_of ?_ (fun hb => ?_)); (focus (exact sd0)); (try simp only [hb])) | ((with_reducible refine Vc.fin ?_); dsimp only [thenK, blockK, retK, resS, resOne, resAll]) | ((with_reducible refine Vc.hold ?_); first | refine Vc.regiont T0_ok GM_ok ?_ | refine Vc.drawt (id := 1) T0_ok GM_ok (by kernel_rfl) [0, 1, 2, 3] 4 [] trivial (by kernel_rfl) ?_)); (try simp only [v8Y, Nat.beq, Nat.ble, seval, v8S, IntKind.bits, tabs, GM_set]); (try simp (disch := omega) only [v8W])) | ((with_reducible refine hN _ _ ?_); clear hN N; (try simp (disch := omega) only [v8W])))); (try ((with_reducible refine Fin.of ?_); (try with_reducible exact True.intro))))
 ((try simp only [v8Y, Nat.beq, Nat.ble, seval, v8S, IntKind.bits, tabs]); (repeat' with_reducible apply And.intro) <;> first | with_reducible exact True.intro | rw [Int.zero_sub, e1] | with_reducible rfl | (congr 1 <;> omega) | trivial)
def g_rShr (args : List SV) (_m : List Blk) : CR := match args with | [.word n, .word a] => .pure (n < W ∧ a < W) (.word (shdM n a 0)) | _ => .none
theorem g_rShr_ok (w0 : World) (B : List Nat) (args : List SV) (m : List Blk) : CROk Tryd.prog w0 B 49 args m (g_rShr args m) := by
 unfold g_rShr; split
 ·rename_i n a; exact fun h w _ => calls_pure Tryd.func49 rfl rfl (rshr_vc n a h.1 h.2 w)
 ·exact trivial
end Go.Proofs.YthdpgfdfgidokaaDoor
