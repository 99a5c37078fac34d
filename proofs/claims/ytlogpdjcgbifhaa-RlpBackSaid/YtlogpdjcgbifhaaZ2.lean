/-
  RLP: appendItem of what is no list, behind one's own bytes, walked. No condition.
-/
import Derived.Test.YtlogpdjcgbifhaaPR
import Derived.Test.YtlogpdjcgbifhaaZ1
namespace Go.Proofs.Ytlogpdjcgbifhaa
set_option linter.unusedSimpArgs false
set_option linter.unusedVariables false
set_option maxHeartbeats 4000000
open Go.RowKit
/-- Blocks that are there and not turned. -/
def HB (w : World) (B : List Nat) (b : Nat) (o : Obj) : Prop := w.heap[b]? = some o ∧ b ∉ B
def oldOut (w : World) (B : List Nat) : Blk := .old fun b => if b ∈ B then none else w.heap[b]?
theorem oldOut_hm {w : World} {B : List Nat} {m : List Blk} (hin : oldOut w B ∈ m) : ∀ b o, HB w B b o → HM m b o := fun b o h => ⟨_, hin, by
  show (if b ∈ B then none else w.heap[b]?) = some o
  rw [if_neg h.2]; exact h.1⟩
theorem old_out {w : World} {B : List Nat} {m : List Blk} (h : MemOk w B m w) : MemOk w B (m ++ [oldOut w B]) w :=
  h.push (grown_refl w) (fun b o hb => by
    replace hb : (if b ∈ B then none else w.heap[b]?) = some o := hb
    split at hb
    · cases hb
    · rename_i hB
      exact ⟨hb, (Array.getElem?_eq_some_iff.1 hb).1, hB⟩) (fun b hb => by simp [oldOut, Blk.nums] at hb) (by simp [oldOut, Blk.nums])
theorem txR_rev (bs : List Int) (ks : List Itm) : txR bs = (enc (.mk false bs ks)).reverse := by rw [← txR_enc bs ks, List.reverse_reverse]
set_option maxRecDepth 20000 in
theorem apItO_vc (a : Option Addr) (n c : Nat) (bs ys : List Int) (v : Value) (k : SV) (ks : List Itm) (hl : bs.length = n) (hn : n ≤ c) (ha : adr a n c) (hb : n ≤ 70000000) (hy : ys.length ≤ 140737400000000) (w : World) (B : List Nat) (hL : LiesH (HB w B) a (cc (.ints .u8 bs)))
    (hm : MemOk w B [.own v ys.length 5 1 (.ints .u8 ys)] w) :
    Calls Try.prog 21 (cvs [.own 0 v ys.length, .agg [.bool false, .gh a n c (.ints .u8 bs), k]]).toArray w (ApR 5 .u8 w B (ys ++ (enc (.mk false bs ks)).reverse)) := by
  have hLx : ∀ m, oldOut w B ∈ m → LiesH (HM m) a (cc (.ints .u8 bs)) := fun m hin => hL.mono (oldOut_hm hin)
  have utt : bs.take n = bs := List.take_of_length_le (by omega)
  have hm2 : MemOk w B [.own v ys.length 5 1 (.ints .u8 ys), oldOut w B] w := old_out hm
  rw [← txR_rev]
  refine Vc.calls T0_ok Try.func21 rfl rfl (args := [.own 0 v ys.length, .agg [.bool false, .gh a n c (.ints .u8 bs), k]]) (k := 29) rfl hm2 ?_; change Vc _ _ (c8 (.own 0 v ys.length) (.agg [.bool false, .gh a n c (.ints .u8 bs), k]) .undef .undef .undef .undef .undef .undef (c8 .undef .undef .undef .undef .undef .undef .undef .undef (c8 .undef .undef .undef .undef .undef .undef .undef .undef ([.undef, .undef, .undef, .undef, .undef, .undef, .undef])))) _ _
  ((repeat (first | (with_reducible refine Vc.seq fun N hN => ?_) | (with_reducible refine Vc.block ?_) | ((first | with_reducible refine Vc.skip ?_ | with_reducible refine Vc.exit ?_); dsimp only [thenK, blockK, Nat.beq]; (first | (refine hN _ _ ?_; clear hN N) | skip)) | (with_reducible intro _) | ((with_reducible refine And.intro ?_ ?_); (focus (first | exact sideQ | exact sd0))) | ((first | ((with_reducible refine askT_of ?_ (fun hb => ?_)); (focus (first | exact sideQ | exact sd0)); (try simp only [hb])) | ((with_reducible refine Vc.fin ?_); dsimp only [thenK, blockK, retK, resS, resOne, resAll]) | ((with_reducible refine Vc.hold ?_); first | refine Vc.regiont T0_ok GPR_ok ?_)); (try simp only [v8X, v8A, v8B, v8C, Nat.beq, Nat.ble, Int.reduceToNat, Int.reduceLE, Int.reduceLT, Nat.reduceLT, Nat.reduceLeDiff, Nat.reduceAdd, Nat.reduceMul, Nat.reduceSub, Int.reduceAdd, Int.reduceSub, Int.reduceMul, eq_self, decide_true, beq_self_eq_true, List.length_cons, List.length_nil, Nat.min_eq_left, IntKind.bits, tabs, GPR_set]); (try simp (disch := omega) only [v8W])) | ((with_reducible refine hN _ _ ?_); clear hN N; (try simp (disch := omega) only [v8W])))); (try ((with_reducible refine Fin.of ?_); (try with_reducible exact True.intro))))
  (refine Vc.cond T0_ok (t := true) (by rfl) (fun _ => ?_) (fun h => Bool.noConfusion h))
  ((repeat (first | (with_reducible refine Vc.seq fun N hN => ?_) | (with_reducible refine Vc.block ?_) | ((first | with_reducible refine Vc.skip ?_ | with_reducible refine Vc.exit ?_); dsimp only [thenK, blockK, Nat.beq]; (first | (refine hN _ _ ?_; clear hN N) | skip)) | (with_reducible intro _) | ((with_reducible refine And.intro ?_ ?_); (focus (first | ((repeat' with_reducible apply And.intro) <;> first | exact sideQ | (exact hLx _ (List.mem_cons_of_mem _ List.mem_cons_self)) | (simp [noAlias]; done)) | exact sd0))) | ((first | ((with_reducible refine askT_of ?_ (fun hb => ?_)); (focus (first | ((repeat' with_reducible apply And.intro) <;> first | exact sideQ | (exact hLx _ (List.mem_cons_of_mem _ List.mem_cons_self)) | (simp [noAlias]; done)) | exact sd0)); (try simp only [hb])) | ((with_reducible refine Vc.fin ?_); dsimp only [thenK, blockK, retK, resS, resOne, resAll]) | ((with_reducible refine Vc.hold ?_); first | refine Vc.regiont T0_ok GPR_ok ?_)); (try simp only [v8X, v8A, v8B, v8C, Nat.beq, Nat.ble, Int.reduceToNat, Int.reduceLE, Int.reduceLT, Nat.reduceLT, Nat.reduceLeDiff, Nat.reduceAdd, Nat.reduceMul, Nat.reduceSub, Int.reduceAdd, Int.reduceSub, Int.reduceMul, eq_self, decide_true, beq_self_eq_true, List.length_cons, List.length_nil, Nat.min_eq_left, IntKind.bits, tabs, GPR_set, utt, List.drop_zero, tnc, conEs.eq_def, conN.eq_def]); (try simp (disch := omega) only [v8W])) | ((with_reducible refine hN _ _ ?_); clear hN N; (try simp (disch := omega) only [v8W])))); (try ((with_reducible refine Fin.of ?_); (try with_reducible exact True.intro))))
  exact ⟨trivial, _, rfl, rfl⟩
end Go.Proofs.Ytlogpdjcgbifhaa
