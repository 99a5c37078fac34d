/-
 Package store: Mark, Begin, Pay. No condition.
-/
import Derived.Test.YtoadeekdgikghaaDoorY1
import Derived.Test.YtoadeekdgikghaaDoorRE
set_option maxRecDepth 20000
set_option maxHeartbeats 4000000
set_option linter.defProp false
set_option linter.unusedVariables false
set_option linter.unusedSimpArgs false
namespace Go.Proofs.YtoadeekdgikghaaDoor
open Go.RowKit
def upd1 {α : Type} (f : List Int → α) (c : List Int) (v : α) : List Int → α := fun x => if x = c then v else f x
def okAcc (x : Acc) : Prop := (0 ≤ x.n ∧ x.n ≤ 18446744073709551615) ∧ x.b < W ∧ allB x.c ∧ x.c.length ≤ 9223372036854775807
def putAc (F : List Int → Option SV) (c : List Int) (x : Acc) : List Int → Option SV := if x = acc0 then delF F c else putF F c (.agg (accL x))
theorem accF_put (g : List Int → Acc) (c : List Int) (x : Acc) : putAc (accF g) c x = accF (upd1 g c x) := by
 funext y
 unfold putAc accF upd1
 split
 ·unfold delF; split <;> simp_all
 ·unfold putF; split <;> simp_all
theorem sloF_put (g : List Int → Nat) (c : List Int) (n : Nat) : putN (sloF g) c n = sloF (upd1 g c n) := by
 funext y
 unfold putN sloF upd1
 split
 ·unfold delF; split <;> simp_all
 ·unfold putF; split <;> simp_all
theorem lm_0 (i : Nat) : lm 0 i = 0 := by unfold lm; simp
theorem accF_get (g : List Int → Acc) (c : List Int) : (accF g c).getD (.agg [.int .u64 0, .int .u64 0, .int .u64 0, .int .u64 0, .int .u64 0, .str []]) = .agg (accL (g c)) := by
 unfold accF
 split
 ·rename_i h; rw [h]; simp [accL, acc0, lm_0]
 ·rfl
theorem numI_lmY {a : Nat} (h : a < W) : numI [((lm a 0 : Nat) : Int), (lm a 1 : Nat), (lm a 2 : Nat), (lm a 3 : Nat)] = a := by
 have := numI_lmI h
 exact this
theorem eqL_acc {x : Acc} (hb : x.b < W) : eqL [.int .u64 (x).n, .int .u64 (lm (x).b 0 : Nat), .int .u64 (lm (x).b 1 : Nat), .int .u64 (lm (x).b 2 : Nat), .int .u64 (lm (x).b 3 : Nat), .str (x).c] [.int .u64 0, .int .u64 0, .int .u64 0, .int .u64 0, .int .u64 0, .str []] = decide (x = acc0) := by
 have h1 : numI [((lm x.b 0 : Nat) : Int), (lm x.b 1 : Nat), (lm x.b 2 : Nat), (lm x.b 3 : Nat)] = x.b := numI_lmY hb
 rw [Bool.eq_iff_iff, decide_eq_true_iff]
 simp only [eqL, Bool.and_eq_true, decide_eq_true_eq]
 constructor
 ·rintro ⟨q0, q1, q2, q3, q4, q5, _⟩
  rw [q1, q2, q3, q4] at h1
  have h2 : x.b = 0 := h1.symm
  cases x
  simp only at q0 q5 h2
  subst q0; subst q5; subst h2
  rfl
 ·rintro rfl
  simp [acc0, lm_0]
theorem putA_vc (x0 x1 x2 x3 x4 x5 x6 x7 x8 x9 x10 x11 x12 x13 x14 x15 x16 x17 x18 x19 : Int) (v : Bool) (k0 k1 k2 k3 : Int) (b : Nat) (x : Acc) (F : List Int → Option SV) (hk : inCs ck_83 [x0, x1, x2, x3, x4, x5, x6, x7, x8, x9, x10, x11, x12, x13, x14, x15, x16, x17, x18, x19, cond v 1 0, k0, k1, k2, k3]) (hx : okAcc x) (w : World) (hm : MemOk w [b] [.mp b ck_83 F] w) :
  Calls Tryd.prog 16 (cvs [.mpv 0 b, .agg [.int .u8 x0, .int .u8 x1, .int .u8 x2, .int .u8 x3, .int .u8 x4, .int .u8 x5, .int .u8 x6, .int .u8 x7, .int .u8 x8, .int .u8 x9, .int .u8 x10, .int .u8 x11, .int .u8 x12, .int .u8 x13, .int .u8 x14, .int .u8 x15, .int .u8 x16, .int .u8 x17, .int .u8 x18, .int .u8 x19, .bool v, .int .u64 k0, .int .u64 k1, .int .u64 k2, .int .u64 k3], .agg [.int .u64 (x).n, .int .u64 (lm (x).b 0 : Nat), .int .u64 (lm (x).b 1 : Nat), .int .u64 (lm (x).b 2 : Nat), .int .u64 (lm (x).b 3 : Nat), .str (x).c]]).toArray w (fun en w' => ∃ u, en = .returned u ∧ ∃ v' m', u = cv v' ∧ MemOk w [b] m' w' ∧ v' = .tup [] ∧ bget m' 0 = .mp b ck_83 (putAc F [x0, x1, x2, x3, x4, x5, x6, x7, x8, x9, x10, x11, x12, x13, x14, x15, x16, x17, x18, x19, cond v 1 0, k0, k1, k2, k3] x)) := by
 have e1 := eqL_acc hx.2.1
 obtain ⟨hx1, hx2, hx3, hx4⟩ := hx
 have z0 : allB ([] : List Int) := fun _ h => absurd h List.not_mem_nil
 have u0 := lm_u64 x.b 0
 have u1 := lm_u64 x.b 1
 have u2 := lm_u64 x.b 2
 have u3 := lm_u64 x.b 3
 simp only [inK] at u0 u1 u2 u3
 refine Vc.calls T0_ok Tryd.func16 rfl rfl (args := [.mpv 0 b, .agg [.int .u8 x0, .int .u8 x1, .int .u8 x2, .int .u8 x3, .int .u8 x4, .int .u8 x5, .int .u8 x6, .int .u8 x7, .int .u8 x8, .int .u8 x9, .int .u8 x10, .int .u8 x11, .int .u8 x12, .int .u8 x13, .int .u8 x14, .int .u8 x15, .int .u8 x16, .int .u8 x17, .int .u8 x18, .int .u8 x19, .bool v, .int .u64 k0, .int .u64 k1, .int .u64 k2, .int .u64 k3], .agg [.int .u64 (x).n, .int .u64 (lm (x).b 0 : Nat), .int .u64 (lm (x).b 1 : Nat), .int .u64 (lm (x).b 2 : Nat), .int .u64 (lm (x).b 3 : Nat), .str (x).c]]) (k := 12) rfl hm ?_; change Vc _ _ (c8 (.mpv 0 b) (.agg [.int .u8 x0, .int .u8 x1, .int .u8 x2, .int .u8 x3, .int .u8 x4, .int .u8 x5, .int .u8 x6, .int .u8 x7, .int .u8 x8, .int .u8 x9, .int .u8 x10, .int .u8 x11, .int .u8 x12, .int .u8 x13, .int .u8 x14, .int .u8 x15, .int .u8 x16, .int .u8 x17, .int .u8 x18, .int .u8 x19, .bool v, .int .u64 k0, .int .u64 k1, .int .u64 k2, .int .u64 k3]) (.agg [.int .u64 (x).n, .int .u64 (lm (x).b 0 : Nat), .int .u64 (lm (x).b 1 : Nat), .int .u64 (lm (x).b 2 : Nat), .int .u64 (lm (x).b 3 : Nat), .str (x).c]) .undef .undef .undef .undef .undef ([.undef, .undef, .undef, .undef, .undef, .undef, .undef])) _ _
 by_cases h0 : x = acc0
 ·have e2 : decide (x = acc0) = true := decide_eq_true h0
  have e3 : putAc F [x0, x1, x2, x3, x4, x5, x6, x7, x8, x9, x10, x11, x12, x13, x14, x15, x16, x17, x18, x19, cond v 1 0, k0, k1, k2, k3] x = delF F [x0, x1, x2, x3, x4, x5, x6, x7, x8, x9, x10, x11, x12, x13, x14, x15, x16, x17, x18, x19, cond v 1 0, k0, k1, k2, k3] := if_pos h0
  ((repeat (first | (with_reducible refine Vc.seq fun N hN => ?_) | ((first | with_reducible refine Vc.skip ?_); dsimp only [thenK, blockK, Nat.beq]; (first | (refine hN _ _ ?_; clear hN N))) | (with_reducible intro _) | ((with_reducible refine And.intro ?_ ?_); exact sdB) | ((first | ((with_reducible refine Vc.fin ?_); dsimp only [thenK, blockK, retK, resS, resOne, resAll]) | ((with_reducible refine Vc.hold ?_); first | refine Vc.regiont T0_ok GY0_ok ?_)); (try simp only [v8Y, Nat.beq, Nat.ble, seval, tabs, e1, e2])) | ((with_reducible refine hN _ _ ?_); clear hN N))); (try ((with_reducible refine Fin.of ?_); (try with_reducible exact True.intro))))
  (refine Vc.cond T0_ok (t := true) (by rfl) (fun _ => ?_) (fun h => Bool.noConfusion h))
  ((repeat (first | (with_reducible refine Vc.seq fun N hN => ?_) | ((first | with_reducible refine Vc.skip ?_); dsimp only [thenK, blockK, Nat.beq]; (first | (refine hN _ _ ?_; clear hN N))) | (with_reducible intro _) | ((with_reducible refine And.intro ?_ ?_); exact sdB) | ((first | ((with_reducible refine Vc.fin ?_); dsimp only [thenK, blockK, retK, resS, resOne, resAll]) | ((with_reducible refine Vc.hold ?_); first | refine Vc.regiont T0_ok GY0_ok ?_)); (try simp only [v8Y, Nat.beq, Nat.ble, seval, tabs, e1, e2])) | ((with_reducible refine hN _ _ ?_); clear hN N))); (try ((with_reducible refine Fin.of ?_); (try with_reducible exact True.intro))))
  ((try simp only [v8Y, Nat.beq, Nat.ble, seval, tabs]); (repeat' with_reducible apply And.intro) <;> first | with_reducible exact True.intro | rw [e3] | with_reducible rfl | (congr 1 <;> omega) | trivial)
 ·have e2 : decide (x = acc0) = false := decide_eq_false h0
  have e3 : putAc F [x0, x1, x2, x3, x4, x5, x6, x7, x8, x9, x10, x11, x12, x13, x14, x15, x16, x17, x18, x19, cond v 1 0, k0, k1, k2, k3] x = putF F [x0, x1, x2, x3, x4, x5, x6, x7, x8, x9, x10, x11, x12, x13, x14, x15, x16, x17, x18, x19, cond v 1 0, k0, k1, k2, k3] (.agg (accL x)) := if_neg h0
  ((repeat (first | (with_reducible refine Vc.seq fun N hN => ?_) | ((first | with_reducible refine Vc.skip ?_); dsimp only [thenK, blockK, Nat.beq]; (first | (refine hN _ _ ?_; clear hN N))) | (with_reducible intro _) | ((with_reducible refine And.intro ?_ ?_); exact sdB) | ((first | ((with_reducible refine Vc.fin ?_); dsimp only [thenK, blockK, retK, resS, resOne, resAll]) | ((with_reducible refine Vc.hold ?_); first | refine Vc.regiont T0_ok GY0_ok ?_)); (try simp only [v8Y, Nat.beq, Nat.ble, seval, tabs, e1, e2])) | ((with_reducible refine hN _ _ ?_); clear hN N))); (try ((with_reducible refine Fin.of ?_); (try with_reducible exact True.intro))))
  (refine Vc.cond T0_ok (t := false) (by rfl) (fun h => Bool.noConfusion h) (fun _ => ?_))
  ((repeat (first | (with_reducible refine Vc.seq fun N hN => ?_) | ((first | with_reducible refine Vc.skip ?_); dsimp only [thenK, blockK, Nat.beq]; (first | (refine hN _ _ ?_; clear hN N))) | (with_reducible intro _) | ((with_reducible refine And.intro ?_ ?_); exact sdB) | ((first | ((with_reducible refine Vc.fin ?_); dsimp only [thenK, blockK, retK, resS, resOne, resAll]) | ((with_reducible refine Vc.hold ?_); first | refine Vc.regiont T0_ok GY0_ok ?_)); (try simp only [v8Y, Nat.beq, Nat.ble, seval, tabs, e1, e2])) | ((with_reducible refine hN _ _ ?_); clear hN N))); (try ((with_reducible refine Fin.of ?_); (try with_reducible exact True.intro))))
  ((try simp only [v8Y, Nat.beq, Nat.ble, seval, tabs]); (repeat' with_reducible apply And.intro) <;> first | with_reducible exact True.intro | (rw [e3]; rfl) | with_reducible rfl | (congr 1 <;> omega) | trivial)
def g_putA (args : List SV) (m : List Blk) : CR := match args with
 | [.mpv nm b, .agg l, .agg [.int .u64 n, .int .u64 b0, .int .u64 b1, .int .u64 b2, .int .u64 b3, .str s]] => match bget m nm, codeC ck_83 l with
  | .mp b' ks f, some c => .rel (b = b' ∧ ks = ck_83 ∧ inCs ck_83 c ∧ allU [b0, b1, b2, b3] ∧ okAcc ⟨n, numI [b0, b1, b2, b3], s⟩) Unit (fun _ => True) (fun _ => .tup []) (fun _ => bset m nm (.mp b' ks (putAc f c ⟨n, numI [b0, b1, b2, b3], s⟩)))
  | _, _ => .none
 | _ => .none
theorem g_putA_ok (w0 : World) (B : List Nat) (args : List SV) (m : List Blk) : CROk Tryd.prog w0 B 16 args m (g_putA args m) := by
 unfold g_putA; split
 ·rename_i nm b l n b0 b1 b2 b3 s
  split
  ·rename_i b' ks f c hb hc
   rintro ⟨rfl, rfl, h1, hu, h2⟩ w hm
   obtain ⟨x0, x1, x2, x3, x4, x5, x6, x7, x8, x9, x10, x11, x12, x13, x14, x15, x16, x17, x18, x19, v, k0, k1, k2, k3, rfl, rfl⟩ := codeC_pl hc
   have hcell := numI_cells (xs := [b0, b1, b2, b3]) rfl hu
   exact calls_mp Tryd.func16 rfl rfl hm hb (args' := [.mpv 0 b, .agg [.int .u8 x0, .int .u8 x1, .int .u8 x2, .int .u8 x3, .int .u8 x4, .int .u8 x5, .int .u8 x6, .int .u8 x7, .int .u8 x8, .int .u8 x9, .int .u8 x10, .int .u8 x11, .int .u8 x12, .int .u8 x13, .int .u8 x14, .int .u8 x15, .int .u8 x16, .int .u8 x17, .int .u8 x18, .int .u8 x19, .bool v, .int .u64 k0, .int .u64 k1, .int .u64 k2, .int .u64 k3], .agg (accL ⟨n, numI [b0, b1, b2, b3], s⟩)]) (by
    simp only [wcs, List.map_cons, List.map_nil] at hcell
    simp only [cvs, cv, accL]
    simp only [List.cons.injEq] at hcell
    rw [hcell.1, hcell.2.1, hcell.2.2.1, hcell.2.2.2.1]) (fun hm' => putA_vc x0 x1 x2 x3 x4 x5 x6 x7 x8 x9 x10 x11 x12 x13 x14 x15 x16 x17 x18 x19 v k0 k1 k2 k3 b ⟨n, numI [b0, b1, b2, b3], s⟩ f h1 h2 w hm')
  ·exact trivial
 ·exact trivial
structure WOk (S : Wst) : Prop where
 acc : ∀ c, okAcc (S.acc c)
 slo : ∀ c, S.slo c < W
 ori : ∀ c v, S.ori c = some v → v < W
end Go.Proofs.YtoadeekdgikghaaDoor
namespace Go.Proofs.YtoadeekdgikghaaDoor
open Go.RowKit
theorem allOne_app : ∀ {a b : List SV}, allOne a = true → allOne b = true → allOne (a ++ b) = true
 | [], _, _, h => h
 | x :: a, b, h, h' => by
  simp only [List.cons_append, allOne] at h ⊢
  split at h
  ·exact allOne_app h h'
  ·cases h
end Go.Proofs.YtoadeekdgikghaaDoor
namespace Go.Proofs.YtoadeekdgikghaaDoor
open Go.RowKit
theorem Enters.mono {P : Program} {f : FuncId} {args : Array Value} {w : World} {R R' : Value → World → Prop} (h : Enters P f args w R) (hr : ∀ u w', R u w' → R' u w') : Enters P f args w R' :=
 h.imp (fun ⟨u, h1, h2⟩ => ⟨u, h1, hr _ _ h2⟩) (fun ⟨h1, h2⟩ => ⟨h1, h2.mono fun _ w' ⟨u, he, hu⟩ => ⟨u, he, hr u w' hu⟩⟩)
end Go.Proofs.YtoadeekdgikghaaDoor
namespace Go.Proofs.YtoadeekdgikghaaDoor
open Go.RowKit
theorem setF_0 : setF (fun _ => false) = fun _ => none := by funext c; simp [setF]
theorem oriF_0 : oriF (fun _ => none) = fun _ => none := by funext c; rfl
end Go.Proofs.YtoadeekdgikghaaDoor
