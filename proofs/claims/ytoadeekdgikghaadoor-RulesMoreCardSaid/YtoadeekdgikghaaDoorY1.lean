/-
 Package store, the small ones: places, putting what a place has. No condition.
-/
import Derived.Test.YtoadeekdgikghaaDoorWD
import Derived.Test.YtoadeekdgikghaaDoorTab
import Derived.Test.YtoadeekdgikghaaDoorX2
set_option maxRecDepth 20000
set_option maxHeartbeats 4000000
set_option linter.unusedVariables false
set_option linter.unusedSimpArgs false
namespace Go.Proofs.YtoadeekdgikghaaDoor
open Go.RowKit
def τ0 : WTy := ⟨64, 163, 165, ck_83⟩
def okA (a : List Int) : Prop := a.length = 20 ∧ allB a
def whole (a : List Int) : List Int := a ++ [1, 0, 0, 0, 0]
def slotC (a : List Int) (k : Nat) : List Int := a ++ [0, ((lm k 0 : Nat) : Int), ((lm k 1 : Nat) : Int), ((lm k 2 : Nat) : Int), ((lm k 3 : Nat) : Int)]
theorem okA_lit {a : List Int} (h : okA a) : ∃ x0 x1 x2 x3 x4 x5 x6 x7 x8 x9 x10 x11 x12 x13 x14 x15 x16 x17 x18 x19 : Int, a = [x0, x1, x2, x3, x4, x5, x6, x7, x8, x9, x10, x11, x12, x13, x14, x15, x16, x17, x18, x19] := by
 obtain ⟨h, _⟩ := h
 match a, h with
 | [x0, x1, x2, x3, x4, x5, x6, x7, x8, x9, x10, x11, x12, x13, x14, x15, x16, x17, x18, x19], _ => exact ⟨x0, x1, x2, x3, x4, x5, x6, x7, x8, x9, x10, x11, x12, x13, x14, x15, x16, x17, x18, x19, rfl⟩
theorem inCs_app : ∀ {ks ls : List CK} {a b : List Int}, inCs ks a → inCs ls b → inCs (ks ++ ls) (a ++ b)
 | [], ls, [], b, _, h => h
 | _ :: _, ls, _ :: _, b, h, h' => ⟨h.1, inCs_app h.2 h'⟩
 | [], _, _ :: _, _, h, _ => h.elim
 | _ :: _, _, [], _, h, _ => h.elim
theorem inCs_u8 : ∀ {n : Nat} {a : List Int}, a.length = n → allB a → inCs (List.replicate n (.i .u8)) a
 | 0, [], _, _ => trivial
 | n + 1, x :: a, h, hb => ⟨wf_inK (hb x List.mem_cons_self), inCs_u8 (by simpa using h) (fun y hy => hb y (List.mem_cons_of_mem _ hy))⟩
 | 0, _ :: _, h, _ => by simp at h
 | _ + 1, [], h, _ => by simp at h
theorem lm_u64 (a i : Nat) : inK .u64 ((lm a i : Nat) : Int) := by
 have := lm_lt a i
 simp only [inK]; omega
theorem ck_app : ck_83 = List.replicate 20 (.i .u8) ++ [.b, .i .u64, .i .u64, .i .u64, .i .u64] := rfl
theorem in_whole {a : List Int} (h : okA a) : inCs ck_83 (whole a) := by
 rw [ck_app]
 exact inCs_app (inCs_u8 h.1 h.2) ⟨.inr rfl, wf_inK (show inK .u64 0 from ⟨by decide, by decide⟩), wf_inK (show inK .u64 0 from ⟨by decide, by decide⟩), wf_inK (show inK .u64 0 from ⟨by decide, by decide⟩), wf_inK (show inK .u64 0 from ⟨by decide, by decide⟩), trivial⟩
theorem in_slot {a : List Int} (h : okA a) (k : Nat) : inCs ck_83 (slotC a k) := by
 rw [ck_app]
 exact inCs_app (inCs_u8 h.1 h.2) ⟨.inl rfl, wf_inK (lm_u64 k 0), wf_inK (lm_u64 k 1), wf_inK (lm_u64 k 2), wf_inK (lm_u64 k 3), trivial⟩
def GY0 : Ctr := fun _ _ _ => .none
theorem GY0_ok : GOk Tryd.prog GY0 := fun _ _ _ _ _ => trivial
theorem whole_vc (x0 x1 x2 x3 x4 x5 x6 x7 x8 x9 x10 x11 x12 x13 x14 x15 x16 x17 x18 x19 : Int) (w : World) : Calls Tryd.prog 17 (cvs [.ints .u8 [x0, x1, x2, x3, x4, x5, x6, x7, x8, x9, x10, x11, x12, x13, x14, x15, x16, x17, x18, x19]]).toArray w (fun en w' => ∃ u, en = .returned u ∧ ∃ v' m', u = cv v' ∧ MemOk w [] m' w' ∧ v' = .agg [.int .u8 x0, .int .u8 x1, .int .u8 x2, .int .u8 x3, .int .u8 x4, .int .u8 x5, .int .u8 x6, .int .u8 x7, .int .u8 x8, .int .u8 x9, .int .u8 x10, .int .u8 x11, .int .u8 x12, .int .u8 x13, .int .u8 x14, .int .u8 x15, .int .u8 x16, .int .u8 x17, .int .u8 x18, .int .u8 x19, .bool true, .int .u64 0, .int .u64 0, .int .u64 0, .int .u64 0]) := by
 refine Vc.calls T0_ok Tryd.func17 rfl rfl (args := [.ints .u8 [x0, x1, x2, x3, x4, x5, x6, x7, x8, x9, x10, x11, x12, x13, x14, x15, x16, x17, x18, x19]]) (k := 4) rfl (MemOk.start _) ?_; change Vc _ _ ([.ints .u8 [x0, x1, x2, x3, x4, x5, x6, x7, x8, x9, x10, x11, x12, x13, x14, x15, x16, x17, x18, x19], .undef, .undef, .undef, .undef]) _ _
 ((repeat (first | (with_reducible refine Vc.seq fun N hN => ?_) | (with_reducible intro _) | ((with_reducible refine And.intro ?_ ?_); exact sdB) | ((first | ((with_reducible refine Vc.fin ?_); dsimp only [thenK, blockK, retK, resS, resOne, resAll]) | ((with_reducible refine Vc.hold ?_); first | refine Vc.regiont T0_ok GY0_ok ?_)); (try simp only [v8Y, Nat.beq, Nat.ble, seval, tabs])) | ((with_reducible refine hN _ _ ?_); clear hN N))); (try ((with_reducible refine Fin.of ?_); (try with_reducible exact True.intro))))
 ((try simp only [v8Y, Nat.beq, Nat.ble, seval, tabs]); (repeat' with_reducible apply And.intro) <;> first | with_reducible exact True.intro | rfl | with_reducible rfl | (congr 1 <;> omega) | trivial)
def g_whole (args : List SV) (_m : List Blk) : CR := match args with | [.ints .u8 [x0, x1, x2, x3, x4, x5, x6, x7, x8, x9, x10, x11, x12, x13, x14, x15, x16, x17, x18, x19]] => .pure (True) (.agg [.int .u8 x0, .int .u8 x1, .int .u8 x2, .int .u8 x3, .int .u8 x4, .int .u8 x5, .int .u8 x6, .int .u8 x7, .int .u8 x8, .int .u8 x9, .int .u8 x10, .int .u8 x11, .int .u8 x12, .int .u8 x13, .int .u8 x14, .int .u8 x15, .int .u8 x16, .int .u8 x17, .int .u8 x18, .int .u8 x19, .bool true, .int .u64 0, .int .u64 0, .int .u64 0, .int .u64 0]) | _ => .none
theorem g_whole_ok (w0 : World) (B : List Nat) (args : List SV) (m : List Blk) : CROk Tryd.prog w0 B 17 args m (g_whole args m) := by
 unfold g_whole; split
 ·rename_i x0 x1 x2 x3 x4 x5 x6 x7 x8 x9 x10 x11 x12 x13 x14 x15 x16 x17 x18 x19; exact fun h w _ => calls_pure Tryd.func17 rfl rfl (whole_vc x0 x1 x2 x3 x4 x5 x6 x7 x8 x9 x10 x11 x12 x13 x14 x15 x16 x17 x18 x19 w)
 ·exact trivial
theorem slotOf_vc (x0 x1 x2 x3 x4 x5 x6 x7 x8 x9 x10 x11 x12 x13 x14 x15 x16 x17 x18 x19 : Int) (k : Nat) (w : World) : Calls Tryd.prog 19 (cvs [.ints .u8 [x0, x1, x2, x3, x4, x5, x6, x7, x8, x9, x10, x11, x12, x13, x14, x15, x16, x17, x18, x19], .word k]).toArray w (fun en w' => ∃ u, en = .returned u ∧ ∃ v' m', u = cv v' ∧ MemOk w [] m' w' ∧ v' = .agg [.int .u8 x0, .int .u8 x1, .int .u8 x2, .int .u8 x3, .int .u8 x4, .int .u8 x5, .int .u8 x6, .int .u8 x7, .int .u8 x8, .int .u8 x9, .int .u8 x10, .int .u8 x11, .int .u8 x12, .int .u8 x13, .int .u8 x14, .int .u8 x15, .int .u8 x16, .int .u8 x17, .int .u8 x18, .int .u8 x19, .bool false, .int .u64 (lm k 0 : Nat), .int .u64 (lm k 1 : Nat), .int .u64 (lm k 2 : Nat), .int .u64 (lm k 3 : Nat)]) := by
 refine Vc.calls T0_ok Tryd.func19 rfl rfl (args := [.ints .u8 [x0, x1, x2, x3, x4, x5, x6, x7, x8, x9, x10, x11, x12, x13, x14, x15, x16, x17, x18, x19], .word k]) (k := 6) rfl (MemOk.start _) ?_; change Vc _ _ (c8 (.ints .u8 [x0, x1, x2, x3, x4, x5, x6, x7, x8, x9, x10, x11, x12, x13, x14, x15, x16, x17, x18, x19]) (.word k) .undef .undef .undef .undef .undef .undef ([])) _ _
 ((repeat (first | (with_reducible refine Vc.seq fun N hN => ?_) | (with_reducible intro _) | ((with_reducible refine And.intro ?_ ?_); exact sdB) | ((first | ((with_reducible refine Vc.fin ?_); dsimp only [thenK, blockK, retK, resS, resOne, resAll]) | ((with_reducible refine Vc.hold ?_); first | refine Vc.regiont T0_ok GY0_ok ?_)); (try simp only [v8Y, Nat.beq, Nat.ble, seval, tabs])) | ((with_reducible refine hN _ _ ?_); clear hN N))); (try ((with_reducible refine Fin.of ?_); (try with_reducible exact True.intro))))
 ((try simp only [v8Y, Nat.beq, Nat.ble, seval, tabs]); (repeat' with_reducible apply And.intro) <;> first | with_reducible exact True.intro | rfl | with_reducible rfl | (congr 1 <;> omega) | trivial)
def g_slotOf (args : List SV) (_m : List Blk) : CR := match args with | [.ints .u8 [x0, x1, x2, x3, x4, x5, x6, x7, x8, x9, x10, x11, x12, x13, x14, x15, x16, x17, x18, x19], .word k] => .pure (True) (.agg [.int .u8 x0, .int .u8 x1, .int .u8 x2, .int .u8 x3, .int .u8 x4, .int .u8 x5, .int .u8 x6, .int .u8 x7, .int .u8 x8, .int .u8 x9, .int .u8 x10, .int .u8 x11, .int .u8 x12, .int .u8 x13, .int .u8 x14, .int .u8 x15, .int .u8 x16, .int .u8 x17, .int .u8 x18, .int .u8 x19, .bool false, .int .u64 (lm k 0 : Nat), .int .u64 (lm k 1 : Nat), .int .u64 (lm k 2 : Nat), .int .u64 (lm k 3 : Nat)]) | _ => .none
theorem g_slotOf_ok (w0 : World) (B : List Nat) (args : List SV) (m : List Blk) : CROk Tryd.prog w0 B 19 args m (g_slotOf args m) := by
 unfold g_slotOf; split
 ·rename_i x0 x1 x2 x3 x4 x5 x6 x7 x8 x9 x10 x11 x12 x13 x14 x15 x16 x17 x18 x19 k; exact fun h w _ => calls_pure Tryd.func19 rfl rfl (slotOf_vc x0 x1 x2 x3 x4 x5 x6 x7 x8 x9 x10 x11 x12 x13 x14 x15 x16 x17 x18 x19 k w)
 ·exact trivial
theorem mp_start {w0 : World} {B : List Nat} {m : List Blk} {w : World} (hm : MemOk w0 B m w) {nm b : Nat} {ks : List CK} {f : List Int → Option SV} (hb : bget m nm = .mp b ks f) : MemOk w [b] [.mp b ks f] w :=
 ⟨rfl, rfl, rfl, Nat.le_refl _, fun _ _ _ => rfl, fun e he => by
  rw [List.mem_singleton] at he
  subst he
  exact ⟨(hm.each _ (bget_mem hb (by simp))).1, .inr List.mem_cons_self⟩, by simp [Blk.nums]⟩
theorem calls_mp {P : Program} {f : FuncId} {fn : Func} {args args' : List SV} {w0 w : World} {B : List Nat} {m : List Blk} {nm b : Nat} {ks : List CK} {F F' : List Int → Option SV} {v : SV} (hf : P.funcs[f]? = some fn) (hn : (fn.name == "runtime.NumGoroutine") = false) (hb : fn.body.isNone = false)
  (hm : MemOk w0 B m w) (hbg : bget m nm = .mp b ks F) (he : cvs args = cvs args') (h : MemOk w [b] [.mp b ks F] w → Calls P f (cvs args').toArray w (fun en w' => ∃ u, en = .returned u ∧ ∃ v' m', u = cv v' ∧ MemOk w [b] m' w' ∧ v' = v ∧ bget m' 0 = .mp b ks F')) :
  Enters P f (cvs args).toArray w fun u w' => ∃ _ : Unit, True ∧ u = cv v ∧ MemOk w0 B (bset m nm (.mp b ks F')) w' := by
 rw [he]
 refine .inr ⟨enter_run hf hn hb _ w, (h (mp_start hm hbg)).mono fun e w' ⟨u, hu, v', m', hv, hm', hvv, hk⟩ => ⟨u, hu, (), trivial, by rw [hv, hvv], ?_⟩⟩
 have h4 := hm.each _ (bget_mem hbg (by simp))
 have h5 := hm'.each _ (bget_mem hk (by simp))
 exact hm.turns hbg (by simp) hm'.chg (fun b hb => by simp [Blk.nums] at hb; subst hb; exact h4.2) ⟨h5.1, h4.2⟩ (fun b hb => .inl hb) (by simp [Blk.nums])
def putN (F : List Int → Option SV) (c : List Int) (v : Nat) : List Int → Option SV := if v = 0 then delF F c else putF F c (.word v)
theorem putW_vc (x0 x1 x2 x3 x4 x5 x6 x7 x8 x9 x10 x11 x12 x13 x14 x15 x16 x17 x18 x19 : Int) (v : Bool) (k0 k1 k2 k3 : Int) (b n : Nat) (F : List Int → Option SV) (hk : inCs ck_83 [x0, x1, x2, x3, x4, x5, x6, x7, x8, x9, x10, x11, x12, x13, x14, x15, x16, x17, x18, x19, cond v 1 0, k0, k1, k2, k3]) (hv : n < W) (w : World) (hm : MemOk w [b] [.mp b ck_83 F] w) :
  Calls Tryd.prog 18 (cvs [.mpv 0 b, .agg [.int .u8 x0, .int .u8 x1, .int .u8 x2, .int .u8 x3, .int .u8 x4, .int .u8 x5, .int .u8 x6, .int .u8 x7, .int .u8 x8, .int .u8 x9, .int .u8 x10, .int .u8 x11, .int .u8 x12, .int .u8 x13, .int .u8 x14, .int .u8 x15, .int .u8 x16, .int .u8 x17, .int .u8 x18, .int .u8 x19, .bool v, .int .u64 k0, .int .u64 k1, .int .u64 k2, .int .u64 k3], .word n]).toArray w (fun en w' => ∃ u, en = .returned u ∧ ∃ v' m', u = cv v' ∧ MemOk w [b] m' w' ∧ v' = .tup [] ∧ bget m' 0 = .mp b ck_83 (putN F [x0, x1, x2, x3, x4, x5, x6, x7, x8, x9, x10, x11, x12, x13, x14, x15, x16, x17, x18, x19, cond v 1 0, k0, k1, k2, k3] n)) := by
 have e1 := eqW_dec hv (show (0 : Nat) < W by decide)
 refine Vc.calls T0_ok Tryd.func18 rfl rfl (args := [.mpv 0 b, .agg [.int .u8 x0, .int .u8 x1, .int .u8 x2, .int .u8 x3, .int .u8 x4, .int .u8 x5, .int .u8 x6, .int .u8 x7, .int .u8 x8, .int .u8 x9, .int .u8 x10, .int .u8 x11, .int .u8 x12, .int .u8 x13, .int .u8 x14, .int .u8 x15, .int .u8 x16, .int .u8 x17, .int .u8 x18, .int .u8 x19, .bool v, .int .u64 k0, .int .u64 k1, .int .u64 k2, .int .u64 k3], .word n]) (k := 12) rfl hm ?_; change Vc _ _ (c8 (.mpv 0 b) (.agg [.int .u8 x0, .int .u8 x1, .int .u8 x2, .int .u8 x3, .int .u8 x4, .int .u8 x5, .int .u8 x6, .int .u8 x7, .int .u8 x8, .int .u8 x9, .int .u8 x10, .int .u8 x11, .int .u8 x12, .int .u8 x13, .int .u8 x14, .int .u8 x15, .int .u8 x16, .int .u8 x17, .int .u8 x18, .int .u8 x19, .bool v, .int .u64 k0, .int .u64 k1, .int .u64 k2, .int .u64 k3]) (.word n) .undef .undef .undef .undef .undef ([.undef, .undef, .undef, .undef, .undef, .undef, .undef])) _ _
 by_cases h0 : n = 0
 ·have e2 : decide (n = 0) = true := decide_eq_true h0
  have e3 : putN F [x0, x1, x2, x3, x4, x5, x6, x7, x8, x9, x10, x11, x12, x13, x14, x15, x16, x17, x18, x19, cond v 1 0, k0, k1, k2, k3] n = delF F [x0, x1, x2, x3, x4, x5, x6, x7, x8, x9, x10, x11, x12, x13, x14, x15, x16, x17, x18, x19, cond v 1 0, k0, k1, k2, k3] := if_pos h0
  ((repeat (first | (with_reducible refine Vc.seq fun N hN => ?_) | ((first | with_reducible refine Vc.skip ?_); dsimp only [thenK, blockK, Nat.beq]; (first | (refine hN _ _ ?_; clear hN N))) | (with_reducible intro _) | ((with_reducible refine And.intro ?_ ?_); exact sdB) | ((first | ((with_reducible refine Vc.fin ?_); dsimp only [thenK, blockK, retK, resS, resOne, resAll]) | ((with_reducible refine Vc.hold ?_); first | refine Vc.regiont T0_ok GY0_ok ?_)); (try simp only [v8Y, Nat.beq, Nat.ble, seval, tabs, e1, e2])) | ((with_reducible refine hN _ _ ?_); clear hN N))); (try ((with_reducible refine Fin.of ?_); (try with_reducible exact True.intro))))
  (refine Vc.cond T0_ok (t := true) (by rfl) (fun _ => ?_) (fun h => Bool.noConfusion h))
  ((repeat (first | (with_reducible refine Vc.seq fun N hN => ?_) | ((first | with_reducible refine Vc.skip ?_); dsimp only [thenK, blockK, Nat.beq]; (first | (refine hN _ _ ?_; clear hN N))) | (with_reducible intro _) | ((with_reducible refine And.intro ?_ ?_); exact sdB) | ((first | ((with_reducible refine Vc.fin ?_); dsimp only [thenK, blockK, retK, resS, resOne, resAll]) | ((with_reducible refine Vc.hold ?_); first | refine Vc.regiont T0_ok GY0_ok ?_)); (try simp only [v8Y, Nat.beq, Nat.ble, seval, tabs, e1, e2])) | ((with_reducible refine hN _ _ ?_); clear hN N))); (try ((with_reducible refine Fin.of ?_); (try with_reducible exact True.intro))))
  ((try simp only [v8Y, Nat.beq, Nat.ble, seval, tabs]); (repeat' with_reducible apply And.intro) <;> first | with_reducible exact True.intro | rw [e3] | with_reducible rfl | (congr 1 <;> omega) | trivial)
 ·have e2 : decide (n = 0) = false := decide_eq_false h0
  have e3 : putN F [x0, x1, x2, x3, x4, x5, x6, x7, x8, x9, x10, x11, x12, x13, x14, x15, x16, x17, x18, x19, cond v 1 0, k0, k1, k2, k3] n = putF F [x0, x1, x2, x3, x4, x5, x6, x7, x8, x9, x10, x11, x12, x13, x14, x15, x16, x17, x18, x19, cond v 1 0, k0, k1, k2, k3] (.word n) := if_neg h0
  ((repeat (first | (with_reducible refine Vc.seq fun N hN => ?_) | ((first | with_reducible refine Vc.skip ?_); dsimp only [thenK, blockK, Nat.beq]; (first | (refine hN _ _ ?_; clear hN N))) | (with_reducible intro _) | ((with_reducible refine And.intro ?_ ?_); exact sdB) | ((first | ((with_reducible refine Vc.fin ?_); dsimp only [thenK, blockK, retK, resS, resOne, resAll]) | ((with_reducible refine Vc.hold ?_); first | refine Vc.regiont T0_ok GY0_ok ?_)); (try simp only [v8Y, Nat.beq, Nat.ble, seval, tabs, e1, e2])) | ((with_reducible refine hN _ _ ?_); clear hN N))); (try ((with_reducible refine Fin.of ?_); (try with_reducible exact True.intro))))
  (refine Vc.cond T0_ok (t := false) (by rfl) (fun h => Bool.noConfusion h) (fun _ => ?_))
  ((repeat (first | (with_reducible refine Vc.seq fun N hN => ?_) | ((first | with_reducible refine Vc.skip ?_); dsimp only [thenK, blockK, Nat.beq]; (first | (refine hN _ _ ?_; clear hN N))) | (with_reducible intro _) | ((with_reducible refine And.intro ?_ ?_); exact sdB) | ((first | ((with_reducible refine Vc.fin ?_); dsimp only [thenK, blockK, retK, resS, resOne, resAll]) | ((with_reducible refine Vc.hold ?_); first | refine Vc.regiont T0_ok GY0_ok ?_)); (try simp only [v8Y, Nat.beq, Nat.ble, seval, tabs, e1, e2])) | ((with_reducible refine hN _ _ ?_); clear hN N))); (try ((with_reducible refine Fin.of ?_); (try with_reducible exact True.intro))))
  ((try simp only [v8Y, Nat.beq, Nat.ble, seval, tabs]); (repeat' with_reducible apply And.intro) <;> first | with_reducible exact True.intro | rw [e3] | with_reducible rfl | (congr 1 <;> omega) | trivial)
def g_putW (args : List SV) (m : List Blk) : CR := match args with
 | [.mpv nm b, .agg l, .word n] => match bget m nm, codeC ck_83 l with
  | .mp b' ks f, some c => .rel (b = b' ∧ ks = ck_83 ∧ inCs ck_83 c ∧ n < W) Unit (fun _ => True) (fun _ => .tup []) (fun _ => bset m nm (.mp b' ks (putN f c n)))
  | _, _ => .none
 | _ => .none
theorem codeC_i {k : IntKind} {ks : List CK} {l : List SV} {c : List Int} (h : codeC (.i k :: ks) l = some c) : ∃ n l' c', l = .int k n :: l' ∧ c = n :: c' ∧ codeC ks l' = some c' := by
 cases l with
 | nil => cases h
 | cons x l =>
  cases x <;> try (cases h; done)
  rename_i k' n
  simp only [codeC] at h
  split at h
  ·rename_i hk
   obtain rfl := sameK_eq hk
   split at h
   ·rename_i c' hc
    exact ⟨n, l, c', rfl, (Option.some.inj h).symm, hc⟩
   ·cases h
  ·cases h
theorem codeC_b {ks : List CK} {l : List SV} {c : List Int} (h : codeC (.b :: ks) l = some c) : ∃ v l' c', l = .bool v :: l' ∧ c = (cond v 1 0) :: c' ∧ codeC ks l' = some c' := by
 cases l with
 | nil => cases h
 | cons x l =>
  cases x <;> try (cases h; done)
  rename_i v
  simp only [codeC] at h
  split at h
  ·rename_i c' hc
   exact ⟨v, l, c', rfl, (Option.some.inj h).symm, hc⟩
  ·cases h
theorem codeC_nil {l : List SV} {c : List Int} (h : codeC [] l = some c) : l = [] ∧ c = [] := by
 cases l with
 | nil => exact ⟨rfl, (Option.some.inj h).symm⟩
 | cons => cases h
theorem codeC_pl {l : List SV} {c : List Int} (h : codeC ck_83 l = some c) : ∃ (x0 x1 x2 x3 x4 x5 x6 x7 x8 x9 x10 x11 x12 x13 x14 x15 x16 x17 x18 x19 : Int) (v : Bool) (k0 k1 k2 k3 : Int), l = [.int .u8 x0, .int .u8 x1, .int .u8 x2, .int .u8 x3, .int .u8 x4, .int .u8 x5, .int .u8 x6, .int .u8 x7, .int .u8 x8, .int .u8 x9, .int .u8 x10, .int .u8 x11, .int .u8 x12, .int .u8 x13, .int .u8 x14, .int .u8 x15, .int .u8 x16, .int .u8 x17, .int .u8 x18, .int .u8 x19, .bool v, .int .u64 k0, .int .u64 k1, .int .u64 k2, .int .u64 k3] ∧ c = [x0, x1, x2, x3, x4, x5, x6, x7, x8, x9, x10, x11, x12, x13, x14, x15, x16, x17, x18, x19, cond v 1 0, k0, k1, k2, k3] := by
 obtain ⟨x0, l0, c0, rfl, rfl, h0⟩ := codeC_i h
 obtain ⟨x1, l1, c1, rfl, rfl, h1⟩ := codeC_i h0
 obtain ⟨x2, l2, c2, rfl, rfl, h2⟩ := codeC_i h1
 obtain ⟨x3, l3, c3, rfl, rfl, h3⟩ := codeC_i h2
 obtain ⟨x4, l4, c4, rfl, rfl, h4⟩ := codeC_i h3
 obtain ⟨x5, l5, c5, rfl, rfl, h5⟩ := codeC_i h4
 obtain ⟨x6, l6, c6, rfl, rfl, h6⟩ := codeC_i h5
 obtain ⟨x7, l7, c7, rfl, rfl, h7⟩ := codeC_i h6
 obtain ⟨x8, l8, c8, rfl, rfl, h8⟩ := codeC_i h7
 obtain ⟨x9, l9, c9, rfl, rfl, h9⟩ := codeC_i h8
 obtain ⟨x10, l10, c10, rfl, rfl, h10⟩ := codeC_i h9
 obtain ⟨x11, l11, c11, rfl, rfl, h11⟩ := codeC_i h10
 obtain ⟨x12, l12, c12, rfl, rfl, h12⟩ := codeC_i h11
 obtain ⟨x13, l13, c13, rfl, rfl, h13⟩ := codeC_i h12
 obtain ⟨x14, l14, c14, rfl, rfl, h14⟩ := codeC_i h13
 obtain ⟨x15, l15, c15, rfl, rfl, h15⟩ := codeC_i h14
 obtain ⟨x16, l16, c16, rfl, rfl, h16⟩ := codeC_i h15
 obtain ⟨x17, l17, c17, rfl, rfl, h17⟩ := codeC_i h16
 obtain ⟨x18, l18, c18, rfl, rfl, h18⟩ := codeC_i h17
 obtain ⟨x19, l19, c19, rfl, rfl, h19⟩ := codeC_i h18
 obtain ⟨v, l20, c20, rfl, rfl, h20⟩ := codeC_b h19
 obtain ⟨k0, l21, c21, rfl, rfl, h21⟩ := codeC_i h20
 obtain ⟨k1, l22, c22, rfl, rfl, h22⟩ := codeC_i h21
 obtain ⟨k2, l23, c23, rfl, rfl, h23⟩ := codeC_i h22
 obtain ⟨k3, l24, c24, rfl, rfl, h24⟩ := codeC_i h23
 obtain ⟨rfl, rfl⟩ := codeC_nil h24
 exact ⟨x0, x1, x2, x3, x4, x5, x6, x7, x8, x9, x10, x11, x12, x13, x14, x15, x16, x17, x18, x19, v, k0, k1, k2, k3, rfl, rfl⟩
theorem g_putW_ok (w0 : World) (B : List Nat) (args : List SV) (m : List Blk) : CROk Tryd.prog w0 B 18 args m (g_putW args m) := by
 unfold g_putW; split
 ·rename_i nm b l n
  split
  ·rename_i b' ks f c hb hc
   rintro ⟨rfl, rfl, h1, h2⟩ w hm
   obtain ⟨x0, x1, x2, x3, x4, x5, x6, x7, x8, x9, x10, x11, x12, x13, x14, x15, x16, x17, x18, x19, v, k0, k1, k2, k3, rfl, rfl⟩ := codeC_pl hc
   exact calls_mp Tryd.func18 rfl rfl hm hb (args' := [.mpv 0 b, .agg [.int .u8 x0, .int .u8 x1, .int .u8 x2, .int .u8 x3, .int .u8 x4, .int .u8 x5, .int .u8 x6, .int .u8 x7, .int .u8 x8, .int .u8 x9, .int .u8 x10, .int .u8 x11, .int .u8 x12, .int .u8 x13, .int .u8 x14, .int .u8 x15, .int .u8 x16, .int .u8 x17, .int .u8 x18, .int .u8 x19, .bool v, .int .u64 k0, .int .u64 k1, .int .u64 k2, .int .u64 k3], .word n]) rfl (fun hm' => putW_vc x0 x1 x2 x3 x4 x5 x6 x7 x8 x9 x10 x11 x12 x13 x14 x15 x16 x17 x18 x19 v k0 k1 k2 k3 b n f h1 h2 w hm')
  ·exact trivial
 ·exact trivial
end Go.Proofs.YtoadeekdgikghaaDoor
