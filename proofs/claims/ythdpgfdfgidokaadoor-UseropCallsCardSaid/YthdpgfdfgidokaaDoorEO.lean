/-
 A symbolic walk of my own: a small region whose order is drawn, walked in each of its orders.
-/
import Derived.Test.YthdpgfdfgidokaaDoorX3
import Derived.Test.YthdpgfdfgidokaaDoorW8
import Derived.Test.YthdpgfdfgidokaaDoorEI
set_option maxRecDepth 10000
set_option maxHeartbeats 4000000
set_option linter.defProp false
set_option linter.unusedVariables false
set_option linter.unusedSimpArgs false
namespace Go.Proofs.YthdpgfdfgidokaaDoor
open Go.RowKit
theorem wide_vc (xs : List Int) (hl : xs.length = 20) (hx : allB xs) (w : World) : Calls Tryd.prog 67 (cvs [.ints .u8 xs]).toArray w (fun en w' => ∃ u, en = .returned u ∧ ∃ v m', u = cv v ∧ MemOk w [] m' w' ∧ v = .word (rdI xs)) := by
 have e1 : (xs.drop 0).take 20 = xs := by rw [List.drop_zero, List.take_of_length_le (by omega)]
 have e2 : readN xs = rdI xs := by unfold readN; rw [hl]; rfl
 refine Vc.calls T0_ok Tryd.func67 rfl rfl (args := [.ints .u8 xs]) (k := 4) rfl (MemOk.start _) ?_; change Vc _ _ ([.ints .u8 xs, .undef, .undef, .undef, .undef]) _ _
 ((repeat (first | (with_reducible refine Vc.seq fun N hN => ?_) | (with_reducible intro _) | ((with_reducible refine And.intro ?_ ?_); (focus (first | ((repeat' with_reducible apply And.intro) <;> first | exact True.intro | (rw [e1]; exact hx) | omega) | exact sd0))) | ((first | ((with_reducible refine Vc.fin ?_); dsimp only [thenK, blockK, retK, resS, resOne, resAll]) | ((with_reducible refine Vc.hold ?_); first | refine Vc.regiont T0_ok G4_ok ?_)); (try simp only [v8Y, Nat.beq, Nat.ble, seval, tabs, G4_set])) | ((with_reducible refine hN _ _ ?_); clear hN N))); (try ((with_reducible refine Fin.of ?_); (try with_reducible exact True.intro))))
 ((try simp only [v8Y, Nat.beq, Nat.ble, seval, tabs]); (repeat' with_reducible apply And.intro) <;> first | with_reducible exact True.intro | rw [e1, e2] | with_reducible rfl | (congr 1 <;> omega) | trivial)
def g_Addr (args : List SV) (_m : List Blk) : CR := match args with | [.word a] => .pure (True) (.ints .u8 (bytI a 20)) | _ => .none
theorem g_Addr_ok (w0 : World) (B : List Nat) (args : List SV) (m : List Blk) : CROk Tryd.prog w0 B 79 args m (g_Addr args m) := by
 unfold g_Addr; split
 ·rename_i a; exact pure_old Tryd.func79 rfl rfl (fun h w => (addr_vc a w).mono fun en w' ⟨u, he, v, m', hu, hm, hv⟩ => by subst hu; subst hv; exact ⟨he, gw_of_grown hm.grown⟩)
 ·exact trivial
def g_Wide (args : List SV) (_m : List Blk) : CR := match args with | [.ints .u8 xs] => .pure (xs.length = 20 ∧ allB xs) (.word (rdI xs)) | _ => .none
theorem g_Wide_ok (w0 : World) (B : List Nat) (args : List SV) (m : List Blk) : CROk Tryd.prog w0 B 67 args m (g_Wide args m) := by
 unfold g_Wide; split
 ·rename_i xs; exact pure_old Tryd.func67 rfl rfl (fun h w => (wide_vc xs h.1 h.2 w).mono fun en w' ⟨u, he, v, m', hu, hm, hv⟩ => by subst hu; subst hv; exact ⟨he, gw_of_grown hm.grown⟩)
 ·exact trivial
def g_Bytes (args : List SV) (_m : List Blk) : CR :=
 match args with
 | [.word a] => .own True 5 1 32 (.ints .u8 (bytI a 32)) (fun v => v)
 | _ => .none
theorem g_Bytes_ok (w0 : World) (B : List Nat) (args : List SV) (m : List Blk) : CROk Tryd.prog w0 B 101 args m (g_Bytes args m) := by
 unfold g_Bytes
 split
 ·rename_i a
  intro _ w _
  refine .inr ⟨enter_run Tryd.func101 rfl rfl _ w, (bytes_vc a w).mono fun e w' ⟨u, he, v', m', hu, hm, s, hv, hs⟩ => ⟨u, he, s, ?_, hm.grown, ?_⟩⟩
  ·rw [hu, hv]; rfl
  ·exact own_ok0 (hm.each _ (bget_mem hs (by simp)))
 ·exact trivial
noncomputable def G5 : Ctr := fun f args m => match f with
 | 52 => g_From args m
 | 43 => g_rFrom args m
 | 141 => g_Small args m
 | 109 => g_lowByte args m
 | 120 => g_Shl args m
 | 89 => g_Shr args m
 | 54 => g_Cmp args m
 | 53 => g_Add args m
 | 51 => g_Mul args m
 | 93 => g_length args m
 | 102 => g_Read args m
 | 79 => g_Addr args m
 | 67 => g_Wide args m
 | 101 => g_Bytes args m
 | _ => .none
theorem G5_ok : GOk Tryd.prog G5 := by
 intro w0 B f args m; unfold G5; split
 ·exact g_From_ok _ _ _ _
 ·exact g_rFrom_ok _ _ _ _
 ·exact g_Small_ok _ _ _ _
 ·exact g_lowByte_ok _ _ _ _
 ·exact g_Shl_ok _ _ _ _
 ·exact g_Shr_ok _ _ _ _
 ·exact g_Cmp_ok _ _ _ _
 ·exact g_Add_ok _ _ _ _
 ·exact g_Mul_ok _ _ _ _
 ·exact g_length_ok _ _ _ _
 ·exact g_Read_ok _ _ _ _
 ·exact g_Addr_ok _ _ _ _
 ·exact g_Wide_ok _ _ _ _
 ·exact g_Bytes_ok _ _ _ _
 ·exact trivial
theorem G5_From : G5 52 = g_From := by funext args m; rfl
theorem G5_rFrom : G5 43 = g_rFrom := by funext args m; rfl
theorem G5_Small : G5 141 = g_Small := by funext args m; rfl
theorem G5_lowByte : G5 109 = g_lowByte := by funext args m; rfl
theorem G5_Shl : G5 120 = g_Shl := by funext args m; rfl
theorem G5_Shr : G5 89 = g_Shr := by funext args m; rfl
theorem G5_Cmp : G5 54 = g_Cmp := by funext args m; rfl
theorem G5_Add : G5 53 = g_Add := by funext args m; rfl
theorem G5_Mul : G5 51 = g_Mul := by funext args m; rfl
theorem G5_length : G5 93 = g_length := by funext args m; rfl
theorem G5_Read : G5 102 = g_Read := by funext args m; rfl
theorem G5_Addr : G5 79 = g_Addr := by funext args m; rfl
theorem G5_Wide : G5 67 = g_Wide := by funext args m; rfl
theorem G5_Bytes : G5 101 = g_Bytes := by funext args m; rfl
def G5_set := And.intro (And.intro (And.intro (And.intro (@G5_From) (And.intro (@g_From.eq_def) (@G5_rFrom))) (And.intro (And.intro (@g_rFrom.eq_def) (@G5_Small)) (And.intro (@g_Small.eq_def) (@G5_lowByte)))) (And.intro (And.intro (@g_lowByte.eq_def) (And.intro (@G5_Shl) (@g_Shl.eq_def))) (And.intro (And.intro (@G5_Shr) (@g_Shr.eq_def)) (And.intro (@G5_Cmp) (@g_Cmp.eq_def))))) (And.intro (And.intro (And.intro (@G5_Add) (And.intro (@g_Add.eq_def) (@G5_Mul))) (And.intro (And.intro (@g_Mul.eq_def) (@G5_length)) (And.intro (@g_length.eq_def) (@G5_Read)))) (And.intro (And.intro (@g_Read.eq_def) (And.intro (@G5_Addr) (@g_Addr.eq_def))) (And.intro (And.intro (@G5_Wide) (@g_Wide.eq_def)) (And.intro (@G5_Bytes) (@g_Bytes.eq_def)))))

end Go.Proofs.YthdpgfdfgidokaaDoor
namespace Go.Proofs.YthdpgfdfgidokaaDoor
open Go.RowKit
def xo (a b : Int) : Int := bits .xor .u64 a b
def an (a b : Int) : Int := bits .and .u64 a b
def no (a : Int) : Int := bits .xor .u64 18446744073709551615 a
def rt (v : Int) (n : Nat) : Int := bits .or .u64 (IntKind.u64.wrap (v * 2 ^ n)) (v / 2 ^ (64 - n))
def it {α : Type} (f : α → Nat → α) (n : Nat) (a : α) : α := (List.range n).foldl f a
theorem it_0 {α : Type} (f : α → Nat → α) (a : α) : it f 0 a = a := rfl
theorem it_s {α : Type} (f : α → Nat → α) (n : Nat) (a : α) : it f (n + 1) a = f (it f n a) n := by unfold it; rw [List.range_succ, List.foldl_append]; rfl
theorem it_5 {α : Type} (f : α → Nat → α) (a : α) : it f 5 a = f (f (f (f (f a 0) 1) 2) 3) 4 := rfl
theorem it_24 {α : Type} (f : α → Nat → α) (a : α) : it f 24 a = f (f (f (f (f (f (f (f (f (f (f (f (f (f (f (f (f (f (f (f (f (f (f (f a 0) 1) 2) 3) 4) 5) 6) 7) 8) 9) 10) 11) 12) 13) 14) 15) 16) 17) 18) 19) 20) 21) 22) 23 := rfl
def kPath : List Nat := [10, 7, 11, 17, 18, 3, 5, 16, 8, 21, 24, 4, 15, 23, 19, 13, 12, 2, 20, 14, 22, 9, 6, 1]
def kTurns : List Nat := [0, 1, 62, 28, 27, 36, 44, 6, 55, 20, 3, 10, 43, 25, 39, 41, 45, 15, 21, 8, 18, 2, 61, 56, 14]
def kCs (l c : List Int) (k : Nat) : List Int := c.set k (xo (xo (xo (xo (l.getD k 0) (l.getD (k + 5) 0)) (l.getD (k + 10) 0)) (l.getD (k + 15) 0)) (l.getD (k + 20) 0))
def kC (l : List Int) (n : Nat) : List Int := it (kCs l) n [0, 0, 0, 0, 0]
def kD (c : List Int) (x : Nat) : Int := xo (c.getD ((x + 4) % 5) 0) (rt (c.getD ((x + 1) % 5) 0) 1)
def kIs (d : Int) (x : Nat) (s : List Int) (y : Nat) : List Int := s.set (5 * y + x) (xo (s.getD (5 * y + x) 0) d)
def kIn (s : List Int) (d : Int) (x n : Nat) : List Int := it (kIs d x) n s
def kSs (d : Nat → Int) (s : List Int) (x : Nat) : List Int := kIn s (d x) x 5
def kSp (l : List Int) (d : Nat → Int) (n : Nat) : List Int := it (kSs d) n l
def kMs (p : List Int × Int) (t : Nat) : List Int × Int := (p.1.set (kPath.getD t 0) (rt p.2 ((t + 1) * (t + 2) / 2 % 64)), p.1.getD (kPath.getD t 0) 0)
def kMv (l : List Int) (n : Nat) : List Int × Int := it kMs n (l, l.getD 1 0)
def kRow (l : List Int) (y x : Nat) : Int := xo (l.getD (5 * y + x) 0) (an (no (l.getD (5 * y + (x + 1) % 5) 0)) (l.getD (5 * y + (x + 2) % 5) 0))
def kBs (l : List Int) (y : Nat) : List Int := ((((l.set (5 * y) (kRow l y 0)).set (5 * y + 1) (kRow l y 1)).set (5 * y + 2) (kRow l y 2)).set (5 * y + 3) (kRow l y 3)).set (5 * y + 4) (kRow l y 4)
def kBe (l : List Int) (n : Nat) : List Int := it kBs n l
def kSpr (l : List Int) : List Int := kSp l (kD (kC l 5)) 5
def kMov (l : List Int) : List Int := (kMv l 24).1
def kBen (l : List Int) : List Int := kBe l 5
def kRnd (k : Int) (l : List Int) : List Int := (kBen (kMov (kSpr l))).set 0 (xo ((kBen (kMov (kSpr l))).getD 0 0) k)
def qCs (l c : List Int) (k : Nat) : List Int := c ++ [xo (xo (xo (xo (l.getD k 0) (l.getD (5 + k) 0)) (l.getD (10 + k) 0)) (l.getD (15 + k) 0)) (l.getD (20 + k) 0)]
def qC (l : List Int) (n : Nat) : List Int := it (qCs l) n []
def qRot (v : Int) (n : Nat) : Int := if n = 0 then v else rt v n
def qIs (l : List Int) (r : List Nat) (d : Int) (x : Nat) (b : List Int) (y : Nat) : List Int := b.set (5 * ((2 * x + 3 * y) % 5) + y) (qRot (xo (l.getD (5 * y + x) 0) d) (r.getD (5 * y + x) 0))
def qBs (l : List Int) (r : List Nat) (d : Nat → Int) (b : List Int) (x : Nat) : List Int := it (qIs l r (d x) x) 5 b
def qB (l : List Int) (r : List Nat) (d : Nat → Int) (n : Nat) : List Int := it (qBs l r d) n (List.replicate 25 0)
def qNi (b : List Int) (y : Nat) (n : List Int) (x : Nat) : List Int := n ++ [kRow b y x]
def qNs (b n : List Int) (y : Nat) : List Int := it (qNi b y) 5 n
def qN (b : List Int) (n : Nat) : List Int := it (qNs b) n []
def qBB (l : List Int) (r : List Nat) : List Int := qB l r (kD (qC l 5)) 5
def qRnd (k : Int) (r : List Nat) (l : List Int) : List Int := (qN (qBB l r) 5).set 0 (xo ((qN (qBB l r) 5).getD 0 0) k)
theorem qRot_0 (v : Int) : qRot v 0 = v := if_pos rfl
theorem qRot_s (v : Int) (n : Nat) : qRot v (n + 1) = rt v (n + 1) := if_neg (Nat.succ_ne_zero n)
section
variable (x0 x1 x2 x3 x4 x5 x6 x7 x8 x9 x10 x11 x12 x13 x14 x15 x16 x17 x18 x19 x20 x21 x22 x23 x24 : Int) (d : Nat → Int)
theorem sp_at : kSp [x0, x1, x2, x3, x4, x5, x6, x7, x8, x9, x10, x11, x12, x13, x14, x15, x16, x17, x18, x19, x20, x21, x22, x23, x24] d 5 = [xo x0 (d 0), xo x1 (d 1), xo x2 (d 2), xo x3 (d 3), xo x4 (d 4), xo x5 (d 0), xo x6 (d 1), xo x7 (d 2), xo x8 (d 3), xo x9 (d 4), xo x10 (d 0), xo x11 (d 1), xo x12 (d 2), xo x13 (d 3), xo x14 (d 4), xo x15 (d 0), xo x16 (d 1), xo x17 (d 2), xo x18 (d 3), xo x19 (d 4), xo x20 (d 0), xo x21 (d 1), xo x22 (d 2), xo x23 (d 3), xo x24 (d 4)] := by
 simp only [kSp, kSs, kIn, kIs, it_5, Nat.reduceMul, Nat.reduceAdd, Nat.reduceMod, Nat.reduceDiv, List.set_cons_succ, List.set_cons_zero, List.getD_cons_succ, List.getD_cons_zero]
theorem mv_at : (kMv [x0, x1, x2, x3, x4, x5, x6, x7, x8, x9, x10, x11, x12, x13, x14, x15, x16, x17, x18, x19, x20, x21, x22, x23, x24] 24).1 = [x0, rt x6 44, rt x12 43, rt x18 21, rt x24 14, rt x3 28, rt x9 20, rt x10 3, rt x16 45, rt x22 61, rt x1 1, rt x7 6, rt x13 25, rt x19 8, rt x20 18, rt x4 27, rt x5 36, rt x11 10, rt x17 15, rt x23 56, rt x2 62, rt x8 55, rt x14 39, rt x15 41, rt x21 2] := by
 simp only [kMv, kMs, kPath, it_24, Nat.reduceMul, Nat.reduceAdd, Nat.reduceMod, Nat.reduceDiv, List.set_cons_succ, List.set_cons_zero, List.getD_cons_succ, List.getD_cons_zero]
theorem be_at : kBe [x0, x1, x2, x3, x4, x5, x6, x7, x8, x9, x10, x11, x12, x13, x14, x15, x16, x17, x18, x19, x20, x21, x22, x23, x24] 5 = [xo x0 (an (no x1) x2), xo x1 (an (no x2) x3), xo x2 (an (no x3) x4), xo x3 (an (no x4) x0), xo x4 (an (no x0) x1), xo x5 (an (no x6) x7), xo x6 (an (no x7) x8), xo x7 (an (no x8) x9), xo x8 (an (no x9) x5), xo x9 (an (no x5) x6), xo x10 (an (no x11) x12), xo x11 (an (no x12) x13), xo x12 (an (no x13) x14), xo x13 (an (no x14) x10), xo x14 (an (no x10) x11), xo x15 (an (no x16) x17), xo x16 (an (no x17) x18), xo x17 (an (no x18) x19), xo x18 (an (no x19) x15), xo x19 (an (no x15) x16), xo x20 (an (no x21) x22), xo x21 (an (no x22) x23), xo x22 (an (no x23) x24), xo x23 (an (no x24) x20), xo x24 (an (no x20) x21)] := by
 simp only [kBe, kBs, kRow, it_5, Nat.reduceMul, Nat.reduceAdd, Nat.reduceMod, Nat.reduceDiv, List.set_cons_succ, List.set_cons_zero, List.getD_cons_succ, List.getD_cons_zero]
theorem qn_at : qN [x0, x1, x2, x3, x4, x5, x6, x7, x8, x9, x10, x11, x12, x13, x14, x15, x16, x17, x18, x19, x20, x21, x22, x23, x24] 5 = [xo x0 (an (no x1) x2), xo x1 (an (no x2) x3), xo x2 (an (no x3) x4), xo x3 (an (no x4) x0), xo x4 (an (no x0) x1), xo x5 (an (no x6) x7), xo x6 (an (no x7) x8), xo x7 (an (no x8) x9), xo x8 (an (no x9) x5), xo x9 (an (no x5) x6), xo x10 (an (no x11) x12), xo x11 (an (no x12) x13), xo x12 (an (no x13) x14), xo x13 (an (no x14) x10), xo x14 (an (no x10) x11), xo x15 (an (no x16) x17), xo x16 (an (no x17) x18), xo x17 (an (no x18) x19), xo x18 (an (no x19) x15), xo x19 (an (no x15) x16), xo x20 (an (no x21) x22), xo x21 (an (no x22) x23), xo x22 (an (no x23) x24), xo x23 (an (no x24) x20), xo x24 (an (no x20) x21)] := by
 simp only [qN, qNs, qNi, kRow, it_5, List.nil_append, List.cons_append, Nat.reduceMul, Nat.reduceAdd, Nat.reduceMod, Nat.reduceDiv, List.set_cons_succ, List.set_cons_zero, List.getD_cons_succ, List.getD_cons_zero]
theorem rep25 : List.replicate 25 (0 : Int) = [0, 0, 0, 0, 0, 0, 0, 0, 0, 0, 0, 0, 0, 0, 0, 0, 0, 0, 0, 0, 0, 0, 0, 0, 0] := rfl
theorem qb_at : qB [x0, x1, x2, x3, x4, x5, x6, x7, x8, x9, x10, x11, x12, x13, x14, x15, x16, x17, x18, x19, x20, x21, x22, x23, x24] kTurns d 5 = [xo x0 (d 0), rt (xo x6 (d 1)) 44, rt (xo x12 (d 2)) 43, rt (xo x18 (d 3)) 21, rt (xo x24 (d 4)) 14, rt (xo x3 (d 3)) 28, rt (xo x9 (d 4)) 20, rt (xo x10 (d 0)) 3, rt (xo x16 (d 1)) 45, rt (xo x22 (d 2)) 61, rt (xo x1 (d 1)) 1, rt (xo x7 (d 2)) 6, rt (xo x13 (d 3)) 25, rt (xo x19 (d 4)) 8, rt (xo x20 (d 0)) 18, rt (xo x4 (d 4)) 27, rt (xo x5 (d 0)) 36, rt (xo x11 (d 1)) 10, rt (xo x17 (d 2)) 15, rt (xo x23 (d 3)) 56, rt (xo x2 (d 2)) 62, rt (xo x8 (d 3)) 55, rt (xo x14 (d 4)) 39, rt (xo x15 (d 0)) 41, rt (xo x21 (d 1)) 2] := by
 simp only [qB, qBs, qIs, kTurns, it_5, rep25, qRot_0, qRot_s, Nat.reduceMul, Nat.reduceAdd, Nat.reduceMod, Nat.reduceDiv, List.set_cons_succ, List.set_cons_zero, List.getD_cons_succ, List.getD_cons_zero]
theorem c_at : qC [x0, x1, x2, x3, x4, x5, x6, x7, x8, x9, x10, x11, x12, x13, x14, x15, x16, x17, x18, x19, x20, x21, x22, x23, x24] 5 = kC [x0, x1, x2, x3, x4, x5, x6, x7, x8, x9, x10, x11, x12, x13, x14, x15, x16, x17, x18, x19, x20, x21, x22, x23, x24] 5 := by
 simp only [qC, qCs, kC, kCs, it_5, List.nil_append, List.cons_append, Nat.reduceMul, Nat.reduceAdd, Nat.reduceMod, Nat.reduceDiv, List.set_cons_succ, List.set_cons_zero, List.getD_cons_succ, List.getD_cons_zero]
end
theorem list25 (l : List Int) (h : l.length = 25) : ∃ x0 x1 x2 x3 x4 x5 x6 x7 x8 x9 x10 x11 x12 x13 x14 x15 x16 x17 x18 x19 x20 x21 x22 x23 x24, l = [x0, x1, x2, x3, x4, x5, x6, x7, x8, x9, x10, x11, x12, x13, x14, x15, x16, x17, x18, x19, x20, x21, x22, x23, x24] := by
 match l, h with
 | [x0, x1, x2, x3, x4, x5, x6, x7, x8, x9, x10, x11, x12, x13, x14, x15, x16, x17, x18, x19, x20, x21, x22, x23, x24], _ => exact ⟨x0, x1, x2, x3, x4, x5, x6, x7, x8, x9, x10, x11, x12, x13, x14, x15, x16, x17, x18, x19, x20, x21, x22, x23, x24, rfl⟩
theorem rnd_eq (k : Int) (l : List Int) (h : l.length = 25) : qRnd k kTurns l = kRnd k l := by
 obtain ⟨x0, x1, x2, x3, x4, x5, x6, x7, x8, x9, x10, x11, x12, x13, x14, x15, x16, x17, x18, x19, x20, x21, x22, x23, x24, rfl⟩ := list25 l h
 unfold qRnd kRnd qBB kBen kMov kSpr
 rw [c_at]
 generalize kD (kC [x0, x1, x2, x3, x4, x5, x6, x7, x8, x9, x10, x11, x12, x13, x14, x15, x16, x17, x18, x19, x20, x21, x22, x23, x24] 5) = d
 rw [qb_at, sp_at, mv_at, be_at, qn_at]
end Go.Proofs.YthdpgfdfgidokaaDoor
namespace Go.Proofs.YthdpgfdfgidokaaDoor
open Go.RowKit

def ordersOf (ops : Array Oper) : Nat → Array Bool → List (List Nat)
 | 0, listed => match Region.ready .any ops listed with | [] => [[]] | _ => []
 | f + 1, listed => match Region.ready .any ops listed with
  | [] => [[]]
  | r => r.flatMap fun j => (ordersOf ops f (listed.setIfInBounds j true)).map (j :: ·)
theorem effK_all {α : Type} {G : Ctr} {m : List Blk} {e : Eff} {S : List α} {N : α → SV → List Blk → Prop} (hne : S ≠ []) (h : ∀ s ∈ S, effK G m e (N s)) : effK G m e fun v m => ∀ s ∈ S, N s v m := by
 obtain ⟨s0, hs0⟩ := List.exists_mem_of_ne_nil S hne
 cases e with
 | val p v => exact ⟨(h s0 hs0).1, fun s hs => (h s hs).2⟩
 | mem p m' => exact ⟨(h s0 hs0).1, fun s hs => (h s hs).2⟩
 | newb f e => exact fun b s hs => h s hs b
 | newo p f e => exact ⟨(h s0 hs0).1, fun v s hs => (h s hs).2 v⟩
 | turn p nm f e => exact ⟨(h s0 hs0).1, fun v s hs => (h s hs).2 v⟩
 | stuck => exact h s0 hs0
 | any p A Q f g => exact ⟨(h s0 hs0).1, fun a hQ s hs => (h s hs).2 a hQ⟩
 | call f args =>
  simp only [effK] at h ⊢
  cases hr : G f args m with
  | none => have := h s0 hs0; rw [hr] at this; exact this
  | pure p v => simp only [hr] at h; exact ⟨(h s0 hs0).1, fun s hs => (h s hs).2⟩
  | own p t es n con F => simp only [hr] at h; exact ⟨(h s0 hs0).1, fun v s hs => (h s hs).2 v⟩
  | turn p nm con v => simp only [hr] at h; exact ⟨(h s0 hs0).1, fun s hs => (h s hs).2⟩
  | rel p A Q F g => simp only [hr] at h; exact ⟨(h s0 hs0).1, fun a hR s hs => (h s hs).2 a hR⟩
  | grw p A Q F g => simp only [hr] at h; exact ⟨(h s0 hs0).1, fun a hR s hs => (h s hs).2 a hR⟩
def ordOk (ops : Array Oper) : Nat → Array Bool → Bool
 | 0, listed => match Region.ready .any ops listed with | [] => true | _ => false
 | f + 1, listed => (Region.ready .any ops listed).all fun j => ordOk ops f (listed.setIfInBounds j true)
theorem ordOk_ne {ops : Array Oper} : ∀ (f : Nat) (listed : Array Bool), ordOk ops f listed = true → ordersOf ops f listed ≠ []
 | 0, listed, h => by
  unfold ordOk at h; unfold ordersOf
  cases hr : Region.ready .any ops listed with
  | nil => simp
  | cons j r => rw [hr] at h; cases h
 | f + 1, listed, h => by
  unfold ordOk at h; unfold ordersOf
  cases hr : Region.ready .any ops listed with
  | nil => simp
  | cons j r =>
   have := ordOk_ne f (listed.setIfInBounds j true) (List.all_eq_true.1 h j (by rw [hr]; exact List.mem_cons_self))
   intro h0
   simp only [List.flatMap_cons] at h0
   exact this (List.map_eq_nil_iff.1 (List.append_eq_nil_iff.1 h0).1)
theorem any_of_orders {P : Program} {T : Tab} (hT : TabOk P T) {G : Ctr} (hG : GOk P G) {l : List Oper} {w0 : World} {B : List Nat} {Q : Exit → Act → World → Prop} {K : List SV → List Blk → Prop}
  (hQ : ∀ env m a w, Fr env a → a.defers = [] → MemOk w0 B m w → K env m → Q .normal a w) : ∀ (f : Nat) (listed : Array Bool) (env : List SV) (m : List Blk) (a : Act) (w : World),
   ordOk l.toArray f listed = true → (∀ s ∈ ordersOf l.toArray f listed, vcOps T G l (pickO l s) env m K) → Fr env a → a.defers = [] → MemOk w0 B m w → wpAny P .any l.toArray Q f listed a w := by
 intro f
 induction f with
 | zero =>
  intro listed env m a w hne h hf hd hm
  simp only [ordersOf] at h
  simp only [ordOk] at hne
  cases hr : Region.ready .any l.toArray listed with
  | nil =>
   rw [hr] at h
   exact ⟨hr, hQ env m a w hf hd hm (h [] (by simp))⟩
  | cons j r => rw [hr] at hne; cases hne
 | succ f ih =>
  intro listed env m a w hne h hf hd hm
  simp only [ordersOf] at h
  simp only [ordOk, List.all_eq_true] at hne
  refine ⟨fun h0 => ?_, fun i hi => ?_⟩
  ·rw [h0] at h
   exact hQ env m a w hf hd hm (h [] (by simp))
  ·have h1 : ∀ s ∈ ordersOf l.toArray f (listed.setIfInBounds i true), vcOps T G l (pickO l (i :: s)) env m K := fun s hs => by
    refine h (i :: s) ?_
    cases hr : Region.ready .any l.toArray listed with
    | nil => rw [hr] at hi; exact absurd hi List.not_mem_nil
    | cons j r =>
     rw [hr] at hi
     exact List.mem_flatMap.2 ⟨i, hi, List.mem_map.2 ⟨s, hs, rfl⟩⟩
   have hok := hne i hi
   have hS := ordOk_ne f _ hok
   obtain ⟨_, o, ho, _⟩ := mem_ready.1 hi
   have ho' : l[i]? = some o := by simpa using ho
   have hp : ∀ s, pickO l (i :: s) = o :: pickO l s := fun s => by simp only [pickO, nthO_eq, ho']
   simp only [hp] at h1
   have hg := gd_sound (all := l) hf o
   have key : (Region.wanted o (yielded l.toArray a.tmps) = true ∧ ∀ s ∈ ordersOf l.toArray f (listed.setIfInBounds i true), effK G m (step T env m o) fun v m' => vcOps T G l (pickO l s) (upd env o.dst v) m' K) ∨
     (Region.wanted o (yielded l.toArray a.tmps) = false ∧ ∀ s ∈ ordersOf l.toArray f (listed.setIfInBounds i true), vcOps T G l (pickO l s) (upd env o.dst .undef) m K) := by
    simp only [vcOps] at h1
    cases hgd : gd l env o with
    | go => simp only [hgd] at h1 hg; exact .inl ⟨hg, h1⟩
    | skip => simp only [hgd] at h1 hg; exact .inr ⟨hg, h1⟩
    | ask b want =>
     simp only [hgd, gdK] at h1 hg
     cases hb : eqB b want with
     | true => simp only [hb] at h1 hg; exact .inl ⟨hg, h1⟩
     | false => simp only [hb] at h1 hg; exact .inr ⟨hg, h1⟩
    | stuck =>
     obtain ⟨s, hs⟩ := List.exists_mem_of_ne_nil _ hS
     have := h1 s hs
     rw [hgd] at this; exact this.elim
   unfold wpOp
   simp only [ho]
   rcases key with ⟨hw, h2⟩ | ⟨hw, h2⟩
   ·rw [if_pos hw]
    refine .inl (Oper.wp_mono (fun a' w' ⟨v, m', he, hm', hk⟩ => ?_) (stepK_sound (T := T) (G := G) hT hG (effK_all hS h2) hf hm))
    subst he
    exact ih _ _ _ _ _ hok hk (hf.put o.dst v) (by rw [← hd]; cases o.dst <;> rfl) hm'
   ·rw [if_neg (by rw [hw]; simp)]
    exact ih _ _ _ _ _ hok h2 (hf.put o.dst .undef) (by rw [← hd]; cases o.dst <;> rfl) hm
def effP (G : Ctr) (m : List Blk) (e : Eff) (N : SV → List Blk → Prop) : Prop :=
 match e with
 | .val p v => p ∧ N v m
 | .mem p m' => p ∧ N .undef m'
 | .call f args => match G f args m with
  | .pure p v => p ∧ N v m
  | .turn p nm con v => p ∧ N v (bset m nm (withCon (bget m nm) con))
  | _ => False
 | _ => False
def vcP (T : Tab) (G : Ctr) (all : List Oper) : List Oper → List SV → List Blk → (List SV → List Blk → Prop) → Prop
 | [], env, m, K => K env m
 | o :: rest, env, m, K => gdK (gd all env o) (effP G m (step T env m o) fun v m' => vcP T G all rest (upd env o.dst v) m' K) (vcP T G all rest (upd env o.dst .undef) m K)
theorem effP_mono {G : Ctr} {m : List Blk} {e : Eff} {N N' : SV → List Blk → Prop} (h : effP G m e N) (hn : ∀ v m', N v m' → N' v m') : effK G m e N' := by
 unfold effP at h
 split at h
 ·exact ⟨h.1, hn _ _ h.2⟩
 ·exact ⟨h.1, hn _ _ h.2⟩
 ·simp only [effK, callK]
  split at h
  ·rename_i hr; rw [hr]; exact ⟨h.1, hn _ _ h.2⟩
  ·rename_i hr; rw [hr]; exact ⟨h.1, hn _ _ h.2⟩
  ·exact h.elim
 ·exact h.elim
theorem effP_ex {G : Ctr} {m : List Blk} {e : Eff} {N : SV → List Blk → Prop} (h : effP G m e N) : ∃ v m', N v m' := by
 unfold effP at h
 split at h
 ·exact ⟨_, _, h.2⟩
 ·exact ⟨_, _, h.2⟩
 ·split at h
  ·exact ⟨_, _, h.2⟩
  ·exact ⟨_, _, h.2⟩
  ·exact h.elim
 ·exact h.elim
theorem vcP_mono {T : Tab} {G : Ctr} {all : List Oper} {K K' : List SV → List Blk → Prop} (hk : ∀ e m, K e m → K' e m) : ∀ {l : List Oper} {env : List SV} {m : List Blk}, vcP T G all l env m K → vcOps T G all l env m K'
 | [], _, _, h => hk _ _ h
 | o :: rest, env, m, h => by
  simp only [vcP, vcOps, gdK] at h ⊢
  have h1 := fun (h : effP G m (step T env m o) fun v m' => vcP T G all rest (upd env o.dst v) m' K) => effP_mono h fun v m' hv => vcP_mono hk hv
  cases hg : gd all env o with
  | go => simp only [hg] at h ⊢; exact h1 h
  | skip => simp only [hg] at h ⊢; exact vcP_mono hk h
  | ask b w => simp only [hg] at h ⊢; cases hb : eqB b w with
   | true => simp only [hb, askK] at h ⊢; exact h1 h
   | false => simp only [hb, askK] at h ⊢; exact vcP_mono hk h
  | stuck => simp only [hg] at h
theorem vcP_ex {T : Tab} {G : Ctr} {all : List Oper} {K : List SV → List Blk → Prop} : ∀ {l : List Oper} {env : List SV} {m : List Blk}, vcP T G all l env m K → ∃ e m', K e m'
 | [], _, _, h => ⟨_, _, h⟩
 | o :: rest, env, m, h => by
  simp only [vcP, gdK] at h
  have h1 := fun (h : effP G m (step T env m o) fun v m' => vcP T G all rest (upd env o.dst v) m' K) => (effP_ex h).elim fun v ⟨m', hv⟩ => vcP_ex hv
  cases hg : gd all env o with
  | go => simp only [hg] at h; exact h1 h
  | skip => simp only [hg] at h; exact vcP_ex h
  | ask b w => simp only [hg] at h; cases hb : eqB b w with
   | true => simp only [hb, askK] at h; exact h1 h
   | false => simp only [hb, askK] at h; exact vcP_ex h
  | stuck => simp only [hg] at h
def sameO (T : Tab) (G : Ctr) (l : List Oper) (env : List SV) (m : List Blk) : List (List Nat) → List SV → List Blk → Prop
 | [], _, _ => True
 | s :: r, e, m' => vcP T G l (pickO l s) env m (fun e2 m2 => e2 = e ∧ m2 = m') ∧ sameO T G l env m r e m'
theorem sameO_mem {T : Tab} {G : Ctr} {l : List Oper} {env : List SV} {m : List Blk} {e : List SV} {m' : List Blk} {K : List SV → List Blk → Prop} (hk : K e m') : ∀ {S : List (List Nat)}, sameO T G l env m S e m' → ∀ s ∈ S, vcOps T G l (pickO l s) env m K
 | s :: r, h, x, hx => by
  rcases List.mem_cons.1 hx with rfl | hx
  ·exact vcP_mono (fun e2 m2 ⟨h1, h2⟩ => by rw [h1, h2]; exact hk) h.1
  ·exact sameO_mem hk h.2 x hx
theorem Vc.orders {P : Program} {T : Tab} (hT : TabOk P T) {G : Ctr} (hG : GOk P G) (hm : P.follows .mixedOrders = true) {id : Nat} {l : List Oper} {env : List SV} {m : List Blk} {K : Kont} (s : List Nat) (S : List (List Nat))
  (hS : ordersOf l.toArray l.toArray.size (Array.replicate l.toArray.size false) = s :: S) (hB : ordOk l.toArray l.toArray.size (Array.replicate l.toArray.size false) = true)
  (h : vcP T G l (pickO l s) env m fun e m' => sameO T G l env m S e m' ∧ K .normal e m') : Vc P (.region id l.toArray true) env m K := by
 intro w0 B a w hf hd hmm
 let Q : Exit → Act → World → Prop := fun x a w => x = .normal ∧ ∃ env m, Fr env a ∧ a.defers = [] ∧ MemOk w0 B m w ∧ K .normal env m
 refine wp_mono (Q := Q) (wp_region_any hm ?_) fun x a' w' ⟨hx, env', m', h1, h2, h3, h4⟩ => by subst hx; exact ⟨env', m', h1, h2, h3, h4⟩
 have hm2 : MemOk w0 B m { w with drawn := w.drawn + 1 } := ⟨hmm.os, hmm.tape, hmm.output, hmm.size, hmm.old, fun e he => by
  have := hmm.each e he
  cases e <;> exact this, hmm.nodup⟩
 refine any_of_orders (Q := Q) hT hG (fun env m a w h1 h2 h3 h4 => ⟨rfl, env, m, h1, h2, h3, h4⟩) _ _ env m a _ hB ?_ hf hd hm2
 rw [hS]
 intro x hx
 rcases List.mem_cons.1 hx with rfl | hx
 ·exact vcP_mono (fun e m' h => h.2) h
 ·obtain ⟨e, m', h1, h2⟩ := vcP_ex h
  exact sameO_mem h2 h1 x hx
section
variable {T : Tab} {G : Ctr} {m m' : List Blk} {t : Tok} {N : Tok → SV → List Blk → Prop} {K : Tok → List SV → List Blk → Prop} {all l l' : List Oper} {o : Oper} {env env' e e' : List SV} {s : List Nat} {S : List (List Nat)}
end
end Go.Proofs.YthdpgfdfgidokaaDoor
