/-
 The long division where the divisor has more than one part, or one; walked.
-/
import Derived.Test.YthdpgfdfgidokaaDoorEI
import Derived.Test.YthdpgfdfgidokaaDoorRD
import Derived.Test.YthdpgfdfgidokaaDoorBase
import Derived.Shelf.Small.Bits
import Derived.Shelf.Strconv.Itoa0
import Derived.Shelf.Bits.Mul64
import Derived.Test.YthdpgfdfgidokaaDoorProg
import Derived.Test.YthdpgfdfgidokaaDoorW1
import Derived.Test.YthdpgfdfgidokaaDoorA1
import Derived.Deep.DeepCutAuto
import Derived.Deep.CutBlock
set_option maxRecDepth 10000
set_option linter.unusedVariables false
set_option linter.unusedSimpArgs false
namespace Go.Proofs.YthdpgfdfgidokaaDoor
open Go.RowKit
theorem Vc.nilown {P : Program} {c : Code} {env : List SV} {m : List Blk} {K : Kont} (i : Nat) (t : TypeId) (es : Nat) (k : IntKind) (h0 : sget env i = .nilsl)
  (h : Vc P c (sset env i (.own (blen m) (.slice none 0 0) 0)) (bpush m (.own (.slice none 0 0) 0 t es (.ints k []))) K) : Vc P c env m K := by
 have hs : ∀ (l : List SV) (i : Nat), sget l i = .nilsl → cvs (sset l i (.own (blen m) (.slice none 0 0) 0)) = cvs l := by
  intro l
  induction l with
  | nil => intro i _; rfl
  | cons x l ih =>
   intro i hi
   cases i with
   | zero => simp only [sget] at hi; subst hi; rfl
   | succ i => simp only [sget] at hi; simp only [sset, cvs, ih i hi]
 intro w0 B a w hf hd hm
 refine h w0 B a w (by unfold Fr at *; rw [hs env i h0]; exact hf) hd ?_
 rw [bpush_eq]
 refine hm.push (grown_refl w) ⟨⟨by simp [cc], .inl ⟨rfl, rfl⟩⟩, fun b hb => by simp [Value.ownBlock] at hb⟩ (fun b hb => ?_)
 simp [Blk.nums, Value.ownBlock] at hb
theorem take_push {l : List Int} {k : Nat} {y : Int} (h : l[k]? = some y) : l.take k ++ [y] = l.take (k + 1) := by
 rw [List.take_add_one, h]; rfl
theorem ro_two {w : World} {a1 a2 : Option Addr} {c1 c2 : Con} (h1 : MemOk w [] [.ro a1 c1] w) (h2 : MemOk w [] [.ro a2 c2] w) : MemOk w [] [.ro a1 c1, .ro a2 c2] w :=
 ⟨rfl, rfl, rfl, Nat.le_refl _, fun _ _ _ => rfl, fun e he => by
  rcases List.mem_cons.1 he with rfl | he
  ·exact h1.each _ List.mem_cons_self
  ·exact h2.each _ he, List.nodup_nil⟩
section
variable {W : World}
def RoOk (W : World) (a : Option Addr) (c : Con) : Prop := ∀ j u, (cc c)[j]? = some u → ∃ b off, a = some ⟨b, off, none⟩ ∧ b < W.heap.size ∧ W.cell? ⟨b, off + j, none⟩ = some u
theorem ro_nil (W : World) : MemOk W [] [] W := MemOk.start W
theorem ro_cons {m : List Blk} {a : Option Addr} {c : Con} (h : MemOk W [] m W) (hr : RoOk W a c) : MemOk W [] (.ro a c :: m) W :=
 ⟨h.os, h.tape, h.output, h.size, h.old, fun x hx => by
  rcases List.mem_cons.1 hx with rfl | hx
  ·intro j u hj
   obtain ⟨b, off, g1, g2, g3⟩ := hr j u hj
   exact ⟨b, off, g1, g2, List.not_mem_nil, g3⟩
  ·exact h.each x hx, by
  rw [List.flatMap_cons]; exact h.nodup⟩
end
end Go.Proofs.YthdpgfdfgidokaaDoor
namespace Go.Proofs.YthdpgfdfgidokaaDoor
open Go.RowKit

section
variable {P : Program} {ops : Array Oper} {md : Region.Mode}
def extUpon (P : Program) (w : World) (v : Value) : Result Next → Prop
 | .ok (.value u) w' => w' = w ∧ u = v
 | .ok .skip w' => w' = w ∧ v = undef
 | .ok (.enter f args) w' => w' = w ∧ Calls P f args w (Ret w v)
 | _ => False
def extAt (P : Program) (o : Oper) (a : Act) (w : World) (v : Value) : Prop := extUpon P w v ((execOp a.eval o).run P w)
def ext (P : Program) (o : Oper) (a : Act) (W : World) (K : Act → Prop) : Prop := ∃ v, (∀ p, extAt P o a (gw W p) v) ∧ K (a.put o.dst v)
attribute [go_sem] ext extAt extUpon
def EYields (P : Program) (ops : Array Oper) (W : World) (o : Oper) (v : Value) (a : Act) : Prop :=
 (Region.wanted o (yielded ops a.tmps) = true ∧ ∀ p, extAt P o a (gw W p) v) ∨ (Region.wanted o (yielded ops a.tmps) = false ∧ v = undef)
theorem gw_alloc_gw (W : World) (p p' : Gro) (o : Obj) : gw ((gw W p).alloc o) p' = gw W ⟨p'.d, p.os ++ #[o] ++ p'.os⟩ := by
 simp only [gw, World.alloc, Array.push_eq_append, Array.append_assoc]
theorem EYields.later {o : Oper} {v : Value} {a : Act} {W : World} (hy : EYields P ops W o v a) (p : Gro) (ob : Obj) : EYields P ops ((gw W p).alloc ob) o v a := by
 rcases hy with ⟨hw, hv⟩ | h
 ·exact .inl ⟨hw, fun p' => by rw [gw_alloc_gw]; exact hv _⟩
 ·exact .inr h
end
end Go.Proofs.YthdpgfdfgidokaaDoor
namespace Go.Proofs
open Go.Shelf
def Tryd.lays264_ren : Go.Shelf.Ren := ⟨fun | 264 => 133 | n => n, fun | 53 => 24 | 46 => 102 | n => n, fun | n => n⟩
theorem Tryd.lays264 : Go.Proofs.Lays.n264 Tryd.prog Tryd.lays264_ren := {
 mixed := by kernel_rfl
 f264 := Tryd.func133.trans (congrArg some (by kernel_rfl))
 t46 := Tryd.underlying102
 a46 := Tryd.isAgg102
 z46 := Tryd.sizeOf102
 v46 := Tryd.zeroValue102
 t53 := Tryd.underlying24
 a53 := Tryd.isAgg24
 z53 := Tryd.sizeOf24
 v53 := Tryd.zeroValue24 }
open Go.RowKit Go.Lib in
theorem Tryd.bits_Mul64 (x y : Nat) (hx : x < 18446744073709551616) (hy : y < 18446744073709551616) (w : World) :
  Calls Tryd.prog 133 #[.int .u64 x, .int .u64 y] w fun e w' => e = .returned (.tuple #[.int .u64 ((x * y / 18446744073709551616 : Nat) : Int), .int .u64 ((x * y % 18446744073709551616 : Nat) : Int)]) ∧ w' = w := Any.bits_Mul64 Tryd.lays264 x y hx hy w
end Go.Proofs
namespace Go.Proofs.YthdpgfdfgidokaaDoor
open Go.RowKit

theorem calls_same {P : Program} {f : FuncId} {args : Array Value} {w : World} {v : Value} {R : Ending → World → Prop}
  (h : Calls P f args w fun e w' => e = .returned v ∧ w' = w) (k : R (.returned v) w) : Calls P f args w R :=
 h.mono fun e w' ⟨he, hw⟩ => by subst he; subst hw; exact k
theorem quiet_same {P : Program} {f : FuncId} {args : Array Value} {w : World} {q : Gro} {v : Value}
  (h : Calls P f args (gw w q) fun e w' => e = .returned v ∧ w' = gw w q) :
  Calls P f args (gw w q) fun e w'' => e = .returned v ∧ ∃ p : Gro, w'' = gw w p :=
 h.mono fun _ _ ⟨he, hp⟩ => ⟨he, q, hp⟩

theorem quiet_same2 {P : Program} {f : FuncId} {args : Array Value} {w : World} {d : Nat} {a o : Array Obj} {v : Value}
  (h : Calls P f args (gw w ⟨d, a ++ o⟩) fun e w' => e = .returned v ∧ w' = gw w ⟨d, a ++ o⟩) :
  Calls P f args (gw w ⟨d, a ++ o⟩) fun e w'' => e = .returned v ∧ ∃ p : Gro, w'' = gw w ⟨p.d, a ++ p.os⟩ :=
 h.mono fun _ _ ⟨he, hp⟩ => ⟨he, ⟨d, o⟩, hp⟩
def sbL (x y b : Nat) : Nat := (x + 18446744073709551616 - y - b) % 18446744073709551616
def sbB (x y b : Nat) : Nat := if x < y + b then 1 else 0
theorem sb_eq {x y b : Nat} (hx : x < 18446744073709551616) (hy : y < 18446744073709551616) (hb : b ≤ 1) :
  x + 18446744073709551616 * sbB x y b = sbL x y b + y + b := by unfold sbL sbB; split <;> omega
theorem sbB_le (x y b : Nat) : sbB x y b ≤ 1 := by unfold sbB; split <;> omega
theorem sbL_lt (x y b : Nat) : sbL x y b < 18446744073709551616 := Nat.mod_lt _ (by decide)
theorem ext_sub64 (x y b : Nat) (hb : b ≤ 1) (w : World) :
  (callFunc 119 #[.int .u64 x, .int .u64 y, .int .u64 b]).run Tryd.prog w =
   .ok (.value (.tuple #[.int .u64 (sbL x y b : Nat), .int .u64 (sbB x y b : Nat)])) w := by
 rw [run_callFunc_extern Tryd.func119 (by kernel_rfl) (by kernel_rfl) (by kernel_rfl) (e := sub64Entry) (by kernel_rfl), run_sub64 x y b hb]
 rfl
theorem ext_add64_0 (x y : Nat) (w : World) :
  (callFunc 94 #[.int .u64 x, .int .u64 y, .int .u64 0]).run Tryd.prog w =
   .ok (.value (.tuple #[.int .u64 (lo (x + y) : Nat), .int .u64 (hi (x + y) : Nat)])) w := ext_add64 x y 0 (by omega) w

theorem mulAdd_sum {P p m : Nat} (hp : p < 18446744073709551616) (hm : m < 18446744073709551616) (h : P ≤ 18446744073709551615 * 18446744073709551615) :
  P / 18446744073709551616 + hi (P % 18446744073709551616 + p) ≤ 18446744073709551615 ∧
  lo (lo (P % 18446744073709551616 + p) + m) = lo (P + p + m) ∧
  P / 18446744073709551616 + hi (P % 18446744073709551616 + p) + hi (lo (P % 18446744073709551616 + p) + m) = hi (P + p + m) ∧ hi (P + p + m) ≤ 18446744073709551615 := by
 unfold hi lo; omega
attribute [local go_sem] ext_add64_0
set_option maxHeartbeats 1000000 in
theorem mulAdd_any (x y p m : Nat) (hx : x < 18446744073709551616) (hy : y < 18446744073709551616) (hp : p < 18446744073709551616) (hm : m < 18446744073709551616) (w : World) :
  Calls Tryd.prog 118 #[.int .u64 x, .int .u64 y, .int .u64 p, .int .u64 m] w fun e w' => e = .returned (.tuple #[.int .u64 (lo (x * y + p + m) : Nat), .int .u64 (hi (x * y + p + m) : Nat)]) ∧ w' = w := by
 have hP : x * y ≤ 18446744073709551615 * 18446744073709551615 := Nat.mul_le_mul (by omega) (by omega)
 have hmul := Tryd.bits_Mul64 x y hx hy
 generalize hz : x * y = P at *
 obtain ⟨h1, h2, h3, h4⟩ := mulAdd_sum hp hm hP
 have HM := Lib.hid hmul
 have H2 := Lib.hid h2
 rw [← h3] at h4
 have H3 := Lib.hid h3
 clear hmul h2 h3 hz hP
 generalize P % 18446744073709551616 = Pl at *
 generalize P / 18446744073709551616 = Ph at *
 go_enter Tryd.func118, Tryd.ntmps118
 go_wp2_with (go_at_call 133; (with_reducible refine calls_same (HM.out _) ?_))
 go_ret2
 exact ⟨by rw [← H2.out, ← H3.out]; simp [Int.natCast_add], rfl⟩

def U64s (xs : List Nat) : Array Value := (xs.map fun (x : Nat) => Value.int .u64 (x : Int)).toArray
def putA (w : World) (b : Nat) (xs : List Nat) (t : TypeId) : World := { w with heap := w.heap.setIfInBounds b (.cells (U64s xs) t) }
def Arr (w : World) (b : Nat) (xs : List Nat) (t : TypeId) : Prop := w.heap[b]? = some (.cells (U64s xs) t)
theorem Arr.lt {w : World} {b : Nat} {xs : List Nat} {t : TypeId} (h : Arr w b xs t) : b < w.heap.size := (Array.getElem?_eq_some_iff.1 h).1
theorem Arr.cell {w : World} {b : Nat} {xs : List Nat} {t : TypeId} (h : Arr w b xs t) {i : Nat} (hi : i < xs.length) : w.cell? ⟨b, i, none⟩ = some (.int .u64 (xs.getD i 0 : Nat)) := by
 have h2 : w.heap[b]? = some (.cells (U64s xs) t) := h
 unfold World.cell?
 simp only [h2]
 simp [U64s, hi]
theorem Arr.frozen {w : World} {b : Nat} {xs : List Nat} {t : TypeId} (h : Arr w b xs t) (i : Nat) : w.frozen? ⟨b, i, none⟩ = false := by
 have h2 : w.heap[b]? = some (.cells (U64s xs) t) := h
 unfold World.frozen?
 simp only [h2]
 simp
theorem Arr.set {w : World} {b : Nat} {xs : List Nat} {t : TypeId} (h : Arr w b xs t) (i x : Nat) : w.setCell ⟨b, i, none⟩ (.int .u64 (x : Nat)) = putA w b (xs.set i x) t := by
 have h2 : w.heap[b]? = some (.cells (U64s xs) t) := h
 unfold World.setCell putA
 congr 1
 apply Array.ext_getElem?
 intro k
 rw [Array.getElem?_modify, Array.getElem?_setIfInBounds]
 by_cases hk : b = k
 ·subst hk
  rw [if_pos rfl, if_pos rfl, if_pos h.lt, h2]
  simp [U64s, List.map_set]
 ·rw [if_neg hk, if_neg hk]
theorem gw_arr {w : World} {b : Nat} {xs : List Nat} {t : TypeId} (h : Arr w b xs t) (p : Gro) : Arr (gw w p) b xs t := by
 unfold Arr; rw [gw_block w p h.lt]; exact h
end Go.Proofs.YthdpgfdfgidokaaDoor

/-
 The two loops of the long division that take away and give back, walked.
-/
namespace Go.Proofs.YthdpgfdfgidokaaDoor
open Go.RowKit
attribute [local go_sem] ext_add64_0 ext_sub64
theorem val_take_succ {ys : List Nat} {i : Nat} (h : i < ys.length) : val (seg ys 0 (i + 1)) = val (seg ys 0 i) + Bp i * ys.getD i 0 := by
 have := val_seg_succ (xs := ys) (o := 0) (n := i) (by omega)
 simpa using this
structure TkInv (xs ys : List Nat) (o n q i : Nat) (xs' : List Nat) (c br : Nat) : Prop where
 len : xs'.length = xs.length
 ok : Ok xs'
 same : ∀ k, k < o ∨ o + i ≤ k → xs'.getD k 0 = xs.getD k 0
 clt : c < 18446744073709551616
 brle : br ≤ 1
 eq : val (seg xs' o i) + q * val (seg ys 0 i) = val (seg xs o i) + (c + br) * Bp i
theorem TkInv.start {xs ys : List Nat} (o n q : Nat) (hx : Ok xs) : TkInv xs ys o n q 0 xs 0 0 :=
 ⟨rfl, hx, fun _ _ => rfl, by decide, by decide, by simp [seg, val]⟩
theorem TkInv.step {xs ys xs' : List Nat} {o n q i c br : Nat} (h : TkInv xs ys o n q i xs' c br) (hin : i < n) (ho : o + n < xs.length) (hy : n ≤ ys.length) (hys : Ok ys) (hxs : Ok xs) (hq : q < 18446744073709551616) :
  TkInv xs ys o n q (i + 1) (xs'.set (o + i) (sbL (xs.getD (o + i) 0) (lo (q * ys.getD i 0 + c)) br)) (hi (q * ys.getD i 0 + c)) (sbB (xs.getD (o + i) 0) (lo (q * ys.getD i 0 + c)) br) := by
 have hl := h.len
 have hyi := hys.getD i
 refine ⟨by simp [hl], h.ok.set _ (sbL_lt _ _ _), fun k hk => ?_, ?_, sbB_le _ _ _, ?_⟩
 ·rw [getD_set_off (by omega)]; exact h.same k (by omega)
 ·have : q * ys.getD i 0 ≤ 18446744073709551615 * 18446744073709551615 := Nat.mul_le_mul (by omega) (by omega)
  have hc := h.clt
  unfold hi; omega
 ·rw [val_seg_succ (by simp [hl]; omega), val_take_succ (by omega), val_seg_succ (by omega), seg_set_out (by omega), getD_set_eq (by omega), Bp_succ]
  exact take_step h.eq (by unfold lo hi; omega) (sb_eq (hxs.getD _) (lo_lt _) h.brle)

structure DgPost (xs : List Nat) (o n : Nat) (xs' : List Nat) : Prop where
 len : xs'.length = xs.length
 ok : Ok xs'
 same : ∀ k, k < o ∨ o + n < k → xs'.getD k 0 = xs.getD k 0
theorem TkInv.last {xs ys xs' : List Nat} {o n q c br : Nat} (h : TkInv xs ys o n q n xs' c br) (ho : o + n < xs.length) (hxs : Ok xs) :
  DgPost xs o n (xs'.set (o + n) (sbL (xs.getD (o + n) 0) c br)) ∧
  val (seg (xs'.set (o + n) (sbL (xs.getD (o + n) 0) c br)) o (n + 1)) + q * val (seg ys 0 n) = val (seg xs o (n + 1)) + sbB (xs.getD (o + n) 0) c br * Bp (n + 1) := by
 have hl := h.len
 refine ⟨⟨by simp [hl], h.ok.set _ (sbL_lt _ _ _), fun k hk => ?_⟩, ?_⟩
 ·rw [getD_set_off (by omega)]; exact h.same k (by omega)
 ·rw [val_seg_succ (by simp [hl]; omega), val_seg_succ (by omega), seg_set_out (by omega), getD_set_eq (by omega), Bp_succ]
  exact take_last h.eq (sb_eq (hxs.getD _) h.clt h.brle)
abbrev SlV (b o n c : Nat) : Value := .slice (some ⟨b, o, none⟩) n c
structure GvInv (xs ys : List Nat) (o i : Nat) (xs' : List Nat) (c : Nat) : Prop where
 len : xs'.length = xs.length
 ok : Ok xs'
 same : ∀ k, k < o ∨ o + i ≤ k → xs'.getD k 0 = xs.getD k 0
 cle : c ≤ 1
 eq : val (seg xs' o i) + c * Bp i = val (seg xs o i) + val (seg ys 0 i)
theorem GvInv.start {xs ys : List Nat} (o : Nat) (hx : Ok xs) : GvInv xs ys o 0 xs 0 :=
 ⟨rfl, hx, fun _ _ => rfl, by decide, by simp [seg, val]⟩
theorem GvInv.step {xs ys xs' : List Nat} {o n i c : Nat} (h : GvInv xs ys o i xs' c) (hin : i < n) (ho : o + n < xs.length) (hy : n ≤ ys.length) (hys : Ok ys) (hxs : Ok xs) :
  GvInv xs ys o (i + 1) (xs'.set (o + i) (lo (xs.getD (o + i) 0 + ys.getD i 0 + c))) (hi (xs.getD (o + i) 0 + ys.getD i 0 + c)) := by
 have hl := h.len
 refine ⟨by simp [hl], h.ok.set _ (lo_lt _), fun k hk => ?_, hi_le (hxs.getD _) (hys.getD _) h.cle, ?_⟩
 ·rw [getD_set_off (by omega)]; exact h.same k (by omega)
 ·rw [val_seg_succ (by simp [hl]; omega), val_take_succ (by omega), val_seg_succ (by omega), seg_set_out (by omega), getD_set_eq (by omega), Bp_succ]
  exact give_step h.eq (by unfold lo hi; omega)
theorem GvInv.last {xs ys xs' : List Nat} {o n c : Nat} (h : GvInv xs ys o n xs' c) (ho : o + n < xs.length) (hxs : Ok xs) :
  DgPost xs o n (xs'.set (o + n) (lo (xs.getD (o + n) 0 + c))) ∧ hi (xs.getD (o + n) 0 + c) ≤ 1 ∧
  val (seg (xs'.set (o + n) (lo (xs.getD (o + n) 0 + c))) o (n + 1)) + hi (xs.getD (o + n) 0 + c) * Bp (n + 1) = val (seg xs o (n + 1)) + val (seg ys 0 n) := by
 have hl := h.len
 have hc := h.cle
 refine ⟨⟨by simp [hl], h.ok.set _ (lo_lt _), fun k hk => ?_⟩, ?_, ?_⟩
 ·rw [getD_set_off (by omega)]; exact h.same k (by omega)
 ·have := hxs.getD (o + n); unfold hi; omega
 ·rw [val_seg_succ (by simp [hl]; omega), val_seg_succ (by omega), seg_set_out (by omega), getD_set_eq (by omega), Bp_succ]
  exact give_last h.eq (by unfold lo hi; omega)
end Go.Proofs.YthdpgfdfgidokaaDoor
namespace Go.Proofs.YthdpgfdfgidokaaDoor
open Go.RowKit

structure Gs (u y1 y0 u1 q r : Nat) : Prop where
 ge : (u * 4294967296 + u1) / (y1 * 4294967296 + y0) ≤ q
 le : q ≤ 4294967297
 eq : r + q * y1 = u
 rlt : r < 4294967296
theorem Gs.more {u y1 y0 u1 q r : Nat} (h : Gs u y1 y0 u1 q r) (_h1 : 0 < y1) (hu : u < y1 * 4294967296 + y0) (h11 : u1 < 4294967296)
  (hq : 4294967296 ≤ q ∨ 4294967296 * r + u1 < q * y0) :
  (u * 4294967296 + u1) / (y1 * 4294967296 + y0) < q := by
 refine (Nat.div_lt_iff_lt_mul (by omega)).2 ?_
 have e : q * (y1 * 4294967296 + y0) = (q * y1) * 4294967296 + q * y0 := by rw [Nat.mul_add, Nat.mul_assoc]
 have h2 := h.eq
 rcases hq with hq | hq
 ·have h3 : 4294967296 * (y1 * 4294967296 + y0) ≤ q * (y1 * 4294967296 + y0) := Nat.mul_le_mul_right _ hq
  omega
 ·omega
theorem Gs.next {u y1 y0 u1 q r : Nat} (h : Gs u y1 y0 u1 q r) (hq : (u * 4294967296 + u1) / (y1 * 4294967296 + y0) < q) (hr : r + y1 < 4294967296) :
  Gs u y1 y0 u1 (q - 1) (r + y1) := by
 have h2 := h.eq
 have h3 := h.le
 have hq0 : 0 < q := Nat.lt_of_le_of_lt (Nat.zero_le _) hq
 obtain ⟨p, rfl⟩ : ∃ p, q = p + 1 := ⟨q - 1, by clear hq; omega⟩
 exact ⟨Nat.le_of_lt_succ hq, by clear hq; omega, by clear hq; rw [Nat.add_mul] at h2; simp; omega, hr⟩
theorem Gs.start {u y1 y0 u1 : Nat} (h1 : 2147483648 ≤ y1) (h1b : y1 < 4294967296) (h0 : y0 < 4294967296) (hu : u < y1 * 4294967296 + y0) (h11 : u1 < 4294967296) : Gs u y1 y0 u1 (u / y1) (u % y1) := by
 have e := Nat.div_add_mod u y1
 have hm := Nat.mod_lt u (by omega : 0 < y1)
 refine ⟨?_, ?_, by rw [Nat.mul_comm]; omega, by omega⟩
 ·refine (Nat.le_div_iff_mul_le (by omega)).2 ?_
  have h2 := Nat.div_mul_le_self (u * 4294967296 + u1) (y1 * 4294967296 + y0)
  generalize (u * 4294967296 + u1) / (y1 * 4294967296 + y0) = q at *
  rw [Nat.mul_add, ← Nat.mul_assoc] at h2
  omega
 ·refine Nat.lt_succ_iff.1 ((Nat.div_lt_iff_lt_mul (by omega)).2 ?_)
  omega
end Go.Proofs.YthdpgfdfgidokaaDoor

/-
 One digit of the long division, and the length of a list of parts, walked.
-/
namespace Go.Proofs.YthdpgfdfgidokaaDoor
open Go.RowKit

structure DInv (xs ys : List Nat) (o n q : Nat) (b : Bool) (xs' : List Nat) : Prop where
 dg : DgPost xs o n xs'
 qlt : q < 18446744073709551616
 ge : val (seg xs o (n + 1)) / val (seg ys 0 n) ≤ q
 eq : val (seg xs' o (n + 1)) + q * val (seg ys 0 n) = val (seg xs o (n + 1)) + b.toNat * Bp (n + 1)
theorem DInv.neg {xs ys xs' : List Nat} {o n q : Nat} (h : DInv xs ys o n q true xs') (hV : 0 < val (seg ys 0 n)) :
  val (seg xs o (n + 1)) / val (seg ys 0 n) < q := by
 refine (Nat.div_lt_iff_lt_mul hV).2 ?_
 have h1 := h.eq
 have h2 := val_seg_lt h.dg.ok o (n + 1)
 simp at h1
 omega
theorem DInv.next {xs ys xs' xs'' : List Nat} {o n q : Nat} {b : Bool} (h : DInv xs ys o n q true xs') (hV : 0 < val (seg ys 0 n))
  (hg : DgPost xs' o n xs'') (he : val (seg xs'' o (n + 1)) + b.toNat * Bp (n + 1) = val (seg xs' o (n + 1)) + val (seg ys 0 n)) :
  DInv xs ys o n (q - 1) (!b) xs'' := by
 have h1 := h.neg hV
 have h2 : 0 < q := Nat.lt_of_le_of_lt (Nat.zero_le _) h1
 have h3 := h.eq
 have h4 := h.qlt
 refine ⟨⟨hg.len.trans h.dg.len, hg.ok, fun k hk => (hg.same k hk).trans (h.dg.same k hk)⟩, by clear h1; omega, Nat.le_sub_one_of_lt h1, ?_⟩
 obtain ⟨p, rfl⟩ : ∃ p, q = p + 1 := ⟨q - 1, by clear h1; omega⟩
 rw [Nat.add_mul] at h3
 cases b <;> simp at he h3 ⊢ <;> omega
theorem DInv.done {xs ys xs' : List Nat} {o n q : Nat} (h : DInv xs ys o n q false xs') (hV : 0 < val (seg ys 0 n)) :
  q = val (seg xs o (n + 1)) / val (seg ys 0 n) ∧ val (seg xs' o (n + 1)) = val (seg xs o (n + 1)) % val (seg ys 0 n) := by
 have h1 := h.eq
 simp at h1
 have h2 : q = val (seg xs o (n + 1)) / val (seg ys 0 n) := Nat.le_antisymm ((Nat.le_div_iff_mul_le hV).2 (by omega)) h.ge
 have h3 := Nat.div_add_mod (val (seg xs o (n + 1))) (val (seg ys 0 n))
 refine ⟨h2, ?_⟩
 rw [← h2, Nat.mul_comm] at h3
 omega
def topN (xs : List Nat) : Nat → Nat
 | 0 => 0
 | n + 1 => if xs.getD n 0 = 0 then topN xs n else n + 1
theorem topN_le (xs : List Nat) : ∀ n, topN xs n ≤ n
  | 0 => Nat.le_refl _
  | n + 1 => by unfold topN; split
                · exact Nat.le_succ_of_le (topN_le xs n)
                · exact Nat.le_refl _
theorem topN_zero (xs : List Nat) : ∀ n k, topN xs n ≤ k → k < n → xs.getD k 0 = 0
 | 0, _, _, h => absurd h (Nat.not_lt_zero _)
 | n + 1, k, h, hk => by
  unfold topN at h
  split at h
  ·rename_i h0
   by_cases hkn : k = n
   ·rw [hkn]; exact h0
   ·exact topN_zero xs n k h (by omega)
  ·omega
theorem topN_top (xs : List Nat) : ∀ n, 0 < topN xs n → xs.getD (topN xs n - 1) 0 ≠ 0
 | 0, h => absurd h (Nat.lt_irrefl _)
 | n + 1, h => by
  unfold topN at h ⊢
  split
  ·rename_i h0; rw [if_pos h0] at h; exact topN_top xs n h
  ·rename_i h0; exact h0
set_option maxHeartbeats 1000000 in
theorem length_any (xs : List Nat) (b c : Nat) (t : TypeId) (w : World) (hA : Arr w b xs t) (hl : xs.length ≤ 100) :
  Calls Tryd.prog 93 #[SlV b 0 xs.length c] w (Ret w (.int .i64 (topN xs xs.length : Nat))) := by
 generalize hn : xs.length = n
 rw [hn] at hl
 have HN := Lib.hid hn
 clear hn
 go_enter Tryd.func93, Tryd.ntmps93
 go_wp2
 go_loop [3] (fun i => ∃ k : Nat, k ≤ n ∧ i = .int .i64 k ∧ topN xs n = topN xs k) (fun i => (intOf i).toNat)
 case atStart => exact ⟨n, Nat.le_refl _, rfl, rfl⟩
 case round =>
  obtain ⟨k, hk, rfl, ht⟩ := hrel
  have HT := Lib.hid ht
  clear ht
  cases k with
  | zero =>
   go_wp2
   rw [HT.out]
   exact bodyPost_ret (v := .int .i64 0) (by simp [results, Tryd.results93, go_sem]) rfl (Ret.of' rfl (by (repeat (first | with_reducible exact Below.refl _ _ | refine below_gw ?_ (by first | exact Nat.le_refl _ | ((repeat (first | rw [World.size_alloc] | rw [World.size_setCell] | rw [World.size_drew] | rw [gw_size])); first | done | omega)) _ | refine Below.alloc ?_ (by first | exact Nat.le_refl _ | ((repeat (first | rw [World.size_alloc] | rw [World.size_setCell] | rw [World.size_drew] | rw [gw_size])); first | done | omega)) _ | refine Below.setCell ?_ (by first | exact Nat.le_refl _ | ((repeat (first | rw [World.size_alloc] | rw [World.size_setCell] | rw [World.size_drew] | rw [gw_size])); first | done | omega)) _ | refine Below.drew ?_))))
  | succ j =>
   have c1 := hA.cell (i := j) (by rw [HN.out]; omega)
   have i1 : (0 : Int) < ((j : Nat) : Int) + 1 := by omega
   by_cases h0 : xs.getD j 0 = 0
   ·have HS := Lib.hid (show topN xs (j + 1) = topN xs j by unfold topN; rw [if_pos h0]; cases j <;> rfl)
    rw [h0] at c1
    clear h0
    go_wp2
    go_round
    case rel => exact ⟨j, by omega, by go_num, HT.out.trans HS.out⟩
    case measure => simp [intOf]
   ·have HS := Lib.hid (show topN xs (j + 1) = j + 1 by unfold topN; rw [if_neg h0])
    generalize xs.getD j 0 = x at *
    have hx : ((x : Int) == 0) = false := by rw [beq_eq_false_iff_ne]; omega
    clear h0
    go_wp2
    rw [HT.out, HS.out]
    exact bodyPost_ret (v := .int .i64 ((j : Nat) + 1)) (by simp [results, Tryd.results93, go_sem]) rfl (Ret.of' rfl (by (repeat (first | with_reducible exact Below.refl _ _ | refine below_gw ?_ (by first | exact Nat.le_refl _ | ((repeat (first | rw [World.size_alloc] | rw [World.size_setCell] | rw [World.size_drew] | rw [gw_size])); first | done | omega)) _ | refine Below.alloc ?_ (by first | exact Nat.le_refl _ | ((repeat (first | rw [World.size_alloc] | rw [World.size_setCell] | rw [World.size_drew] | rw [gw_size])); first | done | omega)) _ | refine Below.setCell ?_ (by first | exact Nat.le_refl _ | ((repeat (first | rw [World.size_alloc] | rw [World.size_setCell] | rw [World.size_drew] | rw [gw_size])); first | done | omega)) _ | refine Below.drew ?_))))
end Go.Proofs.YthdpgfdfgidokaaDoor

/-
 A word made wide, walked.
-/
namespace Go.Proofs.YthdpgfdfgidokaaDoor
open Go.RowKit
abbrev WX (u : Nat) : Value := .agg #[.int .u64 (lm u 0 : Nat), .int .u64 (lm u 1 : Nat), .int .u64 (lm u 2 : Nat), .int .u64 (lm u 3 : Nat), .int .u64 (lm u 4 : Nat), .int .u64 (lm u 5 : Nat), .int .u64 (lm u 6 : Nat), .int .u64 (lm u 7 : Nat)]
theorem block_past (w : World) (o : Obj) (n : Nat) (h : n < w.heap.size) : (w.alloc o).heap[n]? = w.heap[n]? := Below.heap_alloc w o n h
theorem block_at (w : World) (o : Obj) (n : Nat) (h : n = w.heap.size) : (w.alloc o).heap[n]? = some o := by subst h; show (w.heap.push o)[w.heap.size]? = some o; simp
end Go.Proofs.YthdpgfdfgidokaaDoor
namespace Go.Proofs.YthdpgfdfgidokaaDoor
open Go.RowKit
abbrev V4 (v : Nat) : List Nat := [lm v 0, lm v 1, lm v 2, lm v 3]
abbrev U8 (u : Nat) : List Nat := [lm u 0, lm u 1, lm u 2, lm u 3, lm u 4, lm u 5, lm u 6, lm u 7]
theorem arr_at (w : World) (c : Array Value) (t : TypeId) (b : Nat) {xs : List Nat} (hb : b = w.heap.size) (hc : c = U64s xs) : Arr (w.alloc (.cells c t)) b xs t := by
 subst hc; exact block_at _ _ _ hb
theorem arr_past {w : World} {b : Nat} {xs : List Nat} {t : TypeId} (h : Arr w b xs t) (o : Obj) : Arr (w.alloc o) b xs t := by
 unfold Arr; rw [block_past w o b h.lt]; exact h
theorem U64s_set (xs : List Nat) (i y : Nat) : (U64s xs).setIfInBounds i (.int .u64 (y : Int)) = U64s (xs.set i y) := by simp [U64s, List.map_set]
theorem U64s_get {xs : List Nat} {i : Nat} (h : i < xs.length) : (U64s xs)[i]? = some (.int .u64 (xs.getD i 0 : Nat)) := by simp [U64s, h]
attribute [local go_sem] U64s_set
theorem arrayAt4 (a : Option Addr) (c : Nat) (w : World) : (Instr.arrayAt 26 (.slice a 4 c)).run Tryd.prog w = .ok (.pointer a) w := by
 unfold Instr.arrayAt
 simp [Sem.run_bind, run_underlying Tryd.underlying26]
attribute [local go_sem] arrayAt4
end Go.Proofs.YthdpgfdfgidokaaDoor

/-
 divide, walked, for every wide number and every word.
-/
namespace Go.Proofs.YthdpgfdfgidokaaDoor
open Go.RowKit
theorem val_zeros {xs : List Nat} (h : ∀ i, xs.getD i 0 = 0) : val xs = 0 := by
 induction xs with
 | nil => rfl
 | cons x xs ih =>
  have h0 := h 0
  have h1 := ih fun i => by have := h (i + 1); simpa using this
  simp at h0
  simp [val, h0, h1]
theorem val_drop_zero {xs : List Nat} {n : Nat} (h : ∀ k, n ≤ k → xs.getD k 0 = 0) : val (xs.drop n) = 0 := by
 refine val_zeros fun i => ?_
 have h1 := h (n + i) (by omega)
 rw [List.getD_eq_getElem?_getD] at h1 ⊢
 rw [List.getElem?_drop]; exact h1
theorem topN_val {xs : List Nat} (hx : Ok xs) {n : Nat} (hn : topN xs xs.length = n) : val xs = val (seg xs 0 n) ∧ val xs < Bp n := by
 have hle := topN_le xs xs.length
 rw [hn] at hle
 have hz : ∀ k, n ≤ k → xs.getD k 0 = 0 := fun k hk => by
  by_cases hl : k < xs.length
  ·exact topN_zero xs xs.length k (by omega) hl
  ·rw [List.getD_eq_getElem?_getD, List.getElem?_eq_none (by omega)]; rfl
 have hs := val_split xs n hle
 rw [val_drop_zero hz, Nat.mul_zero, Nat.add_zero] at hs
 exact ⟨hs, by rw [hs]; exact val_seg_lt hx 0 n⟩
end Go.Proofs.YthdpgfdfgidokaaDoor
