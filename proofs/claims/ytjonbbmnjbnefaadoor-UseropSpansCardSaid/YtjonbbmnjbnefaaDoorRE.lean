/-
 The parts of a word, as what lies in memory.
-/
import Derived.Test.YtjonbbmnjbnefaaDoorFR
import Derived.Test.YtjonbbmnjbnefaaDoorRD
import Derived.Test.YtjonbbmnjbnefaaDoorEI
import Derived.ChangeOld
import Derived.ChangeMaps5
set_option maxRecDepth 10000
set_option linter.unusedVariables false
set_option linter.unusedSimpArgs false
namespace Go.Proofs.YtjonbbmnjbnefaaDoor
open Go.RowKit Go.ChangeShapes Go.WideShapes Go.ChangeAt
section
variable {H : Type} {enc : TypeId × Value → H} {P : Program} {w : World} {base : Nat} {spare : Nat → Bool} {held : Bool}
end
section
variable {H : Type} {enc : TypeId × Value → H} {w : World} {base : Nat} {spare : Nat → Bool} {held : Bool} {r : Reach} {b0 : Nat} {v : Value} {d : DataW H} {ps : List MemPlace}
end
end Go.Proofs.YtjonbbmnjbnefaaDoor
namespace Go.Proofs.YtjonbbmnjbnefaaDoor
open Go.RowKit
theorem Vc.nilown {P : Program} {c : Code} {env : List SV} {m : List Blk} {K : Kont} (i : Nat) (t : TypeId) (es : Nat) (k : IntKind) (h0 : sget env i = .nilsl)
  (h : Vc P c (sset env i (.own (blen m) (.slice none 0 0) 0)) (bpush m (.own (.slice none 0 0) 0 t es (.ints k []))) K) : Vc P c env m K := by
 have hs : ∀ (l : List SV) (i : Nat), sget l i = .nilsl → cvs (sset l i (.own (blen m) (.slice none 0 0) 0)) = cvs l := by
  intro l
  induction l with
  | nil => intro i _; rfl
  | cons x l ih =>
   intro i hi
   cases i with
   | zero => simp only [sget] at hi; subst hi; rfl
   | succ i => simp only [sget] at hi; simp only [sset, cvs, ih i hi]
 intro w0 B a w hf hd hm
 refine h w0 B a w (by unfold Fr at *; rw [hs env i h0]; exact hf) hd ?_
 rw [bpush_eq]
 refine hm.push (grown_refl w) ⟨⟨by simp [cc], .inl ⟨rfl, rfl⟩⟩, fun b hb => by simp [Value.ownBlock] at hb⟩ (fun b hb => ?_)
 simp [Blk.nums, Value.ownBlock] at hb
theorem take_push {l : List Int} {k : Nat} {y : Int} (h : l[k]? = some y) : l.take k ++ [y] = l.take (k + 1) := by
 rw [List.take_add_one, h]; rfl
section
variable {W : World}
def RoOk (W : World) (a : Option Addr) (c : Con) : Prop := ∀ j u, (cc c)[j]? = some u → ∃ b off, a = some ⟨b, off, none⟩ ∧ b < W.heap.size ∧ W.cell? ⟨b, off + j, none⟩ = some u
theorem ro_nil (W : World) : MemOk W [] [] W := MemOk.start W
theorem ro_cons {m : List Blk} {a : Option Addr} {c : Con} (h : MemOk W [] m W) (hr : RoOk W a c) : MemOk W [] (.ro a c :: m) W :=
 ⟨h.os, h.tape, h.output, h.size, h.old, fun x hx => by
  rcases List.mem_cons.1 hx with rfl | hx
  ·intro j u hj
   obtain ⟨b, off, g1, g2, g3⟩ := hr j u hj
   exact ⟨b, off, g1, g2, List.not_mem_nil, g3⟩
  ·exact h.each x hx, by
  rw [List.flatMap_cons]; exact h.nodup⟩
end
end Go.Proofs.YtjonbbmnjbnefaaDoor
namespace Go.Proofs.YtjonbbmnjbnefaaDoor
open Go.RowKit Go.ChangeShapes Go.WideShapes Go.ChangeAt
theorem post_gr {H : Type} {enc : TypeId × Value → H} {f : Func} {s : ChangeSpec} {apart fresh handsOn again : Bool} {W W' : World} {args : Array Value} {v : Value} {ds gs : List (DataW H)} {before : List MemPlace}
  (hW : DataW.Whole enc Tryd.prog f.params.toList s.vars apart W args.toList ds gs before) (hp : ∃ p, W' = gw W p)
  (hres : ∀ (b : Nat) (sp : Nat → Bool) (hd : Bool), DataW.TrodAll enc Tryd.prog W' b sp hd f.resultTypes.toList (v.resultList f.resultTypes.size) (s.fn H (ds ++ gs)).results [])
  (hargs : ∀ (q : Gro) (sp : Nat → Bool), (∀ p ∈ before, sp p.block = true) → DataW.TrodAll enc Tryd.prog (gw W q) 0 sp true f.params.toList args.toList (s.fn H (ds ++ gs)).args before)
  (hvars : ∀ sp : Nat → Bool, DataW.TrodVars enc Tryd.prog W' sp s.vars (s.fn H (ds ++ gs)).vars [])
  (hok : ∀ (j : Nat) (t : TypeId) (r : Value), f.resultTypes[j]? = some t → (v.resultList f.resultTypes.size)[j]? = some r → Value.okWide Tryd.prog W' .any 0 t r) :
  s.post enc Tryd.prog f apart fresh handsOn again W args v W' := by
 obtain ⟨p, rfl⟩ := hp
 have hlt := hW.lt
 refine ⟨ds, gs, before, [], before, [], hW, hres _ _ _, hargs p _ (fun q hq => by simpa using hlt q hq), hvars _, (gw_below W p).frame _, fun _ => ?_⟩
 obtain ⟨_, _, _, _, _, hz, hn⟩ := hW
 refine ⟨hok, _, _, ([] ++ before) ++ [], ⟨[] ++ before, [], trodAll_append (hargs p _ (fun _ _ => rfl)) (hres _ _ _), hvars _, rfl, ?_, ?_⟩, ?_⟩
 ·intro b off hp
  have hp' : MemPlace.cell b off ∈ before := by simpa using hp
  rw [gw_frozen W p b off (hlt _ hp')]
  exact hz b off hp'
 ·intro ha
  simpa using hn ha
 ·intro q hq _
  simpa using hq
section
variable {H : Type} {enc : TypeId × Value → H} {P : Program} {W : World} {r : Reach} {b0 : Nat} {t e : TypeId} {v : Value} {d : DataW H} {ps : List MemPlace} {k : IntKind}
end
theorem calls_args {P : Program} {f : FuncId} {args args' : Array Value} {w : World} {R : Ending → World → Prop} (h : args = args') (hc : Calls P f args w R) : Calls P f args' w R := h ▸ hc
section
variable {H : Type} {enc : TypeId × Value → H} {P : Program} {w : World} {base : Nat} {spare : Nat → Bool} {held : Bool}
end
end Go.Proofs.YtjonbbmnjbnefaaDoor
namespace Go.Proofs.YtjonbbmnjbnefaaDoor
open Go.RowKit
def xo (a b : Int) : Int := bits .xor .u64 a b
def an (a b : Int) : Int := bits .and .u64 a b
def no (a : Int) : Int := bits .xor .u64 18446744073709551615 a
def rt (v : Int) (n : Nat) : Int := bits .or .u64 (IntKind.u64.wrap (v * 2 ^ n)) (v / 2 ^ (64 - n))
def it {α : Type} (f : α → Nat → α) (n : Nat) (a : α) : α := (List.range n).foldl f a
theorem it_s {α : Type} (f : α → Nat → α) (n : Nat) (a : α) : it f (n + 1) a = f (it f n a) n := by unfold it; rw [List.range_succ, List.foldl_append]; rfl
def kPath : List Nat := [10, 7, 11, 17, 18, 3, 5, 16, 8, 21, 24, 4, 15, 23, 19, 13, 12, 2, 20, 14, 22, 9, 6, 1]
def kCs (l c : List Int) (k : Nat) : List Int := c.set k (xo (xo (xo (xo (l.getD k 0) (l.getD (k + 5) 0)) (l.getD (k + 10) 0)) (l.getD (k + 15) 0)) (l.getD (k + 20) 0))
def kC (l : List Int) (n : Nat) : List Int := it (kCs l) n [0, 0, 0, 0, 0]
def kD (c : List Int) (x : Nat) : Int := xo (c.getD ((x + 4) % 5) 0) (rt (c.getD ((x + 1) % 5) 0) 1)
def kIs (d : Int) (x : Nat) (s : List Int) (y : Nat) : List Int := s.set (5 * y + x) (xo (s.getD (5 * y + x) 0) d)
def kIn (s : List Int) (d : Int) (x n : Nat) : List Int := it (kIs d x) n s
def kSs (d : Nat → Int) (s : List Int) (x : Nat) : List Int := kIn s (d x) x 5
def kSp (l : List Int) (d : Nat → Int) (n : Nat) : List Int := it (kSs d) n l
def kMs (p : List Int × Int) (t : Nat) : List Int × Int := (p.1.set (kPath.getD t 0) (rt p.2 ((t + 1) * (t + 2) / 2 % 64)), p.1.getD (kPath.getD t 0) 0)
def kMv (l : List Int) (n : Nat) : List Int × Int := it kMs n (l, l.getD 1 0)
def kRow (l : List Int) (y x : Nat) : Int := xo (l.getD (5 * y + x) 0) (an (no (l.getD (5 * y + (x + 1) % 5) 0)) (l.getD (5 * y + (x + 2) % 5) 0))
def kBs (l : List Int) (y : Nat) : List Int := ((((l.set (5 * y) (kRow l y 0)).set (5 * y + 1) (kRow l y 1)).set (5 * y + 2) (kRow l y 2)).set (5 * y + 3) (kRow l y 3)).set (5 * y + 4) (kRow l y 4)
def kBe (l : List Int) (n : Nat) : List Int := it kBs n l
def kSpr (l : List Int) : List Int := kSp l (kD (kC l 5)) 5
def kMov (l : List Int) : List Int := (kMv l 24).1
def kBen (l : List Int) : List Int := kBe l 5
def kRnd (k : Int) (l : List Int) : List Int := (kBen (kMov (kSpr l))).set 0 (xo ((kBen (kMov (kSpr l))).getD 0 0) k)
section
variable (x0 x1 x2 x3 x4 x5 x6 x7 x8 x9 x10 x11 x12 x13 x14 x15 x16 x17 x18 x19 x20 x21 x22 x23 x24 : Int) (d : Nat → Int)
end
end Go.Proofs.YtjonbbmnjbnefaaDoor
namespace Go.Proofs.YtjonbbmnjbnefaaDoor
open Go.RowKit
theorem lmI_len (x : Nat) : (lmI x).length = 4 := rfl
theorem cc_lmI (x : Nat) : cc (.ints .u64 (lmI x)) = cc (.words [x]) := by simp [cc, lmI, wcs]
theorem allU_lmI (x : Nat) : allU (lmI x) := by
 have h0 := lm_lt x 0
 have h1 := lm_lt x 1
 have h2 := lm_lt x 2
 have h3 := lm_lt x 3
 exact ⟨by omega, by omega, by omega, by omega, trivial⟩
theorem numI_lmI {x : Nat} (h : x < W) : numI (lmI x) = x := by
 simp only [numI, lmI, Int.toNat_natCast]; exact num_lm h
end Go.Proofs.YtjonbbmnjbnefaaDoor
