/-
 Runs that leave the world as it is; what is behind a difference; mulAdd; memory that holds a list of numbers.
-/
import Derived.Test.YthdpgfdfgidokaaDoorEG
import Derived.Test.YthdpgfdfgidokaaDoorBase
import Derived.Shelf.Small.Bits
import Derived.Shelf.Strconv.Itoa0
import Derived.Shelf.Bits.Mul64
import Derived.Test.YthdpgfdfgidokaaDoorProg
import Derived.Test.YthdpgfdfgidokaaDoorW1
import Derived.Test.YthdpgfdfgidokaaDoorA1
set_option maxRecDepth 10000
set_option linter.unusedVariables false
set_option linter.unusedSimpArgs false
namespace Go.Proofs.YthdpgfdfgidokaaDoor
open Go.RowKit
theorem ro_front {w : World} {m : List Blk} {a : Option Addr} {c : Con} (h : MemOk w [] m w) (h1 : MemOk w [] [.ro a c] w) : MemOk w [] (.ro a c :: m) w :=
 ro_cons h fun j u hj => by
  obtain ⟨b, off, e1, e2, _, e3⟩ := h1.each _ List.mem_cons_self j u hj
  exact ⟨b, off, e1, e2, e3⟩
theorem ro_ro {w0 : World} {B : List Nat} {m : List Blk} {w : World} (hm : MemOk w0 B m w) {nr : Nat} {a : Option Addr} {c : Con} (hr : bget m nr = .ro a c) : MemOk w [] [.ro a c] w :=
 ro_cons (ro_nil w) fun j u hj => by
  obtain ⟨b, off, e1, e2, _, e3⟩ := hm.each _ (bget_mem hr (by simp)) j u hj
  exact ⟨b, off, e1, Nat.lt_of_lt_of_le e2 hm.size, e3⟩
theorem bget_set_ne : ∀ (m : List Blk) {i j : Nat} (e : Blk), i ≠ j → bget (bset m j e) i = bget m i
 | [], _, _, _, _ => rfl
 | _ :: _, 0, 0, _, h => absurd rfl h
 | _ :: _, i + 1, 0, _, _ => rfl
 | _ :: _, 0, j + 1, _, _ => rfl
 | _ :: m, i + 1, j + 1, e, h => bget_set_ne m e (by omega)
def Hl (l : List (Nat × Obj)) (b : Nat) (o : Obj) : Prop := (b, o) ∈ l
theorem Hl.hm {l L : List (Nat × Obj)} {m : List Blk} (hin : Blk.heap L ∈ m) (hs : ∀ p ∈ l, p ∈ L) : ∀ b o, Hl l b o → HM m b o := fun b o h => ⟨_, hin, hs _ h⟩
theorem MemOk.set {w0 : World} {B : List Nat} {m : List Blk} {w : World} (h : MemOk w0 B m w) {k : Nat} {e0 e : Blk} (hb : bget m k = e0) (hn : e0 ≠ .gone) (he : e.ok w0 B w) (hee : e.nums.Nodup)
  (hnum : ∀ b ∈ e.nums, b ∈ e0.nums ∨ b ∉ m.flatMap Blk.nums) : MemOk w0 B (bset m k e) w := by
 have hd := nodup_bset (e := e) hb hn h.nodup hee hnum
 exact ⟨h.os, h.tape, h.output, h.size, h.old, fun x hx => (hd.2 x hx).elim (fun g => g ▸ he) (fun g => h.each x g.1), hd.1⟩
theorem nums_nodup : ∀ {m : List Blk} {i : Nat}, (m.flatMap Blk.nums).Nodup → (bget m i).nums.Nodup
 | [], _, _ => List.nodup_nil
 | x :: m, 0, h => by rw [List.flatMap_cons, List.nodup_append] at h; exact h.1
 | x :: m, i + 1, h => by rw [List.flatMap_cons, List.nodup_append] at h; exact nums_nodup (m := m) (i := i) h.2.1
theorem freeze {w0 : World} {B : List Nat} {m : List Blk} {w : World} (hm : MemOk w0 B m w) {i k : Nat} {v : Value} {n : Nat} {t : TypeId} {es : Nat} {con : Con} {L : List (Nat × Obj)} (hb : bget m i = .own v n t es con) (hk : bget m k = .heap L) :
  ∃ (l : List (Nat × Obj)) (a : Option Addr) (c : Nat), v = .slice a n c ∧ adr a n c ∧ n ≤ c ∧ n ≤ maxLen ∧ (cc con).length = n * es ∧ LiesH (Hl l) a (cc con) ∧ MemOk w0 B (bset (bset m i .gone) k (.heap (L ++ l))) w := by
 have hik : k ≠ i := by rintro rfl; rw [hb] at hk; cases hk
 obtain ⟨⟨ho1, ho2⟩, ho3⟩ := hm.each _ (bget_mem hb (by simp))
 have hd1 := nodup_bset (e := .gone) hb (by simp) hm.nodup List.nodup_nil (fun b h => absurd h List.not_mem_nil)
 have h1 : MemOk w0 B (bset m i .gone) w := hm.set hb (by simp) trivial List.nodup_nil (fun b h => absurd h List.not_mem_nil)
 have hk1 : bget (bset m i .gone) k = .heap L := by rw [bget_set_ne _ _ hik]; exact hk
 have hLo := hm.each _ (bget_mem hk (by simp))
 rcases ho2 with ⟨rfl, rfl⟩ | ⟨g, cap, cur, rfl, _, h3, h4, h5, h6, h7⟩
 ·refine ⟨[], none, 0, rfl, .inr ⟨rfl, rfl, rfl⟩, Nat.le_refl _, Nat.zero_le _, ho1, .inl (List.length_eq_zero_iff.1 (by rw [ho1, Nat.zero_mul])), ?_⟩
  rw [List.append_nil]
  exact h1.set hk1 (by simp) hLo (by have := nums_nodup (i := k) hm.nodup; rwa [hk] at this) (fun b hb => .inl hb)
 ·have hgn : g ∈ (bget m i).nums := by rw [hb]; simp [Blk.nums, Value.ownBlock]
  have hgL := nums_sep hm.nodup (Ne.symm hik) hgn
  rw [hk] at hgL
  refine ⟨[(g, .cells cur t (0, 0))], some ⟨g, 0, none⟩, cap, rfl, .inl rfl, h4, Nat.le_trans h4 h5, ho1, .inr ⟨g, 0, cur, t, (0, 0), rfl, List.mem_singleton.2 rfl, fun j u hj => ?_⟩, ?_⟩
  ·rw [← h7] at hj
   rw [Nat.zero_add, ← Array.getElem?_toList]
   rw [List.getElem?_take] at hj
   split at hj
   ·exact hj
   ·cases hj
  ·refine h1.set hk1 (by simp) (fun p hp => ?_) ?_ (fun b hbn => ?_)
   ·rcases List.mem_append.1 hp with hp | hp
    ·exact hLo p hp
    ·rw [List.mem_singleton] at hp; subst hp
     exact ⟨h3, ho3 g rfl⟩
   ·simp only [Blk.nums, List.map_append, List.map_cons, List.map_nil]
    rw [List.nodup_append]
    refine ⟨by have := nums_nodup (i := k) hm.nodup; rwa [hk] at this, by simp, fun a ha b hb2 => ?_⟩
    rw [List.mem_singleton] at hb2; subst hb2
    rintro rfl
    exact hgL ha
   ·simp only [Blk.nums, List.map_append, List.map_cons, List.map_nil] at hbn
    rcases List.mem_append.1 hbn with hbn | hbn
    ·exact .inl hbn
    ·rw [List.mem_singleton] at hbn; subst hbn
     refine .inr fun hc => ?_
     obtain ⟨x, hx, hxb⟩ := List.mem_flatMap.1 hc
     rcases hd1.2 x hx with rfl | ⟨_, h9⟩
     ·exact absurd hxb List.not_mem_nil
     ·exact h9 b (by simp [Blk.nums, Value.ownBlock]) hxb
theorem MemOk.heap0 {w0 : World} {B : List Nat} {m : List Blk} {w : World} (h : MemOk w0 B m w) : MemOk w0 B (m ++ [.heap []]) w :=
 ⟨h.os, h.tape, h.output, h.size, h.old, fun e he => by
  rcases List.mem_append.1 he with he | he
  ·exact h.each e he
  ·rw [List.mem_singleton] at he; subst he
   exact fun p hp => absurd hp List.not_mem_nil, by
  rw [List.flatMap_append]; simpa [Blk.nums] using h.nodup⟩
theorem bget_lt : ∀ {m : List Blk} {i : Nat}, bget m i ≠ .gone → i < m.length
 | [], _, h => absurd rfl h
 | _ :: _, 0, _ => by simp
 | _ :: m, i + 1, h => by have := bget_lt (m := m) (i := i) h; simp; exact this
theorem bget_appL : ∀ {m : List Blk} {i : Nat} (x : List Blk), i < m.length → bget (m ++ x) i = bget m i
 | [], _, _, h => by simp at h
 | _ :: _, 0, _, _ => rfl
 | _ :: m, i + 1, x, h => bget_appL (m := m) x (by simpa using h)
theorem bget_appR : ∀ (m : List Blk) (x : Blk), bget (m ++ [x]) m.length = x
 | [], _ => rfl
 | _ :: m, x => bget_appR m x
theorem bset_appL : ∀ {m : List Blk} {i : Nat} (x : List Blk) (e : Blk), i < m.length → bset (m ++ x) i e = bset m i e ++ x
 | [], _, _, _, h => by simp at h
 | _ :: _, 0, _, _, _ => rfl
 | y :: m, i + 1, x, e, h => by simp only [List.cons_append, bset]; rw [bset_appL (m := m) x e (by simpa using h)]
theorem bset_appR : ∀ (m : List Blk) (x e : Blk), bset (m ++ [x]) m.length e = m ++ [e]
 | [], _, _ => rfl
 | y :: m, x, e => by simp only [List.cons_append, List.length_cons, bset]; rw [bset_appR m x e]
theorem bset_length : ∀ (m : List Blk) (i : Nat) (e : Blk), (bset m i e).length = m.length
 | [], _, _ => rfl
 | _ :: _, 0, _ => rfl
 | _ :: m, i + 1, e => by simp only [bset, List.length_cons]; rw [bset_length m i e]
theorem Vc.freeze {P : Program} {c : Code} {env : List SV} {m : List Blk} {K : Kont} (i : Nat) {v : Value} {n : Nat} {t : TypeId} {es : Nat} {con : Con} (hb : bget m i = .own v n t es con)
  (h : ∀ (a : Option Addr) (cp : Nat) (l : List (Nat × Obj)), v = .slice a n cp → adr a n cp → n ≤ cp → n ≤ maxLen → (cc con).length = n * es → LiesH (Hl l) a (cc con) → Vc P c env (bpush (bset m i .gone) (.heap l)) K) : Vc P c env m K := by
 intro w0 B ac w hf hd hm
 have hi : i < m.length := bget_lt (by rw [hb]; simp)
 obtain ⟨l, a, cp, h1, h2, h3, h4, h5, h6, h7⟩ := Go.Proofs.YthdpgfdfgidokaaDoor.freeze hm.heap0 (i := i) (k := m.length) (by rw [bget_appL _ hi]; exact hb) (bget_appR _ _)
 refine h a cp l h1 h2 h3 h4 h5 h6 w0 B ac w hf hd ?_
 rw [bset_appL _ _ hi, List.nil_append] at h7
 rw [bpush_eq]
 have := bset_appR (bset m i .gone) (.heap []) (.heap l)
 rw [bset_length] at this
 rwa [this] at h7
theorem lies_of_ro {w : World} {a : Option Addr} {con : Con} (h : MemOk w [] [.ro a con] w) : LiesH (H0 w) a (cc con) := by
 have h1 := h.each _ List.mem_cons_self
 cases hc : cc con with
 | nil => exact .inl rfl
 | cons u0 l =>
  rw [← hc]
  obtain ⟨b, off, rfl, h3, _, h4⟩ := h1 0 u0 (by rw [hc]; rfl)
  have hcell : ∃ arr t fr, w.heap[b]? = some (.cells arr t fr) := by
   cases ho : w.heap[b]? with
   | none => simp [World.cell?, ho] at h4
   | some o =>
    cases o with
    | cells arr t fr => exact ⟨arr, t, fr, rfl⟩
    | _ => simp [World.cell?, ho] at h4
  obtain ⟨arr, t, fr, ho⟩ := hcell
  refine .inr ⟨b, off, arr, t, fr, rfl, ho, fun j u hj => ?_⟩
  obtain ⟨b', off', e1, _, _, h5⟩ := h1 j u hj
  simp only [Option.some.injEq, Addr.mk.injEq, and_true] at e1
  obtain ⟨rfl, rfl⟩ := e1
  simpa [World.cell?, ho] using h5
theorem calls_grw {P : Program} {f : FuncId} {fn : Func} {args args' : List SV} {w0 w : World} {B : List Nat} {m : List Blk} {i : Nat} {A : Type} {Q : A → Prop} {F : A → SV} {l : A → List (Nat × Obj)}
  (hf : P.funcs[f]? = some fn) (hn : (fn.name == "runtime.NumGoroutine") = false) (hb : fn.body.isNone = false)
  (hm : MemOk w0 B m w) (he : cvs args = cvs args') (h : Calls P f (cvs args').toArray w (fun en w' => ∃ u, en = .returned u ∧ ∃ m' x, MemOk w [] m' w' ∧ Q x ∧ u = cv (F x) ∧ bget m' i = .heap (l x))) :
  Enters P f (cvs args).toArray w fun u w' => ∃ a : A, Q a ∧ u = cv (F a) ∧ w.grownBy w' .none ∧ (Blk.heap (l a)).ok w0 B w' ∧ (∀ b ∈ (Blk.heap (l a)).nums, w.heap.size ≤ b) ∧ (Blk.heap (l a)).nums.Nodup := by
 rw [he]
 refine .inr ⟨enter_run hf hn hb _ w, h.mono fun e w' ⟨u, hu, m', x, hm', hx, hv, hk⟩ => ⟨u, hu, x, hx, hv, hm'.grown, ?_⟩⟩
 have hl := hm'.each _ (bget_mem hk (by simp))
 have hfresh : ∀ p ∈ l x, w.heap.size ≤ p.1 := fun p hp => (hl p hp).2.resolve_right List.not_mem_nil
 refine ⟨fun p hp => ⟨(hl p hp).1, .inl (Nat.le_trans hm.size (hfresh p hp))⟩, fun b hb => ?_, by have := nums_nodup (i := i) hm'.nodup; rwa [hk] at this⟩
 obtain ⟨p, hp, rfl⟩ := List.mem_map.1 hb
 exact hfresh p hp
theorem Vc.merge {P : Program} {c : Code} {env : List SV} {m : List Blk} {K : Kont} (i j : Nat) {L l : List (Nat × Obj)} (hij : i ≠ j) (hi : bget m i = .heap L) (hj : bget m j = .heap l)
  (h : Vc P c env (bset (bset m j .gone) i (.heap (L ++ l))) K) : Vc P c env m K := by
 intro w0 B ac w hf hd hm
 refine h w0 B ac w hf hd ?_
 have hd1 := nodup_bset (e := .gone) hj (by simp) hm.nodup List.nodup_nil (fun b h => absurd h List.not_mem_nil)
 have h1 : MemOk w0 B (bset m j .gone) w := hm.set hj (by simp) trivial List.nodup_nil (fun b h => absurd h List.not_mem_nil)
 have hk1 : bget (bset m j .gone) i = .heap L := by rw [bget_set_ne _ _ hij]; exact hi
 have hLo := hm.each _ (bget_mem hi (by simp))
 have hlo := hm.each _ (bget_mem hj (by simp))
 refine h1.set hk1 (by simp) (fun p hp => ?_) ?_ (fun b hbn => ?_)
 ·rcases List.mem_append.1 hp with hp | hp
  ·exact hLo p hp
  ·exact hlo p hp
 ·simp only [Blk.nums, List.map_append]
  rw [List.nodup_append]
  refine ⟨by have := nums_nodup (i := i) hm.nodup; rwa [hi] at this, by have := nums_nodup (i := j) hm.nodup; rwa [hj] at this, fun a ha b hb => ?_⟩
  rintro rfl
  have := nums_sep hm.nodup (Ne.symm hij) (b := a) (by rw [hj]; exact hb)
  rw [hi] at this
  exact this ha
 ·simp only [Blk.nums, List.map_append] at hbn
  rcases List.mem_append.1 hbn with hbn | hbn
  ·exact .inl hbn
  ·refine .inr fun hc => ?_
   obtain ⟨x, hx, hxb⟩ := List.mem_flatMap.1 hc
   rcases hd1.2 x hx with rfl | ⟨_, h9⟩
   ·exact absurd hxb List.not_mem_nil
   ·exact h9 b hbn hxb
end Go.Proofs.YthdpgfdfgidokaaDoor
namespace Go.Proofs.YthdpgfdfgidokaaDoor
open Go.RowKit

section
variable {P : Program} {ops : Array Oper} {md : Region.Mode}
def extUpon (P : Program) (w : World) (v : Value) : Result Next → Prop
 | .ok (.value u) w' => w' = w ∧ u = v
 | .ok .skip w' => w' = w ∧ v = undef
 | .ok (.enter f args) w' => w' = w ∧ Calls P f args w (Ret w v)
 | _ => False
def extAt (P : Program) (o : Oper) (a : Act) (w : World) (v : Value) : Prop := extUpon P w v ((execOp a.eval o).run P w)
def ext (P : Program) (o : Oper) (a : Act) (W : World) (K : Act → Prop) : Prop := ∃ v, (∀ p, extAt P o a (gw W p) v) ∧ K (a.put o.dst v)
attribute [go_sem] ext extAt extUpon
def EYields (P : Program) (ops : Array Oper) (W : World) (o : Oper) (v : Value) (a : Act) : Prop :=
 (Region.wanted o (yielded ops a.tmps) = true ∧ ∀ p, extAt P o a (gw W p) v) ∨ (Region.wanted o (yielded ops a.tmps) = false ∧ v = undef)
theorem gw_alloc_gw (W : World) (p p' : Gro) (o : Obj) : gw ((gw W p).alloc o) p' = gw W ⟨p'.d, p.os ++ #[o] ++ p'.os⟩ := by
 simp only [gw, World.alloc, Array.push_eq_append, Array.append_assoc]
theorem EYields.later {o : Oper} {v : Value} {a : Act} {W : World} (hy : EYields P ops W o v a) (p : Gro) (ob : Obj) : EYields P ops ((gw W p).alloc ob) o v a := by
 rcases hy with ⟨hw, hv⟩ | h
 ·exact .inl ⟨hw, fun p' => by rw [gw_alloc_gw]; exact hv _⟩
 ·exact .inr h
end
end Go.Proofs.YthdpgfdfgidokaaDoor
namespace Go.Proofs
open Go.Shelf
def Tryd.lays264_ren : Go.Shelf.Ren := ⟨fun | 264 => 133 | n => n, fun | 53 => 24 | 46 => 102 | n => n, fun | n => n⟩
theorem Tryd.lays264 : Go.Proofs.Lays.n264 Tryd.prog Tryd.lays264_ren := {
 mixed := by kernel_rfl
 f264 := Tryd.func133.trans (congrArg some (by kernel_rfl))
 t46 := Tryd.underlying102
 a46 := Tryd.isAgg102
 z46 := Tryd.sizeOf102
 v46 := Tryd.zeroValue102
 t53 := Tryd.underlying24
 a53 := Tryd.isAgg24
 z53 := Tryd.sizeOf24
 v53 := Tryd.zeroValue24 }
open Go.RowKit Go.Lib in
theorem Tryd.bits_Mul64 (x y : Nat) (hx : x < 18446744073709551616) (hy : y < 18446744073709551616) (w : World) :
  Calls Tryd.prog 133 #[.int .u64 x, .int .u64 y] w fun e w' => e = .returned (.tuple #[.int .u64 ((x * y / 18446744073709551616 : Nat) : Int), .int .u64 ((x * y % 18446744073709551616 : Nat) : Int)]) ∧ w' = w := Any.bits_Mul64 Tryd.lays264 x y hx hy w
end Go.Proofs
namespace Go.Proofs.YthdpgfdfgidokaaDoor
open Go.RowKit

theorem calls_same {P : Program} {f : FuncId} {args : Array Value} {w : World} {v : Value} {R : Ending → World → Prop}
  (h : Calls P f args w fun e w' => e = .returned v ∧ w' = w) (k : R (.returned v) w) : Calls P f args w R :=
 h.mono fun e w' ⟨he, hw⟩ => by subst he; subst hw; exact k
theorem quiet_same {P : Program} {f : FuncId} {args : Array Value} {w : World} {q : Gro} {v : Value}
  (h : Calls P f args (gw w q) fun e w' => e = .returned v ∧ w' = gw w q) :
  Calls P f args (gw w q) fun e w'' => e = .returned v ∧ ∃ p : Gro, w'' = gw w p :=
 h.mono fun _ _ ⟨he, hp⟩ => ⟨he, q, hp⟩

theorem quiet_same2 {P : Program} {f : FuncId} {args : Array Value} {w : World} {d : Nat} {a o : Array Obj} {v : Value}
  (h : Calls P f args (gw w ⟨d, a ++ o⟩) fun e w' => e = .returned v ∧ w' = gw w ⟨d, a ++ o⟩) :
  Calls P f args (gw w ⟨d, a ++ o⟩) fun e w'' => e = .returned v ∧ ∃ p : Gro, w'' = gw w ⟨p.d, a ++ p.os⟩ :=
 h.mono fun _ _ ⟨he, hp⟩ => ⟨he, ⟨d, o⟩, hp⟩
def sbL (x y b : Nat) : Nat := (x + 18446744073709551616 - y - b) % 18446744073709551616
def sbB (x y b : Nat) : Nat := if x < y + b then 1 else 0
theorem sb_eq {x y b : Nat} (hx : x < 18446744073709551616) (hy : y < 18446744073709551616) (hb : b ≤ 1) :
  x + 18446744073709551616 * sbB x y b = sbL x y b + y + b := by unfold sbL sbB; split <;> omega
theorem sbB_le (x y b : Nat) : sbB x y b ≤ 1 := by unfold sbB; split <;> omega
theorem sbL_lt (x y b : Nat) : sbL x y b < 18446744073709551616 := Nat.mod_lt _ (by decide)
theorem ext_sub64 (x y b : Nat) (hb : b ≤ 1) (w : World) :
  (callFunc 119 #[.int .u64 x, .int .u64 y, .int .u64 b]).run Tryd.prog w =
   .ok (.value (.tuple #[.int .u64 (sbL x y b : Nat), .int .u64 (sbB x y b : Nat)])) w := by
 rw [run_callFunc_extern Tryd.func119 (by kernel_rfl) (by kernel_rfl) (by kernel_rfl) (e := sub64Entry) (by kernel_rfl), run_sub64 x y b hb]
 rfl
theorem ext_add64_0 (x y : Nat) (w : World) :
  (callFunc 94 #[.int .u64 x, .int .u64 y, .int .u64 0]).run Tryd.prog w =
   .ok (.value (.tuple #[.int .u64 (lo (x + y) : Nat), .int .u64 (hi (x + y) : Nat)])) w := ext_add64 x y 0 (by omega) w

theorem mulAdd_sum {P p m : Nat} (hp : p < 18446744073709551616) (hm : m < 18446744073709551616) (h : P ≤ 18446744073709551615 * 18446744073709551615) :
  P / 18446744073709551616 + hi (P % 18446744073709551616 + p) ≤ 18446744073709551615 ∧
  lo (lo (P % 18446744073709551616 + p) + m) = lo (P + p + m) ∧
  P / 18446744073709551616 + hi (P % 18446744073709551616 + p) + hi (lo (P % 18446744073709551616 + p) + m) = hi (P + p + m) ∧ hi (P + p + m) ≤ 18446744073709551615 := by
 unfold hi lo; omega
attribute [local go_sem] ext_add64_0
set_option maxHeartbeats 1000000 in
theorem mulAdd_any (x y p m : Nat) (hx : x < 18446744073709551616) (hy : y < 18446744073709551616) (hp : p < 18446744073709551616) (hm : m < 18446744073709551616) (w : World) :
  Calls Tryd.prog 118 #[.int .u64 x, .int .u64 y, .int .u64 p, .int .u64 m] w fun e w' => e = .returned (.tuple #[.int .u64 (lo (x * y + p + m) : Nat), .int .u64 (hi (x * y + p + m) : Nat)]) ∧ w' = w := by
 have hP : x * y ≤ 18446744073709551615 * 18446744073709551615 := Nat.mul_le_mul (by omega) (by omega)
 have hmul := Tryd.bits_Mul64 x y hx hy
 generalize hz : x * y = P at *
 obtain ⟨h1, h2, h3, h4⟩ := mulAdd_sum hp hm hP
 have HM := Lib.hid hmul
 have H2 := Lib.hid h2
 rw [← h3] at h4
 have H3 := Lib.hid h3
 clear hmul h2 h3 hz hP
 generalize P % 18446744073709551616 = Pl at *
 generalize P / 18446744073709551616 = Ph at *
 go_enter Tryd.func118, Tryd.ntmps118
 go_wp2_with (go_at_call 133; (with_reducible refine calls_same (HM.out _) ?_))
 go_ret2
 exact ⟨by rw [← H2.out, ← H3.out]; simp [Int.natCast_add], rfl⟩

def U64s (xs : List Nat) : Array Value := (xs.map fun (x : Nat) => Value.int .u64 (x : Int)).toArray
def putA (w : World) (b : Nat) (xs : List Nat) (t : TypeId) : World := { w with heap := w.heap.setIfInBounds b (.cells (U64s xs) t) }
def Arr (w : World) (b : Nat) (xs : List Nat) (t : TypeId) : Prop := w.heap[b]? = some (.cells (U64s xs) t)
theorem Arr.lt {w : World} {b : Nat} {xs : List Nat} {t : TypeId} (h : Arr w b xs t) : b < w.heap.size := (Array.getElem?_eq_some_iff.1 h).1
theorem Arr.cell {w : World} {b : Nat} {xs : List Nat} {t : TypeId} (h : Arr w b xs t) {i : Nat} (hi : i < xs.length) : w.cell? ⟨b, i, none⟩ = some (.int .u64 (xs.getD i 0 : Nat)) := by
 have h2 : w.heap[b]? = some (.cells (U64s xs) t) := h
 unfold World.cell?
 simp only [h2]
 simp [U64s, hi]
theorem Arr.frozen {w : World} {b : Nat} {xs : List Nat} {t : TypeId} (h : Arr w b xs t) (i : Nat) : w.frozen? ⟨b, i, none⟩ = false := by
 have h2 : w.heap[b]? = some (.cells (U64s xs) t) := h
 unfold World.frozen?
 simp only [h2]
 simp
theorem Arr.set {w : World} {b : Nat} {xs : List Nat} {t : TypeId} (h : Arr w b xs t) (i x : Nat) : w.setCell ⟨b, i, none⟩ (.int .u64 (x : Nat)) = putA w b (xs.set i x) t := by
 have h2 : w.heap[b]? = some (.cells (U64s xs) t) := h
 unfold World.setCell putA
 congr 1
 apply Array.ext_getElem?
 intro k
 rw [Array.getElem?_modify, Array.getElem?_setIfInBounds]
 by_cases hk : b = k
 ·subst hk
  rw [if_pos rfl, if_pos rfl, if_pos h.lt, h2]
  simp [U64s, List.map_set]
 ·rw [if_neg hk, if_neg hk]
theorem gw_arr {w : World} {b : Nat} {xs : List Nat} {t : TypeId} (h : Arr w b xs t) (p : Gro) : Arr (gw w p) b xs t := by
 unfold Arr; rw [gw_block w p h.lt]; exact h
end Go.Proofs.YthdpgfdfgidokaaDoor

/-
 The two loops of the long division that take away and give back, walked.
-/
namespace Go.Proofs.YthdpgfdfgidokaaDoor
open Go.RowKit
attribute [local go_sem] ext_add64_0 ext_sub64
theorem val_take_succ {ys : List Nat} {i : Nat} (h : i < ys.length) : val (seg ys 0 (i + 1)) = val (seg ys 0 i) + Bp i * ys.getD i 0 := by
 have := val_seg_succ (xs := ys) (o := 0) (n := i) (by omega)
 simpa using this
structure TkInv (xs ys : List Nat) (o n q i : Nat) (xs' : List Nat) (c br : Nat) : Prop where
 len : xs'.length = xs.length
 ok : Ok xs'
 same : ∀ k, k < o ∨ o + i ≤ k → xs'.getD k 0 = xs.getD k 0
 clt : c < 18446744073709551616
 brle : br ≤ 1
 eq : val (seg xs' o i) + q * val (seg ys 0 i) = val (seg xs o i) + (c + br) * Bp i
theorem TkInv.start {xs ys : List Nat} (o n q : Nat) (hx : Ok xs) : TkInv xs ys o n q 0 xs 0 0 :=
 ⟨rfl, hx, fun _ _ => rfl, by decide, by decide, by simp [seg, val]⟩
theorem TkInv.step {xs ys xs' : List Nat} {o n q i c br : Nat} (h : TkInv xs ys o n q i xs' c br) (hin : i < n) (ho : o + n < xs.length) (hy : n ≤ ys.length) (hys : Ok ys) (hxs : Ok xs) (hq : q < 18446744073709551616) :
  TkInv xs ys o n q (i + 1) (xs'.set (o + i) (sbL (xs.getD (o + i) 0) (lo (q * ys.getD i 0 + c)) br)) (hi (q * ys.getD i 0 + c)) (sbB (xs.getD (o + i) 0) (lo (q * ys.getD i 0 + c)) br) := by
 have hl := h.len
 have hyi := hys.getD i
 refine ⟨by simp [hl], h.ok.set _ (sbL_lt _ _ _), fun k hk => ?_, ?_, sbB_le _ _ _, ?_⟩
 ·rw [getD_set_off (by omega)]; exact h.same k (by omega)
 ·have : q * ys.getD i 0 ≤ 18446744073709551615 * 18446744073709551615 := Nat.mul_le_mul (by omega) (by omega)
  have hc := h.clt
  unfold hi; omega
 ·rw [val_seg_succ (by simp [hl]; omega), val_take_succ (by omega), val_seg_succ (by omega), seg_set_out (by omega), getD_set_eq (by omega), Bp_succ]
  exact take_step h.eq (by unfold lo hi; omega) (sb_eq (hxs.getD _) (lo_lt _) h.brle)

structure DgPost (xs : List Nat) (o n : Nat) (xs' : List Nat) : Prop where
 len : xs'.length = xs.length
 ok : Ok xs'
 same : ∀ k, k < o ∨ o + n < k → xs'.getD k 0 = xs.getD k 0
theorem TkInv.last {xs ys xs' : List Nat} {o n q c br : Nat} (h : TkInv xs ys o n q n xs' c br) (ho : o + n < xs.length) (hxs : Ok xs) :
  DgPost xs o n (xs'.set (o + n) (sbL (xs.getD (o + n) 0) c br)) ∧
  val (seg (xs'.set (o + n) (sbL (xs.getD (o + n) 0) c br)) o (n + 1)) + q * val (seg ys 0 n) = val (seg xs o (n + 1)) + sbB (xs.getD (o + n) 0) c br * Bp (n + 1) := by
 have hl := h.len
 refine ⟨⟨by simp [hl], h.ok.set _ (sbL_lt _ _ _), fun k hk => ?_⟩, ?_⟩
 ·rw [getD_set_off (by omega)]; exact h.same k (by omega)
 ·rw [val_seg_succ (by simp [hl]; omega), val_seg_succ (by omega), seg_set_out (by omega), getD_set_eq (by omega), Bp_succ]
  exact take_last h.eq (sb_eq (hxs.getD _) h.clt h.brle)
abbrev SlV (b o n c : Nat) : Value := .slice (some ⟨b, o, none⟩) n c
structure GvInv (xs ys : List Nat) (o i : Nat) (xs' : List Nat) (c : Nat) : Prop where
 len : xs'.length = xs.length
 ok : Ok xs'
 same : ∀ k, k < o ∨ o + i ≤ k → xs'.getD k 0 = xs.getD k 0
 cle : c ≤ 1
 eq : val (seg xs' o i) + c * Bp i = val (seg xs o i) + val (seg ys 0 i)
theorem GvInv.start {xs ys : List Nat} (o : Nat) (hx : Ok xs) : GvInv xs ys o 0 xs 0 :=
 ⟨rfl, hx, fun _ _ => rfl, by decide, by simp [seg, val]⟩
theorem GvInv.step {xs ys xs' : List Nat} {o n i c : Nat} (h : GvInv xs ys o i xs' c) (hin : i < n) (ho : o + n < xs.length) (hy : n ≤ ys.length) (hys : Ok ys) (hxs : Ok xs) :
  GvInv xs ys o (i + 1) (xs'.set (o + i) (lo (xs.getD (o + i) 0 + ys.getD i 0 + c))) (hi (xs.getD (o + i) 0 + ys.getD i 0 + c)) := by
 have hl := h.len
 refine ⟨by simp [hl], h.ok.set _ (lo_lt _), fun k hk => ?_, hi_le (hxs.getD _) (hys.getD _) h.cle, ?_⟩
 ·rw [getD_set_off (by omega)]; exact h.same k (by omega)
 ·rw [val_seg_succ (by simp [hl]; omega), val_take_succ (by omega), val_seg_succ (by omega), seg_set_out (by omega), getD_set_eq (by omega), Bp_succ]
  exact give_step h.eq (by unfold lo hi; omega)
theorem GvInv.last {xs ys xs' : List Nat} {o n c : Nat} (h : GvInv xs ys o n xs' c) (ho : o + n < xs.length) (hxs : Ok xs) :
  DgPost xs o n (xs'.set (o + n) (lo (xs.getD (o + n) 0 + c))) ∧ hi (xs.getD (o + n) 0 + c) ≤ 1 ∧
  val (seg (xs'.set (o + n) (lo (xs.getD (o + n) 0 + c))) o (n + 1)) + hi (xs.getD (o + n) 0 + c) * Bp (n + 1) = val (seg xs o (n + 1)) + val (seg ys 0 n) := by
 have hl := h.len
 have hc := h.cle
 refine ⟨⟨by simp [hl], h.ok.set _ (lo_lt _), fun k hk => ?_⟩, ?_, ?_⟩
 ·rw [getD_set_off (by omega)]; exact h.same k (by omega)
 ·have := hxs.getD (o + n); unfold hi; omega
 ·rw [val_seg_succ (by simp [hl]; omega), val_seg_succ (by omega), seg_set_out (by omega), getD_set_eq (by omega), Bp_succ]
  exact give_last h.eq (by unfold lo hi; omega)
end Go.Proofs.YthdpgfdfgidokaaDoor
