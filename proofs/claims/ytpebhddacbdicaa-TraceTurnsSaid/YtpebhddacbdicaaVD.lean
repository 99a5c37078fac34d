/-
 What Steps hands out: where it lies, that it is one and the same. No condition.
-/
import Derived.Test.YtpebhddacbdicaaV8
set_option linter.unusedVariables false
set_option linter.unusedSimpArgs false
namespace Go.Proofs.Ytpebhddacbdicaa
open Go.RowKit
theorem SetL.same {f : List Int → Option SV} {l k : List (List Int)} (h1 : SetL f l) (h2 : SetL f k) : l = k :=
 rises_eq h1.rises h2.rises fun x => ⟨fun hx => (h2.mem x (h1.ok x hx)).2 ((h1.mem x (h1.ok x hx)).1 hx), fun hx => (h1.mem x (h2.ok x hx)).2 ((h2.mem x (h2.ok x hx)).1 hx)⟩
theorem FtQ.src1 {R Wr : List (List Int)} {x : FtX} {m : List Blk} (h : FtQ R Wr x) (hin : Blk.heap x.h ∈ m) : LiesH (HM m) x.a1 (cc (.rows 25 (x.l1.map plL))) := h.p1.lies.mono (Hl.hm hin fun _ h => h)
theorem FtQ.src2 {R Wr : List (List Int)} {x : FtX} {m : List Blk} (h : FtQ R Wr x) (hin : Blk.heap x.h ∈ m) : LiesH (HM m) x.a2 (cc (.rows 25 (x.l2.map plL))) := h.p2.lies.mono (Hl.hm hin fun _ h => h)
theorem FtQ.wit1 {R Wr : List (List Int)} {x : FtX} (h : FtQ R Wr x) : ∃ l : List (List Int), x.l1.map plL = l.map plL ∧ ∀ y ∈ l, okP y := ⟨_, rfl, h.p1.ok⟩
theorem FtQ.wit2 {R Wr : List (List Int)} {x : FtX} (h : FtQ R Wr x) : ∃ l : List (List Int), x.l2.map plL = l.map plL ∧ ∀ y ∈ l, okP y := ⟨_, rfl, h.p2.ok⟩
theorem FtQ.few1 {R Wr : List (List Int)} {x : FtX} (h : FtQ R Wr x) : x.l1.length ≤ 1000000 := h.s1.few
theorem FtQ.few2 {R Wr : List (List Int)} {x : FtX} (h : FtQ R Wr x) : x.l2.length ≤ 1000000 := h.s2.few
theorem FtQ.le1 {R Wr : List (List Int)} {x : FtX} (h : FtQ R Wr x) : x.l1.length ≤ x.c1 := h.p1.le
theorem FtQ.le2 {R Wr : List (List Int)} {x : FtX} (h : FtQ R Wr x) : x.l2.length ≤ x.c2 := h.p2.le
theorem FtQ.adr1 {R Wr : List (List Int)} {x : FtX} (h : FtQ R Wr x) : adr x.a1 x.l1.length x.c1 := h.p1.adr
theorem FtQ.adr2 {R Wr : List (List Int)} {x : FtX} (h : FtQ R Wr x) : adr x.a2 x.l2.length x.c2 := h.p2.adr
end Go.Proofs.Ytpebhddacbdicaa
