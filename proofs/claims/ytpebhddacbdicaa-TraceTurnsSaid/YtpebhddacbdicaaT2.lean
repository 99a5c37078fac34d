/-
 The document's lists of events (quaestorref14): calls, Starved, Loose; SameInts (quaestorref00). No condition.
-/
import Derived.Test.YtpebhddacbdicaaT1
import Derived.Test.YtpebhddacbdicaaT5
import Derived.Laws.Bits64
import Derived.Test.YtpebhddacbdicaaEO
import Derived.Test.YtpebhddacbdicaaWC
import Derived.Laws.Bits64b
import Derived.Test.YtpebhddacbdicaaBS
set_option maxHeartbeats 4000000
set_option linter.defProp false
set_option linter.unusedVariables false
set_option linter.unusedSimpArgs false
namespace Go.Proofs.Ytpebhddacbdicaa
open Go.RowKit
def belongsE (a : List Int) (slot : Nat) (e : Evt) : Bool := decide (e.op = 32) && (decide (e.flt = 0) && (!decide ((e.bs.length : Int) < 32) && (eqW (readN (e.bs.take 32)) (rdI a) && (smB (subN slot e.val) && decide (((smN (subN slot e.val) : Nat) : Int) ≤ 128)))))
def belongs (l : List Evt) (a : List Int) (slot : Nat) : Bool := eqW slot (rdI a) || l.any (belongsE a slot)
theorem numI_ltE {x0 x1 x2 x3 : Int} (h : allU [x0, x1, x2, x3]) : numI [x0, x1, x2, x3] < W := by
 obtain ⟨h0, h1, h2, h3, _⟩ := h
 simp only [numI, num]
 unfold W
 omega
end Go.Proofs.Ytpebhddacbdicaa
namespace Go.Proofs.Ytpebhddacbdicaa
open Go.RowKit
def callOp (x : Int) : Bool := decide (x = 241) || decide (x = 242) || decide (x = 244) || decide (x = 250)
def evSel (f : Evt → List Evt → Bool) : Nat → List Evt → List Int
 | _, [] => []
 | i, e :: l => if f e l = true then (i : Int) :: evSel f (i + 1) l else evSel f (i + 1) l
theorem evSel_step {f : Evt → List Evt → Bool} {l : List Evt} {k : Nat} {e : Evt} (h : l[k]? = some e) : evSel f k (l.drop k) = if f e (l.drop (k + 1)) = true then (k : Int) :: evSel f (k + 1) (l.drop (k + 1)) else evSel f (k + 1) (l.drop (k + 1)) := by
 have hk := (List.getElem?_eq_some_iff.1 h).1
 rw [List.drop_eq_getElem_cons hk, (List.getElem?_eq_some_iff.1 h).2]; rfl
def starvedE (e : Evt) (_ : List Evt) : Bool := decide (e.flt = 130)
def looseE (e : Evt) (l : List Evt) : Bool := decide (e.op = 90) && decide (e.flt = 0) && !(match l with | [] => false | n :: _ => callOp n.op && decide (n.flt = 0) && decide (n.dep = e.dep) && decide (n.self = e.self))
end Go.Proofs.Ytpebhddacbdicaa
