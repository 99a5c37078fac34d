/-
  No cell of these rows narrows 'for every input' (looked for: loops, veiled, ifaces, maps, wideKeys, modest, calm, conditions, laid).
  DERIVED. THE GIVEN ROWS OF THIS SEAT. 6 by the template 'for every input the law returns true; each argument reads behind the call as it read before'; 0 by the template 'total and deterministic' (their statements: YtajgdlekngcmjaaTotals.lean).
  GIVEN WITH THE SEED: the statements are not yours to turn. If you find one false, say at which input.
  Laid BY PROGRAM, IN A SANDBOX (cutbox-rows.mjs): the forced cells as the released guide's own fill.sh prints them over the translation 5a119dd3941d85be… (all of the seat's roots in one cut). By AI agents, Wed Nov 11 2026. No macro, syntax, notation, axiom, sorry.
-/
import Derived.Test.YtajgdlekngcmjaaChecked
import GoSem.Claim
import GoSem.ClaimJoined
import GoSem.ClaimMapViews
import Derived.JoinedTies
import Derived.KernelRfl
namespace Go.Proofs.Ytajgdlekngcmjaa
/- THE CELL 'sum', in the pinned program and in every row, IS THE sha256 OF THE DUMP (.gsa) THAT YtajgdlekngcmjaaProg.lean LOADS. Nothing in Lean hashes anything: it is a label: what it is worth is what the hold of that sum in a sandbox is worth. -/
noncomputable def Try.pinned : Pinned := { name := "ytajgdlekngcmjaa", sum := "5a119dd3941d85be81648aab1f6983720d14d0f7149f844e4b6eaf017efd6727", checked := Try.checked }
namespace Rows
def none {H : Type} : Left H := { results := [], args := [] }

/-- 'quaestorlaw08.CodeInfo': WHATEVER THE INPUT: true; the input reads as it did. -/
def codeInfoSpec : ChangeSpec := { name := "codeInfo", fn := fun _ => fun
  | [d] => { results := [.lit (.bool true)], args := [d] }
  | _ => none }
def codeInfoRow : OpenClaim := { program := "ytajgdlekngcmjaa", sum := "5a119dd3941d85be81648aab1f6983720d14d0f7149f844e4b6eaf017efd6727", func := "quaestor/quaestorlaw08.CodeInfo", spec := "codeInfo", unfollowed := true, recurses := true, apart := false }
def CodeInfoSaid : Prop := codeInfoRow.holds Try.pinned (OpenSpec.ofChange codeInfoSpec)

/-- ITS FALSE NEIGHBOUR: 'it returns false'. Refute it at one input. -/
def codeInfoWrong : ChangeSpec := { name := "codeInfo", fn := fun _ => fun
  | [d] => { results := [.lit (.bool false)], args := [d] }
  | _ => none }
def CodeInfoWrongFalsely : Prop := codeInfoRow.holds Try.pinned (OpenSpec.ofChange codeInfoWrong)

/-- 'quaestorlaw08.CodeLooks': WHATEVER THE INPUT: true; the input reads as it did. -/
def codeLooksSpec : ChangeSpec := { name := "codeLooks", fn := fun _ => fun
  | [d1, d2, d3] => { results := [.lit (.bool true)], args := [d1, d2, d3] }
  | _ => none }
def codeLooksRow : OpenClaim := { program := "ytajgdlekngcmjaa", sum := "5a119dd3941d85be81648aab1f6983720d14d0f7149f844e4b6eaf017efd6727", func := "quaestor/quaestorlaw08.CodeLooks", spec := "codeLooks", unfollowed := true, recurses := true, apart := false }
def CodeLooksSaid : Prop := codeLooksRow.holds Try.pinned (OpenSpec.ofChange codeLooksSpec)

/-- ITS FALSE NEIGHBOUR: 'it returns false'. Refute it at one input. -/
def codeLooksWrong : ChangeSpec := { name := "codeLooks", fn := fun _ => fun
  | [d1, d2, d3] => { results := [.lit (.bool false)], args := [d1, d2, d3] }
  | _ => none }
def CodeLooksWrongFalsely : Prop := codeLooksRow.holds Try.pinned (OpenSpec.ofChange codeLooksWrong)

/-- 'quaestorlaw08.CodeJumps': WHATEVER THE INPUT: true; the input reads as it did. -/
def codeJumpsSpec : ChangeSpec := { name := "codeJumps", fn := fun _ => fun
  | [d] => { results := [.lit (.bool true)], args := [d] }
  | _ => none }
def codeJumpsRow : OpenClaim := { program := "ytajgdlekngcmjaa", sum := "5a119dd3941d85be81648aab1f6983720d14d0f7149f844e4b6eaf017efd6727", func := "quaestor/quaestorlaw08.CodeJumps", spec := "codeJumps", unfollowed := true, recurses := true, apart := false }
def CodeJumpsSaid : Prop := codeJumpsRow.holds Try.pinned (OpenSpec.ofChange codeJumpsSpec)

/-- ITS FALSE NEIGHBOUR: 'it returns false'. Refute it at one input. -/
def codeJumpsWrong : ChangeSpec := { name := "codeJumps", fn := fun _ => fun
  | [d] => { results := [.lit (.bool false)], args := [d] }
  | _ => none }
def CodeJumpsWrongFalsely : Prop := codeJumpsRow.holds Try.pinned (OpenSpec.ofChange codeJumpsWrong)

/-- 'quaestorlaw08.CodeAhead': WHATEVER THE INPUT: true; the input reads as it did. -/
def codeAheadSpec : ChangeSpec := { name := "codeAhead", fn := fun _ => fun
  | [d1, d2] => { results := [.lit (.bool true)], args := [d1, d2] }
  | _ => none }
def codeAheadRow : OpenClaim := { program := "ytajgdlekngcmjaa", sum := "5a119dd3941d85be81648aab1f6983720d14d0f7149f844e4b6eaf017efd6727", func := "quaestor/quaestorlaw08.CodeAhead", spec := "codeAhead", unfollowed := true, recurses := true, apart := false }
def CodeAheadSaid : Prop := codeAheadRow.holds Try.pinned (OpenSpec.ofChange codeAheadSpec)

/-- ITS FALSE NEIGHBOUR: 'it returns false'. Refute it at one input. -/
def codeAheadWrong : ChangeSpec := { name := "codeAhead", fn := fun _ => fun
  | [d1, d2] => { results := [.lit (.bool false)], args := [d1, d2] }
  | _ => none }
def CodeAheadWrongFalsely : Prop := codeAheadRow.holds Try.pinned (OpenSpec.ofChange codeAheadWrong)

/-- 'quaestorlaw08.CodeShifts': WHATEVER THE INPUT: true; the input reads as it did. -/
def codeShiftsSpec : ChangeSpec := { name := "codeShifts", fn := fun _ => fun
  | [d1, d2] => { results := [.lit (.bool true)], args := [d1, d2] }
  | _ => none }
def codeShiftsRow : OpenClaim := { program := "ytajgdlekngcmjaa", sum := "5a119dd3941d85be81648aab1f6983720d14d0f7149f844e4b6eaf017efd6727", func := "quaestor/quaestorlaw08.CodeShifts", spec := "codeShifts", unfollowed := true, recurses := true, apart := false }
def CodeShiftsSaid : Prop := codeShiftsRow.holds Try.pinned (OpenSpec.ofChange codeShiftsSpec)

/-- ITS FALSE NEIGHBOUR: 'it returns false'. Refute it at one input. -/
def codeShiftsWrong : ChangeSpec := { name := "codeShifts", fn := fun _ => fun
  | [d1, d2] => { results := [.lit (.bool false)], args := [d1, d2] }
  | _ => none }
def CodeShiftsWrongFalsely : Prop := codeShiftsRow.holds Try.pinned (OpenSpec.ofChange codeShiftsWrong)

/-- 'quaestorlaw08.CodePushes': WHATEVER THE INPUT: true; the input reads as it did. -/
def codePushesSpec : ChangeSpec := { name := "codePushes", fn := fun _ => fun
  | [d1, d2, d3] => { results := [.lit (.bool true)], args := [d1, d2, d3] }
  | _ => none }
def codePushesRow : OpenClaim := { program := "ytajgdlekngcmjaa", sum := "5a119dd3941d85be81648aab1f6983720d14d0f7149f844e4b6eaf017efd6727", func := "quaestor/quaestorlaw08.CodePushes", spec := "codePushes", unfollowed := true, recurses := true, apart := false }
def CodePushesSaid : Prop := codePushesRow.holds Try.pinned (OpenSpec.ofChange codePushesSpec)

/-- ITS FALSE NEIGHBOUR: 'it returns false'. Refute it at one input. -/
def codePushesWrong : ChangeSpec := { name := "codePushes", fn := fun _ => fun
  | [d1, d2, d3] => { results := [.lit (.bool false)], args := [d1, d2, d3] }
  | _ => none }
def CodePushesWrongFalsely : Prop := codePushesRow.holds Try.pinned (OpenSpec.ofChange codePushesWrong)

/- THE SECOND FORM. 'bulk': how many values and letters a reading holds, each counted each time it is reached (what is shared counts as often as it is met; a slice's spare places count too). A statement '..UptoSaid' is the law's where the arguments, and the package variables that the reading takes, are together of bulk at most 1048576: NARROWER than '..Said'. Prove '..Said' where nothing that the law and all that it calls make is longer than what came in: it says more and counts as full. Else prove '..UptoSaid'. A law counts once. -/
mutual
def uptoBulk {H : Type} : DataW H → Nat
  | .lit (.string bytes) => bytes.length + 1
  | .lit _ => 1
  | .nil => 1
  | .ptr d => uptoBulk d + 1
  | .slice elems spare => uptoBulkAll elems + uptoBulkAll spare + 1
  | .agg parts => uptoBulkAll parts + 1
  | .iface _ d => uptoBulk d + 1
  | .map entries => uptoBulkEntries entries + 1
  | .held _ => 1
def uptoBulkAll {H : Type} : List (DataW H) → Nat
  | [] => 0
  | d :: r => uptoBulk d + uptoBulkAll r
def uptoBulkEntries {H : Type} : List (Lit × DataW H) → Nat
  | [] => 0
  | x :: r => uptoBulkEntry x + uptoBulkEntries r
def uptoBulkEntry {H : Type} : Lit × DataW H → Nat
  | (.string bytes, d) => bytes.length + uptoBulk d + 1
  | (_, d) => uptoBulk d + 1
 end
def uptoSmall : (H : Type) → List (DataW H) → Bool := fun _ ds => decide (uptoBulkAll ds ≤ 1048576)
def OpenSpec.upto (s : _root_.Go.ChangeSpec) : _root_.Go.OpenSpec := { _root_.Go.OpenSpec.ofChange s with cond := some uptoSmall }

/-- 'quaestorlaw08.CodeInfo', WHERE WHAT IT READS IS OF BULK AT MOST 1048576: true; the input reads as it did. -/
def codeInfoUptoRow : OpenClaim := { program := "ytajgdlekngcmjaa", sum := "5a119dd3941d85be81648aab1f6983720d14d0f7149f844e4b6eaf017efd6727", func := "quaestor/quaestorlaw08.CodeInfo", spec := "codeInfo", unfollowed := true, recurses := true, apart := false, narrowed := true }
def CodeInfoUptoSaid : Prop := codeInfoUptoRow.holds Try.pinned (OpenSpec.upto codeInfoSpec)

/-- 'quaestorlaw08.CodeLooks', WHERE WHAT IT READS IS OF BULK AT MOST 1048576: true; the input reads as it did. -/
def codeLooksUptoRow : OpenClaim := { program := "ytajgdlekngcmjaa", sum := "5a119dd3941d85be81648aab1f6983720d14d0f7149f844e4b6eaf017efd6727", func := "quaestor/quaestorlaw08.CodeLooks", spec := "codeLooks", unfollowed := true, recurses := true, apart := false, narrowed := true }
def CodeLooksUptoSaid : Prop := codeLooksUptoRow.holds Try.pinned (OpenSpec.upto codeLooksSpec)

/-- 'quaestorlaw08.CodeJumps', WHERE WHAT IT READS IS OF BULK AT MOST 1048576: true; the input reads as it did. -/
def codeJumpsUptoRow : OpenClaim := { program := "ytajgdlekngcmjaa", sum := "5a119dd3941d85be81648aab1f6983720d14d0f7149f844e4b6eaf017efd6727", func := "quaestor/quaestorlaw08.CodeJumps", spec := "codeJumps", unfollowed := true, recurses := true, apart := false, narrowed := true }
def CodeJumpsUptoSaid : Prop := codeJumpsUptoRow.holds Try.pinned (OpenSpec.upto codeJumpsSpec)

/-- 'quaestorlaw08.CodeAhead', WHERE WHAT IT READS IS OF BULK AT MOST 1048576: true; the input reads as it did. -/
def codeAheadUptoRow : OpenClaim := { program := "ytajgdlekngcmjaa", sum := "5a119dd3941d85be81648aab1f6983720d14d0f7149f844e4b6eaf017efd6727", func := "quaestor/quaestorlaw08.CodeAhead", spec := "codeAhead", unfollowed := true, recurses := true, apart := false, narrowed := true }
def CodeAheadUptoSaid : Prop := codeAheadUptoRow.holds Try.pinned (OpenSpec.upto codeAheadSpec)

/-- 'quaestorlaw08.CodeShifts', WHERE WHAT IT READS IS OF BULK AT MOST 1048576: true; the input reads as it did. -/
def codeShiftsUptoRow : OpenClaim := { program := "ytajgdlekngcmjaa", sum := "5a119dd3941d85be81648aab1f6983720d14d0f7149f844e4b6eaf017efd6727", func := "quaestor/quaestorlaw08.CodeShifts", spec := "codeShifts", unfollowed := true, recurses := true, apart := false, narrowed := true }
def CodeShiftsUptoSaid : Prop := codeShiftsUptoRow.holds Try.pinned (OpenSpec.upto codeShiftsSpec)

/-- 'quaestorlaw08.CodePushes', WHERE WHAT IT READS IS OF BULK AT MOST 1048576: true; the input reads as it did. -/
def codePushesUptoRow : OpenClaim := { program := "ytajgdlekngcmjaa", sum := "5a119dd3941d85be81648aab1f6983720d14d0f7149f844e4b6eaf017efd6727", func := "quaestor/quaestorlaw08.CodePushes", spec := "codePushes", unfollowed := true, recurses := true, apart := false, narrowed := true }
def CodePushesUptoSaid : Prop := codePushesUptoRow.holds Try.pinned (OpenSpec.upto codePushesSpec)

end Rows
end Go.Proofs.Ytajgdlekngcmjaa
