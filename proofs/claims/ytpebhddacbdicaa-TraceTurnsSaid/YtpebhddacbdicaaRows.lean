/-
  No cell of these rows narrows 'for every input' (looked for: loops, veiled, ifaces, maps, wideKeys, modest, calm, conditions, laid).
  DERIVED. THE GIVEN ROWS OF THIS SEAT. 5 by the template 'for every input the law returns true; each argument reads behind the call as it read before'; 0 by the template 'total and deterministic' (their statements: YtpebhddacbdicaaTotals.lean).
  GIVEN WITH THE SEED: the statements are not yours to turn. If you find one false, say at which input.
  Laid BY PROGRAM, IN A SANDBOX (cutbox-rows.mjs): the forced cells as the released guide's own fill.sh prints them over the translation d4a1490bf4e20d6a… (all of the seat's roots in one cut). By AI agents, Wed Nov 11 2026. No macro, syntax, notation, axiom, sorry.
-/
import Derived.Test.YtpebhddacbdicaaChecked
import GoSem.Claim
import GoSem.ClaimJoined
import GoSem.ClaimMapViews
import Derived.JoinedTies
import Derived.KernelRfl
namespace Go.Proofs.Ytpebhddacbdicaa
/- THE CELL 'sum', in the pinned program and in every row, IS THE sha256 OF THE DUMP (.gsa) THAT YtpebhddacbdicaaProg.lean LOADS. Nothing in Lean hashes anything: it is a label: what it is worth is what the hold of that sum in a sandbox is worth. -/
noncomputable def Try.pinned : Pinned := { name := "ytpebhddacbdicaa", sum := "d4a1490bf4e20d6a7f41a72361d117d4b5e6de0067c55d600dbe99e69edb24dd", checked := Try.checked }
namespace Rows
def none {H : Type} : Left H := { results := [], args := [] }

/-- 'quaestorlaw14.TraceBelongs': WHATEVER THE INPUT: true; the input reads as it did. -/
def traceBelongsSpec : ChangeSpec := { name := "traceBelongs", fn := fun _ => fun
  | [d1, d2, d3] => { results := [.lit (.bool true)], args := [d1, d2, d3] }
  | _ => none }
def traceBelongsRow : OpenClaim := { program := "ytpebhddacbdicaa", sum := "d4a1490bf4e20d6a7f41a72361d117d4b5e6de0067c55d600dbe99e69edb24dd", func := "quaestor/quaestorlaw14.TraceBelongs", spec := "traceBelongs", inPlace := ["math/bits.Sub64"], unfollowed := true, recurses := true, plainKeys := false, apart := false }
def TraceBelongsSaid : Prop := traceBelongsRow.holds Try.pinned (OpenSpec.ofChange traceBelongsSpec)

/-- ITS FALSE NEIGHBOUR: 'it returns false'. Refute it at one input. -/
def traceBelongsWrong : ChangeSpec := { name := "traceBelongs", fn := fun _ => fun
  | [d1, d2, d3] => { results := [.lit (.bool false)], args := [d1, d2, d3] }
  | _ => none }
def TraceBelongsWrongFalsely : Prop := traceBelongsRow.holds Try.pinned (OpenSpec.ofChange traceBelongsWrong)

/-- 'quaestorlaw14.TraceLists': WHATEVER THE INPUT: true; the input reads as it did. -/
def traceListsSpec : ChangeSpec := { name := "traceLists", fn := fun _ => fun
  | [d] => { results := [.lit (.bool true)], args := [d] }
  | _ => none }
def traceListsRow : OpenClaim := { program := "ytpebhddacbdicaa", sum := "d4a1490bf4e20d6a7f41a72361d117d4b5e6de0067c55d600dbe99e69edb24dd", func := "quaestor/quaestorlaw14.TraceLists", spec := "traceLists", inPlace := ["math/bits.Sub64"], unfollowed := true, recurses := true, plainKeys := false, apart := false }
def TraceListsSaid : Prop := traceListsRow.holds Try.pinned (OpenSpec.ofChange traceListsSpec)

/-- ITS FALSE NEIGHBOUR: 'it returns false'. Refute it at one input. -/
def traceListsWrong : ChangeSpec := { name := "traceLists", fn := fun _ => fun
  | [d] => { results := [.lit (.bool false)], args := [d] }
  | _ => none }
def TraceListsWrongFalsely : Prop := traceListsRow.holds Try.pinned (OpenSpec.ofChange traceListsWrong)

/-- 'quaestorlaw14.TraceSteps': WHATEVER THE INPUT: true; the input reads as it did. -/
def traceStepsSpec : ChangeSpec := { name := "traceSteps", fn := fun _ => fun
  | [d] => { results := [.lit (.bool true)], args := [d] }
  | _ => none }
def traceStepsRow : OpenClaim := { program := "ytpebhddacbdicaa", sum := "d4a1490bf4e20d6a7f41a72361d117d4b5e6de0067c55d600dbe99e69edb24dd", func := "quaestor/quaestorlaw14.TraceSteps", spec := "traceSteps", inPlace := ["math/bits.Sub64", "internal/bytealg.Compare"], unfollowed := true, recurses := true, plainKeys := false, apart := false }
def TraceStepsSaid : Prop := traceStepsRow.holds Try.pinned (OpenSpec.ofChange traceStepsSpec)

/-- ITS FALSE NEIGHBOUR: 'it returns false'. Refute it at one input. -/
def traceStepsWrong : ChangeSpec := { name := "traceSteps", fn := fun _ => fun
  | [d] => { results := [.lit (.bool false)], args := [d] }
  | _ => none }
def TraceStepsWrongFalsely : Prop := traceStepsRow.holds Try.pinned (OpenSpec.ofChange traceStepsWrong)

/-- 'quaestorlaw14.TraceMore': WHATEVER THE INPUT: true; the input reads as it did. -/
def traceMoreSpec : ChangeSpec := { name := "traceMore", fn := fun _ => fun
  | [d1, d2, d3, d4] => { results := [.lit (.bool true)], args := [d1, d2, d3, d4] }
  | _ => none }
def traceMoreRow : OpenClaim := { program := "ytpebhddacbdicaa", sum := "d4a1490bf4e20d6a7f41a72361d117d4b5e6de0067c55d600dbe99e69edb24dd", func := "quaestor/quaestorlaw14.TraceMore", spec := "traceMore", inPlace := ["math/bits.Sub64", "internal/bytealg.Compare"], unfollowed := true, recurses := true, plainKeys := false, apart := false }
def TraceMoreSaid : Prop := traceMoreRow.holds Try.pinned (OpenSpec.ofChange traceMoreSpec)

/-- ITS FALSE NEIGHBOUR: 'it returns false'. Refute it at one input. -/
def traceMoreWrong : ChangeSpec := { name := "traceMore", fn := fun _ => fun
  | [d1, d2, d3, d4] => { results := [.lit (.bool false)], args := [d1, d2, d3, d4] }
  | _ => none }
def TraceMoreWrongFalsely : Prop := traceMoreRow.holds Try.pinned (OpenSpec.ofChange traceMoreWrong)

/-- 'quaestorlaw14.TraceTurns': WHATEVER THE INPUT: true; the input reads as it did. -/
def traceTurnsSpec : ChangeSpec := { name := "traceTurns", fn := fun _ => fun
  | [d1, d2] => { results := [.lit (.bool true)], args := [d1, d2] }
  | _ => none }
def traceTurnsRow : OpenClaim := { program := "ytpebhddacbdicaa", sum := "d4a1490bf4e20d6a7f41a72361d117d4b5e6de0067c55d600dbe99e69edb24dd", func := "quaestor/quaestorlaw14.TraceTurns", spec := "traceTurns", inPlace := ["math/bits.Sub64", "internal/bytealg.Compare"], unfollowed := true, recurses := true, plainKeys := false, apart := false }
def TraceTurnsSaid : Prop := traceTurnsRow.holds Try.pinned (OpenSpec.ofChange traceTurnsSpec)

/-- ITS FALSE NEIGHBOUR: 'it returns false'. Refute it at one input. -/
def traceTurnsWrong : ChangeSpec := { name := "traceTurns", fn := fun _ => fun
  | [d1, d2] => { results := [.lit (.bool false)], args := [d1, d2] }
  | _ => none }
def TraceTurnsWrongFalsely : Prop := traceTurnsRow.holds Try.pinned (OpenSpec.ofChange traceTurnsWrong)

/- THE SECOND FORM. 'bulk': how many values and letters a reading holds, each counted each time it is reached (what is shared counts as often as it is met; a slice's spare places count too). A statement '..UptoSaid' is the law's where the arguments, and the package variables that the reading takes, are together of bulk at most 1048576: NARROWER than '..Said'. Prove '..Said' where nothing that the law and all that it calls make is longer than what came in: it says more and counts as full. Else prove '..UptoSaid'. A law counts once. -/
mutual
def uptoBulk {H : Type} : DataW H → Nat
  | .lit (.string bytes) => bytes.length + 1
  | .lit _ => 1
  | .nil => 1
  | .ptr d => uptoBulk d + 1
  | .slice elems spare => uptoBulkAll elems + uptoBulkAll spare + 1
  | .agg parts => uptoBulkAll parts + 1
  | .iface _ d => uptoBulk d + 1
  | .map entries => uptoBulkEntries entries + 1
  | .held _ => 1
def uptoBulkAll {H : Type} : List (DataW H) → Nat
  | [] => 0
  | d :: r => uptoBulk d + uptoBulkAll r
def uptoBulkEntries {H : Type} : List (Lit × DataW H) → Nat
  | [] => 0
  | x :: r => uptoBulkEntry x + uptoBulkEntries r
def uptoBulkEntry {H : Type} : Lit × DataW H → Nat
  | (.string bytes, d) => bytes.length + uptoBulk d + 1
  | (_, d) => uptoBulk d + 1
 end
def uptoSmall : (H : Type) → List (DataW H) → Bool := fun _ ds => decide (uptoBulkAll ds ≤ 1048576)
def OpenSpec.upto (s : _root_.Go.ChangeSpec) : _root_.Go.OpenSpec := { _root_.Go.OpenSpec.ofChange s with cond := some uptoSmall }

/-- 'quaestorlaw14.TraceBelongs', WHERE WHAT IT READS IS OF BULK AT MOST 1048576: true; the input reads as it did. -/
def traceBelongsUptoRow : OpenClaim := { program := "ytpebhddacbdicaa", sum := "d4a1490bf4e20d6a7f41a72361d117d4b5e6de0067c55d600dbe99e69edb24dd", func := "quaestor/quaestorlaw14.TraceBelongs", spec := "traceBelongs", inPlace := ["math/bits.Sub64"], unfollowed := true, recurses := true, plainKeys := false, apart := false, narrowed := true }
def TraceBelongsUptoSaid : Prop := traceBelongsUptoRow.holds Try.pinned (OpenSpec.upto traceBelongsSpec)

/-- 'quaestorlaw14.TraceLists', WHERE WHAT IT READS IS OF BULK AT MOST 1048576: true; the input reads as it did. -/
def traceListsUptoRow : OpenClaim := { program := "ytpebhddacbdicaa", sum := "d4a1490bf4e20d6a7f41a72361d117d4b5e6de0067c55d600dbe99e69edb24dd", func := "quaestor/quaestorlaw14.TraceLists", spec := "traceLists", inPlace := ["math/bits.Sub64"], unfollowed := true, recurses := true, plainKeys := false, apart := false, narrowed := true }
def TraceListsUptoSaid : Prop := traceListsUptoRow.holds Try.pinned (OpenSpec.upto traceListsSpec)

/-- 'quaestorlaw14.TraceSteps', WHERE WHAT IT READS IS OF BULK AT MOST 1048576: true; the input reads as it did. -/
def traceStepsUptoRow : OpenClaim := { program := "ytpebhddacbdicaa", sum := "d4a1490bf4e20d6a7f41a72361d117d4b5e6de0067c55d600dbe99e69edb24dd", func := "quaestor/quaestorlaw14.TraceSteps", spec := "traceSteps", inPlace := ["math/bits.Sub64", "internal/bytealg.Compare"], unfollowed := true, recurses := true, plainKeys := false, apart := false, narrowed := true }
def TraceStepsUptoSaid : Prop := traceStepsUptoRow.holds Try.pinned (OpenSpec.upto traceStepsSpec)

/-- 'quaestorlaw14.TraceMore', WHERE WHAT IT READS IS OF BULK AT MOST 1048576: true; the input reads as it did. -/
def traceMoreUptoRow : OpenClaim := { program := "ytpebhddacbdicaa", sum := "d4a1490bf4e20d6a7f41a72361d117d4b5e6de0067c55d600dbe99e69edb24dd", func := "quaestor/quaestorlaw14.TraceMore", spec := "traceMore", inPlace := ["math/bits.Sub64", "internal/bytealg.Compare"], unfollowed := true, recurses := true, plainKeys := false, apart := false, narrowed := true }
def TraceMoreUptoSaid : Prop := traceMoreUptoRow.holds Try.pinned (OpenSpec.upto traceMoreSpec)

/-- 'quaestorlaw14.TraceTurns', WHERE WHAT IT READS IS OF BULK AT MOST 1048576: true; the input reads as it did. -/
def traceTurnsUptoRow : OpenClaim := { program := "ytpebhddacbdicaa", sum := "d4a1490bf4e20d6a7f41a72361d117d4b5e6de0067c55d600dbe99e69edb24dd", func := "quaestor/quaestorlaw14.TraceTurns", spec := "traceTurns", inPlace := ["math/bits.Sub64", "internal/bytealg.Compare"], unfollowed := true, recurses := true, plainKeys := false, apart := false, narrowed := true }
def TraceTurnsUptoSaid : Prop := traceTurnsUptoRow.holds Try.pinned (OpenSpec.upto traceTurnsSpec)

end Rows
end Go.Proofs.Ytpebhddacbdicaa
