/-
  NARROWER THAN 'FOR EVERY INPUT', by the rows' own cells (each row's printed sentence says how): UseropChecks: laid · UseropNumbers: laid · UseropHashes: laid · UseropCalls: laid · UseropSpans: laid · UseropReads: laid · UseropSigned: laid · UseropPrices: laid.
  DERIVED. THE GIVEN ROWS OF THIS SEAT. 8 by the template 'for every input the law returns true; each argument reads behind the call as it read before'; 0 by the template 'total and deterministic' (their statements: YthdpgfdfgidokaaDoorTotals.lean).
  GIVEN WITH THE SEED: the statements are not yours to turn. If you find one false, say at which input.
  Laid BY PROGRAM, IN A SANDBOX (cutbox-rows.mjs): the forced cells as the released guide's own fill.sh prints them over the translation 548cfceea572bc57… (all of the seat's roots in one cut). By AI agents, Wed Nov 11 2026. No macro, syntax, notation, axiom, sorry.
-/
import Derived.Test.YthdpgfdfgidokaaDoorChecked
import GoSem.Claim
import GoSem.ClaimJoined
import GoSem.ClaimMapViews
import Derived.JoinedTies
import Derived.KernelRfl
namespace Go.Proofs.YthdpgfdfgidokaaDoor
/- THE CELL 'sum', in the pinned program and in every row, IS THE sha256 OF THE DUMP (.gsa) THAT YthdpgfdfgidokaaDoorProg.lean LOADS. Nothing in Lean hashes anything: it is a label: what it is worth is what the hold of that sum in a sandbox is worth. -/
noncomputable def Tryd.pinned : Pinned := { name := "ythdpgfdfgidokaadoor", sum := "548cfceea572bc577cac294ce31120e02443b26e99274de817c08e5ba4d1da9e", checked := Tryd.checked }
namespace Rows
def none {H : Type} : Left H := { results := [], args := [] }

/- WHAT THE LISTED PACKAGE-LEVEL VARIABLES READ AS WHEN THE CALL BEGINS. Each datum BY PROGRAM (the guide's laid-datum.mjs) off the statement by which the dump's own 'gosem.cut.vars' lays the variable. In a bare row this is a premise. The card (YthdpgfdfgidokaaDoorCards.lean) ties it to the program's text. -/
def laid_quaestor_keccak_keys {H : Type} : DataW H := .agg [.lit (.int .u64 1), .lit (.int .u64 32898), .lit (.int .u64 9223372036854808714), .lit (.int .u64 9223372039002292224), .lit (.int .u64 32907), .lit (.int .u64 2147483649), .lit (.int .u64 9223372039002292353), .lit (.int .u64 9223372036854808585), .lit (.int .u64 138), .lit (.int .u64 136), .lit (.int .u64 2147516425), .lit (.int .u64 2147483658), .lit (.int .u64 2147516555), .lit (.int .u64 9223372036854775947), .lit (.int .u64 9223372036854808713), .lit (.int .u64 9223372036854808579), .lit (.int .u64 9223372036854808578), .lit (.int .u64 9223372036854775936), .lit (.int .u64 32778), .lit (.int .u64 9223372039002259466), .lit (.int .u64 9223372039002292353), .lit (.int .u64 9223372036854808704), .lit (.int .u64 2147483649), .lit (.int .u64 9223372039002292232)]
def laid_quaestor_keccak_path {H : Type} : DataW H := .agg [.lit (.int .u8 10), .lit (.int .u8 7), .lit (.int .u8 11), .lit (.int .u8 17), .lit (.int .u8 18), .lit (.int .u8 3), .lit (.int .u8 5), .lit (.int .u8 16), .lit (.int .u8 8), .lit (.int .u8 21), .lit (.int .u8 24), .lit (.int .u8 4), .lit (.int .u8 15), .lit (.int .u8 23), .lit (.int .u8 19), .lit (.int .u8 13), .lit (.int .u8 12), .lit (.int .u8 2), .lit (.int .u8 20), .lit (.int .u8 14), .lit (.int .u8 22), .lit (.int .u8 9), .lit (.int .u8 6), .lit (.int .u8 1)]
def laid_errors_errorType {H : Type} : DataW H := .iface "internal/reflectlite.rtype" (.agg [.ptr (.lit (.string [101, 114, 114, 111, 114]))])

/-- 'quaestorlaw15.UseropChecks': WHATEVER THE INPUT: true; the input reads as it did. -/
def useropChecksSpec : ChangeSpec := { name := "useropChecks", fn := fun _ => fun
  | [d] => { results := [.lit (.bool true)], args := [d] }
  | _ => none }
def useropChecksRow : OpenClaim := { program := "ythdpgfdfgidokaadoor", sum := "548cfceea572bc577cac294ce31120e02443b26e99274de817c08e5ba4d1da9e", func := "quaestor/quaestorlaw15.UseropChecks", spec := "useropChecks", inPlace := ["math/bits.Add64", "math/bits.Sub64"], unfollowed := true, recurses := true, named := ["quaestor/keccak.keys", "quaestor/keccak.path"], apart := false, laid := [("quaestor/keccak.keys", laid_quaestor_keccak_keys), ("quaestor/keccak.path", laid_quaestor_keccak_path)] }
def UseropChecksSaid : Prop := useropChecksRow.holds Tryd.pinned (OpenSpec.ofChange useropChecksSpec)

/-- ITS FALSE NEIGHBOUR: 'it returns false'. Refute it at one input. -/
def useropChecksWrong : ChangeSpec := { name := "useropChecks", fn := fun _ => fun
  | [d] => { results := [.lit (.bool false)], args := [d] }
  | _ => none }
def UseropChecksWrongFalsely : Prop := useropChecksRow.holds Tryd.pinned (OpenSpec.ofChange useropChecksWrong)

/-- 'quaestorlaw15.UseropNumbers': WHATEVER THE INPUT: true; the input reads as it did. -/
def useropNumbersSpec : ChangeSpec := { name := "useropNumbers", fn := fun _ => fun
  | [d1, d2] => { results := [.lit (.bool true)], args := [d1, d2] }
  | _ => none }
def useropNumbersRow : OpenClaim := { program := "ythdpgfdfgidokaadoor", sum := "548cfceea572bc577cac294ce31120e02443b26e99274de817c08e5ba4d1da9e", func := "quaestor/quaestorlaw15.UseropNumbers", spec := "useropNumbers", inPlace := ["math/bits.Add64", "math/bits.Sub64"], unfollowed := true, recurses := true, named := ["quaestor/keccak.keys", "quaestor/keccak.path"], apart := false, laid := [("quaestor/keccak.keys", laid_quaestor_keccak_keys), ("quaestor/keccak.path", laid_quaestor_keccak_path)] }
def UseropNumbersSaid : Prop := useropNumbersRow.holds Tryd.pinned (OpenSpec.ofChange useropNumbersSpec)

/-- ITS FALSE NEIGHBOUR: 'it returns false'. Refute it at one input. -/
def useropNumbersWrong : ChangeSpec := { name := "useropNumbers", fn := fun _ => fun
  | [d1, d2] => { results := [.lit (.bool false)], args := [d1, d2] }
  | _ => none }
def UseropNumbersWrongFalsely : Prop := useropNumbersRow.holds Tryd.pinned (OpenSpec.ofChange useropNumbersWrong)

/-- 'quaestorlaw15.UseropHashes': WHATEVER THE INPUT: true; the input reads as it did. -/
def useropHashesSpec : ChangeSpec := { name := "useropHashes", fn := fun _ => fun
  | [d1, d2] => { results := [.lit (.bool true)], args := [d1, d2] }
  | _ => none }
def useropHashesRow : OpenClaim := { program := "ythdpgfdfgidokaadoor", sum := "548cfceea572bc577cac294ce31120e02443b26e99274de817c08e5ba4d1da9e", func := "quaestor/quaestorlaw15.UseropHashes", spec := "useropHashes", inPlace := ["math/bits.Add64"], unfollowed := true, recurses := true, named := ["quaestor/keccak.keys", "quaestor/keccak.path"], apart := false, laid := [("quaestor/keccak.keys", laid_quaestor_keccak_keys), ("quaestor/keccak.path", laid_quaestor_keccak_path)] }
def UseropHashesSaid : Prop := useropHashesRow.holds Tryd.pinned (OpenSpec.ofChange useropHashesSpec)

/-- ITS FALSE NEIGHBOUR: 'it returns false'. Refute it at one input. -/
def useropHashesWrong : ChangeSpec := { name := "useropHashes", fn := fun _ => fun
  | [d1, d2] => { results := [.lit (.bool false)], args := [d1, d2] }
  | _ => none }
def UseropHashesWrongFalsely : Prop := useropHashesRow.holds Tryd.pinned (OpenSpec.ofChange useropHashesWrong)

/-- 'quaestorlaw15.UseropCalls': WHATEVER THE INPUT: true; the input reads as it did. -/
def useropCallsSpec : ChangeSpec := { name := "useropCalls", fn := fun _ => fun
  | [d1, d2, d3, d4, d5] => { results := [.lit (.bool true)], args := [d1, d2, d3, d4, d5] }
  | _ => none }
def useropCallsRow : OpenClaim := { program := "ythdpgfdfgidokaadoor", sum := "548cfceea572bc577cac294ce31120e02443b26e99274de817c08e5ba4d1da9e", func := "quaestor/quaestorlaw15.UseropCalls", spec := "useropCalls", inPlace := ["math/bits.Add64"], unfollowed := true, recurses := true, named := ["quaestor/keccak.keys", "quaestor/keccak.path"], apart := false, laid := [("quaestor/keccak.keys", laid_quaestor_keccak_keys), ("quaestor/keccak.path", laid_quaestor_keccak_path)] }
def UseropCallsSaid : Prop := useropCallsRow.holds Tryd.pinned (OpenSpec.ofChange useropCallsSpec)

/-- ITS FALSE NEIGHBOUR: 'it returns false'. Refute it at one input. -/
def useropCallsWrong : ChangeSpec := { name := "useropCalls", fn := fun _ => fun
  | [d1, d2, d3, d4, d5] => { results := [.lit (.bool false)], args := [d1, d2, d3, d4, d5] }
  | _ => none }
def UseropCallsWrongFalsely : Prop := useropCallsRow.holds Tryd.pinned (OpenSpec.ofChange useropCallsWrong)

/-- 'quaestorlaw15.UseropSpans': WHATEVER THE INPUT: true; the input reads as it did. -/
def useropSpansSpec : ChangeSpec := { name := "useropSpans", fn := fun _ => fun
  | [d1, d2, d3] => { results := [.lit (.bool true)], args := [d1, d2, d3] }
  | _ => none }
def useropSpansRow : OpenClaim := { program := "ythdpgfdfgidokaadoor", sum := "548cfceea572bc577cac294ce31120e02443b26e99274de817c08e5ba4d1da9e", func := "quaestor/quaestorlaw15.UseropSpans", spec := "useropSpans", inPlace := ["math/bits.Add64"], unfollowed := true, recurses := true, named := ["quaestor/keccak.keys", "quaestor/keccak.path"], apart := false, laid := [("quaestor/keccak.keys", laid_quaestor_keccak_keys), ("quaestor/keccak.path", laid_quaestor_keccak_path)] }
def UseropSpansSaid : Prop := useropSpansRow.holds Tryd.pinned (OpenSpec.ofChange useropSpansSpec)

/-- ITS FALSE NEIGHBOUR: 'it returns false'. Refute it at one input. -/
def useropSpansWrong : ChangeSpec := { name := "useropSpans", fn := fun _ => fun
  | [d1, d2, d3] => { results := [.lit (.bool false)], args := [d1, d2, d3] }
  | _ => none }
def UseropSpansWrongFalsely : Prop := useropSpansRow.holds Tryd.pinned (OpenSpec.ofChange useropSpansWrong)

/-- 'quaestorlaw15.UseropReads': WHATEVER THE INPUT: true; the input reads as it did. -/
def useropReadsSpec : ChangeSpec := { name := "useropReads", fn := fun _ => fun
  | [d1, d2, d3] => { results := [.lit (.bool true)], args := [d1, d2, d3] }
  | _ => none }
def useropReadsRow : OpenClaim := { program := "ythdpgfdfgidokaadoor", sum := "548cfceea572bc577cac294ce31120e02443b26e99274de817c08e5ba4d1da9e", func := "quaestor/quaestorlaw15.UseropReads", spec := "useropReads", inPlace := ["math/bits.Add64", "internal/reflectlite.ValueOf", "(internal/reflectlite.Value).Type", "(internal/reflectlite.Value).IsNil", "internal/reflectlite.TypeOf", "(internal/reflectlite.Value).Elem", "(internal/reflectlite.Value).Set"], unfollowed := true, recurses := true, named := ["quaestor/keccak.keys", "quaestor/keccak.path", "errors.errorType"], apart := false, laid := [("errors.errorType", laid_errors_errorType), ("quaestor/keccak.keys", laid_quaestor_keccak_keys), ("quaestor/keccak.path", laid_quaestor_keccak_path)] }
def UseropReadsSaid : Prop := useropReadsRow.holds Tryd.pinned (OpenSpec.ofChange useropReadsSpec)

/-- ITS FALSE NEIGHBOUR: 'it returns false'. Refute it at one input. -/
def useropReadsWrong : ChangeSpec := { name := "useropReads", fn := fun _ => fun
  | [d1, d2, d3] => { results := [.lit (.bool false)], args := [d1, d2, d3] }
  | _ => none }
def UseropReadsWrongFalsely : Prop := useropReadsRow.holds Tryd.pinned (OpenSpec.ofChange useropReadsWrong)

/-- 'quaestorlaw15.UseropSigned': WHATEVER THE INPUT: true; the input reads as it did. -/
def useropSignedSpec : ChangeSpec := { name := "useropSigned", fn := fun _ => fun
  | [d1, d2, d3] => { results := [.lit (.bool true)], args := [d1, d2, d3] }
  | _ => none }
def useropSignedRow : OpenClaim := { program := "ythdpgfdfgidokaadoor", sum := "548cfceea572bc577cac294ce31120e02443b26e99274de817c08e5ba4d1da9e", func := "quaestor/quaestorlaw15.UseropSigned", spec := "useropSigned", inPlace := ["math/bits.Add64"], unfollowed := true, recurses := true, named := ["quaestor/keccak.keys", "quaestor/keccak.path"], apart := false, laid := [("quaestor/keccak.keys", laid_quaestor_keccak_keys), ("quaestor/keccak.path", laid_quaestor_keccak_path)] }
def UseropSignedSaid : Prop := useropSignedRow.holds Tryd.pinned (OpenSpec.ofChange useropSignedSpec)

/-- ITS FALSE NEIGHBOUR: 'it returns false'. Refute it at one input. -/
def useropSignedWrong : ChangeSpec := { name := "useropSigned", fn := fun _ => fun
  | [d1, d2, d3] => { results := [.lit (.bool false)], args := [d1, d2, d3] }
  | _ => none }
def UseropSignedWrongFalsely : Prop := useropSignedRow.holds Tryd.pinned (OpenSpec.ofChange useropSignedWrong)

/-- 'quaestorlaw15.UseropPrices': WHATEVER THE INPUT: true; the input reads as it did. -/
def useropPricesSpec : ChangeSpec := { name := "useropPrices", fn := fun _ => fun
  | [d1, d2] => { results := [.lit (.bool true)], args := [d1, d2] }
  | _ => none }
def useropPricesRow : OpenClaim := { program := "ythdpgfdfgidokaadoor", sum := "548cfceea572bc577cac294ce31120e02443b26e99274de817c08e5ba4d1da9e", func := "quaestor/quaestorlaw15.UseropPrices", spec := "useropPrices", inPlace := ["math/bits.Add64", "math/bits.Sub64"], unfollowed := true, recurses := true, named := ["quaestor/keccak.keys", "quaestor/keccak.path"], apart := false, laid := [("quaestor/keccak.keys", laid_quaestor_keccak_keys), ("quaestor/keccak.path", laid_quaestor_keccak_path)] }
def UseropPricesSaid : Prop := useropPricesRow.holds Tryd.pinned (OpenSpec.ofChange useropPricesSpec)

/-- ITS FALSE NEIGHBOUR: 'it returns false'. Refute it at one input. -/
def useropPricesWrong : ChangeSpec := { name := "useropPrices", fn := fun _ => fun
  | [d1, d2] => { results := [.lit (.bool false)], args := [d1, d2] }
  | _ => none }
def UseropPricesWrongFalsely : Prop := useropPricesRow.holds Tryd.pinned (OpenSpec.ofChange useropPricesWrong)

/- THE SECOND FORM. 'bulk': how many values and letters a reading holds, each counted each time it is reached (what is shared counts as often as it is met; a slice's spare places count too). A statement '..UptoSaid' is the law's where the arguments, and the package variables that the reading takes, are together of bulk at most 1048576: NARROWER than '..Said'. Prove '..Said' where nothing that the law and all that it calls make is longer than what came in: it says more and counts as full. Else prove '..UptoSaid'. A law counts once. -/
mutual
def uptoBulk {H : Type} : DataW H → Nat
  | .lit (.string bytes) => bytes.length + 1
  | .lit _ => 1
  | .nil => 1
  | .ptr d => uptoBulk d + 1
  | .slice elems spare => uptoBulkAll elems + uptoBulkAll spare + 1
  | .agg parts => uptoBulkAll parts + 1
  | .iface _ d => uptoBulk d + 1
  | .map entries => uptoBulkEntries entries + 1
  | .held _ => 1
def uptoBulkAll {H : Type} : List (DataW H) → Nat
  | [] => 0
  | d :: r => uptoBulk d + uptoBulkAll r
def uptoBulkEntries {H : Type} : List (Lit × DataW H) → Nat
  | [] => 0
  | x :: r => uptoBulkEntry x + uptoBulkEntries r
def uptoBulkEntry {H : Type} : Lit × DataW H → Nat
  | (.string bytes, d) => bytes.length + uptoBulk d + 1
  | (_, d) => uptoBulk d + 1
 end
def uptoSmall : (H : Type) → List (DataW H) → Bool := fun _ ds => decide (uptoBulkAll ds ≤ 1048576)
def OpenSpec.upto (s : _root_.Go.ChangeSpec) : _root_.Go.OpenSpec := { _root_.Go.OpenSpec.ofChange s with cond := some uptoSmall }

/-- 'quaestorlaw15.UseropChecks', WHERE WHAT IT READS IS OF BULK AT MOST 1048576: true; the input reads as it did. -/
def useropChecksUptoRow : OpenClaim := { program := "ythdpgfdfgidokaadoor", sum := "548cfceea572bc577cac294ce31120e02443b26e99274de817c08e5ba4d1da9e", func := "quaestor/quaestorlaw15.UseropChecks", spec := "useropChecks", inPlace := ["math/bits.Add64", "math/bits.Sub64"], unfollowed := true, recurses := true, named := ["quaestor/keccak.keys", "quaestor/keccak.path"], apart := false, laid := [("quaestor/keccak.keys", laid_quaestor_keccak_keys), ("quaestor/keccak.path", laid_quaestor_keccak_path)], narrowed := true }
def UseropChecksUptoSaid : Prop := useropChecksUptoRow.holds Tryd.pinned (OpenSpec.upto useropChecksSpec)

/-- 'quaestorlaw15.UseropNumbers', WHERE WHAT IT READS IS OF BULK AT MOST 1048576: true; the input reads as it did. -/
def useropNumbersUptoRow : OpenClaim := { program := "ythdpgfdfgidokaadoor", sum := "548cfceea572bc577cac294ce31120e02443b26e99274de817c08e5ba4d1da9e", func := "quaestor/quaestorlaw15.UseropNumbers", spec := "useropNumbers", inPlace := ["math/bits.Add64", "math/bits.Sub64"], unfollowed := true, recurses := true, named := ["quaestor/keccak.keys", "quaestor/keccak.path"], apart := false, laid := [("quaestor/keccak.keys", laid_quaestor_keccak_keys), ("quaestor/keccak.path", laid_quaestor_keccak_path)], narrowed := true }
def UseropNumbersUptoSaid : Prop := useropNumbersUptoRow.holds Tryd.pinned (OpenSpec.upto useropNumbersSpec)

/-- 'quaestorlaw15.UseropHashes', WHERE WHAT IT READS IS OF BULK AT MOST 1048576: true; the input reads as it did. -/
def useropHashesUptoRow : OpenClaim := { program := "ythdpgfdfgidokaadoor", sum := "548cfceea572bc577cac294ce31120e02443b26e99274de817c08e5ba4d1da9e", func := "quaestor/quaestorlaw15.UseropHashes", spec := "useropHashes", inPlace := ["math/bits.Add64"], unfollowed := true, recurses := true, named := ["quaestor/keccak.keys", "quaestor/keccak.path"], apart := false, laid := [("quaestor/keccak.keys", laid_quaestor_keccak_keys), ("quaestor/keccak.path", laid_quaestor_keccak_path)], narrowed := true }
def UseropHashesUptoSaid : Prop := useropHashesUptoRow.holds Tryd.pinned (OpenSpec.upto useropHashesSpec)

/-- 'quaestorlaw15.UseropCalls', WHERE WHAT IT READS IS OF BULK AT MOST 1048576: true; the input reads as it did. -/
def useropCallsUptoRow : OpenClaim := { program := "ythdpgfdfgidokaadoor", sum := "548cfceea572bc577cac294ce31120e02443b26e99274de817c08e5ba4d1da9e", func := "quaestor/quaestorlaw15.UseropCalls", spec := "useropCalls", inPlace := ["math/bits.Add64"], unfollowed := true, recurses := true, named := ["quaestor/keccak.keys", "quaestor/keccak.path"], apart := false, laid := [("quaestor/keccak.keys", laid_quaestor_keccak_keys), ("quaestor/keccak.path", laid_quaestor_keccak_path)], narrowed := true }
def UseropCallsUptoSaid : Prop := useropCallsUptoRow.holds Tryd.pinned (OpenSpec.upto useropCallsSpec)

/-- 'quaestorlaw15.UseropSpans', WHERE WHAT IT READS IS OF BULK AT MOST 1048576: true; the input reads as it did. -/
def useropSpansUptoRow : OpenClaim := { program := "ythdpgfdfgidokaadoor", sum := "548cfceea572bc577cac294ce31120e02443b26e99274de817c08e5ba4d1da9e", func := "quaestor/quaestorlaw15.UseropSpans", spec := "useropSpans", inPlace := ["math/bits.Add64"], unfollowed := true, recurses := true, named := ["quaestor/keccak.keys", "quaestor/keccak.path"], apart := false, laid := [("quaestor/keccak.keys", laid_quaestor_keccak_keys), ("quaestor/keccak.path", laid_quaestor_keccak_path)], narrowed := true }
def UseropSpansUptoSaid : Prop := useropSpansUptoRow.holds Tryd.pinned (OpenSpec.upto useropSpansSpec)

/-- 'quaestorlaw15.UseropReads', WHERE WHAT IT READS IS OF BULK AT MOST 1048576: true; the input reads as it did. -/
def useropReadsUptoRow : OpenClaim := { program := "ythdpgfdfgidokaadoor", sum := "548cfceea572bc577cac294ce31120e02443b26e99274de817c08e5ba4d1da9e", func := "quaestor/quaestorlaw15.UseropReads", spec := "useropReads", inPlace := ["math/bits.Add64", "internal/reflectlite.ValueOf", "(internal/reflectlite.Value).Type", "(internal/reflectlite.Value).IsNil", "internal/reflectlite.TypeOf", "(internal/reflectlite.Value).Elem", "(internal/reflectlite.Value).Set"], unfollowed := true, recurses := true, named := ["quaestor/keccak.keys", "quaestor/keccak.path", "errors.errorType"], apart := false, laid := [("errors.errorType", laid_errors_errorType), ("quaestor/keccak.keys", laid_quaestor_keccak_keys), ("quaestor/keccak.path", laid_quaestor_keccak_path)], narrowed := true }
def UseropReadsUptoSaid : Prop := useropReadsUptoRow.holds Tryd.pinned (OpenSpec.upto useropReadsSpec)

/-- 'quaestorlaw15.UseropSigned', WHERE WHAT IT READS IS OF BULK AT MOST 1048576: true; the input reads as it did. -/
def useropSignedUptoRow : OpenClaim := { program := "ythdpgfdfgidokaadoor", sum := "548cfceea572bc577cac294ce31120e02443b26e99274de817c08e5ba4d1da9e", func := "quaestor/quaestorlaw15.UseropSigned", spec := "useropSigned", inPlace := ["math/bits.Add64"], unfollowed := true, recurses := true, named := ["quaestor/keccak.keys", "quaestor/keccak.path"], apart := false, laid := [("quaestor/keccak.keys", laid_quaestor_keccak_keys), ("quaestor/keccak.path", laid_quaestor_keccak_path)], narrowed := true }
def UseropSignedUptoSaid : Prop := useropSignedUptoRow.holds Tryd.pinned (OpenSpec.upto useropSignedSpec)

/-- 'quaestorlaw15.UseropPrices', WHERE WHAT IT READS IS OF BULK AT MOST 1048576: true; the input reads as it did. -/
def useropPricesUptoRow : OpenClaim := { program := "ythdpgfdfgidokaadoor", sum := "548cfceea572bc577cac294ce31120e02443b26e99274de817c08e5ba4d1da9e", func := "quaestor/quaestorlaw15.UseropPrices", spec := "useropPrices", inPlace := ["math/bits.Add64", "math/bits.Sub64"], unfollowed := true, recurses := true, named := ["quaestor/keccak.keys", "quaestor/keccak.path"], apart := false, laid := [("quaestor/keccak.keys", laid_quaestor_keccak_keys), ("quaestor/keccak.path", laid_quaestor_keccak_path)], narrowed := true }
def UseropPricesUptoSaid : Prop := useropPricesUptoRow.holds Tryd.pinned (OpenSpec.upto useropPricesSpec)

end Rows
end Go.Proofs.YthdpgfdfgidokaaDoor
