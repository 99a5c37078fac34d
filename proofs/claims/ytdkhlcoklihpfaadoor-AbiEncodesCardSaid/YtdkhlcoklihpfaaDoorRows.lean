/-
  NARROWER THAN 'FOR EVERY INPUT', by the rows' own cells (each row's printed sentence says how): AbiEncodes: laid · AbiDecodes: laid · AbiBack: laid · AbiWords: laid · AbiBounds: laid · AbiSelectors: laid.
  DERIVED. THE GIVEN ROWS OF THIS SEAT. 6 by the template 'for every input the law returns true; each argument reads behind the call as it read before'; 0 by the template 'total and deterministic' (their statements: YtdkhlcoklihpfaaDoorTotals.lean).
  GIVEN WITH THE SEED: the statements are not yours to turn. If you find one false, say at which input.
  Laid BY PROGRAM, IN A SANDBOX (cutbox-rows.mjs): the forced cells as the released guide's own fill.sh prints them over the translation 7b13685fcef4e438… (all of the seat's roots in one cut). By AI agents, Wed Nov 11 2026. No macro, syntax, notation, axiom, sorry.
-/
import Derived.Test.YtdkhlcoklihpfaaDoorChecked
import GoSem.Claim
import GoSem.ClaimJoined
import GoSem.ClaimMapViews
import Derived.JoinedTies
import Derived.KernelRfl
namespace Go.Proofs.YtdkhlcoklihpfaaDoor
/- THE CELL 'sum', in the pinned program and in every row, IS THE sha256 OF THE DUMP (.gsa) THAT YtdkhlcoklihpfaaDoorProg.lean LOADS. Nothing in Lean hashes anything: it is a label: what it is worth is what the hold of that sum in a sandbox is worth. -/
noncomputable def Tryd.pinned : Pinned := { name := "ytdkhlcoklihpfaadoor", sum := "7b13685fcef4e43850ddce63938b75d7700a3b5bab1e20070de7aad13d61bacf", checked := Tryd.checked }
namespace Rows
def none {H : Type} : Left H := { results := [], args := [] }

/- WHAT THE LISTED PACKAGE-LEVEL VARIABLES READ AS WHEN THE CALL BEGINS. Each datum BY PROGRAM (the guide's laid-datum.mjs) off the statement by which the dump's own 'gosem.cut.vars' lays the variable. In a bare row this is a premise. The card (YtdkhlcoklihpfaaDoorCards.lean) ties it to the program's text. -/
def laid_quaestor_keccak_keys {H : Type} : DataW H := .agg [.lit (.int .u64 1), .lit (.int .u64 32898), .lit (.int .u64 9223372036854808714), .lit (.int .u64 9223372039002292224), .lit (.int .u64 32907), .lit (.int .u64 2147483649), .lit (.int .u64 9223372039002292353), .lit (.int .u64 9223372036854808585), .lit (.int .u64 138), .lit (.int .u64 136), .lit (.int .u64 2147516425), .lit (.int .u64 2147483658), .lit (.int .u64 2147516555), .lit (.int .u64 9223372036854775947), .lit (.int .u64 9223372036854808713), .lit (.int .u64 9223372036854808579), .lit (.int .u64 9223372036854808578), .lit (.int .u64 9223372036854775936), .lit (.int .u64 32778), .lit (.int .u64 9223372039002259466), .lit (.int .u64 9223372039002292353), .lit (.int .u64 9223372036854808704), .lit (.int .u64 2147483649), .lit (.int .u64 9223372039002292232)]
def laid_quaestor_keccak_path {H : Type} : DataW H := .agg [.lit (.int .u8 10), .lit (.int .u8 7), .lit (.int .u8 11), .lit (.int .u8 17), .lit (.int .u8 18), .lit (.int .u8 3), .lit (.int .u8 5), .lit (.int .u8 16), .lit (.int .u8 8), .lit (.int .u8 21), .lit (.int .u8 24), .lit (.int .u8 4), .lit (.int .u8 15), .lit (.int .u8 23), .lit (.int .u8 19), .lit (.int .u8 13), .lit (.int .u8 12), .lit (.int .u8 2), .lit (.int .u8 20), .lit (.int .u8 14), .lit (.int .u8 22), .lit (.int .u8 9), .lit (.int .u8 6), .lit (.int .u8 1)]
def laid_errors_errorType {H : Type} : DataW H := .iface "internal/reflectlite.rtype" (.agg [.ptr (.lit (.string [101, 114, 114, 111, 114]))])

/-- 'quaestorlaw05.AbiEncodes': WHATEVER THE INPUT: true; the input reads as it did. -/
def abiEncodesSpec : ChangeSpec := { name := "abiEncodes", fn := fun _ => fun
  | [d1, d2] => { results := [.lit (.bool true)], args := [d1, d2] }
  | _ => none }
def abiEncodesRow : OpenClaim := { program := "ytdkhlcoklihpfaadoor", sum := "7b13685fcef4e43850ddce63938b75d7700a3b5bab1e20070de7aad13d61bacf", func := "quaestor/quaestorlaw05.AbiEncodes", spec := "abiEncodes", named := ["quaestor/keccak.keys", "quaestor/keccak.path"], apart := false, laid := [("quaestor/keccak.keys", laid_quaestor_keccak_keys), ("quaestor/keccak.path", laid_quaestor_keccak_path)] }
def AbiEncodesSaid : Prop := abiEncodesRow.holds Tryd.pinned (OpenSpec.ofChange abiEncodesSpec)

/-- ITS FALSE NEIGHBOUR: 'it returns false'. Refute it at one input. -/
def abiEncodesWrong : ChangeSpec := { name := "abiEncodes", fn := fun _ => fun
  | [d1, d2] => { results := [.lit (.bool false)], args := [d1, d2] }
  | _ => none }
def AbiEncodesWrongFalsely : Prop := abiEncodesRow.holds Tryd.pinned (OpenSpec.ofChange abiEncodesWrong)

/-- 'quaestorlaw05.AbiDecodes': WHATEVER THE INPUT: true; the input reads as it did. -/
def abiDecodesSpec : ChangeSpec := { name := "abiDecodes", fn := fun _ => fun
  | [d1, d2] => { results := [.lit (.bool true)], args := [d1, d2] }
  | _ => none }
def abiDecodesRow : OpenClaim := { program := "ytdkhlcoklihpfaadoor", sum := "7b13685fcef4e43850ddce63938b75d7700a3b5bab1e20070de7aad13d61bacf", func := "quaestor/quaestorlaw05.AbiDecodes", spec := "abiDecodes", inPlace := ["internal/reflectlite.ValueOf", "(internal/reflectlite.Value).Type", "(internal/reflectlite.Value).IsNil", "internal/reflectlite.TypeOf", "(internal/reflectlite.Value).Elem", "(internal/reflectlite.Value).Set"], unfollowed := true, recurses := true, named := ["errors.errorType", "quaestor/keccak.keys", "quaestor/keccak.path"], apart := false, laid := [("errors.errorType", laid_errors_errorType), ("quaestor/keccak.keys", laid_quaestor_keccak_keys), ("quaestor/keccak.path", laid_quaestor_keccak_path)] }
def AbiDecodesSaid : Prop := abiDecodesRow.holds Tryd.pinned (OpenSpec.ofChange abiDecodesSpec)

/-- ITS FALSE NEIGHBOUR: 'it returns false'. Refute it at one input. -/
def abiDecodesWrong : ChangeSpec := { name := "abiDecodes", fn := fun _ => fun
  | [d1, d2] => { results := [.lit (.bool false)], args := [d1, d2] }
  | _ => none }
def AbiDecodesWrongFalsely : Prop := abiDecodesRow.holds Tryd.pinned (OpenSpec.ofChange abiDecodesWrong)

/-- 'quaestorlaw05.AbiBack': WHATEVER THE INPUT: true; the input reads as it did. -/
def abiBackSpec : ChangeSpec := { name := "abiBack", fn := fun _ => fun
  | [d1, d2] => { results := [.lit (.bool true)], args := [d1, d2] }
  | _ => none }
def abiBackRow : OpenClaim := { program := "ytdkhlcoklihpfaadoor", sum := "7b13685fcef4e43850ddce63938b75d7700a3b5bab1e20070de7aad13d61bacf", func := "quaestor/quaestorlaw05.AbiBack", spec := "abiBack", inPlace := ["internal/reflectlite.ValueOf", "(internal/reflectlite.Value).Type", "(internal/reflectlite.Value).IsNil", "internal/reflectlite.TypeOf", "(internal/reflectlite.Value).Elem", "(internal/reflectlite.Value).Set"], unfollowed := true, recurses := true, named := ["quaestor/keccak.keys", "quaestor/keccak.path", "errors.errorType"], apart := false, laid := [("errors.errorType", laid_errors_errorType), ("quaestor/keccak.keys", laid_quaestor_keccak_keys), ("quaestor/keccak.path", laid_quaestor_keccak_path)] }
def AbiBackSaid : Prop := abiBackRow.holds Tryd.pinned (OpenSpec.ofChange abiBackSpec)

/-- ITS FALSE NEIGHBOUR: 'it returns false'. Refute it at one input. -/
def abiBackWrong : ChangeSpec := { name := "abiBack", fn := fun _ => fun
  | [d1, d2] => { results := [.lit (.bool false)], args := [d1, d2] }
  | _ => none }
def AbiBackWrongFalsely : Prop := abiBackRow.holds Tryd.pinned (OpenSpec.ofChange abiBackWrong)

/-- 'quaestorlaw05.AbiWords': WHATEVER THE INPUT: true; the input reads as it did. -/
def abiWordsSpec : ChangeSpec := { name := "abiWords", fn := fun _ => fun
  | [d] => { results := [.lit (.bool true)], args := [d] }
  | _ => none }
def abiWordsRow : OpenClaim := { program := "ytdkhlcoklihpfaadoor", sum := "7b13685fcef4e43850ddce63938b75d7700a3b5bab1e20070de7aad13d61bacf", func := "quaestor/quaestorlaw05.AbiWords", spec := "abiWords", inPlace := ["internal/reflectlite.ValueOf", "(internal/reflectlite.Value).Type", "(internal/reflectlite.Value).IsNil", "internal/reflectlite.TypeOf", "(internal/reflectlite.Value).Elem", "(internal/reflectlite.Value).Set"], unfollowed := true, recurses := true, named := ["quaestor/keccak.keys", "quaestor/keccak.path", "errors.errorType"], apart := false, laid := [("errors.errorType", laid_errors_errorType), ("quaestor/keccak.keys", laid_quaestor_keccak_keys), ("quaestor/keccak.path", laid_quaestor_keccak_path)] }
def AbiWordsSaid : Prop := abiWordsRow.holds Tryd.pinned (OpenSpec.ofChange abiWordsSpec)

/-- ITS FALSE NEIGHBOUR: 'it returns false'. Refute it at one input. -/
def abiWordsWrong : ChangeSpec := { name := "abiWords", fn := fun _ => fun
  | [d] => { results := [.lit (.bool false)], args := [d] }
  | _ => none }
def AbiWordsWrongFalsely : Prop := abiWordsRow.holds Tryd.pinned (OpenSpec.ofChange abiWordsWrong)

/-- 'quaestorlaw05.AbiBounds': WHATEVER THE INPUT: true; the input reads as it did. -/
def abiBoundsSpec : ChangeSpec := { name := "abiBounds", fn := fun _ => fun
  | [d1, d2] => { results := [.lit (.bool true)], args := [d1, d2] }
  | _ => none }
def abiBoundsRow : OpenClaim := { program := "ytdkhlcoklihpfaadoor", sum := "7b13685fcef4e43850ddce63938b75d7700a3b5bab1e20070de7aad13d61bacf", func := "quaestor/quaestorlaw05.AbiBounds", spec := "abiBounds", inPlace := ["internal/reflectlite.ValueOf", "(internal/reflectlite.Value).Type", "(internal/reflectlite.Value).IsNil", "internal/reflectlite.TypeOf", "(internal/reflectlite.Value).Elem", "(internal/reflectlite.Value).Set"], unfollowed := true, recurses := true, named := ["quaestor/keccak.keys", "quaestor/keccak.path", "errors.errorType"], apart := false, laid := [("errors.errorType", laid_errors_errorType), ("quaestor/keccak.keys", laid_quaestor_keccak_keys), ("quaestor/keccak.path", laid_quaestor_keccak_path)] }
def AbiBoundsSaid : Prop := abiBoundsRow.holds Tryd.pinned (OpenSpec.ofChange abiBoundsSpec)

/-- ITS FALSE NEIGHBOUR: 'it returns false'. Refute it at one input. -/
def abiBoundsWrong : ChangeSpec := { name := "abiBounds", fn := fun _ => fun
  | [d1, d2] => { results := [.lit (.bool false)], args := [d1, d2] }
  | _ => none }
def AbiBoundsWrongFalsely : Prop := abiBoundsRow.holds Tryd.pinned (OpenSpec.ofChange abiBoundsWrong)

/-- 'quaestorlaw05.AbiSelectors': WHATEVER THE INPUT: true; the input reads as it did. -/
def abiSelectorsSpec : ChangeSpec := { name := "abiSelectors", fn := fun _ => fun
  | [d1, d2] => { results := [.lit (.bool true)], args := [d1, d2] }
  | _ => none }
def abiSelectorsRow : OpenClaim := { program := "ytdkhlcoklihpfaadoor", sum := "7b13685fcef4e43850ddce63938b75d7700a3b5bab1e20070de7aad13d61bacf", func := "quaestor/quaestorlaw05.AbiSelectors", spec := "abiSelectors", inPlace := ["internal/reflectlite.ValueOf", "(internal/reflectlite.Value).Type", "(internal/reflectlite.Value).IsNil", "internal/reflectlite.TypeOf", "(internal/reflectlite.Value).Elem", "(internal/reflectlite.Value).Set"], unfollowed := true, recurses := true, named := ["quaestor/keccak.keys", "quaestor/keccak.path", "errors.errorType"], apart := false, laid := [("errors.errorType", laid_errors_errorType), ("quaestor/keccak.keys", laid_quaestor_keccak_keys), ("quaestor/keccak.path", laid_quaestor_keccak_path)] }
def AbiSelectorsSaid : Prop := abiSelectorsRow.holds Tryd.pinned (OpenSpec.ofChange abiSelectorsSpec)

/-- ITS FALSE NEIGHBOUR: 'it returns false'. Refute it at one input. -/
def abiSelectorsWrong : ChangeSpec := { name := "abiSelectors", fn := fun _ => fun
  | [d1, d2] => { results := [.lit (.bool false)], args := [d1, d2] }
  | _ => none }
def AbiSelectorsWrongFalsely : Prop := abiSelectorsRow.holds Tryd.pinned (OpenSpec.ofChange abiSelectorsWrong)

/- THE SECOND FORM. 'bulk': how many values and letters a reading holds, each counted each time it is reached (what is shared counts as often as it is met; a slice's spare places count too). A statement '..UptoSaid' is the law's where the arguments, and the package variables that the reading takes, are together of bulk at most 1048576: NARROWER than '..Said'. Prove '..Said' where nothing that the law and all that it calls make is longer than what came in: it says more and counts as full. Else prove '..UptoSaid'. A law counts once. -/
mutual
def uptoBulk {H : Type} : DataW H → Nat
  | .lit (.string bytes) => bytes.length + 1
  | .lit _ => 1
  | .nil => 1
  | .ptr d => uptoBulk d + 1
  | .slice elems spare => uptoBulkAll elems + uptoBulkAll spare + 1
  | .agg parts => uptoBulkAll parts + 1
  | .iface _ d => uptoBulk d + 1
  | .map entries => uptoBulkEntries entries + 1
  | .held _ => 1
def uptoBulkAll {H : Type} : List (DataW H) → Nat
  | [] => 0
  | d :: r => uptoBulk d + uptoBulkAll r
def uptoBulkEntries {H : Type} : List (Lit × DataW H) → Nat
  | [] => 0
  | x :: r => uptoBulkEntry x + uptoBulkEntries r
def uptoBulkEntry {H : Type} : Lit × DataW H → Nat
  | (.string bytes, d) => bytes.length + uptoBulk d + 1
  | (_, d) => uptoBulk d + 1
 end
def uptoSmall : (H : Type) → List (DataW H) → Bool := fun _ ds => decide (uptoBulkAll ds ≤ 1048576)
def OpenSpec.upto (s : _root_.Go.ChangeSpec) : _root_.Go.OpenSpec := { _root_.Go.OpenSpec.ofChange s with cond := some uptoSmall }

/-- 'quaestorlaw05.AbiEncodes', WHERE WHAT IT READS IS OF BULK AT MOST 1048576: true; the input reads as it did. -/
def abiEncodesUptoRow : OpenClaim := { program := "ytdkhlcoklihpfaadoor", sum := "7b13685fcef4e43850ddce63938b75d7700a3b5bab1e20070de7aad13d61bacf", func := "quaestor/quaestorlaw05.AbiEncodes", spec := "abiEncodes", named := ["quaestor/keccak.keys", "quaestor/keccak.path"], apart := false, laid := [("quaestor/keccak.keys", laid_quaestor_keccak_keys), ("quaestor/keccak.path", laid_quaestor_keccak_path)], narrowed := true }
def AbiEncodesUptoSaid : Prop := abiEncodesUptoRow.holds Tryd.pinned (OpenSpec.upto abiEncodesSpec)

/-- 'quaestorlaw05.AbiDecodes', WHERE WHAT IT READS IS OF BULK AT MOST 1048576: true; the input reads as it did. -/
def abiDecodesUptoRow : OpenClaim := { program := "ytdkhlcoklihpfaadoor", sum := "7b13685fcef4e43850ddce63938b75d7700a3b5bab1e20070de7aad13d61bacf", func := "quaestor/quaestorlaw05.AbiDecodes", spec := "abiDecodes", inPlace := ["internal/reflectlite.ValueOf", "(internal/reflectlite.Value).Type", "(internal/reflectlite.Value).IsNil", "internal/reflectlite.TypeOf", "(internal/reflectlite.Value).Elem", "(internal/reflectlite.Value).Set"], unfollowed := true, recurses := true, named := ["errors.errorType", "quaestor/keccak.keys", "quaestor/keccak.path"], apart := false, laid := [("errors.errorType", laid_errors_errorType), ("quaestor/keccak.keys", laid_quaestor_keccak_keys), ("quaestor/keccak.path", laid_quaestor_keccak_path)], narrowed := true }
def AbiDecodesUptoSaid : Prop := abiDecodesUptoRow.holds Tryd.pinned (OpenSpec.upto abiDecodesSpec)

/-- 'quaestorlaw05.AbiBack', WHERE WHAT IT READS IS OF BULK AT MOST 1048576: true; the input reads as it did. -/
def abiBackUptoRow : OpenClaim := { program := "ytdkhlcoklihpfaadoor", sum := "7b13685fcef4e43850ddce63938b75d7700a3b5bab1e20070de7aad13d61bacf", func := "quaestor/quaestorlaw05.AbiBack", spec := "abiBack", inPlace := ["internal/reflectlite.ValueOf", "(internal/reflectlite.Value).Type", "(internal/reflectlite.Value).IsNil", "internal/reflectlite.TypeOf", "(internal/reflectlite.Value).Elem", "(internal/reflectlite.Value).Set"], unfollowed := true, recurses := true, named := ["quaestor/keccak.keys", "quaestor/keccak.path", "errors.errorType"], apart := false, laid := [("errors.errorType", laid_errors_errorType), ("quaestor/keccak.keys", laid_quaestor_keccak_keys), ("quaestor/keccak.path", laid_quaestor_keccak_path)], narrowed := true }
def AbiBackUptoSaid : Prop := abiBackUptoRow.holds Tryd.pinned (OpenSpec.upto abiBackSpec)

/-- 'quaestorlaw05.AbiWords', WHERE WHAT IT READS IS OF BULK AT MOST 1048576: true; the input reads as it did. -/
def abiWordsUptoRow : OpenClaim := { program := "ytdkhlcoklihpfaadoor", sum := "7b13685fcef4e43850ddce63938b75d7700a3b5bab1e20070de7aad13d61bacf", func := "quaestor/quaestorlaw05.AbiWords", spec := "abiWords", inPlace := ["internal/reflectlite.ValueOf", "(internal/reflectlite.Value).Type", "(internal/reflectlite.Value).IsNil", "internal/reflectlite.TypeOf", "(internal/reflectlite.Value).Elem", "(internal/reflectlite.Value).Set"], unfollowed := true, recurses := true, named := ["quaestor/keccak.keys", "quaestor/keccak.path", "errors.errorType"], apart := false, laid := [("errors.errorType", laid_errors_errorType), ("quaestor/keccak.keys", laid_quaestor_keccak_keys), ("quaestor/keccak.path", laid_quaestor_keccak_path)], narrowed := true }
def AbiWordsUptoSaid : Prop := abiWordsUptoRow.holds Tryd.pinned (OpenSpec.upto abiWordsSpec)

/-- 'quaestorlaw05.AbiBounds', WHERE WHAT IT READS IS OF BULK AT MOST 1048576: true; the input reads as it did. -/
def abiBoundsUptoRow : OpenClaim := { program := "ytdkhlcoklihpfaadoor", sum := "7b13685fcef4e43850ddce63938b75d7700a3b5bab1e20070de7aad13d61bacf", func := "quaestor/quaestorlaw05.AbiBounds", spec := "abiBounds", inPlace := ["internal/reflectlite.ValueOf", "(internal/reflectlite.Value).Type", "(internal/reflectlite.Value).IsNil", "internal/reflectlite.TypeOf", "(internal/reflectlite.Value).Elem", "(internal/reflectlite.Value).Set"], unfollowed := true, recurses := true, named := ["quaestor/keccak.keys", "quaestor/keccak.path", "errors.errorType"], apart := false, laid := [("errors.errorType", laid_errors_errorType), ("quaestor/keccak.keys", laid_quaestor_keccak_keys), ("quaestor/keccak.path", laid_quaestor_keccak_path)], narrowed := true }
def AbiBoundsUptoSaid : Prop := abiBoundsUptoRow.holds Tryd.pinned (OpenSpec.upto abiBoundsSpec)

/-- 'quaestorlaw05.AbiSelectors', WHERE WHAT IT READS IS OF BULK AT MOST 1048576: true; the input reads as it did. -/
def abiSelectorsUptoRow : OpenClaim := { program := "ytdkhlcoklihpfaadoor", sum := "7b13685fcef4e43850ddce63938b75d7700a3b5bab1e20070de7aad13d61bacf", func := "quaestor/quaestorlaw05.AbiSelectors", spec := "abiSelectors", inPlace := ["internal/reflectlite.ValueOf", "(internal/reflectlite.Value).Type", "(internal/reflectlite.Value).IsNil", "internal/reflectlite.TypeOf", "(internal/reflectlite.Value).Elem", "(internal/reflectlite.Value).Set"], unfollowed := true, recurses := true, named := ["quaestor/keccak.keys", "quaestor/keccak.path", "errors.errorType"], apart := false, laid := [("errors.errorType", laid_errors_errorType), ("quaestor/keccak.keys", laid_quaestor_keccak_keys), ("quaestor/keccak.path", laid_quaestor_keccak_path)], narrowed := true }
def AbiSelectorsUptoSaid : Prop := abiSelectorsUptoRow.holds Tryd.pinned (OpenSpec.upto abiSelectorsSpec)

end Rows
end Go.Proofs.YtdkhlcoklihpfaaDoor
