/-
  NARROWER THAN 'FOR EVERY INPUT', by the rows' own cells (each row's printed sentence says how): RulesMore: laid · RulesQuiet: laid · RulesEach: laid.
  DERIVED. THE GIVEN ROWS OF THIS SEAT. 3 by the template 'for every input the law returns true; each argument reads behind the call as it read before'; 0 by the template 'total and deterministic' (their statements: YtoadeekdgikghaaDoorTotals.lean).
  GIVEN WITH THE SEED: the statements are not yours to turn. If you find one false, say at which input.
  Laid BY PROGRAM, IN A SANDBOX (cutbox-rows.mjs): the forced cells as the released guide's own fill.sh prints them over the translation 9c72d8eb8864ce1b… (all of the seat's roots in one cut). By AI agents, Wed Nov 11 2026. No macro, syntax, notation, axiom, sorry.
-/
import Derived.Test.YtoadeekdgikghaaDoorChecked
import GoSem.Claim
import GoSem.ClaimJoined
import GoSem.ClaimMapViews
import Derived.JoinedTies
import Derived.KernelRfl
namespace Go.Proofs.YtoadeekdgikghaaDoor
/- THE CELL 'sum', in the pinned program and in every row, IS THE sha256 OF THE DUMP (.gsa) THAT YtoadeekdgikghaaDoorProg.lean LOADS. Nothing in Lean hashes anything: it is a label: what it is worth is what the hold of that sum in a sandbox is worth. -/
noncomputable def Tryd.pinned : Pinned := { name := "ytoadeekdgikghaadoor", sum := "9c72d8eb8864ce1b299cc475deff4431c58de0a819f8ac6958289c58c4ac0f27", checked := Tryd.checked }
namespace Rows
def none {H : Type} : Left H := { results := [], args := [] }

/- WHAT THE LISTED PACKAGE-LEVEL VARIABLES READ AS WHEN THE CALL BEGINS. Each datum BY PROGRAM (the guide's laid-datum.mjs) off the statement by which the dump's own 'gosem.cut.vars' lays the variable. In a bare row this is a premise. The card (YtoadeekdgikghaaDoorCards.lean) ties it to the program's text. -/
def laid_quaestor_keccak_keys {H : Type} : DataW H := .agg [.lit (.int .u64 1), .lit (.int .u64 32898), .lit (.int .u64 9223372036854808714), .lit (.int .u64 9223372039002292224), .lit (.int .u64 32907), .lit (.int .u64 2147483649), .lit (.int .u64 9223372039002292353), .lit (.int .u64 9223372036854808585), .lit (.int .u64 138), .lit (.int .u64 136), .lit (.int .u64 2147516425), .lit (.int .u64 2147483658), .lit (.int .u64 2147516555), .lit (.int .u64 9223372036854775947), .lit (.int .u64 9223372036854808713), .lit (.int .u64 9223372036854808579), .lit (.int .u64 9223372036854808578), .lit (.int .u64 9223372036854775936), .lit (.int .u64 32778), .lit (.int .u64 9223372039002259466), .lit (.int .u64 9223372039002292353), .lit (.int .u64 9223372036854808704), .lit (.int .u64 2147483649), .lit (.int .u64 9223372039002292232)]
def laid_quaestor_keccak_path {H : Type} : DataW H := .agg [.lit (.int .u8 10), .lit (.int .u8 7), .lit (.int .u8 11), .lit (.int .u8 17), .lit (.int .u8 18), .lit (.int .u8 3), .lit (.int .u8 5), .lit (.int .u8 16), .lit (.int .u8 8), .lit (.int .u8 21), .lit (.int .u8 24), .lit (.int .u8 4), .lit (.int .u8 15), .lit (.int .u8 23), .lit (.int .u8 19), .lit (.int .u8 13), .lit (.int .u8 12), .lit (.int .u8 2), .lit (.int .u8 20), .lit (.int .u8 14), .lit (.int .u8 22), .lit (.int .u8 9), .lit (.int .u8 6), .lit (.int .u8 1)]

/-- 'quaestorlaw17.RulesMore': WHATEVER THE INPUT: true; the input reads as it did. -/
def rulesMoreSpec : ChangeSpec := { name := "rulesMore", fn := fun _ => fun
  | [d1, d2, d3, d4, d5] => { results := [.lit (.bool true)], args := [d1, d2, d3, d4, d5] }
  | _ => none }
def rulesMoreRow : OpenClaim := { program := "ytoadeekdgikghaadoor", sum := "9c72d8eb8864ce1b299cc475deff4431c58de0a819f8ac6958289c58c4ac0f27", func := "quaestor/quaestorlaw17.RulesMore", spec := "rulesMore", inPlace := ["math/bits.Sub64"], unfollowed := true, recurses := true, named := ["quaestor/keccak.keys", "quaestor/keccak.path"], plainKeys := false, apart := false, laid := [("quaestor/keccak.keys", laid_quaestor_keccak_keys), ("quaestor/keccak.path", laid_quaestor_keccak_path)] }
def RulesMoreSaid : Prop := rulesMoreRow.holds Tryd.pinned (OpenSpec.ofChange rulesMoreSpec)

/-- ITS FALSE NEIGHBOUR: 'it returns false'. Refute it at one input. -/
def rulesMoreWrong : ChangeSpec := { name := "rulesMore", fn := fun _ => fun
  | [d1, d2, d3, d4, d5] => { results := [.lit (.bool false)], args := [d1, d2, d3, d4, d5] }
  | _ => none }
def RulesMoreWrongFalsely : Prop := rulesMoreRow.holds Tryd.pinned (OpenSpec.ofChange rulesMoreWrong)

/-- 'quaestorlaw17.RulesQuiet': WHATEVER THE INPUT: true; the input reads as it did. -/
def rulesQuietSpec : ChangeSpec := { name := "rulesQuiet", fn := fun _ => fun
  | [d1, d2, d3, d4] => { results := [.lit (.bool true)], args := [d1, d2, d3, d4] }
  | _ => none }
def rulesQuietRow : OpenClaim := { program := "ytoadeekdgikghaadoor", sum := "9c72d8eb8864ce1b299cc475deff4431c58de0a819f8ac6958289c58c4ac0f27", func := "quaestor/quaestorlaw17.RulesQuiet", spec := "rulesQuiet", inPlace := ["math/bits.Sub64"], unfollowed := true, recurses := true, named := ["quaestor/keccak.keys", "quaestor/keccak.path"], plainKeys := false, apart := false, laid := [("quaestor/keccak.keys", laid_quaestor_keccak_keys), ("quaestor/keccak.path", laid_quaestor_keccak_path)] }
def RulesQuietSaid : Prop := rulesQuietRow.holds Tryd.pinned (OpenSpec.ofChange rulesQuietSpec)

/-- ITS FALSE NEIGHBOUR: 'it returns false'. Refute it at one input. -/
def rulesQuietWrong : ChangeSpec := { name := "rulesQuiet", fn := fun _ => fun
  | [d1, d2, d3, d4] => { results := [.lit (.bool false)], args := [d1, d2, d3, d4] }
  | _ => none }
def RulesQuietWrongFalsely : Prop := rulesQuietRow.holds Tryd.pinned (OpenSpec.ofChange rulesQuietWrong)

/-- 'quaestorlaw17.RulesEach': WHATEVER THE INPUT: true; the input reads as it did. -/
def rulesEachSpec : ChangeSpec := { name := "rulesEach", fn := fun _ => fun
  | [d1, d2, d3, d4, d5, d6] => { results := [.lit (.bool true)], args := [d1, d2, d3, d4, d5, d6] }
  | _ => none }
def rulesEachRow : OpenClaim := { program := "ytoadeekdgikghaadoor", sum := "9c72d8eb8864ce1b299cc475deff4431c58de0a819f8ac6958289c58c4ac0f27", func := "quaestor/quaestorlaw17.RulesEach", spec := "rulesEach", inPlace := ["math/bits.Sub64"], unfollowed := true, recurses := true, named := ["quaestor/keccak.keys", "quaestor/keccak.path"], plainKeys := false, apart := false, laid := [("quaestor/keccak.keys", laid_quaestor_keccak_keys), ("quaestor/keccak.path", laid_quaestor_keccak_path)] }
def RulesEachSaid : Prop := rulesEachRow.holds Tryd.pinned (OpenSpec.ofChange rulesEachSpec)

/-- ITS FALSE NEIGHBOUR: 'it returns false'. Refute it at one input. -/
def rulesEachWrong : ChangeSpec := { name := "rulesEach", fn := fun _ => fun
  | [d1, d2, d3, d4, d5, d6] => { results := [.lit (.bool false)], args := [d1, d2, d3, d4, d5, d6] }
  | _ => none }
def RulesEachWrongFalsely : Prop := rulesEachRow.holds Tryd.pinned (OpenSpec.ofChange rulesEachWrong)

/- THE SECOND FORM. 'bulk': how many values and letters a reading holds, each counted each time it is reached (what is shared counts as often as it is met; a slice's spare places count too). A statement '..UptoSaid' is the law's where the arguments, and the package variables that the reading takes, are together of bulk at most 1048576: NARROWER than '..Said'. Prove '..Said' where nothing that the law and all that it calls make is longer than what came in: it says more and counts as full. Else prove '..UptoSaid'. A law counts once. -/
mutual
def uptoBulk {H : Type} : DataW H → Nat
  | .lit (.string bytes) => bytes.length + 1
  | .lit _ => 1
  | .nil => 1
  | .ptr d => uptoBulk d + 1
  | .slice elems spare => uptoBulkAll elems + uptoBulkAll spare + 1
  | .agg parts => uptoBulkAll parts + 1
  | .iface _ d => uptoBulk d + 1
  | .map entries => uptoBulkEntries entries + 1
  | .held _ => 1
def uptoBulkAll {H : Type} : List (DataW H) → Nat
  | [] => 0
  | d :: r => uptoBulk d + uptoBulkAll r
def uptoBulkEntries {H : Type} : List (Lit × DataW H) → Nat
  | [] => 0
  | x :: r => uptoBulkEntry x + uptoBulkEntries r
def uptoBulkEntry {H : Type} : Lit × DataW H → Nat
  | (.string bytes, d) => bytes.length + uptoBulk d + 1
  | (_, d) => uptoBulk d + 1
 end
def uptoSmall : (H : Type) → List (DataW H) → Bool := fun _ ds => decide (uptoBulkAll ds ≤ 1048576)
def OpenSpec.upto (s : _root_.Go.ChangeSpec) : _root_.Go.OpenSpec := { _root_.Go.OpenSpec.ofChange s with cond := some uptoSmall }

/-- 'quaestorlaw17.RulesMore', WHERE WHAT IT READS IS OF BULK AT MOST 1048576: true; the input reads as it did. -/
def rulesMoreUptoRow : OpenClaim := { program := "ytoadeekdgikghaadoor", sum := "9c72d8eb8864ce1b299cc475deff4431c58de0a819f8ac6958289c58c4ac0f27", func := "quaestor/quaestorlaw17.RulesMore", spec := "rulesMore", inPlace := ["math/bits.Sub64"], unfollowed := true, recurses := true, named := ["quaestor/keccak.keys", "quaestor/keccak.path"], plainKeys := false, apart := false, laid := [("quaestor/keccak.keys", laid_quaestor_keccak_keys), ("quaestor/keccak.path", laid_quaestor_keccak_path)], narrowed := true }
def RulesMoreUptoSaid : Prop := rulesMoreUptoRow.holds Tryd.pinned (OpenSpec.upto rulesMoreSpec)

/-- 'quaestorlaw17.RulesQuiet', WHERE WHAT IT READS IS OF BULK AT MOST 1048576: true; the input reads as it did. -/
def rulesQuietUptoRow : OpenClaim := { program := "ytoadeekdgikghaadoor", sum := "9c72d8eb8864ce1b299cc475deff4431c58de0a819f8ac6958289c58c4ac0f27", func := "quaestor/quaestorlaw17.RulesQuiet", spec := "rulesQuiet", inPlace := ["math/bits.Sub64"], unfollowed := true, recurses := true, named := ["quaestor/keccak.keys", "quaestor/keccak.path"], plainKeys := false, apart := false, laid := [("quaestor/keccak.keys", laid_quaestor_keccak_keys), ("quaestor/keccak.path", laid_quaestor_keccak_path)], narrowed := true }
def RulesQuietUptoSaid : Prop := rulesQuietUptoRow.holds Tryd.pinned (OpenSpec.upto rulesQuietSpec)

/-- 'quaestorlaw17.RulesEach', WHERE WHAT IT READS IS OF BULK AT MOST 1048576: true; the input reads as it did. -/
def rulesEachUptoRow : OpenClaim := { program := "ytoadeekdgikghaadoor", sum := "9c72d8eb8864ce1b299cc475deff4431c58de0a819f8ac6958289c58c4ac0f27", func := "quaestor/quaestorlaw17.RulesEach", spec := "rulesEach", inPlace := ["math/bits.Sub64"], unfollowed := true, recurses := true, named := ["quaestor/keccak.keys", "quaestor/keccak.path"], plainKeys := false, apart := false, laid := [("quaestor/keccak.keys", laid_quaestor_keccak_keys), ("quaestor/keccak.path", laid_quaestor_keccak_path)], narrowed := true }
def RulesEachUptoSaid : Prop := rulesEachUptoRow.holds Tryd.pinned (OpenSpec.upto rulesEachSpec)

end Rows
end Go.Proofs.YtoadeekdgikghaaDoor
