/-
  NARROWER THAN 'FOR EVERY INPUT', by the rows' own cells (each row's printed sentence says how): FeesTables: laid · FeesStores: laid · FeesGas: laid · FeesGrow: laid · FeesRound: laid · FeesSum: laid.
  DERIVED. THE GIVEN ROWS OF THIS SEAT. 6 by the template 'for every input the law returns true; each argument reads behind the call as it read before'; 0 by the template 'total and deterministic' (their statements: YtgllfgpnbdpcdaaDoorTotals.lean).
  GIVEN WITH THE SEED: the statements are not yours to turn. If you find one false, say at which input.
  Laid BY PROGRAM, IN A SANDBOX (cutbox-rows.mjs): the forced cells as the released guide's own fill.sh prints them over the translation 7258d6fb9ba82648… (all of the seat's roots in one cut). By AI agents, Wed Nov 11 2026. No macro, syntax, notation, axiom, sorry.
-/
import Derived.Test.YtgllfgpnbdpcdaaDoorChecked
import GoSem.PinnedTables
import GoSem.Claim
import GoSem.ClaimJoined
import GoSem.ClaimMapViews
import Derived.JoinedTies
import Derived.KernelRfl
namespace Go.Proofs.YtgllfgpnbdpcdaaDoor
/- THE CELL 'sum', in the pinned program and in every row, IS THE sha256 OF THE DUMP (.gsa) THAT YtgllfgpnbdpcdaaDoorProg.lean LOADS. Nothing in Lean hashes anything: it is a label: what it is worth is what the hold of that sum in a sandbox is worth. -/
noncomputable def Tryd.pinned : Pinned := { name := "ytgllfgpnbdpcdaadoor", sum := "7258d6fb9ba82648f7869695c17fa5cbb5b72b44165fc6599b575b28f7f41b78", checked := Tryd.checked }
namespace Rows
def none {H : Type} : Left H := { results := [], args := [] }

/- WHAT THE LISTED PACKAGE-LEVEL VARIABLES READ AS WHEN THE CALL BEGINS. Each datum BY PROGRAM (the guide's laid-datum.mjs) off the statement by which the dump's own 'gosem.cut.vars' lays the variable. In a bare row this is a premise. The card (YtgllfgpnbdpcdaaDoorCards.lean) ties it to the program's text. -/
def laid_unicode_utf8_acceptRanges {H : Type} : DataW H := .agg [.agg [.lit (.int .u8 128), .lit (.int .u8 191)], .agg [.lit (.int .u8 160), .lit (.int .u8 191)], .agg [.lit (.int .u8 128), .lit (.int .u8 159)], .agg [.lit (.int .u8 144), .lit (.int .u8 191)], .agg [.lit (.int .u8 128), .lit (.int .u8 143)], .agg [.lit (.int .u8 0), .lit (.int .u8 0)], .agg [.lit (.int .u8 0), .lit (.int .u8 0)], .agg [.lit (.int .u8 0), .lit (.int .u8 0)], .agg [.lit (.int .u8 0), .lit (.int .u8 0)], .agg [.lit (.int .u8 0), .lit (.int .u8 0)], .agg [.lit (.int .u8 0), .lit (.int .u8 0)], .agg [.lit (.int .u8 0), .lit (.int .u8 0)], .agg [.lit (.int .u8 0), .lit (.int .u8 0)], .agg [.lit (.int .u8 0), .lit (.int .u8 0)], .agg [.lit (.int .u8 0), .lit (.int .u8 0)], .agg [.lit (.int .u8 0), .lit (.int .u8 0)]]
/-- One of Go's own tables, pinned by name: the form's constant. -/
def laid_unicode_utf8_first : DataW Unit := Go.Pinned.utf8First

/-- 'quaestorlaw09.FeesTables': WHATEVER THE INPUT: true; the input reads as it did. -/
def feesTablesSpec : ChangeSpec := { name := "feesTables", fn := fun _ => fun
  | [d1, d2, d3] => { results := [.lit (.bool true)], args := [d1, d2, d3] }
  | _ => none }
def feesTablesRow : OpenClaim := { program := "ytgllfgpnbdpcdaadoor", sum := "7258d6fb9ba82648f7869695c17fa5cbb5b72b44165fc6599b575b28f7f41b78", func := "quaestor/quaestorlaw09.FeesTables", spec := "feesTables", inPlace := ["internal/bytealg.Count", "internal/bytealg.IndexByte", "internal/bytealg.Index"], named := ["unicode/utf8.first", "unicode/utf8.acceptRanges", "internal/bytealg.MaxLen"], apart := false, laid := [("unicode/utf8.acceptRanges", laid_unicode_utf8_acceptRanges), ("unicode/utf8.first", laid_unicode_utf8_first)] }
def FeesTablesSaid : Prop := feesTablesRow.holds Tryd.pinned (OpenSpec.ofChange feesTablesSpec)

/-- ITS FALSE NEIGHBOUR: 'it returns false'. Refute it at one input. -/
def feesTablesWrong : ChangeSpec := { name := "feesTables", fn := fun _ => fun
  | [d1, d2, d3] => { results := [.lit (.bool false)], args := [d1, d2, d3] }
  | _ => none }
def FeesTablesWrongFalsely : Prop := feesTablesRow.holds Tryd.pinned (OpenSpec.ofChange feesTablesWrong)

/-- 'quaestorlaw09.FeesStores': WHATEVER THE INPUT: true; the input reads as it did. -/
def feesStoresSpec : ChangeSpec := { name := "feesStores", fn := fun _ => fun
  | [d1, d2, d3, d4] => { results := [.lit (.bool true)], args := [d1, d2, d3, d4] }
  | _ => none }
def feesStoresRow : OpenClaim := { program := "ytgllfgpnbdpcdaadoor", sum := "7258d6fb9ba82648f7869695c17fa5cbb5b72b44165fc6599b575b28f7f41b78", func := "quaestor/quaestorlaw09.FeesStores", spec := "feesStores", inPlace := ["internal/bytealg.Count", "internal/bytealg.IndexByte", "internal/bytealg.Index"], named := ["unicode/utf8.first", "unicode/utf8.acceptRanges", "internal/bytealg.MaxLen"], apart := false, laid := [("unicode/utf8.acceptRanges", laid_unicode_utf8_acceptRanges), ("unicode/utf8.first", laid_unicode_utf8_first)] }
def FeesStoresSaid : Prop := feesStoresRow.holds Tryd.pinned (OpenSpec.ofChange feesStoresSpec)

/-- ITS FALSE NEIGHBOUR: 'it returns false'. Refute it at one input. -/
def feesStoresWrong : ChangeSpec := { name := "feesStores", fn := fun _ => fun
  | [d1, d2, d3, d4] => { results := [.lit (.bool false)], args := [d1, d2, d3, d4] }
  | _ => none }
def FeesStoresWrongFalsely : Prop := feesStoresRow.holds Tryd.pinned (OpenSpec.ofChange feesStoresWrong)

/-- 'quaestorlaw09.FeesGas': WHATEVER THE INPUT: true; the input reads as it did. -/
def feesGasSpec : ChangeSpec := { name := "feesGas", fn := fun _ => fun
  | [d1, d2, d3, d4, d5] => { results := [.lit (.bool true)], args := [d1, d2, d3, d4, d5] }
  | _ => none }
def feesGasRow : OpenClaim := { program := "ytgllfgpnbdpcdaadoor", sum := "7258d6fb9ba82648f7869695c17fa5cbb5b72b44165fc6599b575b28f7f41b78", func := "quaestor/quaestorlaw09.FeesGas", spec := "feesGas", inPlace := ["internal/bytealg.Count", "internal/bytealg.IndexByte", "internal/bytealg.Index"], named := ["unicode/utf8.first", "unicode/utf8.acceptRanges", "internal/bytealg.MaxLen"], apart := false, laid := [("unicode/utf8.acceptRanges", laid_unicode_utf8_acceptRanges), ("unicode/utf8.first", laid_unicode_utf8_first)] }
def FeesGasSaid : Prop := feesGasRow.holds Tryd.pinned (OpenSpec.ofChange feesGasSpec)

/-- ITS FALSE NEIGHBOUR: 'it returns false'. Refute it at one input. -/
def feesGasWrong : ChangeSpec := { name := "feesGas", fn := fun _ => fun
  | [d1, d2, d3, d4, d5] => { results := [.lit (.bool false)], args := [d1, d2, d3, d4, d5] }
  | _ => none }
def FeesGasWrongFalsely : Prop := feesGasRow.holds Tryd.pinned (OpenSpec.ofChange feesGasWrong)

/-- 'quaestorlaw09.FeesGrow': WHATEVER THE INPUT: true; the input reads as it did. -/
def feesGrowSpec : ChangeSpec := { name := "feesGrow", fn := fun _ => fun
  | [d1, d2, d3, d4] => { results := [.lit (.bool true)], args := [d1, d2, d3, d4] }
  | _ => none }
def feesGrowRow : OpenClaim := { program := "ytgllfgpnbdpcdaadoor", sum := "7258d6fb9ba82648f7869695c17fa5cbb5b72b44165fc6599b575b28f7f41b78", func := "quaestor/quaestorlaw09.FeesGrow", spec := "feesGrow", inPlace := ["internal/bytealg.Count", "internal/bytealg.IndexByte", "internal/bytealg.Index"], named := ["unicode/utf8.first", "unicode/utf8.acceptRanges", "internal/bytealg.MaxLen"], apart := false, laid := [("unicode/utf8.acceptRanges", laid_unicode_utf8_acceptRanges), ("unicode/utf8.first", laid_unicode_utf8_first)] }
def FeesGrowSaid : Prop := feesGrowRow.holds Tryd.pinned (OpenSpec.ofChange feesGrowSpec)

/-- ITS FALSE NEIGHBOUR: 'it returns false'. Refute it at one input. -/
def feesGrowWrong : ChangeSpec := { name := "feesGrow", fn := fun _ => fun
  | [d1, d2, d3, d4] => { results := [.lit (.bool false)], args := [d1, d2, d3, d4] }
  | _ => none }
def FeesGrowWrongFalsely : Prop := feesGrowRow.holds Tryd.pinned (OpenSpec.ofChange feesGrowWrong)

/-- 'quaestorlaw09.FeesRound': WHATEVER THE INPUT: true; the input reads as it did. -/
def feesRoundSpec : ChangeSpec := { name := "feesRound", fn := fun _ => fun
  | [d1, d2] => { results := [.lit (.bool true)], args := [d1, d2] }
  | _ => none }
def feesRoundRow : OpenClaim := { program := "ytgllfgpnbdpcdaadoor", sum := "7258d6fb9ba82648f7869695c17fa5cbb5b72b44165fc6599b575b28f7f41b78", func := "quaestor/quaestorlaw09.FeesRound", spec := "feesRound", inPlace := ["internal/bytealg.Count", "internal/bytealg.IndexByte", "internal/bytealg.Index"], named := ["unicode/utf8.first", "unicode/utf8.acceptRanges", "internal/bytealg.MaxLen"], apart := false, laid := [("unicode/utf8.acceptRanges", laid_unicode_utf8_acceptRanges), ("unicode/utf8.first", laid_unicode_utf8_first)] }
def FeesRoundSaid : Prop := feesRoundRow.holds Tryd.pinned (OpenSpec.ofChange feesRoundSpec)

/-- ITS FALSE NEIGHBOUR: 'it returns false'. Refute it at one input. -/
def feesRoundWrong : ChangeSpec := { name := "feesRound", fn := fun _ => fun
  | [d1, d2] => { results := [.lit (.bool false)], args := [d1, d2] }
  | _ => none }
def FeesRoundWrongFalsely : Prop := feesRoundRow.holds Tryd.pinned (OpenSpec.ofChange feesRoundWrong)

/-- 'quaestorlaw09.FeesSum': WHATEVER THE INPUT: true; the input reads as it did. -/
def feesSumSpec : ChangeSpec := { name := "feesSum", fn := fun _ => fun
  | [d1, d2] => { results := [.lit (.bool true)], args := [d1, d2] }
  | _ => none }
def feesSumRow : OpenClaim := { program := "ytgllfgpnbdpcdaadoor", sum := "7258d6fb9ba82648f7869695c17fa5cbb5b72b44165fc6599b575b28f7f41b78", func := "quaestor/quaestorlaw09.FeesSum", spec := "feesSum", inPlace := ["internal/bytealg.Count", "internal/bytealg.IndexByte", "internal/bytealg.Index"], named := ["internal/bytealg.MaxLen", "unicode/utf8.first", "unicode/utf8.acceptRanges"], apart := false, laid := [("unicode/utf8.acceptRanges", laid_unicode_utf8_acceptRanges), ("unicode/utf8.first", laid_unicode_utf8_first)] }
def FeesSumSaid : Prop := feesSumRow.holds Tryd.pinned (OpenSpec.ofChange feesSumSpec)

/-- ITS FALSE NEIGHBOUR: 'it returns false'. Refute it at one input. -/
def feesSumWrong : ChangeSpec := { name := "feesSum", fn := fun _ => fun
  | [d1, d2] => { results := [.lit (.bool false)], args := [d1, d2] }
  | _ => none }
def FeesSumWrongFalsely : Prop := feesSumRow.holds Tryd.pinned (OpenSpec.ofChange feesSumWrong)

/- THE SECOND FORM. 'bulk': how many values and letters a reading holds, each counted each time it is reached (what is shared counts as often as it is met; a slice's spare places count too). A statement '..UptoSaid' is the law's where the arguments, and the package variables that the reading takes, are together of bulk at most 1048576: NARROWER than '..Said'. Prove '..Said' where nothing that the law and all that it calls make is longer than what came in: it says more and counts as full. Else prove '..UptoSaid'. A law counts once. -/
mutual
def uptoBulk {H : Type} : DataW H → Nat
  | .lit (.string bytes) => bytes.length + 1
  | .lit _ => 1
  | .nil => 1
  | .ptr d => uptoBulk d + 1
  | .slice elems spare => uptoBulkAll elems + uptoBulkAll spare + 1
  | .agg parts => uptoBulkAll parts + 1
  | .iface _ d => uptoBulk d + 1
  | .map entries => uptoBulkEntries entries + 1
  | .held _ => 1
def uptoBulkAll {H : Type} : List (DataW H) → Nat
  | [] => 0
  | d :: r => uptoBulk d + uptoBulkAll r
def uptoBulkEntries {H : Type} : List (Lit × DataW H) → Nat
  | [] => 0
  | x :: r => uptoBulkEntry x + uptoBulkEntries r
def uptoBulkEntry {H : Type} : Lit × DataW H → Nat
  | (.string bytes, d) => bytes.length + uptoBulk d + 1
  | (_, d) => uptoBulk d + 1
 end
def uptoSmall : (H : Type) → List (DataW H) → Bool := fun _ ds => decide (uptoBulkAll ds ≤ 1048576)
def OpenSpec.upto (s : _root_.Go.ChangeSpec) : _root_.Go.OpenSpec := { _root_.Go.OpenSpec.ofChange s with cond := some uptoSmall }

/-- 'quaestorlaw09.FeesTables', WHERE WHAT IT READS IS OF BULK AT MOST 1048576: true; the input reads as it did. -/
def feesTablesUptoRow : OpenClaim := { program := "ytgllfgpnbdpcdaadoor", sum := "7258d6fb9ba82648f7869695c17fa5cbb5b72b44165fc6599b575b28f7f41b78", func := "quaestor/quaestorlaw09.FeesTables", spec := "feesTables", inPlace := ["internal/bytealg.Count", "internal/bytealg.IndexByte", "internal/bytealg.Index"], named := ["unicode/utf8.first", "unicode/utf8.acceptRanges", "internal/bytealg.MaxLen"], apart := false, laid := [("unicode/utf8.acceptRanges", laid_unicode_utf8_acceptRanges), ("unicode/utf8.first", laid_unicode_utf8_first)], narrowed := true }
def FeesTablesUptoSaid : Prop := feesTablesUptoRow.holds Tryd.pinned (OpenSpec.upto feesTablesSpec)

/-- 'quaestorlaw09.FeesStores', WHERE WHAT IT READS IS OF BULK AT MOST 1048576: true; the input reads as it did. -/
def feesStoresUptoRow : OpenClaim := { program := "ytgllfgpnbdpcdaadoor", sum := "7258d6fb9ba82648f7869695c17fa5cbb5b72b44165fc6599b575b28f7f41b78", func := "quaestor/quaestorlaw09.FeesStores", spec := "feesStores", inPlace := ["internal/bytealg.Count", "internal/bytealg.IndexByte", "internal/bytealg.Index"], named := ["unicode/utf8.first", "unicode/utf8.acceptRanges", "internal/bytealg.MaxLen"], apart := false, laid := [("unicode/utf8.acceptRanges", laid_unicode_utf8_acceptRanges), ("unicode/utf8.first", laid_unicode_utf8_first)], narrowed := true }
def FeesStoresUptoSaid : Prop := feesStoresUptoRow.holds Tryd.pinned (OpenSpec.upto feesStoresSpec)

/-- 'quaestorlaw09.FeesGas', WHERE WHAT IT READS IS OF BULK AT MOST 1048576: true; the input reads as it did. -/
def feesGasUptoRow : OpenClaim := { program := "ytgllfgpnbdpcdaadoor", sum := "7258d6fb9ba82648f7869695c17fa5cbb5b72b44165fc6599b575b28f7f41b78", func := "quaestor/quaestorlaw09.FeesGas", spec := "feesGas", inPlace := ["internal/bytealg.Count", "internal/bytealg.IndexByte", "internal/bytealg.Index"], named := ["unicode/utf8.first", "unicode/utf8.acceptRanges", "internal/bytealg.MaxLen"], apart := false, laid := [("unicode/utf8.acceptRanges", laid_unicode_utf8_acceptRanges), ("unicode/utf8.first", laid_unicode_utf8_first)], narrowed := true }
def FeesGasUptoSaid : Prop := feesGasUptoRow.holds Tryd.pinned (OpenSpec.upto feesGasSpec)

/-- 'quaestorlaw09.FeesGrow', WHERE WHAT IT READS IS OF BULK AT MOST 1048576: true; the input reads as it did. -/
def feesGrowUptoRow : OpenClaim := { program := "ytgllfgpnbdpcdaadoor", sum := "7258d6fb9ba82648f7869695c17fa5cbb5b72b44165fc6599b575b28f7f41b78", func := "quaestor/quaestorlaw09.FeesGrow", spec := "feesGrow", inPlace := ["internal/bytealg.Count", "internal/bytealg.IndexByte", "internal/bytealg.Index"], named := ["unicode/utf8.first", "unicode/utf8.acceptRanges", "internal/bytealg.MaxLen"], apart := false, laid := [("unicode/utf8.acceptRanges", laid_unicode_utf8_acceptRanges), ("unicode/utf8.first", laid_unicode_utf8_first)], narrowed := true }
def FeesGrowUptoSaid : Prop := feesGrowUptoRow.holds Tryd.pinned (OpenSpec.upto feesGrowSpec)

/-- 'quaestorlaw09.FeesRound', WHERE WHAT IT READS IS OF BULK AT MOST 1048576: true; the input reads as it did. -/
def feesRoundUptoRow : OpenClaim := { program := "ytgllfgpnbdpcdaadoor", sum := "7258d6fb9ba82648f7869695c17fa5cbb5b72b44165fc6599b575b28f7f41b78", func := "quaestor/quaestorlaw09.FeesRound", spec := "feesRound", inPlace := ["internal/bytealg.Count", "internal/bytealg.IndexByte", "internal/bytealg.Index"], named := ["unicode/utf8.first", "unicode/utf8.acceptRanges", "internal/bytealg.MaxLen"], apart := false, laid := [("unicode/utf8.acceptRanges", laid_unicode_utf8_acceptRanges), ("unicode/utf8.first", laid_unicode_utf8_first)], narrowed := true }
def FeesRoundUptoSaid : Prop := feesRoundUptoRow.holds Tryd.pinned (OpenSpec.upto feesRoundSpec)

/-- 'quaestorlaw09.FeesSum', WHERE WHAT IT READS IS OF BULK AT MOST 1048576: true; the input reads as it did. -/
def feesSumUptoRow : OpenClaim := { program := "ytgllfgpnbdpcdaadoor", sum := "7258d6fb9ba82648f7869695c17fa5cbb5b72b44165fc6599b575b28f7f41b78", func := "quaestor/quaestorlaw09.FeesSum", spec := "feesSum", inPlace := ["internal/bytealg.Count", "internal/bytealg.IndexByte", "internal/bytealg.Index"], named := ["internal/bytealg.MaxLen", "unicode/utf8.first", "unicode/utf8.acceptRanges"], apart := false, laid := [("unicode/utf8.acceptRanges", laid_unicode_utf8_acceptRanges), ("unicode/utf8.first", laid_unicode_utf8_first)], narrowed := true }
def FeesSumUptoSaid : Prop := feesSumUptoRow.holds Tryd.pinned (OpenSpec.upto feesSumSpec)

end Rows
end Go.Proofs.YtgllfgpnbdpcdaaDoor
