/-
  DERIVED. GIVEN WITH THE SEED: THE CARDS: each row of YthdpgfdfgidokaaDoorRows.lean that lists a variable, with what it lists TIED to the program's text (the seventh form; the later family's looks); each row that meets fmt, with fmt's text TOLD by the authors' own Lean function (tested against real Go, not proved from fmt's source: count such statements apart). THE CARD IS WHAT COUNTS. Prove the row's statement (the work); the ties are given (YthdpgfdfgidokaaDoorTie.lean); close each card by the builder's one call (the guide's Derived/Test/ToyasCard.lean, 'card_holds'). Laid BY PROGRAM, IN A SANDBOX (cutbox-door.mjs). By AI agents, Wed Nov 11 2026. No macro, syntax, notation, axiom, sorry.
-/
import Derived.Test.YthdpgfdfgidokaaDoorRows
import GoSem.ClaimSeven
namespace Go.Proofs.YthdpgfdfgidokaaDoor
namespace Rows

/-- THE TIED CARD OF 'quaestorlaw15.UseropChecks'. -/
def useropChecksCard : Claim7 := { stood := { row := useropChecksRow, standIns := [], harness := (true, "b619f015913cc51f587f7d3b52dd07c44a0a1da7485cbb6a683289452e8e9b62"), looks := true }, kinds := [], alts := [], laidByText := true, laidKinds := [.data, .data], laidTests := true, laidLooks := .later }
def UseropChecksCardSaid : Prop := Claim7.holds Tryd.pinned (.plain (OpenSpec.ofChange useropChecksSpec)) useropChecksCard

/-- THE TIED CARD OF 'quaestorlaw15.UseropNumbers'. -/
def useropNumbersCard : Claim7 := { stood := { row := useropNumbersRow, standIns := [], harness := (true, "b619f015913cc51f587f7d3b52dd07c44a0a1da7485cbb6a683289452e8e9b62"), looks := true }, kinds := [], alts := [], laidByText := true, laidKinds := [.data, .data], laidTests := true, laidLooks := .later }
def UseropNumbersCardSaid : Prop := Claim7.holds Tryd.pinned (.plain (OpenSpec.ofChange useropNumbersSpec)) useropNumbersCard

/-- THE TIED CARD OF 'quaestorlaw15.UseropHashes'. -/
def useropHashesCard : Claim7 := { stood := { row := useropHashesRow, standIns := [], harness := (true, "b619f015913cc51f587f7d3b52dd07c44a0a1da7485cbb6a683289452e8e9b62"), looks := true }, kinds := [], alts := [], laidByText := true, laidKinds := [.data, .data], laidTests := true, laidLooks := .later }
def UseropHashesCardSaid : Prop := Claim7.holds Tryd.pinned (.plain (OpenSpec.ofChange useropHashesSpec)) useropHashesCard

/-- THE TIED CARD OF 'quaestorlaw15.UseropCalls'. -/
def useropCallsCard : Claim7 := { stood := { row := useropCallsRow, standIns := [], harness := (true, "b619f015913cc51f587f7d3b52dd07c44a0a1da7485cbb6a683289452e8e9b62"), looks := true }, kinds := [], alts := [], laidByText := true, laidKinds := [.data, .data], laidTests := true, laidLooks := .later }
def UseropCallsCardSaid : Prop := Claim7.holds Tryd.pinned (.plain (OpenSpec.ofChange useropCallsSpec)) useropCallsCard

/-- THE TIED CARD OF 'quaestorlaw15.UseropSpans'. -/
def useropSpansCard : Claim7 := { stood := { row := useropSpansRow, standIns := [], harness := (true, "b619f015913cc51f587f7d3b52dd07c44a0a1da7485cbb6a683289452e8e9b62"), looks := true }, kinds := [], alts := [], laidByText := true, laidKinds := [.data, .data], laidTests := true, laidLooks := .later }
def UseropSpansCardSaid : Prop := Claim7.holds Tryd.pinned (.plain (OpenSpec.ofChange useropSpansSpec)) useropSpansCard

/-- THE TIED CARD OF 'quaestorlaw15.UseropReads'. -/
def useropReadsCard : Claim7 := { stood := { row := useropReadsRow, standIns := [], harness := (true, "b619f015913cc51f587f7d3b52dd07c44a0a1da7485cbb6a683289452e8e9b62"), looks := true }, kinds := [], alts := [], laidByText := true, laidKinds := [.handle, .data, .data], laidTests := true, laidLooks := .later }
def UseropReadsCardSaid : Prop := Claim7.holds Tryd.pinned (.plain (OpenSpec.ofChange useropReadsSpec)) useropReadsCard

/-- THE TIED CARD OF 'quaestorlaw15.UseropSigned'. -/
def useropSignedCard : Claim7 := { stood := { row := useropSignedRow, standIns := [], harness := (true, "b619f015913cc51f587f7d3b52dd07c44a0a1da7485cbb6a683289452e8e9b62"), looks := true }, kinds := [], alts := [], laidByText := true, laidKinds := [.data, .data], laidTests := true, laidLooks := .later }
def UseropSignedCardSaid : Prop := Claim7.holds Tryd.pinned (.plain (OpenSpec.ofChange useropSignedSpec)) useropSignedCard

/-- THE TIED CARD OF 'quaestorlaw15.UseropPrices'. -/
def useropPricesCard : Claim7 := { stood := { row := useropPricesRow, standIns := [], harness := (true, "b619f015913cc51f587f7d3b52dd07c44a0a1da7485cbb6a683289452e8e9b62"), looks := true }, kinds := [], alts := [], laidByText := true, laidKinds := [.data, .data], laidTests := true, laidLooks := .later }
def UseropPricesCardSaid : Prop := Claim7.holds Tryd.pinned (.plain (OpenSpec.ofChange useropPricesSpec)) useropPricesCard

/-- THE SECOND FORM's CARD OF 'quaestorlaw15.UseropChecks'. -/
def useropChecksUptoCard : Claim7 := { stood := { row := useropChecksUptoRow, standIns := [], harness := (true, "b619f015913cc51f587f7d3b52dd07c44a0a1da7485cbb6a683289452e8e9b62"), looks := true }, kinds := [], alts := [], laidByText := true, laidKinds := [.data, .data], laidTests := true, laidLooks := .later }
def UseropChecksUptoCardSaid : Prop := Claim7.holds Tryd.pinned (.plain (OpenSpec.upto useropChecksSpec)) useropChecksUptoCard

/-- THE SECOND FORM's CARD OF 'quaestorlaw15.UseropNumbers'. -/
def useropNumbersUptoCard : Claim7 := { stood := { row := useropNumbersUptoRow, standIns := [], harness := (true, "b619f015913cc51f587f7d3b52dd07c44a0a1da7485cbb6a683289452e8e9b62"), looks := true }, kinds := [], alts := [], laidByText := true, laidKinds := [.data, .data], laidTests := true, laidLooks := .later }
def UseropNumbersUptoCardSaid : Prop := Claim7.holds Tryd.pinned (.plain (OpenSpec.upto useropNumbersSpec)) useropNumbersUptoCard

/-- THE SECOND FORM's CARD OF 'quaestorlaw15.UseropHashes'. -/
def useropHashesUptoCard : Claim7 := { stood := { row := useropHashesUptoRow, standIns := [], harness := (true, "b619f015913cc51f587f7d3b52dd07c44a0a1da7485cbb6a683289452e8e9b62"), looks := true }, kinds := [], alts := [], laidByText := true, laidKinds := [.data, .data], laidTests := true, laidLooks := .later }
def UseropHashesUptoCardSaid : Prop := Claim7.holds Tryd.pinned (.plain (OpenSpec.upto useropHashesSpec)) useropHashesUptoCard

/-- THE SECOND FORM's CARD OF 'quaestorlaw15.UseropCalls'. -/
def useropCallsUptoCard : Claim7 := { stood := { row := useropCallsUptoRow, standIns := [], harness := (true, "b619f015913cc51f587f7d3b52dd07c44a0a1da7485cbb6a683289452e8e9b62"), looks := true }, kinds := [], alts := [], laidByText := true, laidKinds := [.data, .data], laidTests := true, laidLooks := .later }
def UseropCallsUptoCardSaid : Prop := Claim7.holds Tryd.pinned (.plain (OpenSpec.upto useropCallsSpec)) useropCallsUptoCard

/-- THE SECOND FORM's CARD OF 'quaestorlaw15.UseropSpans'. -/
def useropSpansUptoCard : Claim7 := { stood := { row := useropSpansUptoRow, standIns := [], harness := (true, "b619f015913cc51f587f7d3b52dd07c44a0a1da7485cbb6a683289452e8e9b62"), looks := true }, kinds := [], alts := [], laidByText := true, laidKinds := [.data, .data], laidTests := true, laidLooks := .later }
def UseropSpansUptoCardSaid : Prop := Claim7.holds Tryd.pinned (.plain (OpenSpec.upto useropSpansSpec)) useropSpansUptoCard

/-- THE SECOND FORM's CARD OF 'quaestorlaw15.UseropReads'. -/
def useropReadsUptoCard : Claim7 := { stood := { row := useropReadsUptoRow, standIns := [], harness := (true, "b619f015913cc51f587f7d3b52dd07c44a0a1da7485cbb6a683289452e8e9b62"), looks := true }, kinds := [], alts := [], laidByText := true, laidKinds := [.handle, .data, .data], laidTests := true, laidLooks := .later }
def UseropReadsUptoCardSaid : Prop := Claim7.holds Tryd.pinned (.plain (OpenSpec.upto useropReadsSpec)) useropReadsUptoCard

/-- THE SECOND FORM's CARD OF 'quaestorlaw15.UseropSigned'. -/
def useropSignedUptoCard : Claim7 := { stood := { row := useropSignedUptoRow, standIns := [], harness := (true, "b619f015913cc51f587f7d3b52dd07c44a0a1da7485cbb6a683289452e8e9b62"), looks := true }, kinds := [], alts := [], laidByText := true, laidKinds := [.data, .data], laidTests := true, laidLooks := .later }
def UseropSignedUptoCardSaid : Prop := Claim7.holds Tryd.pinned (.plain (OpenSpec.upto useropSignedSpec)) useropSignedUptoCard

/-- THE SECOND FORM's CARD OF 'quaestorlaw15.UseropPrices'. -/
def useropPricesUptoCard : Claim7 := { stood := { row := useropPricesUptoRow, standIns := [], harness := (true, "b619f015913cc51f587f7d3b52dd07c44a0a1da7485cbb6a683289452e8e9b62"), looks := true }, kinds := [], alts := [], laidByText := true, laidKinds := [.data, .data], laidTests := true, laidLooks := .later }
def UseropPricesUptoCardSaid : Prop := Claim7.holds Tryd.pinned (.plain (OpenSpec.upto useropPricesSpec)) useropPricesUptoCard
end Rows
end Go.Proofs.YthdpgfdfgidokaaDoor
