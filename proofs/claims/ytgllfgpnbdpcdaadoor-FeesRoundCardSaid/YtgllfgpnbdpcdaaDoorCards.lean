/-
  DERIVED. GIVEN WITH THE SEED: THE CARDS: each row of YtgllfgpnbdpcdaaDoorRows.lean that lists a variable, with what it lists TIED to the program's text (the seventh form; the later family's looks); each row that meets fmt, with fmt's text TOLD by the authors' own Lean function (tested against real Go, not proved from fmt's source: count such statements apart). THE CARD IS WHAT COUNTS. Prove the row's statement (the work); the ties are given (YtgllfgpnbdpcdaaDoorTie.lean); close each card by the builder's one call (the guide's Derived/Test/ToyasCard.lean, 'card_holds'). Laid BY PROGRAM, IN A SANDBOX (cutbox-door.mjs). By AI agents, Wed Nov 11 2026. No macro, syntax, notation, axiom, sorry.
-/
import Derived.Test.YtgllfgpnbdpcdaaDoorRows
import GoSem.ClaimSeven
namespace Go.Proofs.YtgllfgpnbdpcdaaDoor
namespace Rows

/-- THE TIED CARD OF 'quaestorlaw09.FeesTables'. -/
def feesTablesCard : Claim7 := { stood := { row := feesTablesRow, standIns := [], harness := (true, "24644669ce8989a13f24719bafe2b27da5284ab3c914ee1e82a590e1ea771ec7"), looks := false }, kinds := [], alts := [], laidByText := true, laidKinds := [.data, .pinned], laidTests := true, laidLooks := .later }
def FeesTablesCardSaid : Prop := Claim7.holds Tryd.pinned (.plain (OpenSpec.ofChange feesTablesSpec)) feesTablesCard

/-- THE TIED CARD OF 'quaestorlaw09.FeesStores'. -/
def feesStoresCard : Claim7 := { stood := { row := feesStoresRow, standIns := [], harness := (true, "24644669ce8989a13f24719bafe2b27da5284ab3c914ee1e82a590e1ea771ec7"), looks := false }, kinds := [], alts := [], laidByText := true, laidKinds := [.data, .pinned], laidTests := true, laidLooks := .later }
def FeesStoresCardSaid : Prop := Claim7.holds Tryd.pinned (.plain (OpenSpec.ofChange feesStoresSpec)) feesStoresCard

/-- THE TIED CARD OF 'quaestorlaw09.FeesGas'. -/
def feesGasCard : Claim7 := { stood := { row := feesGasRow, standIns := [], harness := (true, "24644669ce8989a13f24719bafe2b27da5284ab3c914ee1e82a590e1ea771ec7"), looks := false }, kinds := [], alts := [], laidByText := true, laidKinds := [.data, .pinned], laidTests := true, laidLooks := .later }
def FeesGasCardSaid : Prop := Claim7.holds Tryd.pinned (.plain (OpenSpec.ofChange feesGasSpec)) feesGasCard

/-- THE TIED CARD OF 'quaestorlaw09.FeesGrow'. -/
def feesGrowCard : Claim7 := { stood := { row := feesGrowRow, standIns := [], harness := (true, "24644669ce8989a13f24719bafe2b27da5284ab3c914ee1e82a590e1ea771ec7"), looks := false }, kinds := [], alts := [], laidByText := true, laidKinds := [.data, .pinned], laidTests := true, laidLooks := .later }
def FeesGrowCardSaid : Prop := Claim7.holds Tryd.pinned (.plain (OpenSpec.ofChange feesGrowSpec)) feesGrowCard

/-- THE TIED CARD OF 'quaestorlaw09.FeesRound'. -/
def feesRoundCard : Claim7 := { stood := { row := feesRoundRow, standIns := [], harness := (true, "24644669ce8989a13f24719bafe2b27da5284ab3c914ee1e82a590e1ea771ec7"), looks := false }, kinds := [], alts := [], laidByText := true, laidKinds := [.data, .pinned], laidTests := true, laidLooks := .later }
def FeesRoundCardSaid : Prop := Claim7.holds Tryd.pinned (.plain (OpenSpec.ofChange feesRoundSpec)) feesRoundCard

/-- THE TIED CARD OF 'quaestorlaw09.FeesSum'. -/
def feesSumCard : Claim7 := { stood := { row := feesSumRow, standIns := [], harness := (true, "24644669ce8989a13f24719bafe2b27da5284ab3c914ee1e82a590e1ea771ec7"), looks := false }, kinds := [], alts := [], laidByText := true, laidKinds := [.data, .pinned], laidTests := true, laidLooks := .later }
def FeesSumCardSaid : Prop := Claim7.holds Tryd.pinned (.plain (OpenSpec.ofChange feesSumSpec)) feesSumCard

/-- THE SECOND FORM's CARD OF 'quaestorlaw09.FeesTables'. -/
def feesTablesUptoCard : Claim7 := { stood := { row := feesTablesUptoRow, standIns := [], harness := (true, "24644669ce8989a13f24719bafe2b27da5284ab3c914ee1e82a590e1ea771ec7"), looks := false }, kinds := [], alts := [], laidByText := true, laidKinds := [.data, .pinned], laidTests := true, laidLooks := .later }
def FeesTablesUptoCardSaid : Prop := Claim7.holds Tryd.pinned (.plain (OpenSpec.upto feesTablesSpec)) feesTablesUptoCard

/-- THE SECOND FORM's CARD OF 'quaestorlaw09.FeesStores'. -/
def feesStoresUptoCard : Claim7 := { stood := { row := feesStoresUptoRow, standIns := [], harness := (true, "24644669ce8989a13f24719bafe2b27da5284ab3c914ee1e82a590e1ea771ec7"), looks := false }, kinds := [], alts := [], laidByText := true, laidKinds := [.data, .pinned], laidTests := true, laidLooks := .later }
def FeesStoresUptoCardSaid : Prop := Claim7.holds Tryd.pinned (.plain (OpenSpec.upto feesStoresSpec)) feesStoresUptoCard

/-- THE SECOND FORM's CARD OF 'quaestorlaw09.FeesGas'. -/
def feesGasUptoCard : Claim7 := { stood := { row := feesGasUptoRow, standIns := [], harness := (true, "24644669ce8989a13f24719bafe2b27da5284ab3c914ee1e82a590e1ea771ec7"), looks := false }, kinds := [], alts := [], laidByText := true, laidKinds := [.data, .pinned], laidTests := true, laidLooks := .later }
def FeesGasUptoCardSaid : Prop := Claim7.holds Tryd.pinned (.plain (OpenSpec.upto feesGasSpec)) feesGasUptoCard

/-- THE SECOND FORM's CARD OF 'quaestorlaw09.FeesGrow'. -/
def feesGrowUptoCard : Claim7 := { stood := { row := feesGrowUptoRow, standIns := [], harness := (true, "24644669ce8989a13f24719bafe2b27da5284ab3c914ee1e82a590e1ea771ec7"), looks := false }, kinds := [], alts := [], laidByText := true, laidKinds := [.data, .pinned], laidTests := true, laidLooks := .later }
def FeesGrowUptoCardSaid : Prop := Claim7.holds Tryd.pinned (.plain (OpenSpec.upto feesGrowSpec)) feesGrowUptoCard

/-- THE SECOND FORM's CARD OF 'quaestorlaw09.FeesRound'. -/
def feesRoundUptoCard : Claim7 := { stood := { row := feesRoundUptoRow, standIns := [], harness := (true, "24644669ce8989a13f24719bafe2b27da5284ab3c914ee1e82a590e1ea771ec7"), looks := false }, kinds := [], alts := [], laidByText := true, laidKinds := [.data, .pinned], laidTests := true, laidLooks := .later }
def FeesRoundUptoCardSaid : Prop := Claim7.holds Tryd.pinned (.plain (OpenSpec.upto feesRoundSpec)) feesRoundUptoCard

/-- THE SECOND FORM's CARD OF 'quaestorlaw09.FeesSum'. -/
def feesSumUptoCard : Claim7 := { stood := { row := feesSumUptoRow, standIns := [], harness := (true, "24644669ce8989a13f24719bafe2b27da5284ab3c914ee1e82a590e1ea771ec7"), looks := false }, kinds := [], alts := [], laidByText := true, laidKinds := [.data, .pinned], laidTests := true, laidLooks := .later }
def FeesSumUptoCardSaid : Prop := Claim7.holds Tryd.pinned (.plain (OpenSpec.upto feesSumSpec)) feesSumUptoCard
end Rows
end Go.Proofs.YtgllfgpnbdpcdaaDoor
