/-
  DERIVED. GIVEN WITH THE SEED: THE CARDS: each row of YtdkhlcoklihpfaaDoorRows.lean that lists a variable, with what it lists TIED to the program's text (the seventh form; the later family's looks); each row that meets fmt, with fmt's text TOLD by the authors' own Lean function (tested against real Go, not proved from fmt's source: count such statements apart). THE CARD IS WHAT COUNTS. Prove the row's statement (the work); the ties are given (YtdkhlcoklihpfaaDoorTie.lean); close each card by the builder's one call (the guide's Derived/Test/ToyasCard.lean, 'card_holds'). Laid BY PROGRAM, IN A SANDBOX (cutbox-door.mjs). By AI agents, Wed Nov 11 2026. No macro, syntax, notation, axiom, sorry.
-/
import Derived.Test.YtdkhlcoklihpfaaDoorRows
import GoSem.ClaimSeven
namespace Go.Proofs.YtdkhlcoklihpfaaDoor
namespace Rows

/-- THE TIED CARD OF 'quaestorlaw05.AbiEncodes'. -/
def abiEncodesCard : Claim7 := { stood := { row := abiEncodesRow, standIns := [], harness := (true, "8c676080d4215d1fbc2b62948a98b77c3ccc141b2808d1aa485b99b050414c21"), looks := true }, kinds := [], alts := [], laidByText := true, laidKinds := [.data, .data], laidTests := true, laidLooks := .later }
def AbiEncodesCardSaid : Prop := Claim7.holds Tryd.pinned (.plain (OpenSpec.ofChange abiEncodesSpec)) abiEncodesCard

/-- THE TIED CARD OF 'quaestorlaw05.AbiDecodes'. -/
def abiDecodesCard : Claim7 := { stood := { row := abiDecodesRow, standIns := [], harness := (true, "8c676080d4215d1fbc2b62948a98b77c3ccc141b2808d1aa485b99b050414c21"), looks := true }, kinds := [], alts := [], laidByText := true, laidKinds := [.handle, .data, .data], laidTests := true, laidLooks := .later }
def AbiDecodesCardSaid : Prop := Claim7.holds Tryd.pinned (.plain (OpenSpec.ofChange abiDecodesSpec)) abiDecodesCard

/-- THE TIED CARD OF 'quaestorlaw05.AbiBack'. -/
def abiBackCard : Claim7 := { stood := { row := abiBackRow, standIns := [], harness := (true, "8c676080d4215d1fbc2b62948a98b77c3ccc141b2808d1aa485b99b050414c21"), looks := true }, kinds := [], alts := [], laidByText := true, laidKinds := [.handle, .data, .data], laidTests := true, laidLooks := .later }
def AbiBackCardSaid : Prop := Claim7.holds Tryd.pinned (.plain (OpenSpec.ofChange abiBackSpec)) abiBackCard

/-- THE TIED CARD OF 'quaestorlaw05.AbiWords'. -/
def abiWordsCard : Claim7 := { stood := { row := abiWordsRow, standIns := [], harness := (true, "8c676080d4215d1fbc2b62948a98b77c3ccc141b2808d1aa485b99b050414c21"), looks := true }, kinds := [], alts := [], laidByText := true, laidKinds := [.handle, .data, .data], laidTests := true, laidLooks := .later }
def AbiWordsCardSaid : Prop := Claim7.holds Tryd.pinned (.plain (OpenSpec.ofChange abiWordsSpec)) abiWordsCard

/-- THE TIED CARD OF 'quaestorlaw05.AbiBounds'. -/
def abiBoundsCard : Claim7 := { stood := { row := abiBoundsRow, standIns := [], harness := (true, "8c676080d4215d1fbc2b62948a98b77c3ccc141b2808d1aa485b99b050414c21"), looks := true }, kinds := [], alts := [], laidByText := true, laidKinds := [.handle, .data, .data], laidTests := true, laidLooks := .later }
def AbiBoundsCardSaid : Prop := Claim7.holds Tryd.pinned (.plain (OpenSpec.ofChange abiBoundsSpec)) abiBoundsCard

/-- THE TIED CARD OF 'quaestorlaw05.AbiSelectors'. -/
def abiSelectorsCard : Claim7 := { stood := { row := abiSelectorsRow, standIns := [], harness := (true, "8c676080d4215d1fbc2b62948a98b77c3ccc141b2808d1aa485b99b050414c21"), looks := true }, kinds := [], alts := [], laidByText := true, laidKinds := [.handle, .data, .data], laidTests := true, laidLooks := .later }
def AbiSelectorsCardSaid : Prop := Claim7.holds Tryd.pinned (.plain (OpenSpec.ofChange abiSelectorsSpec)) abiSelectorsCard

/-- THE SECOND FORM's CARD OF 'quaestorlaw05.AbiEncodes'. -/
def abiEncodesUptoCard : Claim7 := { stood := { row := abiEncodesUptoRow, standIns := [], harness := (true, "8c676080d4215d1fbc2b62948a98b77c3ccc141b2808d1aa485b99b050414c21"), looks := true }, kinds := [], alts := [], laidByText := true, laidKinds := [.data, .data], laidTests := true, laidLooks := .later }
def AbiEncodesUptoCardSaid : Prop := Claim7.holds Tryd.pinned (.plain (OpenSpec.upto abiEncodesSpec)) abiEncodesUptoCard

/-- THE SECOND FORM's CARD OF 'quaestorlaw05.AbiDecodes'. -/
def abiDecodesUptoCard : Claim7 := { stood := { row := abiDecodesUptoRow, standIns := [], harness := (true, "8c676080d4215d1fbc2b62948a98b77c3ccc141b2808d1aa485b99b050414c21"), looks := true }, kinds := [], alts := [], laidByText := true, laidKinds := [.handle, .data, .data], laidTests := true, laidLooks := .later }
def AbiDecodesUptoCardSaid : Prop := Claim7.holds Tryd.pinned (.plain (OpenSpec.upto abiDecodesSpec)) abiDecodesUptoCard

/-- THE SECOND FORM's CARD OF 'quaestorlaw05.AbiBack'. -/
def abiBackUptoCard : Claim7 := { stood := { row := abiBackUptoRow, standIns := [], harness := (true, "8c676080d4215d1fbc2b62948a98b77c3ccc141b2808d1aa485b99b050414c21"), looks := true }, kinds := [], alts := [], laidByText := true, laidKinds := [.handle, .data, .data], laidTests := true, laidLooks := .later }
def AbiBackUptoCardSaid : Prop := Claim7.holds Tryd.pinned (.plain (OpenSpec.upto abiBackSpec)) abiBackUptoCard

/-- THE SECOND FORM's CARD OF 'quaestorlaw05.AbiWords'. -/
def abiWordsUptoCard : Claim7 := { stood := { row := abiWordsUptoRow, standIns := [], harness := (true, "8c676080d4215d1fbc2b62948a98b77c3ccc141b2808d1aa485b99b050414c21"), looks := true }, kinds := [], alts := [], laidByText := true, laidKinds := [.handle, .data, .data], laidTests := true, laidLooks := .later }
def AbiWordsUptoCardSaid : Prop := Claim7.holds Tryd.pinned (.plain (OpenSpec.upto abiWordsSpec)) abiWordsUptoCard

/-- THE SECOND FORM's CARD OF 'quaestorlaw05.AbiBounds'. -/
def abiBoundsUptoCard : Claim7 := { stood := { row := abiBoundsUptoRow, standIns := [], harness := (true, "8c676080d4215d1fbc2b62948a98b77c3ccc141b2808d1aa485b99b050414c21"), looks := true }, kinds := [], alts := [], laidByText := true, laidKinds := [.handle, .data, .data], laidTests := true, laidLooks := .later }
def AbiBoundsUptoCardSaid : Prop := Claim7.holds Tryd.pinned (.plain (OpenSpec.upto abiBoundsSpec)) abiBoundsUptoCard

/-- THE SECOND FORM's CARD OF 'quaestorlaw05.AbiSelectors'. -/
def abiSelectorsUptoCard : Claim7 := { stood := { row := abiSelectorsUptoRow, standIns := [], harness := (true, "8c676080d4215d1fbc2b62948a98b77c3ccc141b2808d1aa485b99b050414c21"), looks := true }, kinds := [], alts := [], laidByText := true, laidKinds := [.handle, .data, .data], laidTests := true, laidLooks := .later }
def AbiSelectorsUptoCardSaid : Prop := Claim7.holds Tryd.pinned (.plain (OpenSpec.upto abiSelectorsSpec)) abiSelectorsUptoCard
end Rows
end Go.Proofs.YtdkhlcoklihpfaaDoor
