/-
  DERIVED. GIVEN WITH THE SEED: THE CARDS: each row of YtefepklacchghaaDoorRows.lean that lists a variable, with what it lists TIED to the program's text (the seventh form; the later family's looks); each row that meets fmt, with fmt's text TOLD by the authors' own Lean function (tested against real Go, not proved from fmt's source: count such statements apart). THE CARD IS WHAT COUNTS. Prove the row's statement (the work); the ties are given (YtefepklacchghaaDoorTie.lean); close each card by the builder's one call (the guide's Derived/Test/ToyasCard.lean, 'card_holds'). Laid BY PROGRAM, IN A SANDBOX (cutbox-door.mjs). By AI agents, Wed Nov 11 2026. No macro, syntax, notation, axiom, sorry.
-/
import Derived.Test.YtefepklacchghaaDoorRows
import GoSem.ClaimSeven
namespace Go.Proofs.YtefepklacchghaaDoor
namespace Rows

/-- THE TIED CARD OF 'hedgerowlaw15.RecordKeys'. -/
def recordKeysCard : Claim7 := { stood := { row := recordKeysRow, standIns := [], harness := (true, "e4f1779fb1840b11c335deef1537c3116668bd3dd7bb7a319c079ce3dc11a881"), looks := false }, kinds := [], alts := [], laidByText := true, laidKinds := [.data], laidTests := true, laidLooks := .later }
def RecordKeysCardSaid : Prop := Claim7.holds Tryd.pinned (.plain (OpenSpec.ofChange recordKeysSpec)) recordKeysCard

/-- THE TIED CARD OF 'hedgerowlaw15.RecordOrders'. -/
def recordOrdersCard : Claim7 := { stood := { row := recordOrdersRow, standIns := [], harness := (true, "e4f1779fb1840b11c335deef1537c3116668bd3dd7bb7a319c079ce3dc11a881"), looks := false }, kinds := [], alts := [], laidByText := true, laidKinds := [.data], laidTests := true, laidLooks := .later }
def RecordOrdersCardSaid : Prop := Claim7.holds Tryd.pinned (.plain (OpenSpec.ofChange recordOrdersSpec)) recordOrdersCard

/-- THE SECOND FORM's CARD OF 'hedgerowlaw15.RecordKeys'. -/
def recordKeysUptoCard : Claim7 := { stood := { row := recordKeysUptoRow, standIns := [], harness := (true, "e4f1779fb1840b11c335deef1537c3116668bd3dd7bb7a319c079ce3dc11a881"), looks := false }, kinds := [], alts := [], laidByText := true, laidKinds := [.data], laidTests := true, laidLooks := .later }
def RecordKeysUptoCardSaid : Prop := Claim7.holds Tryd.pinned (.plain (OpenSpec.upto recordKeysSpec)) recordKeysUptoCard

/-- THE SECOND FORM's CARD OF 'hedgerowlaw15.RecordOrders'. -/
def recordOrdersUptoCard : Claim7 := { stood := { row := recordOrdersUptoRow, standIns := [], harness := (true, "e4f1779fb1840b11c335deef1537c3116668bd3dd7bb7a319c079ce3dc11a881"), looks := false }, kinds := [], alts := [], laidByText := true, laidKinds := [.data], laidTests := true, laidLooks := .later }
def RecordOrdersUptoCardSaid : Prop := Claim7.holds Tryd.pinned (.plain (OpenSpec.upto recordOrdersSpec)) recordOrdersUptoCard
end Rows
end Go.Proofs.YtefepklacchghaaDoor
