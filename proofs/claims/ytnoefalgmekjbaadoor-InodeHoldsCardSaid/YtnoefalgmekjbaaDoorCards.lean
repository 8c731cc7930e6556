/-
  DERIVED. GIVEN WITH THE SEED: THE CARDS: each row of YtnoefalgmekjbaaDoorRows.lean that lists a variable, with what it lists TIED to the program's text (the seventh form; the later family's looks); each row that meets fmt, with fmt's text TOLD by the authors' own Lean function (tested against real Go, not proved from fmt's source: count such statements apart). THE CARD IS WHAT COUNTS. Prove the row's statement (the work); the ties are given (YtnoefalgmekjbaaDoorTie.lean); close each card by the builder's one call (the guide's Derived/Test/ToyasCard.lean, 'card_holds'). Laid BY PROGRAM, IN A SANDBOX (cutbox-door.mjs). By AI agents, Wed Nov 11 2026. No macro, syntax, notation, axiom, sorry.
-/
import Derived.Test.YtnoefalgmekjbaaDoorRows
import GoSem.ClaimSeven
namespace Go.Proofs.YtnoefalgmekjbaaDoor
namespace Rows

/-- THE TIED CARD OF 'hedgerowlaw14.InodeWords'. -/
def inodeWordsCard : Claim7 := { stood := { row := inodeWordsRow, standIns := [], harness := (true, "e377312987a5ff68fb9357ee08da3116f6adb5c2fa787d3720d7dbf853c4e6a6"), looks := true }, kinds := [], alts := [], laidByText := true, laidKinds := [.data], laidTests := true, laidLooks := .later }
def InodeWordsCardSaid : Prop := Claim7.holds Tryd.pinned (.plain (OpenSpec.ofChange inodeWordsSpec)) inodeWordsCard

/-- THE TIED CARD OF 'hedgerowlaw14.InodeReads'. -/
def inodeReadsCard : Claim7 := { stood := { row := inodeReadsRow, standIns := [], harness := (true, "e377312987a5ff68fb9357ee08da3116f6adb5c2fa787d3720d7dbf853c4e6a6"), looks := true }, kinds := [], alts := [], laidByText := true, laidKinds := [.data], laidTests := true, laidLooks := .later }
def InodeReadsCardSaid : Prop := Claim7.holds Tryd.pinned (.plain (OpenSpec.ofChange inodeReadsSpec)) inodeReadsCard

/-- THE TIED CARD OF 'hedgerowlaw14.InodeStores'. -/
def inodeStoresCard : Claim7 := { stood := { row := inodeStoresRow, standIns := [], harness := (true, "e377312987a5ff68fb9357ee08da3116f6adb5c2fa787d3720d7dbf853c4e6a6"), looks := true }, kinds := [], alts := [], laidByText := true, laidKinds := [.data], laidTests := true, laidLooks := .later }
def InodeStoresCardSaid : Prop := Claim7.holds Tryd.pinned (.plain (OpenSpec.ofChange inodeStoresSpec)) inodeStoresCard

/-- THE TIED CARD OF 'hedgerowlaw14.InodeLinked'. -/
def inodeLinkedCard : Claim7 := { stood := { row := inodeLinkedRow, standIns := [], harness := (true, "e377312987a5ff68fb9357ee08da3116f6adb5c2fa787d3720d7dbf853c4e6a6"), looks := true }, kinds := [], alts := [], laidByText := true, laidKinds := [.data], laidTests := true, laidLooks := .later }
def InodeLinkedCardSaid : Prop := Claim7.holds Tryd.pinned (.plain (OpenSpec.ofChange inodeLinkedSpec)) inodeLinkedCard

/-- THE TIED CARD OF 'hedgerowlaw14.InodeSame'. -/
def inodeSameCard : Claim7 := { stood := { row := inodeSameRow, standIns := [], harness := (true, "e377312987a5ff68fb9357ee08da3116f6adb5c2fa787d3720d7dbf853c4e6a6"), looks := true }, kinds := [], alts := [], laidByText := true, laidKinds := [.data], laidTests := true, laidLooks := .later }
def InodeSameCardSaid : Prop := Claim7.holds Tryd.pinned (.plain (OpenSpec.ofChange inodeSameSpec)) inodeSameCard

/-- THE TIED CARD OF 'hedgerowlaw14.InodeHolds'. -/
def inodeHoldsCard : Claim7 := { stood := { row := inodeHoldsRow, standIns := [], harness := (true, "e377312987a5ff68fb9357ee08da3116f6adb5c2fa787d3720d7dbf853c4e6a6"), looks := true }, kinds := [], alts := [], laidByText := true, laidKinds := [.data], laidTests := true, laidLooks := .later }
def InodeHoldsCardSaid : Prop := Claim7.holds Tryd.pinned (.plain (OpenSpec.ofChange inodeHoldsSpec)) inodeHoldsCard

/-- THE SECOND FORM's CARD OF 'hedgerowlaw14.InodeWords'. -/
def inodeWordsUptoCard : Claim7 := { stood := { row := inodeWordsUptoRow, standIns := [], harness := (true, "e377312987a5ff68fb9357ee08da3116f6adb5c2fa787d3720d7dbf853c4e6a6"), looks := true }, kinds := [], alts := [], laidByText := true, laidKinds := [.data], laidTests := true, laidLooks := .later }
def InodeWordsUptoCardSaid : Prop := Claim7.holds Tryd.pinned (.plain (OpenSpec.upto inodeWordsSpec)) inodeWordsUptoCard

/-- THE SECOND FORM's CARD OF 'hedgerowlaw14.InodeReads'. -/
def inodeReadsUptoCard : Claim7 := { stood := { row := inodeReadsUptoRow, standIns := [], harness := (true, "e377312987a5ff68fb9357ee08da3116f6adb5c2fa787d3720d7dbf853c4e6a6"), looks := true }, kinds := [], alts := [], laidByText := true, laidKinds := [.data], laidTests := true, laidLooks := .later }
def InodeReadsUptoCardSaid : Prop := Claim7.holds Tryd.pinned (.plain (OpenSpec.upto inodeReadsSpec)) inodeReadsUptoCard

/-- THE SECOND FORM's CARD OF 'hedgerowlaw14.InodeStores'. -/
def inodeStoresUptoCard : Claim7 := { stood := { row := inodeStoresUptoRow, standIns := [], harness := (true, "e377312987a5ff68fb9357ee08da3116f6adb5c2fa787d3720d7dbf853c4e6a6"), looks := true }, kinds := [], alts := [], laidByText := true, laidKinds := [.data], laidTests := true, laidLooks := .later }
def InodeStoresUptoCardSaid : Prop := Claim7.holds Tryd.pinned (.plain (OpenSpec.upto inodeStoresSpec)) inodeStoresUptoCard

/-- THE SECOND FORM's CARD OF 'hedgerowlaw14.InodeLinked'. -/
def inodeLinkedUptoCard : Claim7 := { stood := { row := inodeLinkedUptoRow, standIns := [], harness := (true, "e377312987a5ff68fb9357ee08da3116f6adb5c2fa787d3720d7dbf853c4e6a6"), looks := true }, kinds := [], alts := [], laidByText := true, laidKinds := [.data], laidTests := true, laidLooks := .later }
def InodeLinkedUptoCardSaid : Prop := Claim7.holds Tryd.pinned (.plain (OpenSpec.upto inodeLinkedSpec)) inodeLinkedUptoCard

/-- THE SECOND FORM's CARD OF 'hedgerowlaw14.InodeSame'. -/
def inodeSameUptoCard : Claim7 := { stood := { row := inodeSameUptoRow, standIns := [], harness := (true, "e377312987a5ff68fb9357ee08da3116f6adb5c2fa787d3720d7dbf853c4e6a6"), looks := true }, kinds := [], alts := [], laidByText := true, laidKinds := [.data], laidTests := true, laidLooks := .later }
def InodeSameUptoCardSaid : Prop := Claim7.holds Tryd.pinned (.plain (OpenSpec.upto inodeSameSpec)) inodeSameUptoCard

/-- THE SECOND FORM's CARD OF 'hedgerowlaw14.InodeHolds'. -/
def inodeHoldsUptoCard : Claim7 := { stood := { row := inodeHoldsUptoRow, standIns := [], harness := (true, "e377312987a5ff68fb9357ee08da3116f6adb5c2fa787d3720d7dbf853c4e6a6"), looks := true }, kinds := [], alts := [], laidByText := true, laidKinds := [.data], laidTests := true, laidLooks := .later }
def InodeHoldsUptoCardSaid : Prop := Claim7.holds Tryd.pinned (.plain (OpenSpec.upto inodeHoldsSpec)) inodeHoldsUptoCard
end Rows
end Go.Proofs.YtnoefalgmekjbaaDoor
