/-
  DERIVED. GIVEN WITH THE SEED: THE CARDS: each row of YtaeaokimhbbnfaaGreatDoorRows.lean that lists a variable, with what it lists TIED to the program's text (the seventh form; the later family's looks); each row that meets fmt, with fmt's text TOLD by the authors' own Lean function (tested against real Go, not proved from fmt's source: count such statements apart). THE CARD IS WHAT COUNTS. Prove the row's statement (the work); the ties are given (YtaeaokimhbbnfaaGreatDoorTie.lean); close each card by the builder's one call (the guide's Derived/Test/ToyasCard.lean, 'card_holds'). Laid BY PROGRAM, IN A SANDBOX (cutbox-door.mjs). By AI agents, Wed Nov 11 2026. No macro, syntax, notation, axiom, sorry.
-/
import Derived.Test.YtaeaokimhbbnfaaGreatDoorRows
import GoSem.ClaimSeven
namespace Go.Proofs.YtaeaokimhbbnfaaGreatDoor
namespace Rows

/-- THE TIED CARD OF 'hedgerowlaw21.JournalWords'. -/
def journalWordsCard : Claim7 := { stood := { row := journalWordsRow, standIns := [], harness := (true, "956e9c2271e7ee4c85f6e8a2af220d722dab1ef8cc99c0585af31416bbc75079"), looks := true }, kinds := [], alts := [], laidByText := true, laidKinds := [.data], laidTests := true, laidLooks := .later }
def JournalWordsCardSaid : Prop := Claim7.holds Tryz.pinned (.plain (OpenSpec.ofChange journalWordsSpec)) journalWordsCard

/-- THE TIED CARD OF 'hedgerowlaw21.JournalReads'. -/
def journalReadsCard : Claim7 := { stood := { row := journalReadsRow, standIns := [], harness := (true, "956e9c2271e7ee4c85f6e8a2af220d722dab1ef8cc99c0585af31416bbc75079"), looks := true }, kinds := [], alts := [], laidByText := true, laidKinds := [.data], laidTests := true, laidLooks := .later }
def JournalReadsCardSaid : Prop := Claim7.holds Tryz.pinned (.plain (OpenSpec.ofChange journalReadsSpec)) journalReadsCard

/-- THE TIED CARD OF 'hedgerowlaw21.JournalStores'. -/
def journalStoresCard : Claim7 := { stood := { row := journalStoresRow, standIns := [], harness := (true, "956e9c2271e7ee4c85f6e8a2af220d722dab1ef8cc99c0585af31416bbc75079"), looks := true }, kinds := [], alts := [], laidByText := true, laidKinds := [.data], laidTests := true, laidLooks := .later }
def JournalStoresCardSaid : Prop := Claim7.holds Tryz.pinned (.plain (OpenSpec.ofChange journalStoresSpec)) journalStoresCard

/-- THE TIED CARD OF 'hedgerowlaw21.JournalBent'. -/
def journalBentCard : Claim7 := { stood := { row := journalBentRow, standIns := [], harness := (true, "956e9c2271e7ee4c85f6e8a2af220d722dab1ef8cc99c0585af31416bbc75079"), looks := true }, kinds := [], alts := [], laidByText := true, laidKinds := [.data], laidTests := true, laidLooks := .later }
def JournalBentCardSaid : Prop := Claim7.holds Tryz.pinned (.plain (OpenSpec.ofChange journalBentSpec)) journalBentCard

/-- THE TIED CARD OF 'hedgerowlaw21.JournalHolds'. -/
def journalHoldsCard : Claim7 := { stood := { row := journalHoldsRow, standIns := [], harness := (true, "956e9c2271e7ee4c85f6e8a2af220d722dab1ef8cc99c0585af31416bbc75079"), looks := true }, kinds := [], alts := [], laidByText := true, laidKinds := [.data], laidTests := true, laidLooks := .later }
def JournalHoldsCardSaid : Prop := Claim7.holds Tryz.pinned (.plain (OpenSpec.ofChange journalHoldsSpec)) journalHoldsCard

/-- THE SECOND FORM's CARD OF 'hedgerowlaw21.JournalWords'. -/
def journalWordsUptoCard : Claim7 := { stood := { row := journalWordsUptoRow, standIns := [], harness := (true, "956e9c2271e7ee4c85f6e8a2af220d722dab1ef8cc99c0585af31416bbc75079"), looks := true }, kinds := [], alts := [], laidByText := true, laidKinds := [.data], laidTests := true, laidLooks := .later }
def JournalWordsUptoCardSaid : Prop := Claim7.holds Tryz.pinned (.plain (OpenSpec.upto journalWordsSpec)) journalWordsUptoCard

/-- THE SECOND FORM's CARD OF 'hedgerowlaw21.JournalReads'. -/
def journalReadsUptoCard : Claim7 := { stood := { row := journalReadsUptoRow, standIns := [], harness := (true, "956e9c2271e7ee4c85f6e8a2af220d722dab1ef8cc99c0585af31416bbc75079"), looks := true }, kinds := [], alts := [], laidByText := true, laidKinds := [.data], laidTests := true, laidLooks := .later }
def JournalReadsUptoCardSaid : Prop := Claim7.holds Tryz.pinned (.plain (OpenSpec.upto journalReadsSpec)) journalReadsUptoCard

/-- THE SECOND FORM's CARD OF 'hedgerowlaw21.JournalStores'. -/
def journalStoresUptoCard : Claim7 := { stood := { row := journalStoresUptoRow, standIns := [], harness := (true, "956e9c2271e7ee4c85f6e8a2af220d722dab1ef8cc99c0585af31416bbc75079"), looks := true }, kinds := [], alts := [], laidByText := true, laidKinds := [.data], laidTests := true, laidLooks := .later }
def JournalStoresUptoCardSaid : Prop := Claim7.holds Tryz.pinned (.plain (OpenSpec.upto journalStoresSpec)) journalStoresUptoCard

/-- THE SECOND FORM's CARD OF 'hedgerowlaw21.JournalBent'. -/
def journalBentUptoCard : Claim7 := { stood := { row := journalBentUptoRow, standIns := [], harness := (true, "956e9c2271e7ee4c85f6e8a2af220d722dab1ef8cc99c0585af31416bbc75079"), looks := true }, kinds := [], alts := [], laidByText := true, laidKinds := [.data], laidTests := true, laidLooks := .later }
def JournalBentUptoCardSaid : Prop := Claim7.holds Tryz.pinned (.plain (OpenSpec.upto journalBentSpec)) journalBentUptoCard

/-- THE SECOND FORM's CARD OF 'hedgerowlaw21.JournalHolds'. -/
def journalHoldsUptoCard : Claim7 := { stood := { row := journalHoldsUptoRow, standIns := [], harness := (true, "956e9c2271e7ee4c85f6e8a2af220d722dab1ef8cc99c0585af31416bbc75079"), looks := true }, kinds := [], alts := [], laidByText := true, laidKinds := [.data], laidTests := true, laidLooks := .later }
def JournalHoldsUptoCardSaid : Prop := Claim7.holds Tryz.pinned (.plain (OpenSpec.upto journalHoldsSpec)) journalHoldsUptoCard
end Rows
end Go.Proofs.YtaeaokimhbbnfaaGreatDoor
