/-
  DERIVED. GIVEN WITH THE SEED: THE CARDS: each row of YtenbohhacenbaaaDoorRows.lean that lists a variable, with what it lists TIED to the program's text (the seventh form; the later family's looks); each row that meets fmt, with fmt's text TOLD by the authors' own Lean function (tested against real Go, not proved from fmt's source: count such statements apart). THE CARD IS WHAT COUNTS. Prove the row's statement (the work); the ties are given (YtenbohhacenbaaaDoorTie.lean); close each card by the builder's one call (the guide's Derived/Test/ToyasCard.lean, 'card_holds'). Laid BY PROGRAM, IN A SANDBOX (cutbox-door.mjs). By AI agents, Wed Nov 11 2026. No macro, syntax, notation, axiom, sorry.
-/
import Derived.Test.YtenbohhacenbaaaDoorRows
import GoSem.ClaimSeven
namespace Go.Proofs.YtenbohhacenbaaaDoor
namespace Rows

/-- THE TIED CARD OF 'hedgerowlaw02.HashSums'. -/
def hashSumsCard : Claim7 := { stood := { row := hashSumsRow, standIns := [], harness := (true, "a4a658df5a46efd596245b7fa355cbee6ee35ad8553ae57166e8c55ea85f6710"), looks := false }, kinds := [], alts := [], laidByText := true, laidKinds := [.data], laidTests := true, laidLooks := .later }
def HashSumsCardSaid : Prop := Claim7.holds Tryd.pinned (.plain (OpenSpec.ofChange hashSumsSpec)) hashSumsCard

/-- THE TIED CARD OF 'hedgerowlaw02.HashParts'. -/
def hashPartsCard : Claim7 := { stood := { row := hashPartsRow, standIns := [], harness := (true, "a4a658df5a46efd596245b7fa355cbee6ee35ad8553ae57166e8c55ea85f6710"), looks := false }, kinds := [], alts := [], laidByText := true, laidKinds := [.data], laidTests := true, laidLooks := .later }
def HashPartsCardSaid : Prop := Claim7.holds Tryd.pinned (.plain (OpenSpec.ofChange hashPartsSpec)) hashPartsCard

/-- THE TIED CARD OF 'hedgerowlaw02.HashStreams'. -/
def hashStreamsCard : Claim7 := { stood := { row := hashStreamsRow, standIns := [], harness := (true, "a4a658df5a46efd596245b7fa355cbee6ee35ad8553ae57166e8c55ea85f6710"), looks := false }, kinds := [], alts := [], laidByText := true, laidKinds := [.data], laidTests := true, laidLooks := .later }
def HashStreamsCardSaid : Prop := Claim7.holds Tryd.pinned (.plain (OpenSpec.ofChange hashStreamsSpec)) hashStreamsCard

/-- THE TIED CARD OF 'hedgerowlaw02.HashCopies'. -/
def hashCopiesCard : Claim7 := { stood := { row := hashCopiesRow, standIns := [], harness := (true, "a4a658df5a46efd596245b7fa355cbee6ee35ad8553ae57166e8c55ea85f6710"), looks := false }, kinds := [], alts := [], laidByText := true, laidKinds := [.data], laidTests := true, laidLooks := .later }
def HashCopiesCardSaid : Prop := Claim7.holds Tryd.pinned (.plain (OpenSpec.ofChange hashCopiesSpec)) hashCopiesCard

/-- THE TIED CARD OF 'hedgerowlaw02.HashCuts'. -/
def hashCutsCard : Claim7 := { stood := { row := hashCutsRow, standIns := [], harness := (true, "a4a658df5a46efd596245b7fa355cbee6ee35ad8553ae57166e8c55ea85f6710"), looks := false }, kinds := [], alts := [], laidByText := true, laidKinds := [.data], laidTests := true, laidLooks := .later }
def HashCutsCardSaid : Prop := Claim7.holds Tryd.pinned (.plain (OpenSpec.ofChange hashCutsSpec)) hashCutsCard

/-- THE SECOND FORM's CARD OF 'hedgerowlaw02.HashSums'. -/
def hashSumsUptoCard : Claim7 := { stood := { row := hashSumsUptoRow, standIns := [], harness := (true, "a4a658df5a46efd596245b7fa355cbee6ee35ad8553ae57166e8c55ea85f6710"), looks := false }, kinds := [], alts := [], laidByText := true, laidKinds := [.data], laidTests := true, laidLooks := .later }
def HashSumsUptoCardSaid : Prop := Claim7.holds Tryd.pinned (.plain (OpenSpec.upto hashSumsSpec)) hashSumsUptoCard

/-- THE SECOND FORM's CARD OF 'hedgerowlaw02.HashParts'. -/
def hashPartsUptoCard : Claim7 := { stood := { row := hashPartsUptoRow, standIns := [], harness := (true, "a4a658df5a46efd596245b7fa355cbee6ee35ad8553ae57166e8c55ea85f6710"), looks := false }, kinds := [], alts := [], laidByText := true, laidKinds := [.data], laidTests := true, laidLooks := .later }
def HashPartsUptoCardSaid : Prop := Claim7.holds Tryd.pinned (.plain (OpenSpec.upto hashPartsSpec)) hashPartsUptoCard

/-- THE SECOND FORM's CARD OF 'hedgerowlaw02.HashStreams'. -/
def hashStreamsUptoCard : Claim7 := { stood := { row := hashStreamsUptoRow, standIns := [], harness := (true, "a4a658df5a46efd596245b7fa355cbee6ee35ad8553ae57166e8c55ea85f6710"), looks := false }, kinds := [], alts := [], laidByText := true, laidKinds := [.data], laidTests := true, laidLooks := .later }
def HashStreamsUptoCardSaid : Prop := Claim7.holds Tryd.pinned (.plain (OpenSpec.upto hashStreamsSpec)) hashStreamsUptoCard

/-- THE SECOND FORM's CARD OF 'hedgerowlaw02.HashCopies'. -/
def hashCopiesUptoCard : Claim7 := { stood := { row := hashCopiesUptoRow, standIns := [], harness := (true, "a4a658df5a46efd596245b7fa355cbee6ee35ad8553ae57166e8c55ea85f6710"), looks := false }, kinds := [], alts := [], laidByText := true, laidKinds := [.data], laidTests := true, laidLooks := .later }
def HashCopiesUptoCardSaid : Prop := Claim7.holds Tryd.pinned (.plain (OpenSpec.upto hashCopiesSpec)) hashCopiesUptoCard

/-- THE SECOND FORM's CARD OF 'hedgerowlaw02.HashCuts'. -/
def hashCutsUptoCard : Claim7 := { stood := { row := hashCutsUptoRow, standIns := [], harness := (true, "a4a658df5a46efd596245b7fa355cbee6ee35ad8553ae57166e8c55ea85f6710"), looks := false }, kinds := [], alts := [], laidByText := true, laidKinds := [.data], laidTests := true, laidLooks := .later }
def HashCutsUptoCardSaid : Prop := Claim7.holds Tryd.pinned (.plain (OpenSpec.upto hashCutsSpec)) hashCutsUptoCard
end Rows
end Go.Proofs.YtenbohhacenbaaaDoor
