/-
  DERIVED. GIVEN WITH THE SEED: THE CARDS: each row of YtklfopclaonggaaDoorRows.lean that lists a variable, with what it lists TIED to the program's text (the seventh form; the later family's looks); each row that meets fmt, with fmt's text TOLD by the authors' own Lean function (tested against real Go, not proved from fmt's source: count such statements apart). THE CARD IS WHAT COUNTS. Prove the row's statement (the work); the ties are given (YtklfopclaonggaaDoorTie.lean); close each card by the builder's one call (the guide's Derived/Test/ToyasCard.lean, 'card_holds'). Laid BY PROGRAM, IN A SANDBOX (cutbox-door.mjs). By AI agents, Wed Nov 11 2026. No macro, syntax, notation, axiom, sorry.
-/
import Derived.Test.YtklfopclaonggaaDoorRows
import GoSem.ClaimSeven
namespace Go.Proofs.YtklfopclaonggaaDoor
namespace Rows

/-- THE TIED CARD OF 'hedgerowlaw06.ExtentsChecks'. -/
def extentsChecksCard : Claim7 := { stood := { row := extentsChecksRow, standIns := [], harness := (true, "585cd7895b1c20191fdfb7d28c79d7fb4f8acbea5b573c495a88ba3382002bfa"), looks := false }, kinds := [], alts := [], laidByText := true, laidKinds := [.data], laidTests := true, laidLooks := .later }
def ExtentsChecksCardSaid : Prop := Claim7.holds Tryd.pinned (.plain (OpenSpec.ofChange extentsChecksSpec)) extentsChecksCard

/-- THE TIED CARD OF 'hedgerowlaw06.ExtentsEach'. -/
def extentsEachCard : Claim7 := { stood := { row := extentsEachRow, standIns := [], harness := (true, "585cd7895b1c20191fdfb7d28c79d7fb4f8acbea5b573c495a88ba3382002bfa"), looks := false }, kinds := [], alts := [], laidByText := true, laidKinds := [.data], laidTests := true, laidLooks := .later }
def ExtentsEachCardSaid : Prop := Claim7.holds Tryd.pinned (.plain (OpenSpec.ofChange extentsEachSpec)) extentsEachCard

/-- THE TIED CARD OF 'hedgerowlaw06.ExtentsPuts'. -/
def extentsPutsCard : Claim7 := { stood := { row := extentsPutsRow, standIns := [], harness := (true, "585cd7895b1c20191fdfb7d28c79d7fb4f8acbea5b573c495a88ba3382002bfa"), looks := false }, kinds := [], alts := [], laidByText := true, laidKinds := [.data], laidTests := true, laidLooks := .later }
def ExtentsPutsCardSaid : Prop := Claim7.holds Tryd.pinned (.plain (OpenSpec.ofChange extentsPutsSpec)) extentsPutsCard

/-- THE TIED CARD OF 'hedgerowlaw06.ExtentsCuts'. -/
def extentsCutsCard : Claim7 := { stood := { row := extentsCutsRow, standIns := [], harness := (true, "585cd7895b1c20191fdfb7d28c79d7fb4f8acbea5b573c495a88ba3382002bfa"), looks := false }, kinds := [], alts := [], laidByText := true, laidKinds := [.data], laidTests := true, laidLooks := .later }
def ExtentsCutsCardSaid : Prop := Claim7.holds Tryd.pinned (.plain (OpenSpec.ofChange extentsCutsSpec)) extentsCutsCard

/-- THE TIED CARD OF 'hedgerowlaw06.ExtentsWords'. -/
def extentsWordsCard : Claim7 := { stood := { row := extentsWordsRow, standIns := [], harness := (true, "585cd7895b1c20191fdfb7d28c79d7fb4f8acbea5b573c495a88ba3382002bfa"), looks := false }, kinds := [], alts := [], laidByText := true, laidKinds := [.data], laidTests := true, laidLooks := .later }
def ExtentsWordsCardSaid : Prop := Claim7.holds Tryd.pinned (.plain (OpenSpec.ofChange extentsWordsSpec)) extentsWordsCard

/-- THE TIED CARD OF 'hedgerowlaw06.ExtentsHolds'. -/
def extentsHoldsCard : Claim7 := { stood := { row := extentsHoldsRow, standIns := [], harness := (true, "585cd7895b1c20191fdfb7d28c79d7fb4f8acbea5b573c495a88ba3382002bfa"), looks := false }, kinds := [], alts := [], laidByText := true, laidKinds := [.data], laidTests := true, laidLooks := .later }
def ExtentsHoldsCardSaid : Prop := Claim7.holds Tryd.pinned (.plain (OpenSpec.ofChange extentsHoldsSpec)) extentsHoldsCard

/-- THE SECOND FORM's CARD OF 'hedgerowlaw06.ExtentsChecks'. -/
def extentsChecksUptoCard : Claim7 := { stood := { row := extentsChecksUptoRow, standIns := [], harness := (true, "585cd7895b1c20191fdfb7d28c79d7fb4f8acbea5b573c495a88ba3382002bfa"), looks := false }, kinds := [], alts := [], laidByText := true, laidKinds := [.data], laidTests := true, laidLooks := .later }
def ExtentsChecksUptoCardSaid : Prop := Claim7.holds Tryd.pinned (.plain (OpenSpec.upto extentsChecksSpec)) extentsChecksUptoCard

/-- THE SECOND FORM's CARD OF 'hedgerowlaw06.ExtentsEach'. -/
def extentsEachUptoCard : Claim7 := { stood := { row := extentsEachUptoRow, standIns := [], harness := (true, "585cd7895b1c20191fdfb7d28c79d7fb4f8acbea5b573c495a88ba3382002bfa"), looks := false }, kinds := [], alts := [], laidByText := true, laidKinds := [.data], laidTests := true, laidLooks := .later }
def ExtentsEachUptoCardSaid : Prop := Claim7.holds Tryd.pinned (.plain (OpenSpec.upto extentsEachSpec)) extentsEachUptoCard

/-- THE SECOND FORM's CARD OF 'hedgerowlaw06.ExtentsPuts'. -/
def extentsPutsUptoCard : Claim7 := { stood := { row := extentsPutsUptoRow, standIns := [], harness := (true, "585cd7895b1c20191fdfb7d28c79d7fb4f8acbea5b573c495a88ba3382002bfa"), looks := false }, kinds := [], alts := [], laidByText := true, laidKinds := [.data], laidTests := true, laidLooks := .later }
def ExtentsPutsUptoCardSaid : Prop := Claim7.holds Tryd.pinned (.plain (OpenSpec.upto extentsPutsSpec)) extentsPutsUptoCard

/-- THE SECOND FORM's CARD OF 'hedgerowlaw06.ExtentsCuts'. -/
def extentsCutsUptoCard : Claim7 := { stood := { row := extentsCutsUptoRow, standIns := [], harness := (true, "585cd7895b1c20191fdfb7d28c79d7fb4f8acbea5b573c495a88ba3382002bfa"), looks := false }, kinds := [], alts := [], laidByText := true, laidKinds := [.data], laidTests := true, laidLooks := .later }
def ExtentsCutsUptoCardSaid : Prop := Claim7.holds Tryd.pinned (.plain (OpenSpec.upto extentsCutsSpec)) extentsCutsUptoCard

/-- THE SECOND FORM's CARD OF 'hedgerowlaw06.ExtentsWords'. -/
def extentsWordsUptoCard : Claim7 := { stood := { row := extentsWordsUptoRow, standIns := [], harness := (true, "585cd7895b1c20191fdfb7d28c79d7fb4f8acbea5b573c495a88ba3382002bfa"), looks := false }, kinds := [], alts := [], laidByText := true, laidKinds := [.data], laidTests := true, laidLooks := .later }
def ExtentsWordsUptoCardSaid : Prop := Claim7.holds Tryd.pinned (.plain (OpenSpec.upto extentsWordsSpec)) extentsWordsUptoCard

/-- THE SECOND FORM's CARD OF 'hedgerowlaw06.ExtentsHolds'. -/
def extentsHoldsUptoCard : Claim7 := { stood := { row := extentsHoldsUptoRow, standIns := [], harness := (true, "585cd7895b1c20191fdfb7d28c79d7fb4f8acbea5b573c495a88ba3382002bfa"), looks := false }, kinds := [], alts := [], laidByText := true, laidKinds := [.data], laidTests := true, laidLooks := .later }
def ExtentsHoldsUptoCardSaid : Prop := Claim7.holds Tryd.pinned (.plain (OpenSpec.upto extentsHoldsSpec)) extentsHoldsUptoCard
end Rows
end Go.Proofs.YtklfopclaonggaaDoor
