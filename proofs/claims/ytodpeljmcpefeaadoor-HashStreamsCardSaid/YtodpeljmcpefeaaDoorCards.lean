/-
  DERIVED. GIVEN WITH THE SEED: THE CARDS: each row of YtodpeljmcpefeaaDoorRows.lean that lists a variable, with what it lists TIED to the program's text (the seventh form; the later family's looks); each row that meets fmt, with fmt's text TOLD by the authors' own Lean function (tested against real Go, not proved from fmt's source: count such statements apart). THE CARD IS WHAT COUNTS. Prove the row's statement (the work); the ties are given (YtodpeljmcpefeaaDoorTie.lean); close each card by the builder's one call (the guide's Derived/Test/ToyasCard.lean, 'card_holds'). Laid BY PROGRAM, IN A SANDBOX (cutbox-door.mjs). By AI agents, Wed Nov 11 2026. No macro, syntax, notation, axiom, sorry.
-/
import Derived.Test.YtodpeljmcpefeaaDoorRows
import GoSem.ClaimSeven
namespace Go.Proofs.YtodpeljmcpefeaaDoor
namespace Rows

/-- THE TIED CARD OF 'hedgerowlaw02.HashStreams'. -/
def hashStreamsCard : Claim7 := { stood := { row := hashStreamsRow, standIns := [], harness := (true, "bacbbb0041c41851d6f3b2f62881aa50cc8df9e9150252935f86ad8a3e82ae42"), looks := false }, kinds := [], alts := [], laidByText := true, laidKinds := [.data], laidTests := true, laidLooks := .later }
def HashStreamsCardSaid : Prop := Claim7.holds Tryd.pinned (.plain (OpenSpec.ofChange hashStreamsSpec)) hashStreamsCard

/-- THE SECOND FORM's CARD OF 'hedgerowlaw02.HashStreams'. -/
def hashStreamsUptoCard : Claim7 := { stood := { row := hashStreamsUptoRow, standIns := [], harness := (true, "bacbbb0041c41851d6f3b2f62881aa50cc8df9e9150252935f86ad8a3e82ae42"), looks := false }, kinds := [], alts := [], laidByText := true, laidKinds := [.data], laidTests := true, laidLooks := .later }
def HashStreamsUptoCardSaid : Prop := Claim7.holds Tryd.pinned (.plain (OpenSpec.upto hashStreamsSpec)) hashStreamsUptoCard
end Rows
end Go.Proofs.YtodpeljmcpefeaaDoor
