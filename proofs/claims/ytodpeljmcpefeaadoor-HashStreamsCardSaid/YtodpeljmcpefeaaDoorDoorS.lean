/- What the package's variable holds when the call begins (for the seat of HashStreams alone). -/
import Derived.Test.YtodpeljmcpefeaaDoorPieces
import Derived.Test.YtodpeljmcpefeaaDoorRows
import Derived.ProofKit
import Derived.LaidMore
import Derived.OpenShut
import Derived.Stop.Joined
import Derived.Lib.LaidTab
namespace Go.Proofs.YtodpeljmcpefeaaDoor
set_option linter.unusedVariables false
set_option linter.unusedSimpArgs false
open Go.ChangeShapes Go.WideShapes Go.ChangeAt Go.WideMaps Go.WideElems Go.RowKit

def laidHere : List (String × DataW Unit) := [("hedgerow/hash.turns", Rows.laid_hedgerow_hash_turns)]

theorem gTurns : Tryd.prog.globalNamed "hedgerow/hash.turns" = some 0 := by kernel_rfl

theorem tTurns : (Tryd.prog.globals[0]?).map (·.type) = some 60 := by kernel_rfl

theorem door_met (os : Os) (args : Array Value) : laidMetH Tryd.prog laidHere ((World.doorLaid Tryd.prog 14 os).forCall (fun _ _ => 0) ⟨#[], args, []⟩).memory :=
  laidMetH_of_parts3 (fuel := 8) (laidMet_of_run' 8 (by kernel_rfl) (by kernel_rfl)) (by kernel_rfl) (by kernel_rfl)

theorem of_laid {W : World} (h : laidMetH Tryd.prog laidHere W) : Start W := by
  rw [MakeChecks.laidMetH_plain _ _ _ (by kernel_rfl)] at h
  have hT := Lib.tabIs_of_head (k := .i64) (zs := [13, 32, 16, 21, 17, 32]) gTurns tTurns Tryd.underlying60 Tryd.underlying3 (by kernel_rfl) (by kernel_rfl) h
  have hc : ∀ i, i < 6 → W.cell? ⟨0, i, none⟩ = some (.int .i64 ([13, 32, 16, 21, 17, 32].getD i 0)) := fun i hi => hT.cell gTurns i hi
  refine ⟨fun i v hv => ?_, ?_⟩
  · obtain ⟨hi, hv'⟩ := List.getElem?_eq_some_iff.1 hv
    have hi' : i < 6 := hi
    rw [hc i hi']
    rcases (by omega : i = 0 ∨ i = 1 ∨ i = 2 ∨ i = 3 ∨ i = 4 ∨ i = 5) with rfl | rfl | rfl | rfl | rfl | rfl <;> (simp at hv'; subst hv'; rfl)
  · obtain ⟨o, ho, _⟩ := cells_of_cell (hc 0 (by decide))
    exact (Array.getElem?_eq_some_iff.1 ho).1

end Go.Proofs.YtodpeljmcpefeaaDoor
