/- What the package's variable holds when the call begins. -/
import Derived.Test.YtklfopclaonggaaDoorEf
import Derived.Test.YtklfopclaonggaaDoorRows
import Derived.ProofKit
import Derived.LaidMore
import Derived.OpenShut
import Derived.Stop.Joined
import Derived.Lib.LaidTab
namespace Go.Proofs.YtklfopclaonggaaDoor
set_option linter.unusedVariables false
set_option linter.unusedSimpArgs false
open Go.ChangeShapes Go.WideShapes Go.ChangeAt Go.WideMaps Go.WideElems Go.RowKit

def laidHere : List (String × DataW Unit) := [("hedgerow/extents.widths", Rows.laid_hedgerow_extents_widths)]
theorem gTurns : Tryd.prog.globalNamed "hedgerow/extents.widths" = some 0 := by kernel_rfl
theorem tTurns : (Tryd.prog.globals[0]?).map (·.type) = some 88 := by kernel_rfl
theorem door_met (os : Os) (args : Array Value) : laidMetH Tryd.prog laidHere ((World.doorLaid Tryd.prog 14 os).forCall (fun _ _ => 0) ⟨#[], args, []⟩).memory :=
  laidMetH_of_parts3 (fuel := 8) (laidMet_of_run' 8 (by kernel_rfl) (by kernel_rfl)) (by kernel_rfl) (by kernel_rfl)
theorem of_laid {W : World} (h : laidMetH Tryd.prog laidHere W) : Start W := by
  rw [MakeChecks.laidMetH_plain _ _ _ (by kernel_rfl)] at h
  have hT := Lib.tabIs_of_head (k := .i64) (zs := [16, 24, 16]) gTurns tTurns Tryd.underlying88 Tryd.underlying3 (by kernel_rfl) (by kernel_rfl) h
  have hc : ∀ i, i < 3 → W.cell? ⟨0, i, none⟩ = some (.int .i64 ([16, 24, 16].getD i 0)) := fun i hi => hT.cell gTurns i hi
  refine ⟨hc 0 (by decide), hc 1 (by decide), hc 2 (by decide), ?_⟩
  obtain ⟨o, ho, _⟩ := cells_of_cell (hc 0 (by decide))
  exact (Array.getElem?_eq_some_iff.1 ho).1
end Go.Proofs.YtklfopclaonggaaDoor
