/- The element types of slices. -/
import Derived.Test.YtodpeljmcpefeaaDoorProg
import Derived.Test.YtodpeljmcpefeaaDoorMath
import Derived.Test.YtodpeljmcpefeaaDoorKit
import Derived.WalkKit
import Derived.IntWalk
import Derived.Lib.Hide
import Derived.Deep.QuietTactic
import Derived.BigQuiet
import Derived.StillTailTactics
import Derived.Deep.RegionLaw
import Derived.Deep.AppendLies
import Derived.OneCell
namespace Go.Proofs.YtodpeljmcpefeaaDoor
set_option linter.unusedVariables false
set_option linter.unusedSimpArgs false
open Go.RowKit

theorem Tryd.info5 : (Tryd.prog.info? 5).map (fun i => (i.zero, i.size, i.bytes)) = some (some (.int .u8 0), 1, 1) := by kernel_rfl

theorem El8 : El Tryd.prog 25 5 (Value.int .u8 0) 1 := ⟨Tryd.underlying25, info_parts Tryd.info5, rfl⟩

theorem Tryd.infou64 : (Tryd.prog.info? 22).map (fun i => (i.zero, i.size, i.bytes)) = some (some (.int .u64 0), 1, 8) := by kernel_rfl

theorem El64 : El Tryd.prog 57 22 (Value.int .u64 0) 8 := ⟨Tryd.underlying57, info_parts Tryd.infou64, rfl⟩

theorem ints_app (k : IntKind) (l r : List Nat) : ints k (l ++ r) = ints k l ++ ints k r := by simp

end Go.Proofs.YtodpeljmcpefeaaDoor
