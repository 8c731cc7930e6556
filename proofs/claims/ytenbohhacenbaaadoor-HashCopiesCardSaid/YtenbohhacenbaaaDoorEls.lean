/- The element types of slices. -/
import Derived.Test.YtenbohhacenbaaaDoorProg
import Derived.Test.YtenbohhacenbaaaDoorMath
import Derived.Test.YtenbohhacenbaaaDoorKit
import Derived.WalkKit
import Derived.IntWalk
import Derived.Lib.Hide
import Derived.Deep.QuietTactic
import Derived.BigQuiet
import Derived.StillTailTactics
import Derived.Deep.RegionLaw
import Derived.Deep.AppendLies
import Derived.OneCell
namespace Go.Proofs.YtenbohhacenbaaaDoor
open Go.RowKit

theorem Tryd.info5 : (Tryd.prog.info? 5).map (fun i => (i.zero, i.size, i.bytes)) = some (some (.int .u8 0), 1, 1) := by kernel_rfl

theorem El8 : El Tryd.prog 24 5 (Value.int .u8 0) 1 := ⟨Tryd.underlying24, info_parts Tryd.info5, rfl⟩

theorem Tryd.infou64 : (Tryd.prog.info? 22).map (fun i => (i.zero, i.size, i.bytes)) = some (some (.int .u64 0), 1, 8) := by kernel_rfl

theorem El64 : El Tryd.prog 65 22 (Value.int .u64 0) 8 := ⟨Tryd.underlying65, info_parts Tryd.infou64, rfl⟩

theorem ints_app (k : IntKind) (l r : List Nat) : ints k (l ++ r) = ints k l ++ ints k r := by simp

end Go.Proofs.YtenbohhacenbaaaDoor
