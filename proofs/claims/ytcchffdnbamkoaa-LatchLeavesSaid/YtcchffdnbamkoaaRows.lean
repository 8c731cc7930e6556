/-
  No cell of these rows narrows 'for every input' (looked for: loops, veiled, ifaces, maps, wideKeys, modest, calm, conditions, laid).
  DERIVED. THE GIVEN ROWS OF THIS SEAT. 4 by the template 'for every input the law returns true; each argument reads behind the call as it read before'; 0 by the template 'total and deterministic' (their statements: YtcchffdnbamkoaaTotals.lean).
  GIVEN WITH THE SEED: the statements are not yours to turn. If you find one false, say at which input.
  Laid BY PROGRAM, IN A SANDBOX (cutbox-rows.mjs): the forced cells as the released guide's own fill.sh prints them over the translation 4e897d4041dd3d9b… (all of the seat's roots in one cut). By AI agents, Wed Nov 11 2026. No macro, syntax, notation, axiom, sorry.
-/
import Derived.Test.YtcchffdnbamkoaaChecked
import GoSem.Claim
import GoSem.ClaimJoined
import GoSem.ClaimMapViews
import Derived.JoinedTies
import Derived.KernelRfl
namespace Go.Proofs.Ytcchffdnbamkoaa
/- THE CELL 'sum', in the pinned program and in every row, IS THE sha256 OF THE DUMP (.gsa) THAT YtcchffdnbamkoaaProg.lean LOADS. Nothing in Lean hashes anything: it is a label: what it is worth is what the hold of that sum in a sandbox is worth. -/
noncomputable def Try.pinned : Pinned := { name := "ytcchffdnbamkoaa", sum := "4e897d4041dd3d9b71cdb7f71a5b1d0671728f018273f0bc6e23ec678ccaa9a6", checked := Try.checked }
namespace Rows
def none {H : Type} : Left H := { results := [], args := [] }

/-- 'hedgerowlaw25.LatchPlays': WHATEVER THE INPUT: true; the input reads as it did. -/
def latchPlaysSpec : ChangeSpec := { name := "latchPlays", fn := fun _ => fun
  | [d] => { results := [.lit (.bool true)], args := [d] }
  | _ => none }
def latchPlaysRow : OpenClaim := { program := "ytcchffdnbamkoaa", sum := "4e897d4041dd3d9b71cdb7f71a5b1d0671728f018273f0bc6e23ec678ccaa9a6", func := "hedgerow/hedgerowlaw25.LatchPlays", spec := "latchPlays", unfollowed := true, recurses := true, apart := false }
def LatchPlaysSaid : Prop := latchPlaysRow.holds Try.pinned (OpenSpec.ofChange latchPlaysSpec)

/-- ITS FALSE NEIGHBOUR: 'it returns false'. Refute it at one input. -/
def latchPlaysWrong : ChangeSpec := { name := "latchPlays", fn := fun _ => fun
  | [d] => { results := [.lit (.bool false)], args := [d] }
  | _ => none }
def LatchPlaysWrongFalsely : Prop := latchPlaysRow.holds Try.pinned (OpenSpec.ofChange latchPlaysWrong)

/-- 'hedgerowlaw25.LatchCopies': WHATEVER THE INPUT: true; the input reads as it did. -/
def latchCopiesSpec : ChangeSpec := { name := "latchCopies", fn := fun _ => fun
  | [d1, d2, d3] => { results := [.lit (.bool true)], args := [d1, d2, d3] }
  | _ => none }
def latchCopiesRow : OpenClaim := { program := "ytcchffdnbamkoaa", sum := "4e897d4041dd3d9b71cdb7f71a5b1d0671728f018273f0bc6e23ec678ccaa9a6", func := "hedgerow/hedgerowlaw25.LatchCopies", spec := "latchCopies", unfollowed := true, recurses := true, apart := false }
def LatchCopiesSaid : Prop := latchCopiesRow.holds Try.pinned (OpenSpec.ofChange latchCopiesSpec)

/-- ITS FALSE NEIGHBOUR: 'it returns false'. Refute it at one input. -/
def latchCopiesWrong : ChangeSpec := { name := "latchCopies", fn := fun _ => fun
  | [d1, d2, d3] => { results := [.lit (.bool false)], args := [d1, d2, d3] }
  | _ => none }
def LatchCopiesWrongFalsely : Prop := latchCopiesRow.holds Try.pinned (OpenSpec.ofChange latchCopiesWrong)

/-- 'hedgerowlaw25.LatchLeaves': WHATEVER THE INPUT: true; the input reads as it did. -/
def latchLeavesSpec : ChangeSpec := { name := "latchLeaves", fn := fun _ => fun
  | [d1, d2] => { results := [.lit (.bool true)], args := [d1, d2] }
  | _ => none }
def latchLeavesRow : OpenClaim := { program := "ytcchffdnbamkoaa", sum := "4e897d4041dd3d9b71cdb7f71a5b1d0671728f018273f0bc6e23ec678ccaa9a6", func := "hedgerow/hedgerowlaw25.LatchLeaves", spec := "latchLeaves", unfollowed := true, recurses := true, apart := false }
def LatchLeavesSaid : Prop := latchLeavesRow.holds Try.pinned (OpenSpec.ofChange latchLeavesSpec)

/-- ITS FALSE NEIGHBOUR: 'it returns false'. Refute it at one input. -/
def latchLeavesWrong : ChangeSpec := { name := "latchLeaves", fn := fun _ => fun
  | [d1, d2] => { results := [.lit (.bool false)], args := [d1, d2] }
  | _ => none }
def LatchLeavesWrongFalsely : Prop := latchLeavesRow.holds Try.pinned (OpenSpec.ofChange latchLeavesWrong)

/-- 'hedgerowlaw25.LatchHolds': WHATEVER THE INPUT: true; the input reads as it did. -/
def latchHoldsSpec : ChangeSpec := { name := "latchHolds", fn := fun _ => fun
  | [d1, d2, d3, d4] => { results := [.lit (.bool true)], args := [d1, d2, d3, d4] }
  | _ => none }
def latchHoldsRow : OpenClaim := { program := "ytcchffdnbamkoaa", sum := "4e897d4041dd3d9b71cdb7f71a5b1d0671728f018273f0bc6e23ec678ccaa9a6", func := "hedgerow/hedgerowlaw25.LatchHolds", spec := "latchHolds", unfollowed := true, recurses := true, apart := false }
def LatchHoldsSaid : Prop := latchHoldsRow.holds Try.pinned (OpenSpec.ofChange latchHoldsSpec)

/-- ITS FALSE NEIGHBOUR: 'it returns false'. Refute it at one input. -/
def latchHoldsWrong : ChangeSpec := { name := "latchHolds", fn := fun _ => fun
  | [d1, d2, d3, d4] => { results := [.lit (.bool false)], args := [d1, d2, d3, d4] }
  | _ => none }
def LatchHoldsWrongFalsely : Prop := latchHoldsRow.holds Try.pinned (OpenSpec.ofChange latchHoldsWrong)

/- THE SECOND FORM. 'bulk': how many values and letters a reading holds, each counted each time it is reached (what is shared counts as often as it is met; a slice's spare places count too). A statement '..UptoSaid' is the law's where the arguments, and the package variables that the reading takes, are together of bulk at most 1048576: NARROWER than '..Said'. Prove '..Said' where nothing that the law and all that it calls make is longer than what came in: it says more and counts as full. Else prove '..UptoSaid'. A law counts once. -/
mutual
def uptoBulk {H : Type} : DataW H → Nat
  | .lit (.string bytes) => bytes.length + 1
  | .lit _ => 1
  | .nil => 1
  | .ptr d => uptoBulk d + 1
  | .slice elems spare => uptoBulkAll elems + uptoBulkAll spare + 1
  | .agg parts => uptoBulkAll parts + 1
  | .iface _ d => uptoBulk d + 1
  | .map entries => uptoBulkEntries entries + 1
  | .held _ => 1
def uptoBulkAll {H : Type} : List (DataW H) → Nat
  | [] => 0
  | d :: r => uptoBulk d + uptoBulkAll r
def uptoBulkEntries {H : Type} : List (Lit × DataW H) → Nat
  | [] => 0
  | x :: r => uptoBulkEntry x + uptoBulkEntries r
def uptoBulkEntry {H : Type} : Lit × DataW H → Nat
  | (.string bytes, d) => bytes.length + uptoBulk d + 1
  | (_, d) => uptoBulk d + 1
 end
def uptoSmall : (H : Type) → List (DataW H) → Bool := fun _ ds => decide (uptoBulkAll ds ≤ 1048576)
def OpenSpec.upto (s : _root_.Go.ChangeSpec) : _root_.Go.OpenSpec := { _root_.Go.OpenSpec.ofChange s with cond := some uptoSmall }

/-- 'hedgerowlaw25.LatchPlays', WHERE WHAT IT READS IS OF BULK AT MOST 1048576: true; the input reads as it did. -/
def latchPlaysUptoRow : OpenClaim := { program := "ytcchffdnbamkoaa", sum := "4e897d4041dd3d9b71cdb7f71a5b1d0671728f018273f0bc6e23ec678ccaa9a6", func := "hedgerow/hedgerowlaw25.LatchPlays", spec := "latchPlays", unfollowed := true, recurses := true, apart := false, narrowed := true }
def LatchPlaysUptoSaid : Prop := latchPlaysUptoRow.holds Try.pinned (OpenSpec.upto latchPlaysSpec)

/-- 'hedgerowlaw25.LatchCopies', WHERE WHAT IT READS IS OF BULK AT MOST 1048576: true; the input reads as it did. -/
def latchCopiesUptoRow : OpenClaim := { program := "ytcchffdnbamkoaa", sum := "4e897d4041dd3d9b71cdb7f71a5b1d0671728f018273f0bc6e23ec678ccaa9a6", func := "hedgerow/hedgerowlaw25.LatchCopies", spec := "latchCopies", unfollowed := true, recurses := true, apart := false, narrowed := true }
def LatchCopiesUptoSaid : Prop := latchCopiesUptoRow.holds Try.pinned (OpenSpec.upto latchCopiesSpec)

/-- 'hedgerowlaw25.LatchLeaves', WHERE WHAT IT READS IS OF BULK AT MOST 1048576: true; the input reads as it did. -/
def latchLeavesUptoRow : OpenClaim := { program := "ytcchffdnbamkoaa", sum := "4e897d4041dd3d9b71cdb7f71a5b1d0671728f018273f0bc6e23ec678ccaa9a6", func := "hedgerow/hedgerowlaw25.LatchLeaves", spec := "latchLeaves", unfollowed := true, recurses := true, apart := false, narrowed := true }
def LatchLeavesUptoSaid : Prop := latchLeavesUptoRow.holds Try.pinned (OpenSpec.upto latchLeavesSpec)

/-- 'hedgerowlaw25.LatchHolds', WHERE WHAT IT READS IS OF BULK AT MOST 1048576: true; the input reads as it did. -/
def latchHoldsUptoRow : OpenClaim := { program := "ytcchffdnbamkoaa", sum := "4e897d4041dd3d9b71cdb7f71a5b1d0671728f018273f0bc6e23ec678ccaa9a6", func := "hedgerow/hedgerowlaw25.LatchHolds", spec := "latchHolds", unfollowed := true, recurses := true, apart := false, narrowed := true }
def LatchHoldsUptoSaid : Prop := latchHoldsUptoRow.holds Try.pinned (OpenSpec.upto latchHoldsSpec)

end Rows
end Go.Proofs.Ytcchffdnbamkoaa
