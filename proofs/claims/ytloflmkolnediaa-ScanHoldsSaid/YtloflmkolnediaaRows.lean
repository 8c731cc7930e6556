/-
  No cell of these rows narrows 'for every input' (looked for: loops, veiled, ifaces, maps, wideKeys, modest, calm, conditions, laid).
  DERIVED. THE GIVEN ROWS OF THIS SEAT. 5 by the template 'for every input the law returns true; each argument reads behind the call as it read before'; 0 by the template 'total and deterministic' (their statements: YtloflmkolnediaaTotals.lean).
  GIVEN WITH THE SEED: the statements are not yours to turn. If you find one false, say at which input.
  Laid BY PROGRAM, IN A SANDBOX (cutbox-rows.mjs): the forced cells as the released guide's own fill.sh prints them over the translation aa3894cc78f65af7… (all of the seat's roots in one cut). By AI agents, Wed Nov 11 2026. No macro, syntax, notation, axiom, sorry.
-/
import Derived.Test.YtloflmkolnediaaChecked
import GoSem.Claim
import GoSem.ClaimJoined
import GoSem.ClaimMapViews
import Derived.JoinedTies
import Derived.KernelRfl
namespace Go.Proofs.Ytloflmkolnediaa
/- THE CELL 'sum', in the pinned program and in every row, IS THE sha256 OF THE DUMP (.gsa) THAT YtloflmkolnediaaProg.lean LOADS. Nothing in Lean hashes anything: it is a label: what it is worth is what the hold of that sum in a sandbox is worth. -/
noncomputable def Try.pinned : Pinned := { name := "ytloflmkolnediaa", sum := "aa3894cc78f65af779071ed74ad2ec337d2a740835670f3ebdb5bf80a4a24368", checked := Try.checked }
namespace Rows
def none {H : Type} : Left H := { results := [], args := [] }

/-- 'hedgerowlaw10.ScanGives': WHATEVER THE INPUT: true; the input reads as it did. -/
def scanGivesSpec : ChangeSpec := { name := "scanGives", fn := fun _ => fun
  | [d1, d2, d3, d4] => { results := [.lit (.bool true)], args := [d1, d2, d3, d4] }
  | _ => none }
def scanGivesRow : OpenClaim := { program := "ytloflmkolnediaa", sum := "aa3894cc78f65af779071ed74ad2ec337d2a740835670f3ebdb5bf80a4a24368", func := "hedgerow/hedgerowlaw10.ScanGives", spec := "scanGives", unfollowed := true, recurses := true, apart := false }
def ScanGivesSaid : Prop := scanGivesRow.holds Try.pinned (OpenSpec.ofChange scanGivesSpec)

/-- ITS FALSE NEIGHBOUR: 'it returns false'. Refute it at one input. -/
def scanGivesWrong : ChangeSpec := { name := "scanGives", fn := fun _ => fun
  | [d1, d2, d3, d4] => { results := [.lit (.bool false)], args := [d1, d2, d3, d4] }
  | _ => none }
def ScanGivesWrongFalsely : Prop := scanGivesRow.holds Try.pinned (OpenSpec.ofChange scanGivesWrong)

/-- 'hedgerowlaw10.ScanLooks': WHATEVER THE INPUT: true; the input reads as it did. -/
def scanLooksSpec : ChangeSpec := { name := "scanLooks", fn := fun _ => fun
  | [d1, d2, d3, d4, d5] => { results := [.lit (.bool true)], args := [d1, d2, d3, d4, d5] }
  | _ => none }
def scanLooksRow : OpenClaim := { program := "ytloflmkolnediaa", sum := "aa3894cc78f65af779071ed74ad2ec337d2a740835670f3ebdb5bf80a4a24368", func := "hedgerow/hedgerowlaw10.ScanLooks", spec := "scanLooks", unfollowed := true, recurses := true, apart := false }
def ScanLooksSaid : Prop := scanLooksRow.holds Try.pinned (OpenSpec.ofChange scanLooksSpec)

/-- ITS FALSE NEIGHBOUR: 'it returns false'. Refute it at one input. -/
def scanLooksWrong : ChangeSpec := { name := "scanLooks", fn := fun _ => fun
  | [d1, d2, d3, d4, d5] => { results := [.lit (.bool false)], args := [d1, d2, d3, d4, d5] }
  | _ => none }
def ScanLooksWrongFalsely : Prop := scanLooksRow.holds Try.pinned (OpenSpec.ofChange scanLooksWrong)

/-- 'hedgerowlaw10.ScanNone': WHATEVER THE INPUT: true; the input reads as it did. -/
def scanNoneSpec : ChangeSpec := { name := "scanNone", fn := fun _ => fun
  | [d] => { results := [.lit (.bool true)], args := [d] }
  | _ => none }
def scanNoneRow : OpenClaim := { program := "ytloflmkolnediaa", sum := "aa3894cc78f65af779071ed74ad2ec337d2a740835670f3ebdb5bf80a4a24368", func := "hedgerow/hedgerowlaw10.ScanNone", spec := "scanNone", unfollowed := true, recurses := true, apart := false }
def ScanNoneSaid : Prop := scanNoneRow.holds Try.pinned (OpenSpec.ofChange scanNoneSpec)

/-- ITS FALSE NEIGHBOUR: 'it returns false'. Refute it at one input. -/
def scanNoneWrong : ChangeSpec := { name := "scanNone", fn := fun _ => fun
  | [d] => { results := [.lit (.bool false)], args := [d] }
  | _ => none }
def ScanNoneWrongFalsely : Prop := scanNoneRow.holds Try.pinned (OpenSpec.ofChange scanNoneWrong)

/-- 'hedgerowlaw10.ScanSettled': WHATEVER THE INPUT: true; the input reads as it did. -/
def scanSettledSpec : ChangeSpec := { name := "scanSettled", fn := fun _ => fun
  | [d1, d2, d3] => { results := [.lit (.bool true)], args := [d1, d2, d3] }
  | _ => none }
def scanSettledRow : OpenClaim := { program := "ytloflmkolnediaa", sum := "aa3894cc78f65af779071ed74ad2ec337d2a740835670f3ebdb5bf80a4a24368", func := "hedgerow/hedgerowlaw10.ScanSettled", spec := "scanSettled", unfollowed := true, recurses := true, apart := false }
def ScanSettledSaid : Prop := scanSettledRow.holds Try.pinned (OpenSpec.ofChange scanSettledSpec)

/-- ITS FALSE NEIGHBOUR: 'it returns false'. Refute it at one input. -/
def scanSettledWrong : ChangeSpec := { name := "scanSettled", fn := fun _ => fun
  | [d1, d2, d3] => { results := [.lit (.bool false)], args := [d1, d2, d3] }
  | _ => none }
def ScanSettledWrongFalsely : Prop := scanSettledRow.holds Try.pinned (OpenSpec.ofChange scanSettledWrong)

/-- 'hedgerowlaw10.ScanHolds': WHATEVER THE INPUT: true; the input reads as it did. -/
def scanHoldsSpec : ChangeSpec := { name := "scanHolds", fn := fun _ => fun
  | [d1, d2, d3, d4, d5, d6] => { results := [.lit (.bool true)], args := [d1, d2, d3, d4, d5, d6] }
  | _ => none }
def scanHoldsRow : OpenClaim := { program := "ytloflmkolnediaa", sum := "aa3894cc78f65af779071ed74ad2ec337d2a740835670f3ebdb5bf80a4a24368", func := "hedgerow/hedgerowlaw10.ScanHolds", spec := "scanHolds", unfollowed := true, recurses := true, apart := false }
def ScanHoldsSaid : Prop := scanHoldsRow.holds Try.pinned (OpenSpec.ofChange scanHoldsSpec)

/-- ITS FALSE NEIGHBOUR: 'it returns false'. Refute it at one input. -/
def scanHoldsWrong : ChangeSpec := { name := "scanHolds", fn := fun _ => fun
  | [d1, d2, d3, d4, d5, d6] => { results := [.lit (.bool false)], args := [d1, d2, d3, d4, d5, d6] }
  | _ => none }
def ScanHoldsWrongFalsely : Prop := scanHoldsRow.holds Try.pinned (OpenSpec.ofChange scanHoldsWrong)

/- THE SECOND FORM. 'bulk': how many values and letters a reading holds, each counted each time it is reached (what is shared counts as often as it is met; a slice's spare places count too). A statement '..UptoSaid' is the law's where the arguments, and the package variables that the reading takes, are together of bulk at most 1048576: NARROWER than '..Said'. Prove '..Said' where nothing that the law and all that it calls make is longer than what came in: it says more and counts as full. Else prove '..UptoSaid'. A law counts once. -/
mutual
def uptoBulk {H : Type} : DataW H → Nat
  | .lit (.string bytes) => bytes.length + 1
  | .lit _ => 1
  | .nil => 1
  | .ptr d => uptoBulk d + 1
  | .slice elems spare => uptoBulkAll elems + uptoBulkAll spare + 1
  | .agg parts => uptoBulkAll parts + 1
  | .iface _ d => uptoBulk d + 1
  | .map entries => uptoBulkEntries entries + 1
  | .held _ => 1
def uptoBulkAll {H : Type} : List (DataW H) → Nat
  | [] => 0
  | d :: r => uptoBulk d + uptoBulkAll r
def uptoBulkEntries {H : Type} : List (Lit × DataW H) → Nat
  | [] => 0
  | x :: r => uptoBulkEntry x + uptoBulkEntries r
def uptoBulkEntry {H : Type} : Lit × DataW H → Nat
  | (.string bytes, d) => bytes.length + uptoBulk d + 1
  | (_, d) => uptoBulk d + 1
 end
def uptoSmall : (H : Type) → List (DataW H) → Bool := fun _ ds => decide (uptoBulkAll ds ≤ 1048576)
def OpenSpec.upto (s : _root_.Go.ChangeSpec) : _root_.Go.OpenSpec := { _root_.Go.OpenSpec.ofChange s with cond := some uptoSmall }

/-- 'hedgerowlaw10.ScanGives', WHERE WHAT IT READS IS OF BULK AT MOST 1048576: true; the input reads as it did. -/
def scanGivesUptoRow : OpenClaim := { program := "ytloflmkolnediaa", sum := "aa3894cc78f65af779071ed74ad2ec337d2a740835670f3ebdb5bf80a4a24368", func := "hedgerow/hedgerowlaw10.ScanGives", spec := "scanGives", unfollowed := true, recurses := true, apart := false, narrowed := true }
def ScanGivesUptoSaid : Prop := scanGivesUptoRow.holds Try.pinned (OpenSpec.upto scanGivesSpec)

/-- 'hedgerowlaw10.ScanLooks', WHERE WHAT IT READS IS OF BULK AT MOST 1048576: true; the input reads as it did. -/
def scanLooksUptoRow : OpenClaim := { program := "ytloflmkolnediaa", sum := "aa3894cc78f65af779071ed74ad2ec337d2a740835670f3ebdb5bf80a4a24368", func := "hedgerow/hedgerowlaw10.ScanLooks", spec := "scanLooks", unfollowed := true, recurses := true, apart := false, narrowed := true }
def ScanLooksUptoSaid : Prop := scanLooksUptoRow.holds Try.pinned (OpenSpec.upto scanLooksSpec)

/-- 'hedgerowlaw10.ScanNone', WHERE WHAT IT READS IS OF BULK AT MOST 1048576: true; the input reads as it did. -/
def scanNoneUptoRow : OpenClaim := { program := "ytloflmkolnediaa", sum := "aa3894cc78f65af779071ed74ad2ec337d2a740835670f3ebdb5bf80a4a24368", func := "hedgerow/hedgerowlaw10.ScanNone", spec := "scanNone", unfollowed := true, recurses := true, apart := false, narrowed := true }
def ScanNoneUptoSaid : Prop := scanNoneUptoRow.holds Try.pinned (OpenSpec.upto scanNoneSpec)

/-- 'hedgerowlaw10.ScanSettled', WHERE WHAT IT READS IS OF BULK AT MOST 1048576: true; the input reads as it did. -/
def scanSettledUptoRow : OpenClaim := { program := "ytloflmkolnediaa", sum := "aa3894cc78f65af779071ed74ad2ec337d2a740835670f3ebdb5bf80a4a24368", func := "hedgerow/hedgerowlaw10.ScanSettled", spec := "scanSettled", unfollowed := true, recurses := true, apart := false, narrowed := true }
def ScanSettledUptoSaid : Prop := scanSettledUptoRow.holds Try.pinned (OpenSpec.upto scanSettledSpec)

/-- 'hedgerowlaw10.ScanHolds', WHERE WHAT IT READS IS OF BULK AT MOST 1048576: true; the input reads as it did. -/
def scanHoldsUptoRow : OpenClaim := { program := "ytloflmkolnediaa", sum := "aa3894cc78f65af779071ed74ad2ec337d2a740835670f3ebdb5bf80a4a24368", func := "hedgerow/hedgerowlaw10.ScanHolds", spec := "scanHolds", unfollowed := true, recurses := true, apart := false, narrowed := true }
def ScanHoldsUptoSaid : Prop := scanHoldsUptoRow.holds Try.pinned (OpenSpec.upto scanHoldsSpec)

end Rows
end Go.Proofs.Ytloflmkolnediaa
