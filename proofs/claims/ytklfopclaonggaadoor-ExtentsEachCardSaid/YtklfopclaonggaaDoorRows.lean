/-
  NARROWER THAN 'FOR EVERY INPUT', by the rows' own cells (each row's printed sentence says how): ExtentsChecks: laid · ExtentsEach: laid · ExtentsPuts: laid · ExtentsCuts: laid · ExtentsWords: laid · ExtentsHolds: laid.
  DERIVED. THE GIVEN ROWS OF THIS SEAT. 6 by the template 'for every input the law returns true; each argument reads behind the call as it read before'; 0 by the template 'total and deterministic' (their statements: YtklfopclaonggaaDoorTotals.lean).
  GIVEN WITH THE SEED: the statements are not yours to turn. If you find one false, say at which input.
  Laid BY PROGRAM, IN A SANDBOX (cutbox-rows.mjs): the forced cells as the released guide's own fill.sh prints them over the translation b21925ead0476268… (all of the seat's roots in one cut). By AI agents, Wed Nov 11 2026. No macro, syntax, notation, axiom, sorry.
-/
import Derived.Test.YtklfopclaonggaaDoorChecked
import GoSem.Claim
import GoSem.ClaimJoined
import GoSem.ClaimMapViews
import Derived.JoinedTies
import Derived.KernelRfl
namespace Go.Proofs.YtklfopclaonggaaDoor
/- THE CELL 'sum', in the pinned program and in every row, IS THE sha256 OF THE DUMP (.gsa) THAT YtklfopclaonggaaDoorProg.lean LOADS. Nothing in Lean hashes anything: it is a label: what it is worth is what the hold of that sum in a sandbox is worth. -/
noncomputable def Tryd.pinned : Pinned := { name := "ytklfopclaonggaadoor", sum := "b21925ead0476268e3ee5ecaef5bbf31f91f18a7d5c5dc98a3b41e0ea2216ad2", checked := Tryd.checked }
namespace Rows
def none {H : Type} : Left H := { results := [], args := [] }

/- WHAT THE LISTED PACKAGE-LEVEL VARIABLES READ AS WHEN THE CALL BEGINS. Each datum BY PROGRAM (the guide's laid-datum.mjs) off the statement by which the dump's own 'gosem.cut.vars' lays the variable. In a bare row this is a premise. The card (YtklfopclaonggaaDoorCards.lean) ties it to the program's text. -/
def laid_hedgerow_extents_widths {H : Type} : DataW H := .agg [.lit (.int .i64 16), .lit (.int .i64 24), .lit (.int .i64 16)]

/-- 'hedgerowlaw06.ExtentsChecks': WHATEVER THE INPUT: true; the input reads as it did. -/
def extentsChecksSpec : ChangeSpec := { name := "extentsChecks", fn := fun _ => fun
  | [d1, d2] => { results := [.lit (.bool true)], args := [d1, d2] }
  | _ => none }
def extentsChecksRow : OpenClaim := { program := "ytklfopclaonggaadoor", sum := "b21925ead0476268e3ee5ecaef5bbf31f91f18a7d5c5dc98a3b41e0ea2216ad2", func := "hedgerow/hedgerowlaw06.ExtentsChecks", spec := "extentsChecks", unfollowed := true, recurses := true, named := ["hedgerow/extents.widths"], apart := false, laid := [("hedgerow/extents.widths", laid_hedgerow_extents_widths)] }
def ExtentsChecksSaid : Prop := extentsChecksRow.holds Tryd.pinned (OpenSpec.ofChange extentsChecksSpec)

/-- ITS FALSE NEIGHBOUR: 'it returns false'. Refute it at one input. -/
def extentsChecksWrong : ChangeSpec := { name := "extentsChecks", fn := fun _ => fun
  | [d1, d2] => { results := [.lit (.bool false)], args := [d1, d2] }
  | _ => none }
def ExtentsChecksWrongFalsely : Prop := extentsChecksRow.holds Tryd.pinned (OpenSpec.ofChange extentsChecksWrong)

/-- 'hedgerowlaw06.ExtentsEach': WHATEVER THE INPUT: true; the input reads as it did. -/
def extentsEachSpec : ChangeSpec := { name := "extentsEach", fn := fun _ => fun
  | [d1, d2] => { results := [.lit (.bool true)], args := [d1, d2] }
  | _ => none }
def extentsEachRow : OpenClaim := { program := "ytklfopclaonggaadoor", sum := "b21925ead0476268e3ee5ecaef5bbf31f91f18a7d5c5dc98a3b41e0ea2216ad2", func := "hedgerow/hedgerowlaw06.ExtentsEach", spec := "extentsEach", unfollowed := true, recurses := true, named := ["hedgerow/extents.widths"], apart := false, laid := [("hedgerow/extents.widths", laid_hedgerow_extents_widths)] }
def ExtentsEachSaid : Prop := extentsEachRow.holds Tryd.pinned (OpenSpec.ofChange extentsEachSpec)

/-- ITS FALSE NEIGHBOUR: 'it returns false'. Refute it at one input. -/
def extentsEachWrong : ChangeSpec := { name := "extentsEach", fn := fun _ => fun
  | [d1, d2] => { results := [.lit (.bool false)], args := [d1, d2] }
  | _ => none }
def ExtentsEachWrongFalsely : Prop := extentsEachRow.holds Tryd.pinned (OpenSpec.ofChange extentsEachWrong)

/-- 'hedgerowlaw06.ExtentsPuts': WHATEVER THE INPUT: true; the input reads as it did. -/
def extentsPutsSpec : ChangeSpec := { name := "extentsPuts", fn := fun _ => fun
  | [d1, d2] => { results := [.lit (.bool true)], args := [d1, d2] }
  | _ => none }
def extentsPutsRow : OpenClaim := { program := "ytklfopclaonggaadoor", sum := "b21925ead0476268e3ee5ecaef5bbf31f91f18a7d5c5dc98a3b41e0ea2216ad2", func := "hedgerow/hedgerowlaw06.ExtentsPuts", spec := "extentsPuts", unfollowed := true, recurses := true, named := ["hedgerow/extents.widths"], apart := false, laid := [("hedgerow/extents.widths", laid_hedgerow_extents_widths)] }
def ExtentsPutsSaid : Prop := extentsPutsRow.holds Tryd.pinned (OpenSpec.ofChange extentsPutsSpec)

/-- ITS FALSE NEIGHBOUR: 'it returns false'. Refute it at one input. -/
def extentsPutsWrong : ChangeSpec := { name := "extentsPuts", fn := fun _ => fun
  | [d1, d2] => { results := [.lit (.bool false)], args := [d1, d2] }
  | _ => none }
def ExtentsPutsWrongFalsely : Prop := extentsPutsRow.holds Tryd.pinned (OpenSpec.ofChange extentsPutsWrong)

/-- 'hedgerowlaw06.ExtentsCuts': WHATEVER THE INPUT: true; the input reads as it did. -/
def extentsCutsSpec : ChangeSpec := { name := "extentsCuts", fn := fun _ => fun
  | [d1, d2] => { results := [.lit (.bool true)], args := [d1, d2] }
  | _ => none }
def extentsCutsRow : OpenClaim := { program := "ytklfopclaonggaadoor", sum := "b21925ead0476268e3ee5ecaef5bbf31f91f18a7d5c5dc98a3b41e0ea2216ad2", func := "hedgerow/hedgerowlaw06.ExtentsCuts", spec := "extentsCuts", unfollowed := true, recurses := true, named := ["hedgerow/extents.widths"], apart := false, laid := [("hedgerow/extents.widths", laid_hedgerow_extents_widths)] }
def ExtentsCutsSaid : Prop := extentsCutsRow.holds Tryd.pinned (OpenSpec.ofChange extentsCutsSpec)

/-- ITS FALSE NEIGHBOUR: 'it returns false'. Refute it at one input. -/
def extentsCutsWrong : ChangeSpec := { name := "extentsCuts", fn := fun _ => fun
  | [d1, d2] => { results := [.lit (.bool false)], args := [d1, d2] }
  | _ => none }
def ExtentsCutsWrongFalsely : Prop := extentsCutsRow.holds Tryd.pinned (OpenSpec.ofChange extentsCutsWrong)

/-- 'hedgerowlaw06.ExtentsWords': WHATEVER THE INPUT: true; the input reads as it did. -/
def extentsWordsSpec : ChangeSpec := { name := "extentsWords", fn := fun _ => fun
  | [d1, d2] => { results := [.lit (.bool true)], args := [d1, d2] }
  | _ => none }
def extentsWordsRow : OpenClaim := { program := "ytklfopclaonggaadoor", sum := "b21925ead0476268e3ee5ecaef5bbf31f91f18a7d5c5dc98a3b41e0ea2216ad2", func := "hedgerow/hedgerowlaw06.ExtentsWords", spec := "extentsWords", unfollowed := true, recurses := true, named := ["hedgerow/extents.widths"], apart := false, laid := [("hedgerow/extents.widths", laid_hedgerow_extents_widths)] }
def ExtentsWordsSaid : Prop := extentsWordsRow.holds Tryd.pinned (OpenSpec.ofChange extentsWordsSpec)

/-- ITS FALSE NEIGHBOUR: 'it returns false'. Refute it at one input. -/
def extentsWordsWrong : ChangeSpec := { name := "extentsWords", fn := fun _ => fun
  | [d1, d2] => { results := [.lit (.bool false)], args := [d1, d2] }
  | _ => none }
def ExtentsWordsWrongFalsely : Prop := extentsWordsRow.holds Tryd.pinned (OpenSpec.ofChange extentsWordsWrong)

/-- 'hedgerowlaw06.ExtentsHolds': WHATEVER THE INPUT: true; the input reads as it did. -/
def extentsHoldsSpec : ChangeSpec := { name := "extentsHolds", fn := fun _ => fun
  | [d1, d2, d3] => { results := [.lit (.bool true)], args := [d1, d2, d3] }
  | _ => none }
def extentsHoldsRow : OpenClaim := { program := "ytklfopclaonggaadoor", sum := "b21925ead0476268e3ee5ecaef5bbf31f91f18a7d5c5dc98a3b41e0ea2216ad2", func := "hedgerow/hedgerowlaw06.ExtentsHolds", spec := "extentsHolds", unfollowed := true, recurses := true, named := ["hedgerow/extents.widths"], apart := false, laid := [("hedgerow/extents.widths", laid_hedgerow_extents_widths)] }
def ExtentsHoldsSaid : Prop := extentsHoldsRow.holds Tryd.pinned (OpenSpec.ofChange extentsHoldsSpec)

/-- ITS FALSE NEIGHBOUR: 'it returns false'. Refute it at one input. -/
def extentsHoldsWrong : ChangeSpec := { name := "extentsHolds", fn := fun _ => fun
  | [d1, d2, d3] => { results := [.lit (.bool false)], args := [d1, d2, d3] }
  | _ => none }
def ExtentsHoldsWrongFalsely : Prop := extentsHoldsRow.holds Tryd.pinned (OpenSpec.ofChange extentsHoldsWrong)

/- THE SECOND FORM. 'bulk': how many values and letters a reading holds, each counted each time it is reached (what is shared counts as often as it is met; a slice's spare places count too). A statement '..UptoSaid' is the law's where the arguments, and the package variables that the reading takes, are together of bulk at most 1048576: NARROWER than '..Said'. Prove '..Said' where nothing that the law and all that it calls make is longer than what came in: it says more and counts as full. Else prove '..UptoSaid'. A law counts once. -/
mutual
def uptoBulk {H : Type} : DataW H → Nat
  | .lit (.string bytes) => bytes.length + 1
  | .lit _ => 1
  | .nil => 1
  | .ptr d => uptoBulk d + 1
  | .slice elems spare => uptoBulkAll elems + uptoBulkAll spare + 1
  | .agg parts => uptoBulkAll parts + 1
  | .iface _ d => uptoBulk d + 1
  | .map entries => uptoBulkEntries entries + 1
  | .held _ => 1
def uptoBulkAll {H : Type} : List (DataW H) → Nat
  | [] => 0
  | d :: r => uptoBulk d + uptoBulkAll r
def uptoBulkEntries {H : Type} : List (Lit × DataW H) → Nat
  | [] => 0
  | x :: r => uptoBulkEntry x + uptoBulkEntries r
def uptoBulkEntry {H : Type} : Lit × DataW H → Nat
  | (.string bytes, d) => bytes.length + uptoBulk d + 1
  | (_, d) => uptoBulk d + 1
 end
def uptoSmall : (H : Type) → List (DataW H) → Bool := fun _ ds => decide (uptoBulkAll ds ≤ 1048576)
def OpenSpec.upto (s : _root_.Go.ChangeSpec) : _root_.Go.OpenSpec := { _root_.Go.OpenSpec.ofChange s with cond := some uptoSmall }

/-- 'hedgerowlaw06.ExtentsChecks', WHERE WHAT IT READS IS OF BULK AT MOST 1048576: true; the input reads as it did. -/
def extentsChecksUptoRow : OpenClaim := { program := "ytklfopclaonggaadoor", sum := "b21925ead0476268e3ee5ecaef5bbf31f91f18a7d5c5dc98a3b41e0ea2216ad2", func := "hedgerow/hedgerowlaw06.ExtentsChecks", spec := "extentsChecks", unfollowed := true, recurses := true, named := ["hedgerow/extents.widths"], apart := false, laid := [("hedgerow/extents.widths", laid_hedgerow_extents_widths)], narrowed := true }
def ExtentsChecksUptoSaid : Prop := extentsChecksUptoRow.holds Tryd.pinned (OpenSpec.upto extentsChecksSpec)

/-- 'hedgerowlaw06.ExtentsEach', WHERE WHAT IT READS IS OF BULK AT MOST 1048576: true; the input reads as it did. -/
def extentsEachUptoRow : OpenClaim := { program := "ytklfopclaonggaadoor", sum := "b21925ead0476268e3ee5ecaef5bbf31f91f18a7d5c5dc98a3b41e0ea2216ad2", func := "hedgerow/hedgerowlaw06.ExtentsEach", spec := "extentsEach", unfollowed := true, recurses := true, named := ["hedgerow/extents.widths"], apart := false, laid := [("hedgerow/extents.widths", laid_hedgerow_extents_widths)], narrowed := true }
def ExtentsEachUptoSaid : Prop := extentsEachUptoRow.holds Tryd.pinned (OpenSpec.upto extentsEachSpec)

/-- 'hedgerowlaw06.ExtentsPuts', WHERE WHAT IT READS IS OF BULK AT MOST 1048576: true; the input reads as it did. -/
def extentsPutsUptoRow : OpenClaim := { program := "ytklfopclaonggaadoor", sum := "b21925ead0476268e3ee5ecaef5bbf31f91f18a7d5c5dc98a3b41e0ea2216ad2", func := "hedgerow/hedgerowlaw06.ExtentsPuts", spec := "extentsPuts", unfollowed := true, recurses := true, named := ["hedgerow/extents.widths"], apart := false, laid := [("hedgerow/extents.widths", laid_hedgerow_extents_widths)], narrowed := true }
def ExtentsPutsUptoSaid : Prop := extentsPutsUptoRow.holds Tryd.pinned (OpenSpec.upto extentsPutsSpec)

/-- 'hedgerowlaw06.ExtentsCuts', WHERE WHAT IT READS IS OF BULK AT MOST 1048576: true; the input reads as it did. -/
def extentsCutsUptoRow : OpenClaim := { program := "ytklfopclaonggaadoor", sum := "b21925ead0476268e3ee5ecaef5bbf31f91f18a7d5c5dc98a3b41e0ea2216ad2", func := "hedgerow/hedgerowlaw06.ExtentsCuts", spec := "extentsCuts", unfollowed := true, recurses := true, named := ["hedgerow/extents.widths"], apart := false, laid := [("hedgerow/extents.widths", laid_hedgerow_extents_widths)], narrowed := true }
def ExtentsCutsUptoSaid : Prop := extentsCutsUptoRow.holds Tryd.pinned (OpenSpec.upto extentsCutsSpec)

/-- 'hedgerowlaw06.ExtentsWords', WHERE WHAT IT READS IS OF BULK AT MOST 1048576: true; the input reads as it did. -/
def extentsWordsUptoRow : OpenClaim := { program := "ytklfopclaonggaadoor", sum := "b21925ead0476268e3ee5ecaef5bbf31f91f18a7d5c5dc98a3b41e0ea2216ad2", func := "hedgerow/hedgerowlaw06.ExtentsWords", spec := "extentsWords", unfollowed := true, recurses := true, named := ["hedgerow/extents.widths"], apart := false, laid := [("hedgerow/extents.widths", laid_hedgerow_extents_widths)], narrowed := true }
def ExtentsWordsUptoSaid : Prop := extentsWordsUptoRow.holds Tryd.pinned (OpenSpec.upto extentsWordsSpec)

/-- 'hedgerowlaw06.ExtentsHolds', WHERE WHAT IT READS IS OF BULK AT MOST 1048576: true; the input reads as it did. -/
def extentsHoldsUptoRow : OpenClaim := { program := "ytklfopclaonggaadoor", sum := "b21925ead0476268e3ee5ecaef5bbf31f91f18a7d5c5dc98a3b41e0ea2216ad2", func := "hedgerow/hedgerowlaw06.ExtentsHolds", spec := "extentsHolds", unfollowed := true, recurses := true, named := ["hedgerow/extents.widths"], apart := false, laid := [("hedgerow/extents.widths", laid_hedgerow_extents_widths)], narrowed := true }
def ExtentsHoldsUptoSaid : Prop := extentsHoldsUptoRow.holds Tryd.pinned (OpenSpec.upto extentsHoldsSpec)

end Rows
end Go.Proofs.YtklfopclaonggaaDoor
