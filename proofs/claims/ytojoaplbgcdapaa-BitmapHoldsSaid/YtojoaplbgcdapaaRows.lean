/-
  No cell of these rows narrows 'for every input' (looked for: loops, veiled, ifaces, maps, wideKeys, modest, calm, conditions, laid).
  DERIVED. THE GIVEN ROWS OF THIS SEAT. 5 by the template 'for every input the law returns true; each argument reads behind the call as it read before'; 0 by the template 'total and deterministic' (their statements: YtojoaplbgcdapaaTotals.lean).
  GIVEN WITH THE SEED: the statements are not yours to turn. If you find one false, say at which input.
  Laid BY PROGRAM, IN A SANDBOX (cutbox-rows.mjs): the forced cells as the released guide's own fill.sh prints them over the translation f112855f123e5128… (all of the seat's roots in one cut). By AI agents, Wed Nov 11 2026. No macro, syntax, notation, axiom, sorry.
-/
import Derived.Test.YtojoaplbgcdapaaChecked
import GoSem.Claim
import GoSem.ClaimJoined
import GoSem.ClaimMapViews
import Derived.JoinedTies
import Derived.KernelRfl
namespace Go.Proofs.Ytojoaplbgcdapaa
/- THE CELL 'sum', in the pinned program and in every row, IS THE sha256 OF THE DUMP (.gsa) THAT YtojoaplbgcdapaaProg.lean LOADS. Nothing in Lean hashes anything: it is a label: what it is worth is what the hold of that sum in a sandbox is worth. -/
noncomputable def Try.pinned : Pinned := { name := "ytojoaplbgcdapaa", sum := "f112855f123e5128d8eb75542c9ce4130dfc00bf8a5aeb95e838385c780966c4", checked := Try.checked }
namespace Rows
def none {H : Type} : Left H := { results := [], args := [] }

/-- 'hedgerowlaw05.BitmapOf': WHATEVER THE INPUT: true; the input reads as it did. -/
def bitmapOfSpec : ChangeSpec := { name := "bitmapOf", fn := fun _ => fun
  | [d1, d2] => { results := [.lit (.bool true)], args := [d1, d2] }
  | _ => none }
def bitmapOfRow : OpenClaim := { program := "ytojoaplbgcdapaa", sum := "f112855f123e5128d8eb75542c9ce4130dfc00bf8a5aeb95e838385c780966c4", func := "hedgerow/hedgerowlaw05.BitmapOf", spec := "bitmapOf", unfollowed := true, recurses := true, apart := false }
def BitmapOfSaid : Prop := bitmapOfRow.holds Try.pinned (OpenSpec.ofChange bitmapOfSpec)

/-- ITS FALSE NEIGHBOUR: 'it returns false'. Refute it at one input. -/
def bitmapOfWrong : ChangeSpec := { name := "bitmapOf", fn := fun _ => fun
  | [d1, d2] => { results := [.lit (.bool false)], args := [d1, d2] }
  | _ => none }
def BitmapOfWrongFalsely : Prop := bitmapOfRow.holds Try.pinned (OpenSpec.ofChange bitmapOfWrong)

/-- 'hedgerowlaw05.BitmapNone': WHATEVER THE INPUT: true; the input reads as it did. -/
def bitmapNoneSpec : ChangeSpec := { name := "bitmapNone", fn := fun _ => fun
  | [d] => { results := [.lit (.bool true)], args := [d] }
  | _ => none }
def bitmapNoneRow : OpenClaim := { program := "ytojoaplbgcdapaa", sum := "f112855f123e5128d8eb75542c9ce4130dfc00bf8a5aeb95e838385c780966c4", func := "hedgerow/hedgerowlaw05.BitmapNone", spec := "bitmapNone", unfollowed := true, recurses := true, apart := false }
def BitmapNoneSaid : Prop := bitmapNoneRow.holds Try.pinned (OpenSpec.ofChange bitmapNoneSpec)

/-- ITS FALSE NEIGHBOUR: 'it returns false'. Refute it at one input. -/
def bitmapNoneWrong : ChangeSpec := { name := "bitmapNone", fn := fun _ => fun
  | [d] => { results := [.lit (.bool false)], args := [d] }
  | _ => none }
def BitmapNoneWrongFalsely : Prop := bitmapNoneRow.holds Try.pinned (OpenSpec.ofChange bitmapNoneWrong)

/-- 'hedgerowlaw05.BitmapLeaves': WHATEVER THE INPUT: true; the input reads as it did. -/
def bitmapLeavesSpec : ChangeSpec := { name := "bitmapLeaves", fn := fun _ => fun
  | [d1, d2] => { results := [.lit (.bool true)], args := [d1, d2] }
  | _ => none }
def bitmapLeavesRow : OpenClaim := { program := "ytojoaplbgcdapaa", sum := "f112855f123e5128d8eb75542c9ce4130dfc00bf8a5aeb95e838385c780966c4", func := "hedgerow/hedgerowlaw05.BitmapLeaves", spec := "bitmapLeaves", unfollowed := true, recurses := true, apart := false }
def BitmapLeavesSaid : Prop := bitmapLeavesRow.holds Try.pinned (OpenSpec.ofChange bitmapLeavesSpec)

/-- ITS FALSE NEIGHBOUR: 'it returns false'. Refute it at one input. -/
def bitmapLeavesWrong : ChangeSpec := { name := "bitmapLeaves", fn := fun _ => fun
  | [d1, d2] => { results := [.lit (.bool false)], args := [d1, d2] }
  | _ => none }
def BitmapLeavesWrongFalsely : Prop := bitmapLeavesRow.holds Try.pinned (OpenSpec.ofChange bitmapLeavesWrong)

/-- 'hedgerowlaw05.BitmapSame': WHATEVER THE INPUT: true; the input reads as it did. -/
def bitmapSameSpec : ChangeSpec := { name := "bitmapSame", fn := fun _ => fun
  | [d1, d2, d3] => { results := [.lit (.bool true)], args := [d1, d2, d3] }
  | _ => none }
def bitmapSameRow : OpenClaim := { program := "ytojoaplbgcdapaa", sum := "f112855f123e5128d8eb75542c9ce4130dfc00bf8a5aeb95e838385c780966c4", func := "hedgerow/hedgerowlaw05.BitmapSame", spec := "bitmapSame", unfollowed := true, recurses := true, apart := false }
def BitmapSameSaid : Prop := bitmapSameRow.holds Try.pinned (OpenSpec.ofChange bitmapSameSpec)

/-- ITS FALSE NEIGHBOUR: 'it returns false'. Refute it at one input. -/
def bitmapSameWrong : ChangeSpec := { name := "bitmapSame", fn := fun _ => fun
  | [d1, d2, d3] => { results := [.lit (.bool false)], args := [d1, d2, d3] }
  | _ => none }
def BitmapSameWrongFalsely : Prop := bitmapSameRow.holds Try.pinned (OpenSpec.ofChange bitmapSameWrong)

/-- 'hedgerowlaw05.BitmapHolds': WHATEVER THE INPUT: true; the input reads as it did. -/
def bitmapHoldsSpec : ChangeSpec := { name := "bitmapHolds", fn := fun _ => fun
  | [d1, d2, d3] => { results := [.lit (.bool true)], args := [d1, d2, d3] }
  | _ => none }
def bitmapHoldsRow : OpenClaim := { program := "ytojoaplbgcdapaa", sum := "f112855f123e5128d8eb75542c9ce4130dfc00bf8a5aeb95e838385c780966c4", func := "hedgerow/hedgerowlaw05.BitmapHolds", spec := "bitmapHolds", unfollowed := true, recurses := true, apart := false }
def BitmapHoldsSaid : Prop := bitmapHoldsRow.holds Try.pinned (OpenSpec.ofChange bitmapHoldsSpec)

/-- ITS FALSE NEIGHBOUR: 'it returns false'. Refute it at one input. -/
def bitmapHoldsWrong : ChangeSpec := { name := "bitmapHolds", fn := fun _ => fun
  | [d1, d2, d3] => { results := [.lit (.bool false)], args := [d1, d2, d3] }
  | _ => none }
def BitmapHoldsWrongFalsely : Prop := bitmapHoldsRow.holds Try.pinned (OpenSpec.ofChange bitmapHoldsWrong)

/- THE SECOND FORM. 'bulk': how many values and letters a reading holds, each counted each time it is reached (what is shared counts as often as it is met; a slice's spare places count too). A statement '..UptoSaid' is the law's where the arguments, and the package variables that the reading takes, are together of bulk at most 1048576: NARROWER than '..Said'. Prove '..Said' where nothing that the law and all that it calls make is longer than what came in: it says more and counts as full. Else prove '..UptoSaid'. A law counts once. -/
mutual
def uptoBulk {H : Type} : DataW H → Nat
  | .lit (.string bytes) => bytes.length + 1
  | .lit _ => 1
  | .nil => 1
  | .ptr d => uptoBulk d + 1
  | .slice elems spare => uptoBulkAll elems + uptoBulkAll spare + 1
  | .agg parts => uptoBulkAll parts + 1
  | .iface _ d => uptoBulk d + 1
  | .map entries => uptoBulkEntries entries + 1
  | .held _ => 1
def uptoBulkAll {H : Type} : List (DataW H) → Nat
  | [] => 0
  | d :: r => uptoBulk d + uptoBulkAll r
def uptoBulkEntries {H : Type} : List (Lit × DataW H) → Nat
  | [] => 0
  | x :: r => uptoBulkEntry x + uptoBulkEntries r
def uptoBulkEntry {H : Type} : Lit × DataW H → Nat
  | (.string bytes, d) => bytes.length + uptoBulk d + 1
  | (_, d) => uptoBulk d + 1
 end
def uptoSmall : (H : Type) → List (DataW H) → Bool := fun _ ds => decide (uptoBulkAll ds ≤ 1048576)
def OpenSpec.upto (s : _root_.Go.ChangeSpec) : _root_.Go.OpenSpec := { _root_.Go.OpenSpec.ofChange s with cond := some uptoSmall }

/-- 'hedgerowlaw05.BitmapOf', WHERE WHAT IT READS IS OF BULK AT MOST 1048576: true; the input reads as it did. -/
def bitmapOfUptoRow : OpenClaim := { program := "ytojoaplbgcdapaa", sum := "f112855f123e5128d8eb75542c9ce4130dfc00bf8a5aeb95e838385c780966c4", func := "hedgerow/hedgerowlaw05.BitmapOf", spec := "bitmapOf", unfollowed := true, recurses := true, apart := false, narrowed := true }
def BitmapOfUptoSaid : Prop := bitmapOfUptoRow.holds Try.pinned (OpenSpec.upto bitmapOfSpec)

/-- 'hedgerowlaw05.BitmapNone', WHERE WHAT IT READS IS OF BULK AT MOST 1048576: true; the input reads as it did. -/
def bitmapNoneUptoRow : OpenClaim := { program := "ytojoaplbgcdapaa", sum := "f112855f123e5128d8eb75542c9ce4130dfc00bf8a5aeb95e838385c780966c4", func := "hedgerow/hedgerowlaw05.BitmapNone", spec := "bitmapNone", unfollowed := true, recurses := true, apart := false, narrowed := true }
def BitmapNoneUptoSaid : Prop := bitmapNoneUptoRow.holds Try.pinned (OpenSpec.upto bitmapNoneSpec)

/-- 'hedgerowlaw05.BitmapLeaves', WHERE WHAT IT READS IS OF BULK AT MOST 1048576: true; the input reads as it did. -/
def bitmapLeavesUptoRow : OpenClaim := { program := "ytojoaplbgcdapaa", sum := "f112855f123e5128d8eb75542c9ce4130dfc00bf8a5aeb95e838385c780966c4", func := "hedgerow/hedgerowlaw05.BitmapLeaves", spec := "bitmapLeaves", unfollowed := true, recurses := true, apart := false, narrowed := true }
def BitmapLeavesUptoSaid : Prop := bitmapLeavesUptoRow.holds Try.pinned (OpenSpec.upto bitmapLeavesSpec)

/-- 'hedgerowlaw05.BitmapSame', WHERE WHAT IT READS IS OF BULK AT MOST 1048576: true; the input reads as it did. -/
def bitmapSameUptoRow : OpenClaim := { program := "ytojoaplbgcdapaa", sum := "f112855f123e5128d8eb75542c9ce4130dfc00bf8a5aeb95e838385c780966c4", func := "hedgerow/hedgerowlaw05.BitmapSame", spec := "bitmapSame", unfollowed := true, recurses := true, apart := false, narrowed := true }
def BitmapSameUptoSaid : Prop := bitmapSameUptoRow.holds Try.pinned (OpenSpec.upto bitmapSameSpec)

/-- 'hedgerowlaw05.BitmapHolds', WHERE WHAT IT READS IS OF BULK AT MOST 1048576: true; the input reads as it did. -/
def bitmapHoldsUptoRow : OpenClaim := { program := "ytojoaplbgcdapaa", sum := "f112855f123e5128d8eb75542c9ce4130dfc00bf8a5aeb95e838385c780966c4", func := "hedgerow/hedgerowlaw05.BitmapHolds", spec := "bitmapHolds", unfollowed := true, recurses := true, apart := false, narrowed := true }
def BitmapHoldsUptoSaid : Prop := bitmapHoldsUptoRow.holds Try.pinned (OpenSpec.upto bitmapHoldsSpec)

end Rows
end Go.Proofs.Ytojoaplbgcdapaa
