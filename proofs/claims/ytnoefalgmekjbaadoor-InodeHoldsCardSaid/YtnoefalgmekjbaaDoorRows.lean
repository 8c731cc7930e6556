/-
  NARROWER THAN 'FOR EVERY INPUT', by the rows' own cells (each row's printed sentence says how): InodeWords: laid · InodeReads: laid · InodeStores: laid · InodeLinked: laid · InodeSame: laid · InodeHolds: laid.
  DERIVED. THE GIVEN ROWS OF THIS SEAT. 6 by the template 'for every input the law returns true; each argument reads behind the call as it read before'; 0 by the template 'total and deterministic' (their statements: YtnoefalgmekjbaaDoorTotals.lean).
  GIVEN WITH THE SEED: the statements are not yours to turn. If you find one false, say at which input.
  Laid BY PROGRAM, IN A SANDBOX (cutbox-rows.mjs): the forced cells as the released guide's own fill.sh prints them over the translation 978b39ebfe52d67c… (all of the seat's roots in one cut). By AI agents, Wed Nov 11 2026. No macro, syntax, notation, axiom, sorry.
-/
import Derived.Test.YtnoefalgmekjbaaDoorChecked
import GoSem.Claim
import GoSem.ClaimJoined
import GoSem.ClaimMapViews
import Derived.JoinedTies
import Derived.KernelRfl
namespace Go.Proofs.YtnoefalgmekjbaaDoor
/- THE CELL 'sum', in the pinned program and in every row, IS THE sha256 OF THE DUMP (.gsa) THAT YtnoefalgmekjbaaDoorProg.lean LOADS. Nothing in Lean hashes anything: it is a label: what it is worth is what the hold of that sum in a sandbox is worth. -/
noncomputable def Tryd.pinned : Pinned := { name := "ytnoefalgmekjbaadoor", sum := "978b39ebfe52d67c7537a33d087c6104281b71cb20839d415311f2cd2f0f2772", checked := Tryd.checked }
namespace Rows
def none {H : Type} : Left H := { results := [], args := [] }

/- WHAT THE LISTED PACKAGE-LEVEL VARIABLES READ AS WHEN THE CALL BEGINS. Each datum BY PROGRAM (the guide's laid-datum.mjs) off the statement by which the dump's own 'gosem.cut.vars' lays the variable. In a bare row this is a premise. The card (YtnoefalgmekjbaaDoorCards.lean) ties it to the program's text. -/
def laid_hedgerow_extents_widths {H : Type} : DataW H := .agg [.lit (.int .i64 16), .lit (.int .i64 24), .lit (.int .i64 16)]

/-- 'hedgerowlaw14.InodeWords': WHATEVER THE INPUT: true; the input reads as it did. -/
def inodeWordsSpec : ChangeSpec := { name := "inodeWords", fn := fun _ => fun
  | [d] => { results := [.lit (.bool true)], args := [d] }
  | _ => none }
def inodeWordsRow : OpenClaim := { program := "ytnoefalgmekjbaadoor", sum := "978b39ebfe52d67c7537a33d087c6104281b71cb20839d415311f2cd2f0f2772", func := "hedgerow/hedgerowlaw14.InodeWords", spec := "inodeWords", inPlace := ["internal/bytealg.IndexByteString"], unfollowed := true, recurses := true, named := ["hedgerow/extents.widths"], apart := false, laid := [("hedgerow/extents.widths", laid_hedgerow_extents_widths)] }
def InodeWordsSaid : Prop := inodeWordsRow.holds Tryd.pinned (OpenSpec.ofChange inodeWordsSpec)

/-- ITS FALSE NEIGHBOUR: 'it returns false'. Refute it at one input. -/
def inodeWordsWrong : ChangeSpec := { name := "inodeWords", fn := fun _ => fun
  | [d] => { results := [.lit (.bool false)], args := [d] }
  | _ => none }
def InodeWordsWrongFalsely : Prop := inodeWordsRow.holds Tryd.pinned (OpenSpec.ofChange inodeWordsWrong)

/-- 'hedgerowlaw14.InodeReads': WHATEVER THE INPUT: true; the input reads as it did. -/
def inodeReadsSpec : ChangeSpec := { name := "inodeReads", fn := fun _ => fun
  | [d] => { results := [.lit (.bool true)], args := [d] }
  | _ => none }
def inodeReadsRow : OpenClaim := { program := "ytnoefalgmekjbaadoor", sum := "978b39ebfe52d67c7537a33d087c6104281b71cb20839d415311f2cd2f0f2772", func := "hedgerow/hedgerowlaw14.InodeReads", spec := "inodeReads", inPlace := ["internal/bytealg.IndexByteString"], unfollowed := true, recurses := true, named := ["hedgerow/extents.widths"], apart := false, laid := [("hedgerow/extents.widths", laid_hedgerow_extents_widths)] }
def InodeReadsSaid : Prop := inodeReadsRow.holds Tryd.pinned (OpenSpec.ofChange inodeReadsSpec)

/-- ITS FALSE NEIGHBOUR: 'it returns false'. Refute it at one input. -/
def inodeReadsWrong : ChangeSpec := { name := "inodeReads", fn := fun _ => fun
  | [d] => { results := [.lit (.bool false)], args := [d] }
  | _ => none }
def InodeReadsWrongFalsely : Prop := inodeReadsRow.holds Tryd.pinned (OpenSpec.ofChange inodeReadsWrong)

/-- 'hedgerowlaw14.InodeStores': WHATEVER THE INPUT: true; the input reads as it did. -/
def inodeStoresSpec : ChangeSpec := { name := "inodeStores", fn := fun _ => fun
  | [d1, d2, d3] => { results := [.lit (.bool true)], args := [d1, d2, d3] }
  | _ => none }
def inodeStoresRow : OpenClaim := { program := "ytnoefalgmekjbaadoor", sum := "978b39ebfe52d67c7537a33d087c6104281b71cb20839d415311f2cd2f0f2772", func := "hedgerow/hedgerowlaw14.InodeStores", spec := "inodeStores", inPlace := ["internal/bytealg.IndexByteString"], unfollowed := true, recurses := true, named := ["hedgerow/extents.widths"], apart := false, laid := [("hedgerow/extents.widths", laid_hedgerow_extents_widths)] }
def InodeStoresSaid : Prop := inodeStoresRow.holds Tryd.pinned (OpenSpec.ofChange inodeStoresSpec)

/-- ITS FALSE NEIGHBOUR: 'it returns false'. Refute it at one input. -/
def inodeStoresWrong : ChangeSpec := { name := "inodeStores", fn := fun _ => fun
  | [d1, d2, d3] => { results := [.lit (.bool false)], args := [d1, d2, d3] }
  | _ => none }
def InodeStoresWrongFalsely : Prop := inodeStoresRow.holds Tryd.pinned (OpenSpec.ofChange inodeStoresWrong)

/-- 'hedgerowlaw14.InodeLinked': WHATEVER THE INPUT: true; the input reads as it did. -/
def inodeLinkedSpec : ChangeSpec := { name := "inodeLinked", fn := fun _ => fun
  | [d1, d2] => { results := [.lit (.bool true)], args := [d1, d2] }
  | _ => none }
def inodeLinkedRow : OpenClaim := { program := "ytnoefalgmekjbaadoor", sum := "978b39ebfe52d67c7537a33d087c6104281b71cb20839d415311f2cd2f0f2772", func := "hedgerow/hedgerowlaw14.InodeLinked", spec := "inodeLinked", inPlace := ["internal/bytealg.IndexByteString"], unfollowed := true, recurses := true, named := ["hedgerow/extents.widths"], apart := false, laid := [("hedgerow/extents.widths", laid_hedgerow_extents_widths)] }
def InodeLinkedSaid : Prop := inodeLinkedRow.holds Tryd.pinned (OpenSpec.ofChange inodeLinkedSpec)

/-- ITS FALSE NEIGHBOUR: 'it returns false'. Refute it at one input. -/
def inodeLinkedWrong : ChangeSpec := { name := "inodeLinked", fn := fun _ => fun
  | [d1, d2] => { results := [.lit (.bool false)], args := [d1, d2] }
  | _ => none }
def InodeLinkedWrongFalsely : Prop := inodeLinkedRow.holds Tryd.pinned (OpenSpec.ofChange inodeLinkedWrong)

/-- 'hedgerowlaw14.InodeSame': WHATEVER THE INPUT: true; the input reads as it did. -/
def inodeSameSpec : ChangeSpec := { name := "inodeSame", fn := fun _ => fun
  | [d1, d2] => { results := [.lit (.bool true)], args := [d1, d2] }
  | _ => none }
def inodeSameRow : OpenClaim := { program := "ytnoefalgmekjbaadoor", sum := "978b39ebfe52d67c7537a33d087c6104281b71cb20839d415311f2cd2f0f2772", func := "hedgerow/hedgerowlaw14.InodeSame", spec := "inodeSame", inPlace := ["internal/bytealg.IndexByteString"], unfollowed := true, recurses := true, named := ["hedgerow/extents.widths"], apart := false, laid := [("hedgerow/extents.widths", laid_hedgerow_extents_widths)] }
def InodeSameSaid : Prop := inodeSameRow.holds Tryd.pinned (OpenSpec.ofChange inodeSameSpec)

/-- ITS FALSE NEIGHBOUR: 'it returns false'. Refute it at one input. -/
def inodeSameWrong : ChangeSpec := { name := "inodeSame", fn := fun _ => fun
  | [d1, d2] => { results := [.lit (.bool false)], args := [d1, d2] }
  | _ => none }
def InodeSameWrongFalsely : Prop := inodeSameRow.holds Tryd.pinned (OpenSpec.ofChange inodeSameWrong)

/-- 'hedgerowlaw14.InodeHolds': WHATEVER THE INPUT: true; the input reads as it did. -/
def inodeHoldsSpec : ChangeSpec := { name := "inodeHolds", fn := fun _ => fun
  | [d1, d2, d3] => { results := [.lit (.bool true)], args := [d1, d2, d3] }
  | _ => none }
def inodeHoldsRow : OpenClaim := { program := "ytnoefalgmekjbaadoor", sum := "978b39ebfe52d67c7537a33d087c6104281b71cb20839d415311f2cd2f0f2772", func := "hedgerow/hedgerowlaw14.InodeHolds", spec := "inodeHolds", inPlace := ["internal/bytealg.IndexByteString"], unfollowed := true, recurses := true, named := ["hedgerow/extents.widths"], apart := false, laid := [("hedgerow/extents.widths", laid_hedgerow_extents_widths)] }
def InodeHoldsSaid : Prop := inodeHoldsRow.holds Tryd.pinned (OpenSpec.ofChange inodeHoldsSpec)

/-- ITS FALSE NEIGHBOUR: 'it returns false'. Refute it at one input. -/
def inodeHoldsWrong : ChangeSpec := { name := "inodeHolds", fn := fun _ => fun
  | [d1, d2, d3] => { results := [.lit (.bool false)], args := [d1, d2, d3] }
  | _ => none }
def InodeHoldsWrongFalsely : Prop := inodeHoldsRow.holds Tryd.pinned (OpenSpec.ofChange inodeHoldsWrong)

/- THE SECOND FORM. 'bulk': how many values and letters a reading holds, each counted each time it is reached (what is shared counts as often as it is met; a slice's spare places count too). A statement '..UptoSaid' is the law's where the arguments, and the package variables that the reading takes, are together of bulk at most 1048576: NARROWER than '..Said'. Prove '..Said' where nothing that the law and all that it calls make is longer than what came in: it says more and counts as full. Else prove '..UptoSaid'. A law counts once. -/
mutual
def uptoBulk {H : Type} : DataW H → Nat
  | .lit (.string bytes) => bytes.length + 1
  | .lit _ => 1
  | .nil => 1
  | .ptr d => uptoBulk d + 1
  | .slice elems spare => uptoBulkAll elems + uptoBulkAll spare + 1
  | .agg parts => uptoBulkAll parts + 1
  | .iface _ d => uptoBulk d + 1
  | .map entries => uptoBulkEntries entries + 1
  | .held _ => 1
def uptoBulkAll {H : Type} : List (DataW H) → Nat
  | [] => 0
  | d :: r => uptoBulk d + uptoBulkAll r
def uptoBulkEntries {H : Type} : List (Lit × DataW H) → Nat
  | [] => 0
  | x :: r => uptoBulkEntry x + uptoBulkEntries r
def uptoBulkEntry {H : Type} : Lit × DataW H → Nat
  | (.string bytes, d) => bytes.length + uptoBulk d + 1
  | (_, d) => uptoBulk d + 1
 end
def uptoSmall : (H : Type) → List (DataW H) → Bool := fun _ ds => decide (uptoBulkAll ds ≤ 1048576)
def OpenSpec.upto (s : _root_.Go.ChangeSpec) : _root_.Go.OpenSpec := { _root_.Go.OpenSpec.ofChange s with cond := some uptoSmall }

/-- 'hedgerowlaw14.InodeWords', WHERE WHAT IT READS IS OF BULK AT MOST 1048576: true; the input reads as it did. -/
def inodeWordsUptoRow : OpenClaim := { program := "ytnoefalgmekjbaadoor", sum := "978b39ebfe52d67c7537a33d087c6104281b71cb20839d415311f2cd2f0f2772", func := "hedgerow/hedgerowlaw14.InodeWords", spec := "inodeWords", inPlace := ["internal/bytealg.IndexByteString"], unfollowed := true, recurses := true, named := ["hedgerow/extents.widths"], apart := false, laid := [("hedgerow/extents.widths", laid_hedgerow_extents_widths)], narrowed := true }
def InodeWordsUptoSaid : Prop := inodeWordsUptoRow.holds Tryd.pinned (OpenSpec.upto inodeWordsSpec)

/-- 'hedgerowlaw14.InodeReads', WHERE WHAT IT READS IS OF BULK AT MOST 1048576: true; the input reads as it did. -/
def inodeReadsUptoRow : OpenClaim := { program := "ytnoefalgmekjbaadoor", sum := "978b39ebfe52d67c7537a33d087c6104281b71cb20839d415311f2cd2f0f2772", func := "hedgerow/hedgerowlaw14.InodeReads", spec := "inodeReads", inPlace := ["internal/bytealg.IndexByteString"], unfollowed := true, recurses := true, named := ["hedgerow/extents.widths"], apart := false, laid := [("hedgerow/extents.widths", laid_hedgerow_extents_widths)], narrowed := true }
def InodeReadsUptoSaid : Prop := inodeReadsUptoRow.holds Tryd.pinned (OpenSpec.upto inodeReadsSpec)

/-- 'hedgerowlaw14.InodeStores', WHERE WHAT IT READS IS OF BULK AT MOST 1048576: true; the input reads as it did. -/
def inodeStoresUptoRow : OpenClaim := { program := "ytnoefalgmekjbaadoor", sum := "978b39ebfe52d67c7537a33d087c6104281b71cb20839d415311f2cd2f0f2772", func := "hedgerow/hedgerowlaw14.InodeStores", spec := "inodeStores", inPlace := ["internal/bytealg.IndexByteString"], unfollowed := true, recurses := true, named := ["hedgerow/extents.widths"], apart := false, laid := [("hedgerow/extents.widths", laid_hedgerow_extents_widths)], narrowed := true }
def InodeStoresUptoSaid : Prop := inodeStoresUptoRow.holds Tryd.pinned (OpenSpec.upto inodeStoresSpec)

/-- 'hedgerowlaw14.InodeLinked', WHERE WHAT IT READS IS OF BULK AT MOST 1048576: true; the input reads as it did. -/
def inodeLinkedUptoRow : OpenClaim := { program := "ytnoefalgmekjbaadoor", sum := "978b39ebfe52d67c7537a33d087c6104281b71cb20839d415311f2cd2f0f2772", func := "hedgerow/hedgerowlaw14.InodeLinked", spec := "inodeLinked", inPlace := ["internal/bytealg.IndexByteString"], unfollowed := true, recurses := true, named := ["hedgerow/extents.widths"], apart := false, laid := [("hedgerow/extents.widths", laid_hedgerow_extents_widths)], narrowed := true }
def InodeLinkedUptoSaid : Prop := inodeLinkedUptoRow.holds Tryd.pinned (OpenSpec.upto inodeLinkedSpec)

/-- 'hedgerowlaw14.InodeSame', WHERE WHAT IT READS IS OF BULK AT MOST 1048576: true; the input reads as it did. -/
def inodeSameUptoRow : OpenClaim := { program := "ytnoefalgmekjbaadoor", sum := "978b39ebfe52d67c7537a33d087c6104281b71cb20839d415311f2cd2f0f2772", func := "hedgerow/hedgerowlaw14.InodeSame", spec := "inodeSame", inPlace := ["internal/bytealg.IndexByteString"], unfollowed := true, recurses := true, named := ["hedgerow/extents.widths"], apart := false, laid := [("hedgerow/extents.widths", laid_hedgerow_extents_widths)], narrowed := true }
def InodeSameUptoSaid : Prop := inodeSameUptoRow.holds Tryd.pinned (OpenSpec.upto inodeSameSpec)

/-- 'hedgerowlaw14.InodeHolds', WHERE WHAT IT READS IS OF BULK AT MOST 1048576: true; the input reads as it did. -/
def inodeHoldsUptoRow : OpenClaim := { program := "ytnoefalgmekjbaadoor", sum := "978b39ebfe52d67c7537a33d087c6104281b71cb20839d415311f2cd2f0f2772", func := "hedgerow/hedgerowlaw14.InodeHolds", spec := "inodeHolds", inPlace := ["internal/bytealg.IndexByteString"], unfollowed := true, recurses := true, named := ["hedgerow/extents.widths"], apart := false, laid := [("hedgerow/extents.widths", laid_hedgerow_extents_widths)], narrowed := true }
def InodeHoldsUptoSaid : Prop := inodeHoldsUptoRow.holds Tryd.pinned (OpenSpec.upto inodeHoldsSpec)

end Rows
end Go.Proofs.YtnoefalgmekjbaaDoor
