/-
  NARROWER THAN 'FOR EVERY INPUT', by the rows' own cells (each row's printed sentence says how): HashSums: laid · HashParts: laid · HashStreams: laid · HashCopies: laid · HashCuts: laid.
  DERIVED. THE GIVEN ROWS OF THIS SEAT. 5 by the template 'for every input the law returns true; each argument reads behind the call as it read before'; 0 by the template 'total and deterministic' (their statements: YtenbohhacenbaaaDoorTotals.lean).
  GIVEN WITH THE SEED: the statements are not yours to turn. If you find one false, say at which input.
  Laid BY PROGRAM, IN A SANDBOX (cutbox-rows.mjs): the forced cells as the released guide's own fill.sh prints them over the translation e01b93449531f07e… (all of the seat's roots in one cut). By AI agents, Wed Nov 11 2026. No macro, syntax, notation, axiom, sorry.
-/
import Derived.Test.YtenbohhacenbaaaDoorChecked
import GoSem.Claim
import GoSem.ClaimJoined
import GoSem.ClaimMapViews
import Derived.JoinedTies
import Derived.KernelRfl
namespace Go.Proofs.YtenbohhacenbaaaDoor
/- THE CELL 'sum', in the pinned program and in every row, IS THE sha256 OF THE DUMP (.gsa) THAT YtenbohhacenbaaaDoorProg.lean LOADS. Nothing in Lean hashes anything: it is a label: what it is worth is what the hold of that sum in a sandbox is worth. -/
noncomputable def Tryd.pinned : Pinned := { name := "ytenbohhacenbaaadoor", sum := "e01b93449531f07e75334c1c7f13a0d43f8c0466171179fbe9a719260b7b8568", checked := Tryd.checked }
namespace Rows
def none {H : Type} : Left H := { results := [], args := [] }

/- WHAT THE LISTED PACKAGE-LEVEL VARIABLES READ AS WHEN THE CALL BEGINS. Each datum BY PROGRAM (the guide's laid-datum.mjs) off the statement by which the dump's own 'gosem.cut.vars' lays the variable. In a bare row this is a premise. The card (YtenbohhacenbaaaDoorCards.lean) ties it to the program's text. -/
def laid_hedgerow_hash_turns {H : Type} : DataW H := .agg [.lit (.int .i64 13), .lit (.int .i64 32), .lit (.int .i64 16), .lit (.int .i64 21), .lit (.int .i64 17), .lit (.int .i64 32)]

/-- 'hedgerowlaw02.HashSums': WHATEVER THE INPUT: true; the input reads as it did. -/
def hashSumsSpec : ChangeSpec := { name := "hashSums", fn := fun _ => fun
  | [d1, d2] => { results := [.lit (.bool true)], args := [d1, d2] }
  | _ => none }
def hashSumsRow : OpenClaim := { program := "ytenbohhacenbaaadoor", sum := "e01b93449531f07e75334c1c7f13a0d43f8c0466171179fbe9a719260b7b8568", func := "hedgerow/hedgerowlaw02.HashSums", spec := "hashSums", unfollowed := true, recurses := true, named := ["hedgerow/hash.turns"], apart := false, laid := [("hedgerow/hash.turns", laid_hedgerow_hash_turns)] }
def HashSumsSaid : Prop := hashSumsRow.holds Tryd.pinned (OpenSpec.ofChange hashSumsSpec)

/-- ITS FALSE NEIGHBOUR: 'it returns false'. Refute it at one input. -/
def hashSumsWrong : ChangeSpec := { name := "hashSums", fn := fun _ => fun
  | [d1, d2] => { results := [.lit (.bool false)], args := [d1, d2] }
  | _ => none }
def HashSumsWrongFalsely : Prop := hashSumsRow.holds Tryd.pinned (OpenSpec.ofChange hashSumsWrong)

/-- 'hedgerowlaw02.HashParts': WHATEVER THE INPUT: true; the input reads as it did. -/
def hashPartsSpec : ChangeSpec := { name := "hashParts", fn := fun _ => fun
  | [d1, d2, d3] => { results := [.lit (.bool true)], args := [d1, d2, d3] }
  | _ => none }
def hashPartsRow : OpenClaim := { program := "ytenbohhacenbaaadoor", sum := "e01b93449531f07e75334c1c7f13a0d43f8c0466171179fbe9a719260b7b8568", func := "hedgerow/hedgerowlaw02.HashParts", spec := "hashParts", unfollowed := true, recurses := true, named := ["hedgerow/hash.turns"], apart := false, laid := [("hedgerow/hash.turns", laid_hedgerow_hash_turns)] }
def HashPartsSaid : Prop := hashPartsRow.holds Tryd.pinned (OpenSpec.ofChange hashPartsSpec)

/-- ITS FALSE NEIGHBOUR: 'it returns false'. Refute it at one input. -/
def hashPartsWrong : ChangeSpec := { name := "hashParts", fn := fun _ => fun
  | [d1, d2, d3] => { results := [.lit (.bool false)], args := [d1, d2, d3] }
  | _ => none }
def HashPartsWrongFalsely : Prop := hashPartsRow.holds Tryd.pinned (OpenSpec.ofChange hashPartsWrong)

/-- 'hedgerowlaw02.HashStreams': WHATEVER THE INPUT: true; the input reads as it did. -/
def hashStreamsSpec : ChangeSpec := { name := "hashStreams", fn := fun _ => fun
  | [d1, d2] => { results := [.lit (.bool true)], args := [d1, d2] }
  | _ => none }
def hashStreamsRow : OpenClaim := { program := "ytenbohhacenbaaadoor", sum := "e01b93449531f07e75334c1c7f13a0d43f8c0466171179fbe9a719260b7b8568", func := "hedgerow/hedgerowlaw02.HashStreams", spec := "hashStreams", unfollowed := true, recurses := true, named := ["hedgerow/hash.turns"], apart := false, laid := [("hedgerow/hash.turns", laid_hedgerow_hash_turns)] }
def HashStreamsSaid : Prop := hashStreamsRow.holds Tryd.pinned (OpenSpec.ofChange hashStreamsSpec)

/-- ITS FALSE NEIGHBOUR: 'it returns false'. Refute it at one input. -/
def hashStreamsWrong : ChangeSpec := { name := "hashStreams", fn := fun _ => fun
  | [d1, d2] => { results := [.lit (.bool false)], args := [d1, d2] }
  | _ => none }
def HashStreamsWrongFalsely : Prop := hashStreamsRow.holds Tryd.pinned (OpenSpec.ofChange hashStreamsWrong)

/-- 'hedgerowlaw02.HashCopies': WHATEVER THE INPUT: true; the input reads as it did. -/
def hashCopiesSpec : ChangeSpec := { name := "hashCopies", fn := fun _ => fun
  | [d1, d2, d3] => { results := [.lit (.bool true)], args := [d1, d2, d3] }
  | _ => none }
def hashCopiesRow : OpenClaim := { program := "ytenbohhacenbaaadoor", sum := "e01b93449531f07e75334c1c7f13a0d43f8c0466171179fbe9a719260b7b8568", func := "hedgerow/hedgerowlaw02.HashCopies", spec := "hashCopies", unfollowed := true, recurses := true, named := ["hedgerow/hash.turns"], apart := false, laid := [("hedgerow/hash.turns", laid_hedgerow_hash_turns)] }
def HashCopiesSaid : Prop := hashCopiesRow.holds Tryd.pinned (OpenSpec.ofChange hashCopiesSpec)

/-- ITS FALSE NEIGHBOUR: 'it returns false'. Refute it at one input. -/
def hashCopiesWrong : ChangeSpec := { name := "hashCopies", fn := fun _ => fun
  | [d1, d2, d3] => { results := [.lit (.bool false)], args := [d1, d2, d3] }
  | _ => none }
def HashCopiesWrongFalsely : Prop := hashCopiesRow.holds Tryd.pinned (OpenSpec.ofChange hashCopiesWrong)

/-- 'hedgerowlaw02.HashCuts': WHATEVER THE INPUT: true; the input reads as it did. -/
def hashCutsSpec : ChangeSpec := { name := "hashCuts", fn := fun _ => fun
  | [d1, d2, d3, d4] => { results := [.lit (.bool true)], args := [d1, d2, d3, d4] }
  | _ => none }
def hashCutsRow : OpenClaim := { program := "ytenbohhacenbaaadoor", sum := "e01b93449531f07e75334c1c7f13a0d43f8c0466171179fbe9a719260b7b8568", func := "hedgerow/hedgerowlaw02.HashCuts", spec := "hashCuts", unfollowed := true, recurses := true, named := ["hedgerow/hash.turns"], apart := false, laid := [("hedgerow/hash.turns", laid_hedgerow_hash_turns)] }
def HashCutsSaid : Prop := hashCutsRow.holds Tryd.pinned (OpenSpec.ofChange hashCutsSpec)

/-- ITS FALSE NEIGHBOUR: 'it returns false'. Refute it at one input. -/
def hashCutsWrong : ChangeSpec := { name := "hashCuts", fn := fun _ => fun
  | [d1, d2, d3, d4] => { results := [.lit (.bool false)], args := [d1, d2, d3, d4] }
  | _ => none }
def HashCutsWrongFalsely : Prop := hashCutsRow.holds Tryd.pinned (OpenSpec.ofChange hashCutsWrong)

/- THE SECOND FORM. 'bulk': how many values and letters a reading holds, each counted each time it is reached (what is shared counts as often as it is met; a slice's spare places count too). A statement '..UptoSaid' is the law's where the arguments, and the package variables that the reading takes, are together of bulk at most 1048576: NARROWER than '..Said'. Prove '..Said' where nothing that the law and all that it calls make is longer than what came in: it says more and counts as full. Else prove '..UptoSaid'. A law counts once. -/
mutual
def uptoBulk {H : Type} : DataW H → Nat
  | .lit (.string bytes) => bytes.length + 1
  | .lit _ => 1
  | .nil => 1
  | .ptr d => uptoBulk d + 1
  | .slice elems spare => uptoBulkAll elems + uptoBulkAll spare + 1
  | .agg parts => uptoBulkAll parts + 1
  | .iface _ d => uptoBulk d + 1
  | .map entries => uptoBulkEntries entries + 1
  | .held _ => 1
def uptoBulkAll {H : Type} : List (DataW H) → Nat
  | [] => 0
  | d :: r => uptoBulk d + uptoBulkAll r
def uptoBulkEntries {H : Type} : List (Lit × DataW H) → Nat
  | [] => 0
  | x :: r => uptoBulkEntry x + uptoBulkEntries r
def uptoBulkEntry {H : Type} : Lit × DataW H → Nat
  | (.string bytes, d) => bytes.length + uptoBulk d + 1
  | (_, d) => uptoBulk d + 1
 end
def uptoSmall : (H : Type) → List (DataW H) → Bool := fun _ ds => decide (uptoBulkAll ds ≤ 1048576)
def OpenSpec.upto (s : _root_.Go.ChangeSpec) : _root_.Go.OpenSpec := { _root_.Go.OpenSpec.ofChange s with cond := some uptoSmall }

/-- 'hedgerowlaw02.HashSums', WHERE WHAT IT READS IS OF BULK AT MOST 1048576: true; the input reads as it did. -/
def hashSumsUptoRow : OpenClaim := { program := "ytenbohhacenbaaadoor", sum := "e01b93449531f07e75334c1c7f13a0d43f8c0466171179fbe9a719260b7b8568", func := "hedgerow/hedgerowlaw02.HashSums", spec := "hashSums", unfollowed := true, recurses := true, named := ["hedgerow/hash.turns"], apart := false, laid := [("hedgerow/hash.turns", laid_hedgerow_hash_turns)], narrowed := true }
def HashSumsUptoSaid : Prop := hashSumsUptoRow.holds Tryd.pinned (OpenSpec.upto hashSumsSpec)

/-- 'hedgerowlaw02.HashParts', WHERE WHAT IT READS IS OF BULK AT MOST 1048576: true; the input reads as it did. -/
def hashPartsUptoRow : OpenClaim := { program := "ytenbohhacenbaaadoor", sum := "e01b93449531f07e75334c1c7f13a0d43f8c0466171179fbe9a719260b7b8568", func := "hedgerow/hedgerowlaw02.HashParts", spec := "hashParts", unfollowed := true, recurses := true, named := ["hedgerow/hash.turns"], apart := false, laid := [("hedgerow/hash.turns", laid_hedgerow_hash_turns)], narrowed := true }
def HashPartsUptoSaid : Prop := hashPartsUptoRow.holds Tryd.pinned (OpenSpec.upto hashPartsSpec)

/-- 'hedgerowlaw02.HashStreams', WHERE WHAT IT READS IS OF BULK AT MOST 1048576: true; the input reads as it did. -/
def hashStreamsUptoRow : OpenClaim := { program := "ytenbohhacenbaaadoor", sum := "e01b93449531f07e75334c1c7f13a0d43f8c0466171179fbe9a719260b7b8568", func := "hedgerow/hedgerowlaw02.HashStreams", spec := "hashStreams", unfollowed := true, recurses := true, named := ["hedgerow/hash.turns"], apart := false, laid := [("hedgerow/hash.turns", laid_hedgerow_hash_turns)], narrowed := true }
def HashStreamsUptoSaid : Prop := hashStreamsUptoRow.holds Tryd.pinned (OpenSpec.upto hashStreamsSpec)

/-- 'hedgerowlaw02.HashCopies', WHERE WHAT IT READS IS OF BULK AT MOST 1048576: true; the input reads as it did. -/
def hashCopiesUptoRow : OpenClaim := { program := "ytenbohhacenbaaadoor", sum := "e01b93449531f07e75334c1c7f13a0d43f8c0466171179fbe9a719260b7b8568", func := "hedgerow/hedgerowlaw02.HashCopies", spec := "hashCopies", unfollowed := true, recurses := true, named := ["hedgerow/hash.turns"], apart := false, laid := [("hedgerow/hash.turns", laid_hedgerow_hash_turns)], narrowed := true }
def HashCopiesUptoSaid : Prop := hashCopiesUptoRow.holds Tryd.pinned (OpenSpec.upto hashCopiesSpec)

/-- 'hedgerowlaw02.HashCuts', WHERE WHAT IT READS IS OF BULK AT MOST 1048576: true; the input reads as it did. -/
def hashCutsUptoRow : OpenClaim := { program := "ytenbohhacenbaaadoor", sum := "e01b93449531f07e75334c1c7f13a0d43f8c0466171179fbe9a719260b7b8568", func := "hedgerow/hedgerowlaw02.HashCuts", spec := "hashCuts", unfollowed := true, recurses := true, named := ["hedgerow/hash.turns"], apart := false, laid := [("hedgerow/hash.turns", laid_hedgerow_hash_turns)], narrowed := true }
def HashCutsUptoSaid : Prop := hashCutsUptoRow.holds Tryd.pinned (OpenSpec.upto hashCutsSpec)

end Rows
end Go.Proofs.YtenbohhacenbaaaDoor
