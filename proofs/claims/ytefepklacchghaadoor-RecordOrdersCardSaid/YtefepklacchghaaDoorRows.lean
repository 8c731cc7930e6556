/-
  NARROWER THAN 'FOR EVERY INPUT', by the rows' own cells (each row's printed sentence says how): RecordKeys: laid · RecordOrders: laid.
  DERIVED. THE GIVEN ROWS OF THIS SEAT. 2 by the template 'for every input the law returns true; each argument reads behind the call as it read before'; 0 by the template 'total and deterministic' (their statements: YtefepklacchghaaDoorTotals.lean).
  GIVEN WITH THE SEED: the statements are not yours to turn. If you find one false, say at which input.
  Laid BY PROGRAM, IN A SANDBOX (cutbox-rows.mjs): the forced cells as the released guide's own fill.sh prints them over the translation 1c84a74c7f25bd0f… (all of the seat's roots in one cut). By AI agents, Wed Nov 11 2026. No macro, syntax, notation, axiom, sorry.
-/
import Derived.Test.YtefepklacchghaaDoorChecked
import GoSem.Claim
import GoSem.ClaimJoined
import GoSem.ClaimMapViews
import Derived.JoinedTies
import Derived.KernelRfl
namespace Go.Proofs.YtefepklacchghaaDoor
/- THE CELL 'sum', in the pinned program and in every row, IS THE sha256 OF THE DUMP (.gsa) THAT YtefepklacchghaaDoorProg.lean LOADS. Nothing in Lean hashes anything: it is a label: what it is worth is what the hold of that sum in a sandbox is worth. -/
noncomputable def Tryd.pinned : Pinned := { name := "ytefepklacchghaadoor", sum := "1c84a74c7f25bd0fe64b2933a6949e83b0b5d1f402723a7c3e6b34caee9b8cf4", checked := Tryd.checked }
namespace Rows
def none {H : Type} : Left H := { results := [], args := [] }

/- WHAT THE LISTED PACKAGE-LEVEL VARIABLES READ AS WHEN THE CALL BEGINS. Each datum BY PROGRAM (the guide's laid-datum.mjs) off the statement by which the dump's own 'gosem.cut.vars' lays the variable. In a bare row this is a premise. The card (YtefepklacchghaaDoorCards.lean) ties it to the program's text. -/
def laid_hedgerow_hash_turns {H : Type} : DataW H := .agg [.lit (.int .i64 13), .lit (.int .i64 32), .lit (.int .i64 16), .lit (.int .i64 21), .lit (.int .i64 17), .lit (.int .i64 32)]

/-- 'hedgerowlaw15.RecordKeys': WHATEVER THE INPUT: true; the input reads as it did. -/
def recordKeysSpec : ChangeSpec := { name := "recordKeys", fn := fun _ => fun
  | [d1, d2, d3, d4] => { results := [.lit (.bool true)], args := [d1, d2, d3, d4] }
  | _ => none }
def recordKeysRow : OpenClaim := { program := "ytefepklacchghaadoor", sum := "1c84a74c7f25bd0fe64b2933a6949e83b0b5d1f402723a7c3e6b34caee9b8cf4", func := "hedgerow/hedgerowlaw15.RecordKeys", spec := "recordKeys", inPlace := ["internal/bytealg.IndexByteString", "internal/bytealg.IndexString"], unfollowed := true, recurses := true, named := ["internal/bytealg.MaxLen", "hedgerow/hash.turns"], apart := false, laid := [("hedgerow/hash.turns", laid_hedgerow_hash_turns)] }
def RecordKeysSaid : Prop := recordKeysRow.holds Tryd.pinned (OpenSpec.ofChange recordKeysSpec)

/-- ITS FALSE NEIGHBOUR: 'it returns false'. Refute it at one input. -/
def recordKeysWrong : ChangeSpec := { name := "recordKeys", fn := fun _ => fun
  | [d1, d2, d3, d4] => { results := [.lit (.bool false)], args := [d1, d2, d3, d4] }
  | _ => none }
def RecordKeysWrongFalsely : Prop := recordKeysRow.holds Tryd.pinned (OpenSpec.ofChange recordKeysWrong)

/-- 'hedgerowlaw15.RecordOrders': WHATEVER THE INPUT: true; the input reads as it did. -/
def recordOrdersSpec : ChangeSpec := { name := "recordOrders", fn := fun _ => fun
  | [d1, d2, d3, d4, d5, d6] => { results := [.lit (.bool true)], args := [d1, d2, d3, d4, d5, d6] }
  | _ => none }
def recordOrdersRow : OpenClaim := { program := "ytefepklacchghaadoor", sum := "1c84a74c7f25bd0fe64b2933a6949e83b0b5d1f402723a7c3e6b34caee9b8cf4", func := "hedgerow/hedgerowlaw15.RecordOrders", spec := "recordOrders", inPlace := ["internal/bytealg.IndexByteString", "internal/bytealg.IndexString"], unfollowed := true, recurses := true, named := ["internal/bytealg.MaxLen", "hedgerow/hash.turns"], apart := false, laid := [("hedgerow/hash.turns", laid_hedgerow_hash_turns)] }
def RecordOrdersSaid : Prop := recordOrdersRow.holds Tryd.pinned (OpenSpec.ofChange recordOrdersSpec)

/-- ITS FALSE NEIGHBOUR: 'it returns false'. Refute it at one input. -/
def recordOrdersWrong : ChangeSpec := { name := "recordOrders", fn := fun _ => fun
  | [d1, d2, d3, d4, d5, d6] => { results := [.lit (.bool false)], args := [d1, d2, d3, d4, d5, d6] }
  | _ => none }
def RecordOrdersWrongFalsely : Prop := recordOrdersRow.holds Tryd.pinned (OpenSpec.ofChange recordOrdersWrong)

/- THE SECOND FORM. 'bulk': how many values and letters a reading holds, each counted each time it is reached (what is shared counts as often as it is met; a slice's spare places count too). A statement '..UptoSaid' is the law's where the arguments, and the package variables that the reading takes, are together of bulk at most 1048576: NARROWER than '..Said'. Prove '..Said' where nothing that the law and all that it calls make is longer than what came in: it says more and counts as full. Else prove '..UptoSaid'. A law counts once. -/
mutual
def uptoBulk {H : Type} : DataW H → Nat
  | .lit (.string bytes) => bytes.length + 1
  | .lit _ => 1
  | .nil => 1
  | .ptr d => uptoBulk d + 1
  | .slice elems spare => uptoBulkAll elems + uptoBulkAll spare + 1
  | .agg parts => uptoBulkAll parts + 1
  | .iface _ d => uptoBulk d + 1
  | .map entries => uptoBulkEntries entries + 1
  | .held _ => 1
def uptoBulkAll {H : Type} : List (DataW H) → Nat
  | [] => 0
  | d :: r => uptoBulk d + uptoBulkAll r
def uptoBulkEntries {H : Type} : List (Lit × DataW H) → Nat
  | [] => 0
  | x :: r => uptoBulkEntry x + uptoBulkEntries r
def uptoBulkEntry {H : Type} : Lit × DataW H → Nat
  | (.string bytes, d) => bytes.length + uptoBulk d + 1
  | (_, d) => uptoBulk d + 1
 end
def uptoSmall : (H : Type) → List (DataW H) → Bool := fun _ ds => decide (uptoBulkAll ds ≤ 1048576)
def OpenSpec.upto (s : _root_.Go.ChangeSpec) : _root_.Go.OpenSpec := { _root_.Go.OpenSpec.ofChange s with cond := some uptoSmall }

/-- 'hedgerowlaw15.RecordKeys', WHERE WHAT IT READS IS OF BULK AT MOST 1048576: true; the input reads as it did. -/
def recordKeysUptoRow : OpenClaim := { program := "ytefepklacchghaadoor", sum := "1c84a74c7f25bd0fe64b2933a6949e83b0b5d1f402723a7c3e6b34caee9b8cf4", func := "hedgerow/hedgerowlaw15.RecordKeys", spec := "recordKeys", inPlace := ["internal/bytealg.IndexByteString", "internal/bytealg.IndexString"], unfollowed := true, recurses := true, named := ["internal/bytealg.MaxLen", "hedgerow/hash.turns"], apart := false, laid := [("hedgerow/hash.turns", laid_hedgerow_hash_turns)], narrowed := true }
def RecordKeysUptoSaid : Prop := recordKeysUptoRow.holds Tryd.pinned (OpenSpec.upto recordKeysSpec)

/-- 'hedgerowlaw15.RecordOrders', WHERE WHAT IT READS IS OF BULK AT MOST 1048576: true; the input reads as it did. -/
def recordOrdersUptoRow : OpenClaim := { program := "ytefepklacchghaadoor", sum := "1c84a74c7f25bd0fe64b2933a6949e83b0b5d1f402723a7c3e6b34caee9b8cf4", func := "hedgerow/hedgerowlaw15.RecordOrders", spec := "recordOrders", inPlace := ["internal/bytealg.IndexByteString", "internal/bytealg.IndexString"], unfollowed := true, recurses := true, named := ["internal/bytealg.MaxLen", "hedgerow/hash.turns"], apart := false, laid := [("hedgerow/hash.turns", laid_hedgerow_hash_turns)], narrowed := true }
def RecordOrdersUptoSaid : Prop := recordOrdersUptoRow.holds Tryd.pinned (OpenSpec.upto recordOrdersSpec)

end Rows
end Go.Proofs.YtefepklacchghaaDoor
