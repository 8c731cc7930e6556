/-
  No cell of these rows narrows 'for every input' (looked for: loops, veiled, ifaces, maps, wideKeys, modest, calm, conditions, laid).
  DERIVED. THE GIVEN ROWS OF THIS SEAT. 6 by the template 'for every input the law returns true; each argument reads behind the call as it read before'; 0 by the template 'total and deterministic' (their statements: YtajfffoaebjnlaaTotals.lean).
  GIVEN WITH THE SEED: the statements are not yours to turn. If you find one false, say at which input.
  Laid BY PROGRAM, IN A SANDBOX (cutbox-rows.mjs): the forced cells as the released guide's own fill.sh prints them over the translation 55db8199e56d8f86… (all of the seat's roots in one cut). By AI agents, Wed Nov 11 2026. No macro, syntax, notation, axiom, sorry.
-/
import Derived.Test.YtajfffoaebjnlaaChecked
import GoSem.Claim
import GoSem.ClaimJoined
import GoSem.ClaimMapViews
import Derived.JoinedTies
import Derived.KernelRfl
namespace Go.Proofs.Ytajfffoaebjnlaa
/- THE CELL 'sum', in the pinned program and in every row, IS THE sha256 OF THE DUMP (.gsa) THAT YtajfffoaebjnlaaProg.lean LOADS. Nothing in Lean hashes anything: it is a label: what it is worth is what the hold of that sum in a sandbox is worth. -/
noncomputable def Try.pinned : Pinned := { name := "ytajfffoaebjnlaa", sum := "55db8199e56d8f86102327be1da1d4bdcc07fee1cc0a9327dd6a5960290cd3b7", checked := Try.checked }
namespace Rows
def none {H : Type} : Left H := { results := [], args := [] }

/-- 'hedgerowlaw07.PmemPlays': WHATEVER THE INPUT: true; the input reads as it did. -/
def pmemPlaysSpec : ChangeSpec := { name := "pmemPlays", fn := fun _ => fun
  | [d1, d2] => { results := [.lit (.bool true)], args := [d1, d2] }
  | _ => none }
def pmemPlaysRow : OpenClaim := { program := "ytajfffoaebjnlaa", sum := "55db8199e56d8f86102327be1da1d4bdcc07fee1cc0a9327dd6a5960290cd3b7", func := "hedgerow/hedgerowlaw07.PmemPlays", spec := "pmemPlays", unfollowed := true, recurses := true, apart := false }
def PmemPlaysSaid : Prop := pmemPlaysRow.holds Try.pinned (OpenSpec.ofChange pmemPlaysSpec)

/-- ITS FALSE NEIGHBOUR: 'it returns false'. Refute it at one input. -/
def pmemPlaysWrong : ChangeSpec := { name := "pmemPlays", fn := fun _ => fun
  | [d1, d2] => { results := [.lit (.bool false)], args := [d1, d2] }
  | _ => none }
def PmemPlaysWrongFalsely : Prop := pmemPlaysRow.holds Try.pinned (OpenSpec.ofChange pmemPlaysWrong)

/-- 'hedgerowlaw07.PmemCrashes': WHATEVER THE INPUT: true; the input reads as it did. -/
def pmemCrashesSpec : ChangeSpec := { name := "pmemCrashes", fn := fun _ => fun
  | [d1, d2, d3] => { results := [.lit (.bool true)], args := [d1, d2, d3] }
  | _ => none }
def pmemCrashesRow : OpenClaim := { program := "ytajfffoaebjnlaa", sum := "55db8199e56d8f86102327be1da1d4bdcc07fee1cc0a9327dd6a5960290cd3b7", func := "hedgerow/hedgerowlaw07.PmemCrashes", spec := "pmemCrashes", unfollowed := true, recurses := true, apart := false }
def PmemCrashesSaid : Prop := pmemCrashesRow.holds Try.pinned (OpenSpec.ofChange pmemCrashesSpec)

/-- ITS FALSE NEIGHBOUR: 'it returns false'. Refute it at one input. -/
def pmemCrashesWrong : ChangeSpec := { name := "pmemCrashes", fn := fun _ => fun
  | [d1, d2, d3] => { results := [.lit (.bool false)], args := [d1, d2, d3] }
  | _ => none }
def PmemCrashesWrongFalsely : Prop := pmemCrashesRow.holds Try.pinned (OpenSpec.ofChange pmemCrashesWrong)

/-- 'hedgerowlaw07.PmemMakes': WHATEVER THE INPUT: true; the input reads as it did. -/
def pmemMakesSpec : ChangeSpec := { name := "pmemMakes", fn := fun _ => fun
  | [d] => { results := [.lit (.bool true)], args := [d] }
  | _ => none }
def pmemMakesRow : OpenClaim := { program := "ytajfffoaebjnlaa", sum := "55db8199e56d8f86102327be1da1d4bdcc07fee1cc0a9327dd6a5960290cd3b7", func := "hedgerow/hedgerowlaw07.PmemMakes", spec := "pmemMakes", unfollowed := true, recurses := true, apart := false }
def PmemMakesSaid : Prop := pmemMakesRow.holds Try.pinned (OpenSpec.ofChange pmemMakesSpec)

/-- ITS FALSE NEIGHBOUR: 'it returns false'. Refute it at one input. -/
def pmemMakesWrong : ChangeSpec := { name := "pmemMakes", fn := fun _ => fun
  | [d] => { results := [.lit (.bool false)], args := [d] }
  | _ => none }
def PmemMakesWrongFalsely : Prop := pmemMakesRow.holds Try.pinned (OpenSpec.ofChange pmemMakesWrong)

/-- 'hedgerowlaw07.PmemOpens': WHATEVER THE INPUT: true; the input reads as it did. -/
def pmemOpensSpec : ChangeSpec := { name := "pmemOpens", fn := fun _ => fun
  | [d1, d2, d3] => { results := [.lit (.bool true)], args := [d1, d2, d3] }
  | _ => none }
def pmemOpensRow : OpenClaim := { program := "ytajfffoaebjnlaa", sum := "55db8199e56d8f86102327be1da1d4bdcc07fee1cc0a9327dd6a5960290cd3b7", func := "hedgerow/hedgerowlaw07.PmemOpens", spec := "pmemOpens", unfollowed := true, recurses := true, apart := false }
def PmemOpensSaid : Prop := pmemOpensRow.holds Try.pinned (OpenSpec.ofChange pmemOpensSpec)

/-- ITS FALSE NEIGHBOUR: 'it returns false'. Refute it at one input. -/
def pmemOpensWrong : ChangeSpec := { name := "pmemOpens", fn := fun _ => fun
  | [d1, d2, d3] => { results := [.lit (.bool false)], args := [d1, d2, d3] }
  | _ => none }
def PmemOpensWrongFalsely : Prop := pmemOpensRow.holds Try.pinned (OpenSpec.ofChange pmemOpensWrong)

/-- 'hedgerowlaw07.PmemCopies': WHATEVER THE INPUT: true; the input reads as it did. -/
def pmemCopiesSpec : ChangeSpec := { name := "pmemCopies", fn := fun _ => fun
  | [d1, d2, d3, d4] => { results := [.lit (.bool true)], args := [d1, d2, d3, d4] }
  | _ => none }
def pmemCopiesRow : OpenClaim := { program := "ytajfffoaebjnlaa", sum := "55db8199e56d8f86102327be1da1d4bdcc07fee1cc0a9327dd6a5960290cd3b7", func := "hedgerow/hedgerowlaw07.PmemCopies", spec := "pmemCopies", unfollowed := true, recurses := true, apart := false }
def PmemCopiesSaid : Prop := pmemCopiesRow.holds Try.pinned (OpenSpec.ofChange pmemCopiesSpec)

/-- ITS FALSE NEIGHBOUR: 'it returns false'. Refute it at one input. -/
def pmemCopiesWrong : ChangeSpec := { name := "pmemCopies", fn := fun _ => fun
  | [d1, d2, d3, d4] => { results := [.lit (.bool false)], args := [d1, d2, d3, d4] }
  | _ => none }
def PmemCopiesWrongFalsely : Prop := pmemCopiesRow.holds Try.pinned (OpenSpec.ofChange pmemCopiesWrong)

/-- 'hedgerowlaw07.PmemLasts': WHATEVER THE INPUT: true; the input reads as it did. -/
def pmemLastsSpec : ChangeSpec := { name := "pmemLasts", fn := fun _ => fun
  | [d1, d2, d3] => { results := [.lit (.bool true)], args := [d1, d2, d3] }
  | _ => none }
def pmemLastsRow : OpenClaim := { program := "ytajfffoaebjnlaa", sum := "55db8199e56d8f86102327be1da1d4bdcc07fee1cc0a9327dd6a5960290cd3b7", func := "hedgerow/hedgerowlaw07.PmemLasts", spec := "pmemLasts", unfollowed := true, recurses := true, apart := false }
def PmemLastsSaid : Prop := pmemLastsRow.holds Try.pinned (OpenSpec.ofChange pmemLastsSpec)

/-- ITS FALSE NEIGHBOUR: 'it returns false'. Refute it at one input. -/
def pmemLastsWrong : ChangeSpec := { name := "pmemLasts", fn := fun _ => fun
  | [d1, d2, d3] => { results := [.lit (.bool false)], args := [d1, d2, d3] }
  | _ => none }
def PmemLastsWrongFalsely : Prop := pmemLastsRow.holds Try.pinned (OpenSpec.ofChange pmemLastsWrong)

/- THE SECOND FORM. 'bulk': how many values and letters a reading holds, each counted each time it is reached (what is shared counts as often as it is met; a slice's spare places count too). A statement '..UptoSaid' is the law's where the arguments, and the package variables that the reading takes, are together of bulk at most 1048576: NARROWER than '..Said'. Prove '..Said' where nothing that the law and all that it calls make is longer than what came in: it says more and counts as full. Else prove '..UptoSaid'. A law counts once. -/
mutual
def uptoBulk {H : Type} : DataW H → Nat
  | .lit (.string bytes) => bytes.length + 1
  | .lit _ => 1
  | .nil => 1
  | .ptr d => uptoBulk d + 1
  | .slice elems spare => uptoBulkAll elems + uptoBulkAll spare + 1
  | .agg parts => uptoBulkAll parts + 1
  | .iface _ d => uptoBulk d + 1
  | .map entries => uptoBulkEntries entries + 1
  | .held _ => 1
def uptoBulkAll {H : Type} : List (DataW H) → Nat
  | [] => 0
  | d :: r => uptoBulk d + uptoBulkAll r
def uptoBulkEntries {H : Type} : List (Lit × DataW H) → Nat
  | [] => 0
  | x :: r => uptoBulkEntry x + uptoBulkEntries r
def uptoBulkEntry {H : Type} : Lit × DataW H → Nat
  | (.string bytes, d) => bytes.length + uptoBulk d + 1
  | (_, d) => uptoBulk d + 1
 end
def uptoSmall : (H : Type) → List (DataW H) → Bool := fun _ ds => decide (uptoBulkAll ds ≤ 1048576)
def OpenSpec.upto (s : _root_.Go.ChangeSpec) : _root_.Go.OpenSpec := { _root_.Go.OpenSpec.ofChange s with cond := some uptoSmall }

/-- 'hedgerowlaw07.PmemPlays', WHERE WHAT IT READS IS OF BULK AT MOST 1048576: true; the input reads as it did. -/
def pmemPlaysUptoRow : OpenClaim := { program := "ytajfffoaebjnlaa", sum := "55db8199e56d8f86102327be1da1d4bdcc07fee1cc0a9327dd6a5960290cd3b7", func := "hedgerow/hedgerowlaw07.PmemPlays", spec := "pmemPlays", unfollowed := true, recurses := true, apart := false, narrowed := true }
def PmemPlaysUptoSaid : Prop := pmemPlaysUptoRow.holds Try.pinned (OpenSpec.upto pmemPlaysSpec)

/-- 'hedgerowlaw07.PmemCrashes', WHERE WHAT IT READS IS OF BULK AT MOST 1048576: true; the input reads as it did. -/
def pmemCrashesUptoRow : OpenClaim := { program := "ytajfffoaebjnlaa", sum := "55db8199e56d8f86102327be1da1d4bdcc07fee1cc0a9327dd6a5960290cd3b7", func := "hedgerow/hedgerowlaw07.PmemCrashes", spec := "pmemCrashes", unfollowed := true, recurses := true, apart := false, narrowed := true }
def PmemCrashesUptoSaid : Prop := pmemCrashesUptoRow.holds Try.pinned (OpenSpec.upto pmemCrashesSpec)

/-- 'hedgerowlaw07.PmemMakes', WHERE WHAT IT READS IS OF BULK AT MOST 1048576: true; the input reads as it did. -/
def pmemMakesUptoRow : OpenClaim := { program := "ytajfffoaebjnlaa", sum := "55db8199e56d8f86102327be1da1d4bdcc07fee1cc0a9327dd6a5960290cd3b7", func := "hedgerow/hedgerowlaw07.PmemMakes", spec := "pmemMakes", unfollowed := true, recurses := true, apart := false, narrowed := true }
def PmemMakesUptoSaid : Prop := pmemMakesUptoRow.holds Try.pinned (OpenSpec.upto pmemMakesSpec)

/-- 'hedgerowlaw07.PmemOpens', WHERE WHAT IT READS IS OF BULK AT MOST 1048576: true; the input reads as it did. -/
def pmemOpensUptoRow : OpenClaim := { program := "ytajfffoaebjnlaa", sum := "55db8199e56d8f86102327be1da1d4bdcc07fee1cc0a9327dd6a5960290cd3b7", func := "hedgerow/hedgerowlaw07.PmemOpens", spec := "pmemOpens", unfollowed := true, recurses := true, apart := false, narrowed := true }
def PmemOpensUptoSaid : Prop := pmemOpensUptoRow.holds Try.pinned (OpenSpec.upto pmemOpensSpec)

/-- 'hedgerowlaw07.PmemCopies', WHERE WHAT IT READS IS OF BULK AT MOST 1048576: true; the input reads as it did. -/
def pmemCopiesUptoRow : OpenClaim := { program := "ytajfffoaebjnlaa", sum := "55db8199e56d8f86102327be1da1d4bdcc07fee1cc0a9327dd6a5960290cd3b7", func := "hedgerow/hedgerowlaw07.PmemCopies", spec := "pmemCopies", unfollowed := true, recurses := true, apart := false, narrowed := true }
def PmemCopiesUptoSaid : Prop := pmemCopiesUptoRow.holds Try.pinned (OpenSpec.upto pmemCopiesSpec)

/-- 'hedgerowlaw07.PmemLasts', WHERE WHAT IT READS IS OF BULK AT MOST 1048576: true; the input reads as it did. -/
def pmemLastsUptoRow : OpenClaim := { program := "ytajfffoaebjnlaa", sum := "55db8199e56d8f86102327be1da1d4bdcc07fee1cc0a9327dd6a5960290cd3b7", func := "hedgerow/hedgerowlaw07.PmemLasts", spec := "pmemLasts", unfollowed := true, recurses := true, apart := false, narrowed := true }
def PmemLastsUptoSaid : Prop := pmemLastsUptoRow.holds Try.pinned (OpenSpec.upto pmemLastsSpec)

end Rows
end Go.Proofs.Ytajfffoaebjnlaa
