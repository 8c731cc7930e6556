/-
  No cell of these rows narrows 'for every input' (looked for: loops, veiled, ifaces, maps, wideKeys, modest, calm, conditions, laid).
  DERIVED. THE GIVEN ROWS OF THIS SEAT. 7 by the template 'for every input the law returns true; each argument reads behind the call as it read before'; 0 by the template 'total and deterministic' (their statements: YtaefnkccbmcllaaTotals.lean).
  GIVEN WITH THE SEED: the statements are not yours to turn. If you find one false, say at which input.
  Laid BY PROGRAM, IN A SANDBOX (cutbox-rows.mjs): the forced cells as the released guide's own fill.sh prints them over the translation 8c82aab14cf760df… (all of the seat's roots in one cut). By AI agents, Wed Nov 11 2026. No macro, syntax, notation, axiom, sorry.
-/
import Derived.Test.YtaefnkccbmcllaaChecked
import GoSem.Claim
import GoSem.ClaimJoined
import GoSem.ClaimMapViews
import Derived.JoinedTies
import Derived.KernelRfl
namespace Go.Proofs.Ytaefnkccbmcllaa
/- THE CELL 'sum', in the pinned program and in every row, IS THE sha256 OF THE DUMP (.gsa) THAT YtaefnkccbmcllaaProg.lean LOADS. Nothing in Lean hashes anything: it is a label: what it is worth is what the hold of that sum in a sandbox is worth. -/
noncomputable def Try.pinned : Pinned := { name := "ytaefnkccbmcllaa", sum := "8c82aab14cf760dfad1ec2329bc7a3ee664b9ba6ed9dfe1a078c5cce3ab2658e", checked := Try.checked }
namespace Rows
def none {H : Type} : Left H := { results := [], args := [] }

/-- 'hedgerowlaw01.WordsBytes': WHATEVER THE INPUT: true; the input reads as it did. -/
def wordsBytesSpec : ChangeSpec := { name := "wordsBytes", fn := fun _ => fun
  | [d] => { results := [.lit (.bool true)], args := [d] }
  | _ => none }
def wordsBytesRow : OpenClaim := { program := "ytaefnkccbmcllaa", sum := "8c82aab14cf760dfad1ec2329bc7a3ee664b9ba6ed9dfe1a078c5cce3ab2658e", func := "hedgerow/hedgerowlaw01.WordsBytes", spec := "wordsBytes", unfollowed := true, recurses := true, apart := false }
def WordsBytesSaid : Prop := wordsBytesRow.holds Try.pinned (OpenSpec.ofChange wordsBytesSpec)

/-- ITS FALSE NEIGHBOUR: 'it returns false'. Refute it at one input. -/
def wordsBytesWrong : ChangeSpec := { name := "wordsBytes", fn := fun _ => fun
  | [d] => { results := [.lit (.bool false)], args := [d] }
  | _ => none }
def WordsBytesWrongFalsely : Prop := wordsBytesRow.holds Try.pinned (OpenSpec.ofChange wordsBytesWrong)

/-- 'hedgerowlaw01.WordsWords': WHATEVER THE INPUT: true; the input reads as it did. -/
def wordsWordsSpec : ChangeSpec := { name := "wordsWords", fn := fun _ => fun
  | [d] => { results := [.lit (.bool true)], args := [d] }
  | _ => none }
def wordsWordsRow : OpenClaim := { program := "ytaefnkccbmcllaa", sum := "8c82aab14cf760dfad1ec2329bc7a3ee664b9ba6ed9dfe1a078c5cce3ab2658e", func := "hedgerow/hedgerowlaw01.WordsWords", spec := "wordsWords", unfollowed := true, recurses := true, apart := false }
def WordsWordsSaid : Prop := wordsWordsRow.holds Try.pinned (OpenSpec.ofChange wordsWordsSpec)

/-- ITS FALSE NEIGHBOUR: 'it returns false'. Refute it at one input. -/
def wordsWordsWrong : ChangeSpec := { name := "wordsWords", fn := fun _ => fun
  | [d] => { results := [.lit (.bool false)], args := [d] }
  | _ => none }
def WordsWordsWrongFalsely : Prop := wordsWordsRow.holds Try.pinned (OpenSpec.ofChange wordsWordsWrong)

/-- 'hedgerowlaw01.WordsLays': WHATEVER THE INPUT: true; the input reads as it did. -/
def wordsLaysSpec : ChangeSpec := { name := "wordsLays", fn := fun _ => fun
  | [d] => { results := [.lit (.bool true)], args := [d] }
  | _ => none }
def wordsLaysRow : OpenClaim := { program := "ytaefnkccbmcllaa", sum := "8c82aab14cf760dfad1ec2329bc7a3ee664b9ba6ed9dfe1a078c5cce3ab2658e", func := "hedgerow/hedgerowlaw01.WordsLays", spec := "wordsLays", unfollowed := true, recurses := true, apart := false }
def WordsLaysSaid : Prop := wordsLaysRow.holds Try.pinned (OpenSpec.ofChange wordsLaysSpec)

/-- ITS FALSE NEIGHBOUR: 'it returns false'. Refute it at one input. -/
def wordsLaysWrong : ChangeSpec := { name := "wordsLays", fn := fun _ => fun
  | [d] => { results := [.lit (.bool false)], args := [d] }
  | _ => none }
def WordsLaysWrongFalsely : Prop := wordsLaysRow.holds Try.pinned (OpenSpec.ofChange wordsLaysWrong)

/-- 'hedgerowlaw01.WordsTakes': WHATEVER THE INPUT: true; the input reads as it did. -/
def wordsTakesSpec : ChangeSpec := { name := "wordsTakes", fn := fun _ => fun
  | [d1, d2] => { results := [.lit (.bool true)], args := [d1, d2] }
  | _ => none }
def wordsTakesRow : OpenClaim := { program := "ytaefnkccbmcllaa", sum := "8c82aab14cf760dfad1ec2329bc7a3ee664b9ba6ed9dfe1a078c5cce3ab2658e", func := "hedgerow/hedgerowlaw01.WordsTakes", spec := "wordsTakes", unfollowed := true, recurses := true, apart := false }
def WordsTakesSaid : Prop := wordsTakesRow.holds Try.pinned (OpenSpec.ofChange wordsTakesSpec)

/-- ITS FALSE NEIGHBOUR: 'it returns false'. Refute it at one input. -/
def wordsTakesWrong : ChangeSpec := { name := "wordsTakes", fn := fun _ => fun
  | [d1, d2] => { results := [.lit (.bool false)], args := [d1, d2] }
  | _ => none }
def WordsTakesWrongFalsely : Prop := wordsTakesRow.holds Try.pinned (OpenSpec.ofChange wordsTakesWrong)

/-- 'hedgerowlaw01.WordsFields': WHATEVER THE INPUT: true; the input reads as it did. -/
def wordsFieldsSpec : ChangeSpec := { name := "wordsFields", fn := fun _ => fun
  | [d1, d2, d3] => { results := [.lit (.bool true)], args := [d1, d2, d3] }
  | _ => none }
def wordsFieldsRow : OpenClaim := { program := "ytaefnkccbmcllaa", sum := "8c82aab14cf760dfad1ec2329bc7a3ee664b9ba6ed9dfe1a078c5cce3ab2658e", func := "hedgerow/hedgerowlaw01.WordsFields", spec := "wordsFields", unfollowed := true, recurses := true, apart := false }
def WordsFieldsSaid : Prop := wordsFieldsRow.holds Try.pinned (OpenSpec.ofChange wordsFieldsSpec)

/-- ITS FALSE NEIGHBOUR: 'it returns false'. Refute it at one input. -/
def wordsFieldsWrong : ChangeSpec := { name := "wordsFields", fn := fun _ => fun
  | [d1, d2, d3] => { results := [.lit (.bool false)], args := [d1, d2, d3] }
  | _ => none }
def WordsFieldsWrongFalsely : Prop := wordsFieldsRow.holds Try.pinned (OpenSpec.ofChange wordsFieldsWrong)

/-- 'hedgerowlaw01.WordsBits': WHATEVER THE INPUT: true; the input reads as it did. -/
def wordsBitsSpec : ChangeSpec := { name := "wordsBits", fn := fun _ => fun
  | [d1, d2] => { results := [.lit (.bool true)], args := [d1, d2] }
  | _ => none }
def wordsBitsRow : OpenClaim := { program := "ytaefnkccbmcllaa", sum := "8c82aab14cf760dfad1ec2329bc7a3ee664b9ba6ed9dfe1a078c5cce3ab2658e", func := "hedgerow/hedgerowlaw01.WordsBits", spec := "wordsBits", unfollowed := true, recurses := true, apart := false }
def WordsBitsSaid : Prop := wordsBitsRow.holds Try.pinned (OpenSpec.ofChange wordsBitsSpec)

/-- ITS FALSE NEIGHBOUR: 'it returns false'. Refute it at one input. -/
def wordsBitsWrong : ChangeSpec := { name := "wordsBits", fn := fun _ => fun
  | [d1, d2] => { results := [.lit (.bool false)], args := [d1, d2] }
  | _ => none }
def WordsBitsWrongFalsely : Prop := wordsBitsRow.holds Try.pinned (OpenSpec.ofChange wordsBitsWrong)

/-- 'hedgerowlaw01.WordsPuts': WHATEVER THE INPUT: true; the input reads as it did. -/
def wordsPutsSpec : ChangeSpec := { name := "wordsPuts", fn := fun _ => fun
  | [d1, d2, d3, d4] => { results := [.lit (.bool true)], args := [d1, d2, d3, d4] }
  | _ => none }
def wordsPutsRow : OpenClaim := { program := "ytaefnkccbmcllaa", sum := "8c82aab14cf760dfad1ec2329bc7a3ee664b9ba6ed9dfe1a078c5cce3ab2658e", func := "hedgerow/hedgerowlaw01.WordsPuts", spec := "wordsPuts", unfollowed := true, recurses := true, apart := false }
def WordsPutsSaid : Prop := wordsPutsRow.holds Try.pinned (OpenSpec.ofChange wordsPutsSpec)

/-- ITS FALSE NEIGHBOUR: 'it returns false'. Refute it at one input. -/
def wordsPutsWrong : ChangeSpec := { name := "wordsPuts", fn := fun _ => fun
  | [d1, d2, d3, d4] => { results := [.lit (.bool false)], args := [d1, d2, d3, d4] }
  | _ => none }
def WordsPutsWrongFalsely : Prop := wordsPutsRow.holds Try.pinned (OpenSpec.ofChange wordsPutsWrong)

/- THE SECOND FORM. 'bulk': how many values and letters a reading holds, each counted each time it is reached (what is shared counts as often as it is met; a slice's spare places count too). A statement '..UptoSaid' is the law's where the arguments, and the package variables that the reading takes, are together of bulk at most 1048576: NARROWER than '..Said'. Prove '..Said' where nothing that the law and all that it calls make is longer than what came in: it says more and counts as full. Else prove '..UptoSaid'. A law counts once. -/
mutual
def uptoBulk {H : Type} : DataW H → Nat
  | .lit (.string bytes) => bytes.length + 1
  | .lit _ => 1
  | .nil => 1
  | .ptr d => uptoBulk d + 1
  | .slice elems spare => uptoBulkAll elems + uptoBulkAll spare + 1
  | .agg parts => uptoBulkAll parts + 1
  | .iface _ d => uptoBulk d + 1
  | .map entries => uptoBulkEntries entries + 1
  | .held _ => 1
def uptoBulkAll {H : Type} : List (DataW H) → Nat
  | [] => 0
  | d :: r => uptoBulk d + uptoBulkAll r
def uptoBulkEntries {H : Type} : List (Lit × DataW H) → Nat
  | [] => 0
  | x :: r => uptoBulkEntry x + uptoBulkEntries r
def uptoBulkEntry {H : Type} : Lit × DataW H → Nat
  | (.string bytes, d) => bytes.length + uptoBulk d + 1
  | (_, d) => uptoBulk d + 1
 end
def uptoSmall : (H : Type) → List (DataW H) → Bool := fun _ ds => decide (uptoBulkAll ds ≤ 1048576)
def OpenSpec.upto (s : _root_.Go.ChangeSpec) : _root_.Go.OpenSpec := { _root_.Go.OpenSpec.ofChange s with cond := some uptoSmall }

/-- 'hedgerowlaw01.WordsBytes', WHERE WHAT IT READS IS OF BULK AT MOST 1048576: true; the input reads as it did. -/
def wordsBytesUptoRow : OpenClaim := { program := "ytaefnkccbmcllaa", sum := "8c82aab14cf760dfad1ec2329bc7a3ee664b9ba6ed9dfe1a078c5cce3ab2658e", func := "hedgerow/hedgerowlaw01.WordsBytes", spec := "wordsBytes", unfollowed := true, recurses := true, apart := false, narrowed := true }
def WordsBytesUptoSaid : Prop := wordsBytesUptoRow.holds Try.pinned (OpenSpec.upto wordsBytesSpec)

/-- 'hedgerowlaw01.WordsWords', WHERE WHAT IT READS IS OF BULK AT MOST 1048576: true; the input reads as it did. -/
def wordsWordsUptoRow : OpenClaim := { program := "ytaefnkccbmcllaa", sum := "8c82aab14cf760dfad1ec2329bc7a3ee664b9ba6ed9dfe1a078c5cce3ab2658e", func := "hedgerow/hedgerowlaw01.WordsWords", spec := "wordsWords", unfollowed := true, recurses := true, apart := false, narrowed := true }
def WordsWordsUptoSaid : Prop := wordsWordsUptoRow.holds Try.pinned (OpenSpec.upto wordsWordsSpec)

/-- 'hedgerowlaw01.WordsLays', WHERE WHAT IT READS IS OF BULK AT MOST 1048576: true; the input reads as it did. -/
def wordsLaysUptoRow : OpenClaim := { program := "ytaefnkccbmcllaa", sum := "8c82aab14cf760dfad1ec2329bc7a3ee664b9ba6ed9dfe1a078c5cce3ab2658e", func := "hedgerow/hedgerowlaw01.WordsLays", spec := "wordsLays", unfollowed := true, recurses := true, apart := false, narrowed := true }
def WordsLaysUptoSaid : Prop := wordsLaysUptoRow.holds Try.pinned (OpenSpec.upto wordsLaysSpec)

/-- 'hedgerowlaw01.WordsTakes', WHERE WHAT IT READS IS OF BULK AT MOST 1048576: true; the input reads as it did. -/
def wordsTakesUptoRow : OpenClaim := { program := "ytaefnkccbmcllaa", sum := "8c82aab14cf760dfad1ec2329bc7a3ee664b9ba6ed9dfe1a078c5cce3ab2658e", func := "hedgerow/hedgerowlaw01.WordsTakes", spec := "wordsTakes", unfollowed := true, recurses := true, apart := false, narrowed := true }
def WordsTakesUptoSaid : Prop := wordsTakesUptoRow.holds Try.pinned (OpenSpec.upto wordsTakesSpec)

/-- 'hedgerowlaw01.WordsFields', WHERE WHAT IT READS IS OF BULK AT MOST 1048576: true; the input reads as it did. -/
def wordsFieldsUptoRow : OpenClaim := { program := "ytaefnkccbmcllaa", sum := "8c82aab14cf760dfad1ec2329bc7a3ee664b9ba6ed9dfe1a078c5cce3ab2658e", func := "hedgerow/hedgerowlaw01.WordsFields", spec := "wordsFields", unfollowed := true, recurses := true, apart := false, narrowed := true }
def WordsFieldsUptoSaid : Prop := wordsFieldsUptoRow.holds Try.pinned (OpenSpec.upto wordsFieldsSpec)

/-- 'hedgerowlaw01.WordsBits', WHERE WHAT IT READS IS OF BULK AT MOST 1048576: true; the input reads as it did. -/
def wordsBitsUptoRow : OpenClaim := { program := "ytaefnkccbmcllaa", sum := "8c82aab14cf760dfad1ec2329bc7a3ee664b9ba6ed9dfe1a078c5cce3ab2658e", func := "hedgerow/hedgerowlaw01.WordsBits", spec := "wordsBits", unfollowed := true, recurses := true, apart := false, narrowed := true }
def WordsBitsUptoSaid : Prop := wordsBitsUptoRow.holds Try.pinned (OpenSpec.upto wordsBitsSpec)

/-- 'hedgerowlaw01.WordsPuts', WHERE WHAT IT READS IS OF BULK AT MOST 1048576: true; the input reads as it did. -/
def wordsPutsUptoRow : OpenClaim := { program := "ytaefnkccbmcllaa", sum := "8c82aab14cf760dfad1ec2329bc7a3ee664b9ba6ed9dfe1a078c5cce3ab2658e", func := "hedgerow/hedgerowlaw01.WordsPuts", spec := "wordsPuts", unfollowed := true, recurses := true, apart := false, narrowed := true }
def WordsPutsUptoSaid : Prop := wordsPutsUptoRow.holds Try.pinned (OpenSpec.upto wordsPutsSpec)

end Rows
end Go.Proofs.Ytaefnkccbmcllaa
