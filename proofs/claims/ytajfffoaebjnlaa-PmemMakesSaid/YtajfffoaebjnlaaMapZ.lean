/- Maps in drawn regions that make memory. Over any program. -/
import Derived.Test.YtajfffoaebjnlaaMap
import Derived.Test.YtajfffoaebjnlaaFreeZ
namespace Go.Proofs.Ytajfffoaebjnlaa
set_option linter.unusedVariables false
set_option linter.unusedSimpArgs false
open Go.RowKit Go.Shelf
section
variable {P : Program} {w : World} {t : TypeId} {o : Oper} {x y : Operand} {n i : Nat} {D : List Deferred} {M : Slots} {ops : Array Oper} {ok : World → Prop} {K : Slots → World → Prop}
theorem ZR.makeMap (hi : ops[i]? = some o) (hr : Runs P n D M o w (.value (.map (some w.heap.size))) (w.alloc (.map #[] 0))) (hd : dstB n o.dst = true) (hg : wantB ops M o.guard = some true)
    (c : ∀ w1 g, g = w.heap.size → (∀ (α β : Type) (d : TypeDesc) (ke : α → Value) (ve : β → Value), MapK d ke ve w1 g 0 (fun _ => none)) → w1.heap.size = g + 1 → Below w.heap.size w w1 → ok w1 ∧ K (putM M o.dst (.map (some g))) w1) : SR P ops ok i K n D M w :=
  have h := c _ _ rfl (fun _ _ _ _ _ => (MapK.made w).2 fun _ => rfl) (by simp) (Below.alloc0 w _)
  SR.val hi hr hd hg h.1 h.2
theorem fzMap {α β : Type} {d : TypeDesc} {ke : α → Value} {ve : β → Value} {K : Nat → Prop} {b m : Nat} {f : α → Option β} (h : MapK d ke ve w b m f) (hg : K b) : ∀ w', Kept K w w' → MapK d ke ve w' b m f := fun _ hk => h.kept hk hg
end
end Go.Proofs.Ytajfffoaebjnlaa
