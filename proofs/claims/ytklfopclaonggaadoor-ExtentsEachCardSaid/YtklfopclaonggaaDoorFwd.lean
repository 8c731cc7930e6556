/- A scope in which the run jumps ahead to a label. Over any program. -/
import Derived.Test.YtklfopclaonggaaDoorKept
namespace Go.Proofs.YtklfopclaonggaaDoor
set_option linter.unusedVariables false
set_option linter.unusedSimpArgs false
open Go.RowKit Go.Shelf

section
variable {P : Program} {w : World} {n : Nat} {D : List Deferred} {M : Slots} {Q : Exit → Act → World → Prop}
theorem CC.fwd {α : Type} {l : Nat} {c rest : Code} (Dx : α → List Deferred) (L : α → List (Nat × Value)) (I : α → World → Prop) (hf : findLabel c l = some rest)
    (first : CC none P (Exit.jump l (fun a' w' => ∃ x, Fr n (Dx x) (sl (L x)) a' ∧ I x w') Q) n D M c w)
    (pass : ∀ x w, I x w → CC none P (Exit.jump l (fun _ _ => False) Q) n (Dx x) (sl (L x)) rest w) : CC none P Q n D M (.scope c) w := CC.mk fun a F => by
  refine (wpIn_wide (n := 3)).2 (wp_scope_jumps l (fun a' w' => ∃ x, Fr n (Dx x) (sl (L x)) a' ∧ I x w') (fun _ _ => 0) hf ((wpIn_wide (n := 3)).1 (first.h a F)) ?_)
  rintro a w ⟨x, hF, hI⟩
  refine (wpIn_wide (n := 3)).1 (Code.wpIn_mono ?_ ((pass x w hI).h a hF))
  intro e a' w' hq
  cases e <;> try exact hq
  exact hq.2.elim
theorem EE.jumpTo {α : Type} {l : Nat} {Dx : α → List Deferred} {L : α → List (Nat × Value)} {I : α → World → Prop} (x : α) (hD : D = Dx x) (hL : Fits M (L x)) (hI : I x w) : EE (Exit.jump l (fun a' w' => ∃ x, Fr n (Dx x) (sl (L x)) a' ∧ I x w') Q) n D M (.goto l) w := EE.mk fun _ F => ⟨rfl, x, by subst hD; exact F.keep _ hL, hI⟩
end
end Go.Proofs.YtklfopclaonggaaDoor
