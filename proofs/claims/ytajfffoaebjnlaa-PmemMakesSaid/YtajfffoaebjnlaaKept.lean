/- Which rows are kept: a set of them. And a scope in which the run jumps back to a label at its beginning. -/
import Derived.Test.YtajfffoaebjnlaaFree
import Derived.ScopeJumps
namespace Go.Proofs.Ytajfffoaebjnlaa
set_option linter.unusedVariables false
set_option linter.unusedSimpArgs false
open Go.RowKit Go.Shelf

/-- The rows of K are as they were. -/
structure Kept (K : Nat → Prop) (w w' : World) : Prop where
  os : w'.os = w.os
  tape : w'.tape = w.tape
  output : w'.output = w.output
  size : w.heap.size ≤ w'.heap.size
  block : ∀ j, K j → w'.heap[j]? = w.heap[j]?
section
variable {K K' : Nat → Prop} {w w1 w2 : World}
theorem Kept.refl (K : Nat → Prop) (w : World) : Kept K w w := ⟨rfl, rfl, rfl, Nat.le_refl _, fun _ _ => rfl⟩
theorem Kept.trans (h : Kept K w w1) (h2 : Kept K w1 w2) : Kept K w w2 := ⟨h2.os.trans h.os, h2.tape.trans h.tape, h2.output.trans h.output, Nat.le_trans h.size h2.size, fun j hj => (h2.block j hj).trans (h.block j hj)⟩
theorem Kept.less (h : Kept K w w1) (hk : ∀ j, K' j → K j) : Kept K' w w1 := ⟨h.os, h.tape, h.output, h.size, fun j hj => h.block j (hk j hj)⟩
theorem bkept {B : Nat} (h : Below B w w1) (hk : ∀ j, K j → j < B) : Kept K w w1 := ⟨h.os, h.tape, h.output, h.size, fun j hj => h.block j (hk j hj)⟩
theorem grown_kept {r : Option Nat} (h : w.grownBy w1 r) (hk : ∀ j, K j → j < w.heap.size) (hr : ∀ j, K j → r ≠ some j) : Kept K w w1 := ⟨h.os, h.tape, h.output, h.size, fun j hj => h.block j (hk j hj) (by first | exact fun e => hr j hj e | exact fun e => hr j hj e.symm)⟩
theorem Kept.bel {B : Nat} (h : Kept (· < B) w w1) : Below B w w1 := ⟨h.os, h.tape, h.output, h.size, fun j hj => h.block j hj⟩
theorem RowL.kept {g e : Nat} {xs : List Value} (h : RowL w g e xs) (hk : Kept K w w1) (hg : K g) : RowL w1 g e xs := h.same (hk.block g hg)
end

section
variable {P : Program} {w : World} {n : Nat} {D : List Deferred} {M : Slots} {Q : Exit → Act → World → Prop}
/-- α says where it stands. -/
theorem CC.jumps {α : Type} {l : Nat} {body : Code} (L : α → List (Nat × Value)) (I : α → World → Prop) (μ : α → Nat) (p0 : α) (hL : Fits M (L p0)) (h0 : I p0 w)
    (pass : ∀ p w, I p w → CC none P (Exit.jump l (fun a' w' => ∃ p', Fr n D (sl (L p')) a' ∧ I p' w' ∧ μ p' < μ p) Q) n D (sl (L p)) body w) : CC none P Q n D M (.scope (.seq (.label l) body)) w := CC.mk fun a F => by
  classical
  let J : Act → World → Nat → Prop := fun a w m => ∃ p, Fr n D (sl (L p)) a ∧ I p w ∧ μ p ≤ m
  have least : ∀ a w, (∃ m, J a w m) → ∃ m, J a w m ∧ ∀ k, J a w k → m ≤ k := by
    rintro a w ⟨m, hm⟩
    induction m using Nat.strongRecOn with
    | _ m ih =>
      by_cases h : ∃ k, k < m ∧ J a w k
      · obtain ⟨k, hk, hj⟩ := h; exact ih k hk hj
      · exact ⟨m, hm, fun k hk => by
          rcases Nat.lt_or_ge k m with h' | h'
          · exact absurd ⟨k, h', hk⟩ h
          · exact h'⟩
  let μ' : Act → World → Nat := fun a w => if h : ∃ m, J a w m then Classical.choose (least a w h) else 0
  have run : ∀ a w, (∃ m, J a w m) → body.wp P (Exit.jump l (fun a' w' => (∃ m, J a' w' m) ∧ μ' a' w' < μ' a w) Q) a w := by
    intro a w hI
    have hl := Classical.choose_spec (least a w hI)
    obtain ⟨p, hF, hp, hm⟩ := hl.1
    refine (wpIn_wide (n := 3)).1 (Code.wpIn_mono ?_ ((pass p w hp).h a hF))
    intro e a' w' hq
    cases e <;> try exact hq
    obtain ⟨e1, p', hF', hp', hlt⟩ := hq
    have hI' : ∃ m, J a' w' m := ⟨μ p', p', hF', hp', Nat.le_refl _⟩
    refine ⟨e1, hI', ?_⟩
    have := (Classical.choose_spec (least a' w' hI')).2 (μ p') ⟨p', hF', hp', Nat.le_refl _⟩
    simp only [μ', dif_pos hI, dif_pos hI']
    omega
  have hf : findLabel (.seq (.label l) body) l = some (.seq .skip body) := by simp [findLabel]
  have hst : ∃ m, J a w m := ⟨μ p0, p0, F.keep _ hL, h0, Nat.le_refl _⟩
  refine (wpIn_wide (n := 3)).2 (wp_scope_jumps l (fun a w => ∃ m, J a w m) μ' hf ?_ fun a w hI => wp_seq (wp_skip (run a w hI)))
  refine wp_seq (wp_label ?_)
  have h := (wpIn_wide (n := 3)).2 (run a w hst)
  refine (wpIn_wide (n := 3)).1 (Code.wpIn_mono ?_ h)
  intro e a' w' hq
  cases e <;> try exact hq
  exact ⟨hq.1, hq.2.1⟩
theorem EE.jump {α : Type} {l : Nat} {L : α → List (Nat × Value)} {I : α → World → Prop} {μ : α → Nat} {p : α} (p' : α) (hL : Fits M (L p')) (hI : I p' w) (hμ : μ p' < μ p) : EE (Exit.jump l (fun a' w' => ∃ p', Fr n D (sl (L p')) a' ∧ I p' w' ∧ μ p' < μ p) Q) n D M (.goto l) w := EE.mk fun _ F => ⟨rfl, p', F.keep _ hL, hI, hμ⟩
theorem EE.jumpR {l : Nat} {J : Act → World → Prop} (h : EE Q n D M .ret w) : EE (Exit.jump l J Q) n D M .ret w := EE.mk fun a F => h.h a F
theorem EE.jumpN {l : Nat} {J : Act → World → Prop} (h : EE Q n D M .normal w) : EE (Exit.jump l J Q) n D M .normal w := EE.mk fun a F => h.h a F
theorem EE.jumpX {l i : Nat} {J : Act → World → Prop} (h : EE Q n D M (.exit i) w) : EE (Exit.jump l J Q) n D M (.exit i) w := EE.mk fun a F => h.h a F
end
end Go.Proofs.Ytajfffoaebjnlaa
