/- What is known of a world, carried over to a later one: .up over what makes memory, .gr over what writes one block. For any seat. -/
import Derived.Test.YtajfffoaebjnlaaTGrow
namespace Go.Proofs.Ytajfffoaebjnlaa
set_option linter.unusedVariables false
set_option linter.unusedSimpArgs false
open Go.RowKit Go.Shelf

section
variable {w w' : World} {g e r k : Nat} {xs : List Value} {v : Value} {α : Type} {enc : α → List Value} {ts : List α} {base : Nat}
theorem RowL.up (h : RowL w g e xs) (hb : Below w.heap.size w w') : RowL w' g e xs := h.below hb h.lt
theorem RowL.gr (h : RowL w g e xs) (hg : w.grownBy w' (some r)) (hne : g ≠ r) : RowL w' g e xs := h.same (hg.block g h.lt (by simpa using hne))
theorem Reads.up (h : Reads w v xs) (hb : Below w.heap.size w w') : Reads w' v xs := h.below hb
theorem ReadsT.up (h : ReadsT enc k w v ts) (hb : Below w.heap.size w w') : ReadsT enc k w' v ts := h.below hb
theorem OwnsT.up (h : OwnsT enc k w base e v ts) (hb : Below w.heap.size w w') : OwnsT enc k w' base e v ts := h.below hb
theorem defer_up {E : Nat} (h : w.heap[E]? = some (.deferred (some []))) (hb : Below w.heap.size w w') : w'.heap[E]? = some (.deferred (some [])) := (hb.block E (Array.getElem?_eq_some_iff.1 h).1).trans h
end

/-! Truth values of one cell. -/
def bE (b : Bool) : List Value := [.bool b]
theorem bEnc : Enc bE 1 := ⟨fun _ => rfl, fun t u hu => by
  simp only [bE, List.mem_cons, List.not_mem_nil, or_false] at hu
  subst hu
  rfl, by decide⟩
/-- An element of one cell. -/
theorem ReadsT.one {α : Type} {enc : α → List Value} (E : Enc enc 1) {w : World} {a : Option Addr} {n cap i : Nat} {ts : List α} {t : α} (h : ReadsT enc 1 w (.slice a n cap) ts) (ht : ts[i]? = some t) :
    ∃ b off, a = some ⟨b, off, none⟩ ∧ b < w.heap.size ∧ ∀ u, enc t = [u] → w.cell? ⟨b, off + i, none⟩ = some u := by
  obtain ⟨b, off, ea, hb, hc⟩ := h.get E ht
  refine ⟨b, off, ea, hb, fun u hu => ?_⟩
  have := hc.at (j := 0) (u := u) (by rw [hu]; rfl)
  rwa [Nat.mul_one, Nat.add_zero] at this
end Go.Proofs.Ytajfffoaebjnlaa
