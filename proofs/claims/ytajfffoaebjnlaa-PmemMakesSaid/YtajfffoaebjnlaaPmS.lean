/- pmem: what the shells hand over. -/
import Derived.Test.YtajfffoaebjnlaaPm21
import Derived.Test.YtajfffoaebjnlaaOpenT
namespace Go.Proofs.Ytajfffoaebjnlaa
set_option linter.unusedVariables false
set_option linter.unusedSimpArgs false
open Go.RowKit Go.Shelf
def acF (g : Nat → Int) : Int × Int × Int := (g 0, g 1, g 2)
theorem acts_pos {gs : List (Nat → Int)} (h : ∀ g ∈ gs, ∀ j, j < 3 → (Lit.int (if j = 2 then IntKind.u64 else IntKind.i64) (g j)).wf = true) : ∀ x ∈ gs.map acF, 0 ≤ x.2.2 := fun x hx => by
  obtain ⟨g, hg, rfl⟩ := List.mem_map.1 hx
  have := h g hg 2 (by decide)
  rw [if_pos rfl] at this
  exact (wf_u64 this).1
theorem acts_len {gs : List (Nat → Int)} (h : gs.length ≤ 9223372036854775807) : (gs.map acF).length ≤ 9223372036854775807 := by
  rw [List.length_map]
  exact h
theorem reads_uE {w : World} {v : Value} {ws : List Nat} (h : Reads w v (ints .u64 ws)) : ReadsT uE 1 w v ws := by
  obtain ⟨a, cap, e, hc, h⟩ := h
  have hl : (ints .u64 ws).length = ws.length := by simp [ints]
  rw [hl] at e hc
  exact ⟨a, cap, e, hc, fun hne => by
    obtain ⟨b, off, h1, h2, h3⟩ := h (by intro e; rw [e] at hl; exact hne (List.eq_nil_of_length_eq_zero hl.symm))
    exact ⟨b, off, h1, h2, fun j hj => by rw [flat_u]; exact h3 j (by omega)⟩⟩
theorem flat_y (ws : List Nat) : ws.flatMap yE = ints .u8 ws := by
  induction ws with
  | nil => rfl
  | cons x ws ih => rw [List.flatMap_cons, ih]; rfl
theorem reads_yE {w : World} {v : Value} {ws : List Nat} (h : Reads w v (ints .u8 ws)) : ReadsT yE 1 w v ws := by
  obtain ⟨a, cap, e, hc, h⟩ := h
  have hl : (ints .u8 ws).length = ws.length := by simp [ints]
  rw [hl] at e hc
  exact ⟨a, cap, e, hc, fun hne => by
    obtain ⟨b, off, h1, h2, h3⟩ := h (by intro e; rw [e] at hl; exact hne (List.eq_nil_of_length_eq_zero hl.symm))
    exact ⟨b, off, h1, h2, fun j hj => by rw [flat_y]; exact h3 j (by omega)⟩⟩
end Go.Proofs.Ytajfffoaebjnlaa
