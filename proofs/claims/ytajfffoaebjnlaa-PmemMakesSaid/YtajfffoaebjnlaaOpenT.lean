/- Opening the arguments of a law: slices of structs of integers. Over any program. -/
import Derived.Test.YtajfffoaebjnlaaOpenI
import Derived.Test.YtajfffoaebjnlaaTRows
import Derived.Deep.Slices
namespace Go.Proofs.Ytajfffoaebjnlaa
set_option linter.unusedVariables false
set_option linter.unusedSimpArgs false
open Go.RowKit Go.ChangeShapes Go.WideShapes Go.ChangeAt Go.Deep
section
variable {α : Type} {encT : α → List Value} {H : Type} {enc : TypeId × Value → H} {P : Program} {w : World} {base : Nat} {spare : Nat → Bool} {held : Bool} {r : Reach} {b0 : Nat} {t : TypeId} {v : Value} {d : DataW H} {p : List MemPlace}
theorem open_rowsT {e c : Nat} (ks : Nat → IntKind) (E : Enc encT c) (f : (Nat → Int) → α) (hf : ∀ g, encT (f g) = (List.range c).map fun j => Value.int (ks j) (g j)) (ht : P.underlying t = some (.slice e)) (ce : P.cellsOf e = c) (hk : (List.range c).all (fun j => atC P 9 e j == some (ks j)) = true)
    (hv : Value.okWide P w r b0 t v) (h : DataW.Trod enc P w base spare held t v d p) : ∃ gs : List (Nat → Int), ReadsT encT c w v (gs.map f) ∧ (∀ g ∈ gs, ∀ j, j < c → (Lit.int (ks j) (g j)).wf = true) ∧ gs.length ≤ 9223372036854775807 := by
  obtain ⟨a, len, cap, rfl⟩ := okWide_slice ht hv
  obtain ⟨fuel, hfu⟩ := h
  rcases open_slice ht hfu with ⟨hcs, _⟩ | ⟨x, l, c', m, n, D, Pl, hcs, hb, hl, hm, hmm, _, hx⟩
  · simp [Value.cells] at hcs
    obtain ⟨rfl, rfl, rfl⟩ := hcs
    exact ⟨[], ReadsT.nil w, by simp, by simp⟩
  · simp [Value.cells] at hcs
    obtain ⟨rfl, rfl, rfl⟩ := hcs
    have hlm : len ≤ m := by rw [hmm]; split <;> omega
    have each : ∀ i, i < len → ∃ g : Nat → Int, ∀ j, j < c → w.cell? (x.add (i * c + j)) = some (.int (ks j) (g j)) ∧ (Lit.int (ks j) (g j)).wf = true := by
      intro i hi
      obtain ⟨cs', h1, h2⟩ := hx i (by omega)
      rw [ce] at h1
      obtain ⟨_, hlen, hcell⟩ := World.cells?_some h1
      have hj : ∀ j, ∃ z : Int, j < c → cs'[j]? = some (.int (ks j) z) ∧ (Lit.int (ks j) z).wf = true := fun j => by
        by_cases hjc : j < c
        · have hkj := List.all_eq_true.1 hk j (List.mem_range.2 hjc)
          obtain ⟨z, h3, h4⟩ := trod_at 9 e j n cs' (D i, Pl i) (ks j) (by simpa using hkj) h2
          exact ⟨z, fun _ => ⟨h3, h4⟩⟩
        · exact ⟨0, fun h => absurd h hjc⟩
      refine ⟨fun j => Classical.choose (hj j), fun j hjc => ?_⟩
      have hs := Classical.choose_spec (hj j) hjc
      refine ⟨?_, hs.2⟩
      have := hcell j (by omega)
      rw [add_add] at this
      rw [this]
      exact hs.1
    obtain ⟨G, hG⟩ := choose_lt each
    have hlen : (((List.range len).map G).map f).length = len := by simp
    refine ⟨(List.range len).map G, ⟨some x, cap, by rw [hlen], by rw [hlen]; exact hl, fun hne => ?_⟩, ?_, ?_⟩
    · have h0 : 0 < len := by
        rcases Nat.eq_zero_or_pos len with h0 | h0
        · subst h0; simp at hne
        · exact h0
      have hcp := E.pos
      obtain ⟨b, off, spot⟩ := x
      have hc0 := (hG 0 h0 0 hcp).1
      have hspot : spot = none := by simpa [Addr.add] using World.cell?_spot hc0
      subst hspot
      have hblt : b < w.heap.size := by
        rcases Nat.lt_or_ge b w.heap.size with hb | hb
        · exact hb
        · simp [Addr.add, World.cell?, Array.getElem?_eq_none hb] at hc0
      refine ⟨b, off, rfl, hblt, fun j hj => ?_⟩
      rw [hlen] at hj
      have hil : j / c < len := (Nat.div_lt_iff_lt_mul hcp).2 hj
      have hrl : j % c < c := Nat.mod_lt _ hcp
      have hc1 := (hG (j / c) hil (j % c) hrl).1
      rw [Addr.add_lit] at hc1
      have hje : j / c * c + j % c = j := by rw [Nat.mul_comm]; exact Nat.div_add_mod _ _
      have hget : (((List.range len).map G).map f)[j / c]? = some (f (G (j / c))) := by simp [hil]
      have hg := E.get _ (j / c) _ hget (j % c) hrl
      rw [hje] at hg hc1
      rw [hg, hf, hc1]
      simp [hrl]
    · intro g hg j hj
      obtain ⟨i, hi, rfl⟩ := List.mem_map.1 hg
      exact (hG i (List.mem_range.1 hi) j hj).2
    · simp only [List.length_map, List.length_range]
      unfold maxLen at hm
      omega
end
end Go.Proofs.Ytajfffoaebjnlaa
