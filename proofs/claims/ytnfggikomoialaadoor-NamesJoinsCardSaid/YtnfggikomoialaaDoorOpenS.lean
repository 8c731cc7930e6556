/- Opening an argument: a slice of strings. -/
import Derived.Test.YtnfggikomoialaaDoorOpen
import Derived.Test.YtnfggikomoialaaDoorBs
import Derived.SliceStrings
namespace Go.Proofs.YtnfggikomoialaaDoor
set_option linter.unusedVariables false
set_option linter.unusedSimpArgs false
open Go.RowKit Go.ChangeShapes Go.WideShapes Go.ChangeAt

section
variable {H : Type} {enc : TypeId × Value → H} {P : Program} {w : World} {base : Nat} {spare : Nat → Bool} {held : Bool} {r : Reach} {b0 : Nat} {t : TypeId} {v : Value} {d : DataW H} {p : List MemPlace}
theorem open_strs {e : TypeId} (ht : P.underlying t = some (.slice e)) (he : P.underlying e = some .string) (hc : P.cellsOf e = 1)
    (hv : Value.okWide P w r b0 t v) (h : DataW.Trod enc P w base spare held t v d p) : ∃ ps : List Bs, ReadsT stE 1 w v ps ∧ ps.length ≤ 9223372036854775807 ∧ ∀ s ∈ ps, s.length ≤ 9223372036854775807 := by
  obtain ⟨a, len, cap, rfl⟩ := okWide_slice ht hv
  obtain ⟨fuel, hf⟩ := h
  rcases open_strings ht he hc hf with ⟨hcs, _⟩ | ⟨x, l, c, ss, hcs, _, hl, hm, hz, _, hcell, hsz⟩
  · simp [Value.cells] at hcs
    obtain ⟨rfl, rfl, rfl⟩ := hcs
    exact ⟨[], ReadsT.nil w, by simp, by simp⟩
  · simp [Value.cells] at hcs
    obtain ⟨rfl, rfl, rfl⟩ := hcs
    have hlz : len ≤ ss.length := by rw [hz]; split <;> omega
    have hlen : ((ss.take len).map fun s => s.data.toList).length = len := by simp; omega
    refine ⟨(ss.take len).map fun s => s.data.toList, ?_, ?_, ?_⟩
    · refine ⟨some x, cap, by rw [hlen], by rw [hlen]; exact hl, fun hne => ?_⟩
      have h0 : 0 < len := by
        rcases Nat.eq_zero_or_pos len with h0 | h0
        · subst h0; simp at hne
        · exact h0
      obtain ⟨b, off, spot⟩ := x
      have hc0 := hcell 0 (by omega)
      have hspot : spot = none := by simpa [Addr.add] using World.cell?_spot hc0
      subst hspot
      have hblt : b < w.heap.size := by
        rcases Nat.lt_or_ge b w.heap.size with hb | hb
        · exact hb
        · simp [Addr.add, World.cell?, Array.getElem?_eq_none hb] at hc0
      refine ⟨b, off, rfl, hblt, fun j hj => ?_⟩
      rw [hlen, Nat.mul_one] at hj
      have hcj := hcell j (by omega)
      have hjz : j < ss.length := by omega
      rw [Addr.add_lit] at hcj
      have hg : ((ss.take len).map fun s => s.data.toList)[j]? = some ss[j].data.toList := by
        simp [hj, hjz]
      have he := stEnc.get _ j _ hg 0 (by omega)
      rw [Nat.mul_one, Nat.add_zero] at he
      rw [hcj, he]
      show _ = some (strV ss[j].data.toList)
      rw [strV, ← bs_data]
      simp [List.getD, hjz]
    · rw [hlen]
      unfold maxLen at hm
      omega
    · intro s hs
      obtain ⟨z, hz', rfl⟩ := List.mem_map.1 hs
      have := hsz z (List.mem_of_mem_take hz')
      unfold maxLen at this
      have e : z.data.toList.length = z.size := Array.length_toList
      omega
end
end Go.Proofs.YtnfggikomoialaaDoor
