/- clear behind the end of a slice of structs that the call owns; s[lo:hi]. -/
import Derived.Test.YtajfffoaebjnlaaTGrow
namespace Go.Proofs.Ytajfffoaebjnlaa
set_option linter.unusedVariables false
set_option linter.unusedSimpArgs false
open Go.RowKit Go.Shelf

section
variable {α : Type} {enc : α → List Value} {k : Nat} {P : Program} {T e : TypeId} {z : Value} {bytes : Nat}
theorem run_part_t (I : ElT P T e z k bytes) (a : Option Addr) (len cap lo hi : Nat) (h : lo ≤ hi) (hc : hi ≤ cap) (w : World) :
    (Instr.slice T (.slice a len cap) (some (.int .i64 (lo : Int))) (some (.int .i64 (hi : Int))) none).run P w = .ok (.slice (if cap = lo then a else a.map fun p => p.add (lo * k)) (hi - lo) (cap - lo)) w := by
  obtain ⟨i, hi', hz, hsz, hby⟩ := I.info
  simp [Instr.slice, run_underlying I.under, Instr.sliceBounds, run_sliceBound, sizeOf, typeInfo, hi', hsz, (by omega : (lo : Int) ≤ (hi : Int)), (by omega : (hi : Int) ≤ (cap : Int))]
theorem run_clear_none (hu : P.underlying T = some (.slice e)) (ty : TypeId) (a : Option Addr) (c : Nat) (w : World) : (Builtin.clear_ #[T] ty #[.slice a 0 c]).run P w = .ok (.tuple #[]) w := by
  cases a <;> simp [Builtin.clear_, run_underlying hu]
theorem run_clear_t (E : Enc enc k) (I : ElT P T e z k bytes) (hz1 : ∀ u ∈ z.cells, u.oneCell' = true) (ty : TypeId) {base g cap m c : Nat} {ts : List α} {w : World} (hown : OwnsT enc k w base e (.slice (some ⟨g, 0, none⟩) ts.length cap) ts) (hm : ts.length + m ≤ cap) :
    ∃ w', (Builtin.clear_ #[T] ty #[.slice (some ⟨g, ts.length * k, none⟩) m c]).run P w = .ok (.tuple #[]) w' ∧ OwnsT enc k w' base e (.slice (some ⟨g, 0, none⟩) ts.length cap) ts ∧ w.grownBy w' (some g) := by
  obtain ⟨i, hi, hz, hsz, hby⟩ := I.info
  rcases Nat.eq_zero_or_pos m with h0 | h0
  · subst h0
    exact ⟨w, run_clear_none I.under ty _ c w, hown, grown_refl w _⟩
  · rcases id hown.2 with ⟨e1, _⟩ | ⟨g', cap', cur, e1, hbg, hg, hnc, hcm, hcs, htake⟩
    · cases e1
    · cases e1
      have hzl : (Builtin.zeroCells z.cells m).toList.length = m * k := by
        rw [Array.length_toList, size_zeroCells, I.many]
      have hfit : ts.length * k + (Builtin.zeroCells z.cells m).toList.length ≤ cur.size := by
        rw [hzl, hcs, ← Nat.add_mul]
        exact Nat.mul_le_mul_right _ hm
      have hone : ∀ u ∈ (Builtin.zeroCells z.cells m).toList, u.oneCell' = true := by
        intro u hu
        simp [Builtin.zeroCells] at hu
        obtain ⟨a, _, rfl⟩ := hu
        have hp : a % z.cells.size < z.cells.size := Nat.mod_lt _ (by rw [I.many]; exact E.pos)
        rw [getElem!_pos z.cells _ hp]
        exact hz1 _ (Array.getElem_mem hp)
      have hs := run_storeCells_at (P := P) g (ts.length * k) e (Builtin.zeroCells z.cells m).toList 0 cur w hg (by simpa using hfit) hone
      simp only [Nat.add_zero] at hs
      refine ⟨w.setRow g (cur.toList.take (ts.length * k) ++ (Builtin.zeroCells z.cells m).toList ++ cur.toList.drop (ts.length * k + (Builtin.zeroCells z.cells m).toList.length)).toArray, ?_, ?_, setRow_grown w g _⟩
      · obtain ⟨m', rfl⟩ : ∃ m', m = m' + 1 := ⟨m - 1, by omega⟩
        simp [Builtin.clear_, run_underlying I.under, zeroValue, typeInfo, hi, hz, hs]
      · refine ⟨hown.1, .inr ⟨g, cap, _, rfl, hbg, setRow_heap w g cur _ e _ hg, hnc, hcm, ?_, ?_⟩⟩
        · have hcl : cur.toList.length = cap * k := by simpa using hcs
          have htk : ts.length * k + m * k ≤ cap * k := by rw [← Nat.add_mul]; exact Nat.mul_le_mul_right _ hm
          rw [hzl]
          simp only [List.size_toArray, List.length_append, List.length_take, List.length_drop, hzl, hcl]
          omega
        · have hcl : cur.toList.length = cap * k := by simpa using hcs
          have htk : ts.length * k ≤ cap * k := Nat.mul_le_mul_right _ (by omega)
          have hlt : (cur.toList.take (ts.length * k)).length = ts.length * k := by
            rw [List.length_take, hcl]
            omega
          rw [List.append_assoc, List.take_left' hlt]
          exact htake
end
end Go.Proofs.Ytajfffoaebjnlaa
