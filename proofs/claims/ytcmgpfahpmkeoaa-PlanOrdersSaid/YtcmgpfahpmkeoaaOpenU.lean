/- Opening the arguments of a law: slices of pairs of an int and a uint64. -/
import Derived.Test.YtcmgpfahpmkeoaaOpen
import Derived.Test.YtcmgpfahpmkeoaaTRows
import Derived.Deep.SlicePairs
import Derived.Lib.SmallJoins
namespace Go.Proofs.Ytcmgpfahpmkeoaa
set_option linter.unusedVariables false
set_option linter.unusedSimpArgs false
open Go.RowKit Go.ChangeShapes Go.WideShapes Go.ChangeAt Go.Deep Go.Joins

def iuE (a : Int × Nat) : List Value := [.int .i64 a.1, .int .u64 (a.2 : Int)]
theorem iuEnc : Enc iuE 2 := ⟨fun _ => rfl, fun a u hu => by
  simp only [iuE, List.mem_cons, List.not_mem_nil, or_false] at hu
  rcases hu with rfl | rfl <;> rfl, by decide⟩
def numV : Value → Int
  | .int _ z => z
  | _ => 0

section
variable {H : Type} {enc : TypeId × Value → H} {P : Program} {w : World} {base : Nat} {spare : Nat → Bool} {held : Bool} {r : Reach} {b0 : Nat} {t : TypeId} {v : Value} {d : DataW H} {p : List MemPlace} {f0 f1 : Field}
theorem open_ius {e : TypeId} (ht : P.underlying t = some (.slice e)) (he : P.underlying e = some (.struct #[f0, f1])) (ce : P.cellsOf e = 2) (o0 : f0.offset = 0) (o1 : f1.offset = 1) (c0 : P.cellsOf f0.type = 1) (c1 : P.cellsOf f1.type = 1)
    (u0 : P.underlying f0.type = some (.int .i64)) (u1 : P.underlying f1.type = some (.int .u64)) (hv : Value.okWide P w r b0 t v) (h : DataW.Trod enc P w base spare held t v d p) :
    ∃ xs : List (Int × Nat), ReadsT iuE 2 w v xs ∧ (∀ x ∈ xs, (Lit.int .i64 x.1).wf = true ∧ x.2 < 18446744073709551616) ∧ xs.length ≤ 9223372036854775807 := by
  obtain ⟨a, len, cap, rfl⟩ := okWide_slice ht hv
  obtain ⟨fuel, hf⟩ := h
  rcases open_slice_pairs ht he ce o0 o1 c0 c1 hf with ⟨hcs, _⟩ | ⟨x, l, c, m, n, V0, V1, D0, D1, P0, P1, hcs, _, hl, hm, hmm, _, hi⟩
  · simp [Value.cells] at hcs
    obtain ⟨rfl, rfl, rfl⟩ := hcs
    exact ⟨[], ReadsT.nil w, by simp, by simp⟩
  · simp [Value.cells] at hcs
    obtain ⟨rfl, rfl, rfl⟩ := hcs
    have hlm : len ≤ m := by rw [hmm]; split <;> omega
    have key : ∀ i, i < len → V0 i = .int .i64 (numV (V0 i)) ∧ V1 i = .int .u64 (((numV (V1 i)).toNat : Nat) : Int) ∧ (Lit.int .i64 (numV (V0 i))).wf = true ∧ (numV (V1 i)).toNat < 18446744073709551616 := by
      intro i hlt
      obtain ⟨_, _, h1, h2⟩ := hi i (by omega)
      obtain ⟨n0, e0, _, w0⟩ := DataW.trod_int u0 h1
      obtain ⟨n1, e1, _, w1⟩ := DataW.trod_int u1 h2
      simp only [List.cons.injEq, and_true] at e0 e1
      rw [e0, e1]
      have := wf_u64 w1
      exact ⟨rfl, by show Value.int .u64 n1 = .int .u64 ((n1.toNat : Nat) : Int); rw [Int.toNat_of_nonneg this.1], w0, by show n1.toNat < _; omega⟩
    have hlen : ((List.range len).map fun i => (numV (V0 i), (numV (V1 i)).toNat)).length = len := by simp
    refine ⟨(List.range len).map fun i => (numV (V0 i), (numV (V1 i)).toNat), ⟨some x, cap, by rw [hlen], by rw [hlen]; exact hl, fun hne => ?_⟩, ?_, ?_⟩
    · have h0 : 0 < len := by
        rcases Nat.eq_zero_or_pos len with h0 | h0
        · subst h0; simp at hne
        · exact h0
      obtain ⟨b, off, spot⟩ := x
      have hc0 := (hi 0 (by omega)).1
      have hspot : spot = none := by simpa [Addr.add] using World.cell?_spot hc0
      subst hspot
      have hblt : b < w.heap.size := by
        rcases Nat.lt_or_ge b w.heap.size with hb | hb
        · exact hb
        · simp [Addr.add, World.cell?, Array.getElem?_eq_none hb] at hc0
      refine ⟨b, off, rfl, hblt, fun j hj => ?_⟩
      rw [hlen] at hj
      have hil : j / 2 < len := by omega
      obtain ⟨hc1, hc2, _, _⟩ := hi (j / 2) (by omega)
      obtain ⟨k1, k2, _, _⟩ := key (j / 2) hil
      rw [Addr.add_lit] at hc1 hc2
      have hget : ((List.range len).map fun i => (numV (V0 i), (numV (V1 i)).toNat))[j / 2]? = some (numV (V0 (j / 2)), (numV (V1 (j / 2))).toNat) := by simp [hil]
      have hg := iuEnc.get _ (j / 2) _ hget (j % 2) (by omega)
      have hje : j / 2 * 2 + j % 2 = j := by omega
      rw [hje] at hg
      rw [hg]
      rcases (by omega : j % 2 = 0 ∨ j % 2 = 1) with hm0 | hm0
      · rw [hm0]
        have : off + j = off + j / 2 * 2 := by omega
        rw [this, hc1, k1]
        rfl
      · rw [hm0]
        have : off + j = off + (j / 2 * 2 + 1) := by omega
        rw [this, hc2, k2]
        rfl
    · intro y hy
      obtain ⟨i, hir, rfl⟩ := List.mem_map.1 hy
      obtain ⟨_, _, w1, w2⟩ := key i (List.mem_range.1 hir)
      exact ⟨w1, w2⟩
    · rw [hlen]
      unfold maxLen at hm
      omega
end
end Go.Proofs.Ytcmgpfahpmkeoaa
