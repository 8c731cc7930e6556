/- Slices of one's own that grow in the rounds of a range over a function; facts that such a range leaves. Over any program. -/
import Derived.Test.YtajfffoaebjnlaaSeqZ
import Derived.Test.YtajfffoaebjnlaaTWalk
namespace Go.Proofs.Ytajfffoaebjnlaa
set_option linter.unusedVariables false
set_option linter.unusedSimpArgs false
open Go.RowKit Go.Shelf
section
variable {α : Type} {enc : α → List Value} {k e B : Nat} {m : Nat → Prop} {w w' : World} {v : Value} {ts : List α}
theorem OwnsT.same {base : Nat} (h : OwnsT enc k w base e v ts) (hz : w.heap.size ≤ w'.heap.size) (hs : ∀ (g : Nat) (cs : Array Value), v.ownBlock = some g → w.heap[g]? = some (.cells cs e) → w'.heap[g]? = some (.cells cs e)) : OwnsT enc k w' base e v ts := by
  rcases id h.2 with ⟨e1, e2⟩ | ⟨g, cap, cur, rfl, hbg, hg, r⟩
  · exact ⟨h.1, .inl ⟨e1, e2⟩⟩
  · exact ⟨h.1, .inr ⟨g, cap, cur, rfl, hbg, hs g cur rfl hg, r⟩⟩
theorem OwnsT.turn {base : Nat} (h : OwnsT enc k w base e v ts) (ht : TurnsZ B m w w') (hm : ∀ g, v.ownBlock = some g → ¬ m g) : OwnsT enc k w' base e v ts :=
  h.same ht.size fun g cs hg hx => ht.same g _ hx (.inr ⟨hm g hg, rfl⟩)
theorem TurnsZ.cell {b o : Nat} {u : Value} (ht : TurnsZ B m w w') (h : w.cell? ⟨b, o, none⟩ = some u) (hb : b < B) : w'.cell? ⟨b, o, none⟩ = some u := by
  have hlt := World.block_lt_of_cell? _ _ h
  have hx := Array.getElem?_eq_getElem hlt
  exact (World.cell?_of_block ((ht.same b _ hx (.inl hb)).trans hx.symm)).trans h
theorem cell_grO {b o : Nat} {r : Option Nat} {u : Value} (h : w.cell? ⟨b, o, none⟩ = some u) (hg : w.grownBy w' r) (hr : r ≠ some b) : w'.cell? ⟨b, o, none⟩ = some u := by
  cases r with
  | none => exact cell_up h (Below.of_none hg)
  | some g => exact cell_gr h hg (fun e => hr (by rw [e]))
theorem Reads.sameB {b off len cap : Nat} {xs : List Value} (h : Reads w (.slice (some ⟨b, off, none⟩) len cap) xs) (hz : w.heap.size ≤ w'.heap.size) (hs : ∀ o, w.heap[b]? = some o → w'.heap[b]? = some o) : Reads w' (.slice (some ⟨b, off, none⟩) len cap) xs := by
  obtain ⟨a, c, e, hc, hr⟩ := h
  refine ⟨a, c, e, hc, fun hx => ?_⟩
  obtain ⟨b', off', ea, hb, hcell⟩ := hr hx
  simp only [Value.slice.injEq] at e
  rw [← e.1] at ea
  simp only [Option.some.injEq, Addr.mk.injEq] at ea
  obtain ⟨rfl, rfl, _⟩ := ea
  refine ⟨b, off, by rw [← e.1], Nat.lt_of_lt_of_le hb hz, fun j hj => ?_⟩
  rw [← hcell j hj]
  have hx := Array.getElem?_eq_getElem hb
  exact World.cell?_of_block ((hs _ hx).trans hx.symm)
theorem Reads.turn {b off len cap : Nat} {xs : List Value} (h : Reads w (.slice (some ⟨b, off, none⟩) len cap) xs) (ht : TurnsZ B m w w') (hb : b < B) : Reads w' (.slice (some ⟨b, off, none⟩) len cap) xs :=
  h.sameB ht.size fun o ho => ht.same b o ho (.inl hb)
theorem Reads.grO {b off len cap : Nat} {r : Option Nat} {xs : List Value} (h : Reads w (.slice (some ⟨b, off, none⟩) len cap) xs) (hg : w.grownBy w' r) (hr : r ≠ some b) : Reads w' (.slice (some ⟨b, off, none⟩) len cap) xs := by
  cases r with
  | none => exact h.up (Below.of_none hg)
  | some g => exact h.gr hg (fun e => hr (by rw [e]))
theorem ReadsT.sameB {b off len cap : Nat} (h : ReadsT enc k w (.slice (some ⟨b, off, none⟩) len cap) ts) (hz : w.heap.size ≤ w'.heap.size) (hs : ∀ o, w.heap[b]? = some o → w'.heap[b]? = some o) : ReadsT enc k w' (.slice (some ⟨b, off, none⟩) len cap) ts := by
  obtain ⟨a, c, e, hc, hr⟩ := h
  refine ⟨a, c, e, hc, fun hx => ?_⟩
  obtain ⟨b', off', ea, hb, hcell⟩ := hr hx
  simp only [Value.slice.injEq] at e
  rw [← e.1] at ea
  simp only [Option.some.injEq, Addr.mk.injEq] at ea
  obtain ⟨rfl, rfl, _⟩ := ea
  refine ⟨b, off, by rw [← e.1], Nat.lt_of_lt_of_le hb hz, ?_⟩
  have hx := Array.getElem?_eq_getElem hb
  have hbk := (hs _ hx).trans hx.symm
  intro j hj
  rw [← hcell j hj]
  exact World.cell?_of_block hbk
theorem reads_cell {b off len cap j : Nat} {xs : List Value} {u : Value} (h : Reads w (.slice (some ⟨b, off, none⟩) len cap) xs) (hu : xs[j]? = some u) : w.cell? ⟨b, off + j, none⟩ = some u := by
  obtain ⟨a, c, e, hc, hr⟩ := h
  have hj := (List.getElem?_eq_some_iff.1 hu).1
  obtain ⟨b', off', ea, hb, hcell⟩ := hr (by intro h0; rw [h0] at hj; exact Nat.not_lt_zero _ hj)
  simp only [Value.slice.injEq] at e
  rw [← e.1] at ea
  simp only [Option.some.injEq, Addr.mk.injEq] at ea
  obtain ⟨rfl, rfl, _⟩ := ea
  rw [hcell j hj]
  exact hu
theorem reads_int {b off len cap j : Nat} {kk : IntKind} {ns : List Nat} {y : Nat} (h : Reads w (.slice (some ⟨b, off, none⟩) len cap) (ints kk ns)) (hy : ns[j]? = some y) : w.cell? ⟨b, off + j, none⟩ = some (.int kk (y : Int)) :=
  reads_cell h (by simp only [ints, List.getElem?_map, hy]; rfl)
/-- A write into a slice of one's own, in a round. -/
theorem StaysZ.own {base : Nat} (h : OwnsT enc k w base e v ts) (hg : w.grownBy w' v.ownBlock) (hm : ∀ g, v.ownBlock = some g → ¬ m g) : StaysZ B m w w' := by
  refine ⟨hg.size, fun j o hb hj hc => ?_⟩
  have hlt := (Array.getElem?_eq_some_iff.1 hj).1
  refine (hg.block j hlt fun ej => ?_).trans hj
  rcases id h.2 with ⟨e1, e2⟩ | ⟨g, cap, cur, rfl, hbg, hgg, r⟩
  · rw [e1] at ej; cases ej
  · have ej' : j = g := by simpa [Value.ownBlock] using ej
    subst ej'
    rcases hc with hc | hc
    · exact hm j rfl hc
    · rw [hgg] at hj; cases hj; cases hc
theorem own_later {base : Nat} {m' : Nat → Prop} (o : OwnsT enc k w base e v ts) (hm : ∀ g, v.ownBlock = some g → ¬ m g) (hg : ∀ j, m' j → m j ∨ w.heap.size ≤ j) : ∀ g, v.ownBlock = some g → ¬ m' g := fun g hgv h => by
  rcases hg g h with h | h
  · exact hm g hgv h
  · rcases own_lt o with e1 | ⟨b, e1, hb⟩
    · rw [e1] at hgv; cases hgv
    · rw [e1] at hgv; cases hgv; omega
theorem own_taken {base E : Nat} (o : OwnsT enc k w base e v ts) (hE : w.heap[E]? = some (.deferred (some []))) : OwnsT enc k (taken E w) base e v ts :=
  o.same (by simp [taken]) fun g cs hg hx => (World.putObj_heap_other (fun e => by subst e; rw [hE] at hx; cases hx)).trans hx
theorem ownsT_form {base N : Nat} (h : OwnsT enc k w base e v ts) (hN : ts.length = N) (hn : 0 < N) : ∃ g cap, v = .slice (some ⟨g, 0, none⟩) N cap ∧ base ≤ g ∧ g < w.heap.size ∧ N ≤ cap := by
  subst hN
  rcases id h.2 with ⟨rfl, e1⟩ | ⟨g, cap, cur, rfl, hbg, hg, hnc, hcm, hcs, htake⟩
  · rw [e1] at hn; exact absurd hn (Nat.lt_irrefl _)
  · exact ⟨g, cap, rfl, hbg, (Array.getElem?_eq_some_iff.1 hg).1, hnc⟩
theorem own_new {v' : Value} (h1 : v'.ownBlock = v.ownBlock ∨ ∃ b, v'.ownBlock = some b ∧ w.heap.size ≤ b) (hm : ∀ g, v.ownBlock = some g → ¬ m g) (hlt : ∀ j, m j → j < w.heap.size) : ∀ g, v'.ownBlock = some g → ¬ m g := fun g hg => by
  rcases h1 with h1 | ⟨b, h1, hb⟩
  · exact hm g (by rw [← h1]; exact hg)
  · rw [h1] at hg; cases hg
    intro h
    have := hlt _ h
    omega
end
end Go.Proofs.Ytajfffoaebjnlaa
