/- A field of an element of a slice of structs that the call owns, stored anew. -/
import Derived.Test.YtajfffoaebjnlaaTSet
namespace Go.Proofs.Ytajfffoaebjnlaa
set_option linter.unusedVariables false
set_option linter.unusedSimpArgs false
open Go.RowKit Go.Shelf

section
variable {α : Type} {enc : α → List Value} {k : Nat} {P : Program} {e : TypeId} {r : Option Nat} {ops : Array Oper} {Q : Exit → Act → World → Prop} {rest : List Oper} {w : World} {n : Nat} {D : List Deferred} {M : Slots} {o : Oper}
theorem Enc.setF (E : Enc enc k) (ts : List α) (i c : Nat) (t u : α) (v : Value) (ht : ts[i]? = some t) (hc : c < k) (hu : enc u = (enc t).set c v) : (ts.flatMap enc).set (i * k + c) v = (ts.set i u).flatMap enc := by
  have hi : i < ts.length := (List.getElem?_eq_some_iff.1 ht).1
  have hlen := E.flat ts
  have hin : i * k + k ≤ ts.length * k := by
    have : (i + 1) * k ≤ ts.length * k := Nat.mul_le_mul_right _ hi
    rw [Nat.add_mul] at this
    omega
  have hself : ts.set i t = ts := by
    rw [List.getElem?_eq_getElem hi] at ht
    cases ht
    simp
  have h0 := E.set ts i t hi
  rw [hself] at h0
  have hA : ((ts.flatMap enc).take (i * k)).length = i * k := by rw [List.length_take]; omega
  rw [E.set ts i u hi]
  conv => lhs; rw [h0]
  rw [List.append_assoc, List.set_append_right _ _ (by rw [hA]; omega), hA, show i * k + c - i * k = c by omega, List.set_append_left _ _ (by rw [E.len]; exact hc), ← hu, List.append_assoc]
theorem ownsT_setF {w' : World} (E : Enc enc k) {base g N cap i c : Nat} {ts : List α} {t u : α} {v : Value} (hown : OwnsT enc k w base e (.slice (some ⟨g, 0, none⟩) N cap) ts) (ht : ts[i]? = some t) (hc : c < k) (hu : enc u = (enc t).set c v)
    (hr : ∀ cs, RowL w g e cs → RowL w' g e (cs.set (i * k + c) v)) : OwnsT enc k w' base e (.slice (some ⟨g, 0, none⟩) N cap) (ts.set i u) := by
  rcases id hown.2 with ⟨e1, _⟩ | ⟨g', cap', cur, e1, hbg, hg', hnc, hcm, hcs, htake⟩
  · cases e1
  · cases e1
    have hrow : RowL w g e cur.toList := hg'
    have hi : i < ts.length := (List.getElem?_eq_some_iff.1 ht).1
    have hin : i * k + k ≤ ts.length * k := by
      have : (i + 1) * k ≤ ts.length * k := Nat.mul_le_mul_right _ hi
      rw [Nat.add_mul] at this
      omega
    refine ⟨E.flat _, .inr ⟨g, cap, _, by rw [List.length_set], hbg, hr _ hrow, by rw [List.length_set]; exact hnc, hcm, ?_, ?_⟩⟩
    · simpa using hcs
    · rw [List.length_set, List.take_set, htake, E.setF ts i c t u v ht hc hu]
theorem LL.storeF {x y : Operand} {t : TypeId} {base g off N cap : Nat} {ts : List α} {v : Value} (i c : Nat) (s u : α) (ho : o.op = .store t x y) (hx : evM M x = some (.pointer (some ⟨g, off, none⟩))) (hy : evM M y = some v) (hz : szB P t = some 1) (hoff : off = i * k + c) (E : Enc enc k)
    (hown : OwnsT enc k w base e (.slice (some ⟨g, 0, none⟩) N cap) ts) (hs : ts[i]? = some s) (hc : c < k) (hu : enc u = (enc s).set c v) (h1 : v.oneCell' = true) (hcs : v.cells = #[v]) (hd : o.dst = none) (hg : wantB ops M o.guard = some true)
    (kk : ∀ w', OwnsT enc k w' base e (.slice (some ⟨g, 0, none⟩) N cap) (ts.set i u) → w.grownBy w' (some g) → w'.heap.size = w.heap.size → LL r P ops Q n D M rest w') : LL r P ops Q n D M (o :: rest) w := by
  rcases id hown.2 with ⟨e1, _⟩ | ⟨g', cap', cur, e1, hbg, hg', hnc, hcm, hcs', htake⟩
  · cases e1
  · cases e1
    have hrow : RowL w g e cur.toList := hg'
    have hi : i < ts.length := (List.getElem?_eq_some_iff.1 hs).1
    have hin : i * k + k ≤ ts.length * k := by
      have : (i + 1) * k ≤ ts.length * k := Nat.mul_le_mul_right _ hi
      rw [Nat.add_mul] at this
      omega
    have hck : ts.length * k ≤ cap * k := Nat.mul_le_mul_right _ hnc
    have hcl : cur.toList.length = cap * k := by simpa using hcs'
    subst hoff
    refine LL.store ho hx hy hz hrow (by omega) h1 hcs hd hg ?_
    intro w' r' g' z'
    refine kk w' (ownsT_setF E hown hs hc hu fun cs hcs => ?_) g' z'
    have e2 : cs = cur.toList := by
      have := hcs.symm.trans hrow
      have h2 : cs.toArray = cur := by simpa using this
      rw [← h2]
    rw [e2]
    exact r'
end
end Go.Proofs.Ytajfffoaebjnlaa
