/- An element of a slice of structs that the call owns, stored anew; the first elements of one. -/
import Derived.Test.YtajfffoaebjnlaaTClear
namespace Go.Proofs.Ytajfffoaebjnlaa
set_option linter.unusedVariables false
set_option linter.unusedSimpArgs false
open Go.RowKit Go.Shelf

theorem set_part {β : Type} (c1 c2 e : List β) (A k : Nat) (he : e.length = k) (h : A + k ≤ c1.length) : ((c1 ++ c2).take A ++ e ++ (c1 ++ c2).drop (A + k)).take c1.length = c1.take A ++ e ++ c1.drop (A + k) := by
  rw [List.take_append_of_le_length (l₁ := c1) (l₂ := c2) (i := A) (by omega), List.drop_append_of_le_length h, ← List.append_assoc (c1.take A ++ e), List.take_left' (by simp only [List.length_append, List.length_take, List.length_drop]; omega)]
section
variable {α : Type} {enc : α → List Value} {k : Nat}
theorem Enc.set (E : Enc enc k) (ts : List α) (i : Nat) (t : α) (h : i < ts.length) : (ts.set i t).flatMap enc = (ts.flatMap enc).take (i * k) ++ enc t ++ (ts.flatMap enc).drop (i * k + k) := by
  have hp : i * k + k = (i + 1) * k := by rw [Nat.add_mul]; omega
  rw [List.set_eq_take_append_cons_drop, if_pos h, List.flatMap_append, List.flatMap_cons, hp, E.drop, E.take, List.append_assoc]
/-- The first elements. -/
theorem OwnsT.upto (E : Enc enc k) {w : World} {base e g n cap m : Nat} {ts : List α} (h : OwnsT enc k w base e (.slice (some ⟨g, 0, Option.none⟩) n cap) ts) (hm : m ≤ ts.length) : OwnsT enc k w base e (.slice (some ⟨g, 0, Option.none⟩) m cap) (ts.take m) := by
  rcases h.2 with ⟨e1, _⟩ | ⟨g', cap', cur, e1, hbg, hg, hnc, hcm, hcs, htake⟩
  · cases e1
  · cases e1
    refine ⟨E.flat _, .inr ⟨g, cap, cur, ?_, hbg, hg, ?_, hcm, hcs, ?_⟩⟩
    · rw [List.length_take, Nat.min_eq_left hm]
    · rw [List.length_take]; omega
    · rw [List.length_take, Nat.min_eq_left hm, ← E.take, ← htake, List.take_take, Nat.min_eq_left (Nat.mul_le_mul_right _ hm)]
theorem OwnsT.block {w : World} {base e : Nat} {v : Value} {ts : List α} (h : OwnsT enc k w base e v ts) : (v = .slice Option.none 0 0 ∧ ts = []) ∨ ∃ g cap, v = .slice (some ⟨g, 0, Option.none⟩) ts.length cap ∧ ts.length ≤ cap ∧ base ≤ g ∧ g < w.heap.size := by
  rcases h.2 with ⟨e1, h0⟩ | ⟨g, cap, cur, e1, hbg, hg, hnc, _⟩
  · exact .inl ⟨e1, List.eq_nil_of_length_eq_zero h0⟩
  · exact .inr ⟨g, cap, e1, hnc, hbg, (Array.getElem?_eq_some_iff.1 hg).1⟩
end

section
variable {α : Type} {enc : α → List Value} {k : Nat} {P : Program} {w : World} {o : Oper} {n : Nat} {D : List Deferred} {M : Slots} {T e : TypeId} {z : Value} {bytes : Nat} {r : Option Nat} {ops : Array Oper} {Q : Exit → Act → World → Prop} {rest : List Oper}
theorem LL.storeT {x y : Operand} {t : TypeId} {base g N cap i : Nat} {ts : List α} {u : α} (ho : o.op = .store t x y) (hx : evM M x = some (.pointer (some ⟨g, i * k, none⟩))) (hy : evM M y = some (.agg (enc u).toArray)) (hz : szB P t = some k) (E : Enc enc k)
    (hown : OwnsT enc k w base e (.slice (some ⟨g, 0, none⟩) N cap) ts) (hi : i < ts.length) (hd : o.dst = none) (hg : wantB ops M o.guard = some true)
    (c : ∀ w', OwnsT enc k w' base e (.slice (some ⟨g, 0, none⟩) N cap) (ts.set i u) → w.grownBy w' (some g) → LL r P ops Q n D M rest w') : LL r P ops Q n D M (o :: rest) w := by
  rcases id hown.2 with ⟨e1, _⟩ | ⟨g', cap', cur, e1, hbg, hg', hnc, hcm, hcs, htake⟩
  · cases e1
  · cases e1
    have hrow : RowL w g e cur.toList := hg'
    have hin : i * k + k ≤ ts.length * k := by
      have : (i + 1) * k ≤ ts.length * k := Nat.mul_le_mul_right _ hi
      rw [Nat.add_mul] at this
      omega
    have hcl : cur.toList.length = cap * k := by simpa using hcs
    have hck : ts.length * k ≤ cap * k := Nat.mul_le_mul_right _ hnc
    refine LL.storeN (vs := enc u) ho hx hy (by rw [hz, E.len]) hrow (by rw [E.len]; omega) (E.one u) hd hg ?_
    intro w' r' g' z'
    refine c w' ?_ g'
    refine ⟨E.flat _, .inr ⟨g, cap, _, by rw [List.length_set], hbg, r', by rw [List.length_set]; exact hnc, hcm, ?_, ?_⟩⟩
    · simp only [List.size_toArray, List.length_append, List.length_take, List.length_drop, E.len, hcl]
      omega
    · rw [List.length_set, E.set ts i u hi]
      have hcur : cur.toList = ts.flatMap enc ++ cur.toList.drop (ts.length * k) := by rw [← htake, List.take_append_drop]
      have hfl := E.flat ts
      rw [hcur, E.len, ← hfl]
      exact set_part _ _ _ _ _ (E.len u) (by omega)
end
end Go.Proofs.Ytajfffoaebjnlaa
