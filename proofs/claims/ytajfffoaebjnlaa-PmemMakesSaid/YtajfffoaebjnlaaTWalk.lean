/- Slices of tuples for the tool that writes walks: facts that are carried; two slices of one's own, one beside the other. Over any program. -/
import Derived.Test.YtajfffoaebjnlaaFreeZ
import Derived.Test.YtajfffoaebjnlaaTGrow
import Derived.Test.YtajfffoaebjnlaaUp
import Derived.Test.YtajfffoaebjnlaaSl
namespace Go.Proofs.Ytajfffoaebjnlaa
set_option linter.unusedVariables false
set_option linter.unusedSimpArgs false
open Go.RowKit Go.Shelf
section
variable {α β : Type} {enc : α → List Value} {k e : Nat} {w w' : World} {v : Value} {ts : List α}
theorem Cells.up {b o : Nat} {vs : List Value} (h : Cells w ⟨b, o, none⟩ vs) (hb : Below w.heap.size w w') : Cells w' ⟨b, o, none⟩ vs := fun j u hu => by
  have h1 := h j u hu
  rw [Addr.add_lit] at h1 ⊢
  exact (World.cell?_of_block (hb.block b (World.block_lt_of_cell? w _ h1))).trans h1
theorem Cells.gr {b o g : Nat} {vs : List Value} (h : Cells w ⟨b, o, none⟩ vs) (hg : w.grownBy w' (some g)) (hne : b ≠ g) : Cells w' ⟨b, o, none⟩ vs := fun j u hu => by
  have h1 := h j u hu
  rw [Addr.add_lit] at h1 ⊢
  exact (World.cell?_of_block (hg.block b (World.block_lt_of_cell? w _ h1) (by simpa using hne))).trans h1
theorem Below.of_none (h : w.grownBy w' none) : Below w.heap.size w w' := (Below.refl _ _).grown h (Nat.le_refl _) fun j ej => by cases ej
theorem Kept.onB {w0 : World} {n : Nat} {K : Nat → Prop} (k : Kept K w w') (h : Below n w0 w) (hK : ∀ j, j < n → K j) : Below n w0 w' :=
  ⟨k.os.trans h.os, k.tape.trans h.tape, k.output.trans h.output, Nat.le_trans h.size k.size, fun j hj => (k.block j (hK j hj)).trans (h.block j hj)⟩
/-- What an append to another slice leaves. -/
theorem OwnsT.apart {r : Option Nat} {base : Nat} (h : OwnsT enc k w base e v ts) (hg : w.grownBy w' r) (hne : v.ownBlock = Option.none ∨ v.ownBlock ≠ r) : OwnsT enc k w' base e v ts := by
  cases r with
  | none => exact h.up (Below.of_none hg)
  | some g =>
    rcases hne with hne | hne
    · exact h.grown hg (by rw [hne]; simp)
    · exact h.grown hg hne
theorem Below.grownO {r : Option Nat} {w0 : World} {n : Nat} (h : Below n w0 w) (hg : w.grownBy w' r) (hn : n ≤ w.heap.size) (hr : ∀ g, r = some g → n ≤ g) : Below n w0 w' := h.grown hg hn hr
theorem RowL.grO {r : Option Nat} {g : Nat} {xs : List Value} (h : RowL w g e xs) (hg : w.grownBy w' r) (hr : r ≠ some g) : RowL w' g e xs := by
  cases r with
  | none => exact h.up (Below.of_none hg)
  | some b => exact h.gr hg (fun e => hr (by rw [e]))
theorem ReadsT.gr {g b off n cap : Nat} (h : ReadsT enc k w (.slice (some ⟨b, off, none⟩) n cap) ts) (hg : w.grownBy w' (some g)) (hne : b ≠ g) : ReadsT enc k w' (.slice (some ⟨b, off, none⟩) n cap) ts := h.grown hg fun x n' c' e _ => by
  simp only [Value.slice.injEq, Option.some.injEq] at e
  rw [← e.1]
  exact hne
theorem OwnsT.apart2 {r : Option Nat} {base : Nat} (h : OwnsT enc k w base e v ts) (hg : w.grownBy w' r) (hne : r = Option.none ∨ r ≠ v.ownBlock) : OwnsT enc k w' base e v ts := by
  rcases hne with rfl | hne
  · exact h.up (Below.of_none hg)
  · exact h.apart hg (.inr (Ne.symm hne))
theorem ownNe1 {v1 v1' v2 : Value} {S : Nat} (hne : v2.ownBlock = Option.none ∨ v2.ownBlock ≠ v1.ownBlock) (h1 : v1'.ownBlock = v1.ownBlock ∨ ∃ b, v1'.ownBlock = some b ∧ S ≤ b) (h2 : v2.ownBlock = Option.none ∨ ∃ b, v2.ownBlock = some b ∧ b < S) : v2.ownBlock = Option.none ∨ v2.ownBlock ≠ v1'.ownBlock := by
  rcases h1 with h1 | ⟨b, h1, hb⟩
  · rw [h1]; exact hne
  · rcases h2 with h2 | ⟨b2, h2, hb2⟩
    · exact .inl h2
    · refine .inr (fun e => ?_)
      rw [h1, h2] at e
      cases e
      omega
theorem ownNe2 {v1 v2 v2' : Value} {S : Nat} (hne : v2.ownBlock = Option.none ∨ v2.ownBlock ≠ v1.ownBlock) (h2 : v2'.ownBlock = v2.ownBlock ∨ ∃ b, v2'.ownBlock = some b ∧ S ≤ b) (h1 : v1.ownBlock = Option.none ∨ ∃ b, v1.ownBlock = some b ∧ b < S) : v2'.ownBlock = Option.none ∨ v2'.ownBlock ≠ v1.ownBlock := by
  rcases h2 with h2 | ⟨b, h2, hb⟩
  · rw [h2]; exact hne
  · refine .inr (fun e => ?_)
    rcases h1 with h1 | ⟨b1, h1, hb1⟩
    · rw [h1, h2] at e; cases e
    · rw [h1, h2] at e; cases e; omega
theorem own_lt {base : Nat} (h : OwnsT enc k w base e v ts) : v.ownBlock = Option.none ∨ ∃ b, v.ownBlock = some b ∧ b < w.heap.size := by
  rcases h.above with h | ⟨b, h, _, hl⟩
  · exact .inl h
  · exact .inr ⟨b, h, hl⟩
theorem own_ge {base : Nat} (h : OwnsT enc k w base e v ts) : ∀ g, v.ownBlock = some g → base ≤ g := by
  intro g hg
  rcases h.above with h | ⟨b, h, hb, _⟩
  · rw [h] at hg; cases hg
  · rw [h] at hg; cases hg; exact hb
theorem own_ne {base g : Nat} (h : OwnsT enc k w base e v ts) (hg : g < base) : v.ownBlock ≠ some g := fun e => by
  have := own_ge h g e
  omega
end
section
variable {P : Program} {w : World} {T TI e : TypeId} {z : Value} {bytes : Nat} {kn : IntKind} {o : Oper} {n i : Nat} {D : List Deferred} {M : Slots} {ops : Array Oper} {ok : World → Prop} {K : Slots → World → Prop}
theorem ZR.append {xs : Array Operand} {v vx : Value} {base m : Nat} {us ys : List Value} (hi : ops[i]? = some o) (ho : o.op = .call { callee := .builtin .append, args := xs, argTypes := #[T, T] }) (hx : evsM M xs.toList = some [v, vx]) (I : El P T e z bytes) (hown : w.ownsRow base e 1 v m us) (hr : Reads w vx ys) (hone : ∀ u ∈ ys, u.oneCell' = true)
    (h63 : m + ys.length ≤ maxLen) (hb : (m + ys.length) * bytes ≤ 140737488355328) (hbase : base ≤ w.heap.size) (hd : dstB n o.dst = true) (hg : wantB ops M o.guard = some true)
    (k : ∀ v' w', w'.ownsRow base e 1 v' (m + ys.length) (us ++ ys) → w.grownBy w' v.ownBlock → ok w' ∧ K (putM M o.dst v') w') : SR P ops ok i K n D M w := by
  obtain ⟨v', w', h1, h2, h3⟩ := run_append_all I o.type hown hr hone h63 hb hbase
  have h := k v' w' h2 h3
  refine SR.val (v := v') hi (R.builtin ho hx fun b => ?_) hd hg h.1 h.2
  unfold builtin
  simp only [Sem.run_bind, h1, Result.andThen_ok, Sem.run_pure]
/-- A write into a row of one's own. -/
theorem owns_set {base g cap m j : Nat} {xs : List Value} {u : Value} (h : w.ownsRow base e 1 (.slice (some ⟨g, 0, none⟩) m cap) m xs) (hj : j < m) :
    ∃ cur, RowL w g e cur ∧ j < cur.length ∧ base ≤ g ∧ ∀ w', RowL w' g e (cur.set j u) → w'.ownsRow base e 1 (.slice (some ⟨g, 0, none⟩) m cap) m (xs.set j u) := by
  rcases id h.2 with ⟨e1, _⟩ | ⟨g', cap', cur, e1, hbg, hg', hnc, hcm, hcs, htake⟩
  · cases e1
  · cases e1
    refine ⟨cur.toList, hg', by simp; omega, hbg, fun w' hw => ⟨by rw [List.length_set]; exact h.1, .inr ⟨g, cap, (cur.toList.set j u).toArray, rfl, hbg, hw, hnc, hcm, by simp [hcs], ?_⟩⟩⟩
    rw [← htake]
    simp only [List.toList_toArray, List.take_set]
end
end Go.Proofs.Ytajfffoaebjnlaa
