/- append to a slice of structs that the call owns, told where the row lies behind it. -/
import Derived.Test.YtajfffoaebjnlaaTRows
import Derived.ArgAppend
namespace Go.Proofs.Ytajfffoaebjnlaa
set_option linter.unusedVariables false
set_option linter.unusedSimpArgs false
open Go.RowKit Go.Shelf

section
variable {α : Type} {enc : α → List Value} {k : Nat} {P : Program} {T e : TypeId} {z : Value} {bytes : Nat}
theorem OwnsT.lower {w : World} {base base' : Nat} {v : Value} {ts : List α} (h : OwnsT enc k w base' e v ts) (hb : base ≤ base') : OwnsT enc k w base e v ts := by
  refine ⟨h.1, ?_⟩
  rcases h.2 with h2 | ⟨g, cap, cur, rfl, hbg, h3⟩
  · exact .inl h2
  · exact .inr ⟨g, cap, cur, rfl, by omega, h3⟩
theorem OwnsT.above {w : World} {base : Nat} {v : Value} {ts : List α} (h : OwnsT enc k w base e v ts) : v.ownBlock = Option.none ∨ ∃ b, v.ownBlock = some b ∧ base ≤ b ∧ b < w.heap.size := by
  rcases h.2 with ⟨rfl, _⟩ | ⟨g, cap, cur, rfl, hbg, hg, _⟩
  · exact .inl rfl
  · exact .inr ⟨g, rfl, hbg, (Array.getElem?_eq_some_iff.1 hg).1⟩
theorem run_append_t2 (E : Enc enc k) (I : ElT P T e z k bytes) (ty : TypeId) {base : Nat} {v vx : Value} {ts us : List α} {w : World} (hown : OwnsT enc k w base e v ts) (hr : ReadsT enc k w vx us)
    (h63 : ts.length + us.length ≤ maxLen) (hb : (ts.length + us.length) * bytes ≤ 140737488355328) (hbase : base ≤ w.heap.size) :
    ∃ v' w', (Builtin.append_ #[T, T] ty #[v, vx]).run P w = .ok v' w' ∧ OwnsT enc k w' base e v' (ts ++ us) ∧ w.grownBy w' v.ownBlock ∧ (v'.ownBlock = v.ownBlock ∨ ∃ b, v'.ownBlock = some b ∧ w.heap.size ≤ b) := by
  rcases id hown.2 with ⟨rfl, h0⟩ | ⟨g, cap, cur, rfl, hbg, hg, hnc, hcm, hcs, htake⟩
  · have : ts = [] := List.eq_nil_of_length_eq_zero h0
    subst this
    obtain ⟨v', w', h1, h2, h3⟩ := run_append_t (base := w.heap.size) E I ty (OwnsT.none w _ e) hr h63 hb (Nat.le_refl _)
    refine ⟨v', w', h1, h2.lower hbase, h3, ?_⟩
    rcases h2.above with h | ⟨b, h, hb, _⟩
    · exact .inl h
    · exact .inr ⟨b, h, hb⟩
  · obtain ⟨i, hi, hz, hsz, hby⟩ := I.info
    obtain ⟨a, cap2, rfl, hc, hcell⟩ := hr
    cases a with
    | none =>
      have hus : us = [] := by
        rcases Classical.em (us = []) with h | h
        · exact h
        · obtain ⟨b, off, ha, _⟩ := hcell h
          cases ha
      subst hus
      exact ⟨_, w, run_append_nilsrc w I.under hi g _ cap cap2 hnc, by simpa using hown, grown_refl w _, .inl rfl⟩
    | some p =>
      have hnews : ∀ j u, (us.flatMap enc)[j]? = some u → w.cell? (p.add j) = some u := fun j u hj => by
        have hjl : j < us.length * k := by
          have := (List.getElem?_eq_some_iff.1 hj).1
          rwa [E.flat] at this
        have hne : us ≠ [] := by intro e; simp [e] at hj
        obtain ⟨b, off, ha, _, hh⟩ := hcell hne
        cases ha
        rw [Addr.add_lit, hh j hjl, hj]
      by_cases hroom : ts.length + us.length ≤ cap
      · obtain ⟨w', h1, h2, h3⟩ := run_append_fits (P := P) (w := w) base T ty e i k I.under hi hsz g ts.length cap _ hown p us.length cap2 (us.flatMap enc) (E.flat us) hnews (E.ones us) hroom
        refine ⟨_, w', h1, ?_, h3, .inl rfl⟩
        unfold OwnsT
        rw [List.length_append, List.flatMap_append]
        exact h2
      · have holds : ∀ j u, (ts.flatMap enc)[j]? = some u → w.cell? ((⟨g, 0, none⟩ : Addr).add j) = some u := fun j u hj => by
          have hjl : j < ts.length * k := by
            have := (List.getElem?_eq_some_iff.1 hj).1
            rwa [E.flat] at this
          obtain ⟨_, _, e1, _, h⟩ := hown.reads E
          cases e1
          obtain ⟨b, off, ha, _, hh⟩ := h (by intro e; simp [e] at hj)
          cases ha
          rw [Addr.add_lit, hh j hjl, hj]
        obtain ⟨v', w', h1, h2, h3⟩ := run_append_arg_grows (P := P) (w := w) T ty e i z k bytes I.under hi hz hsz hby I.many E.pos ⟨g, 0, none⟩ ts.length cap (ts.flatMap enc) (E.flat ts) holds p us.length cap2 (us.flatMap enc) (E.flat us) hnews (by omega) h63 hb
        have h4 : OwnsT enc k w' w.heap.size e v' (ts ++ us) := by
          unfold OwnsT
          rw [List.length_append, List.flatMap_append]
          exact h2
        refine ⟨v', w', h1, h4.lower hbase, ⟨h3.os, h3.tape, h3.output, h3.size, fun j hj _ => h3.block j hj (by simp)⟩, ?_⟩
        rcases h4.above with h | ⟨b, h, hb, _⟩
        · exfalso
          rcases h2.2 with ⟨_, h0⟩ | ⟨g', cap', cur', rfl, _⟩
          · omega
          · simp [Value.ownBlock] at h
        · exact .inr ⟨b, h, hb⟩
end

section
variable {α : Type} {enc : α → List Value} {k : Nat} {P : Program} {w : World} {o : Oper} {n : Nat} {D : List Deferred} {M : Slots} {T e : TypeId} {z : Value} {bytes : Nat} {r : Option Nat} {ops : Array Oper} {Q : Exit → Act → World → Prop} {rest : List Oper}
theorem LL.appendT2 {xs : Array Operand} {v vx : Value} {base : Nat} {ts us : List α} (ho : o.op = .call { callee := .builtin .append, args := xs, argTypes := #[T, T] }) (hx : evsM M xs.toList = some [v, vx]) (E : Enc enc k) (I : ElT P T e z k bytes) (hown : OwnsT enc k w base e v ts) (hr : ReadsT enc k w vx us)
    (h63 : ts.length + us.length ≤ maxLen) (hb : (ts.length + us.length) * bytes ≤ 140737488355328) (hbase : base ≤ w.heap.size) (hd : dstB n o.dst = true) (hg : wantB ops M o.guard = some true)
    (c : ∀ v' w', OwnsT enc k w' base e v' (ts ++ us) → w.grownBy w' v.ownBlock → (v'.ownBlock = v.ownBlock ∨ ∃ b, v'.ownBlock = some b ∧ w.heap.size ≤ b) → LL r P ops Q n D (putM M o.dst v') rest w') : LL r P ops Q n D M (o :: rest) w := by
  obtain ⟨v', w', h1, h2, h3, h4⟩ := run_append_t2 E I o.type hown hr h63 hb hbase
  refine LL.val (v := v') (R.builtin ho hx fun b => ?_) hd (by rw [ho]; rfl) hg (c v' w' h2 h3 h4)
  unfold builtin
  simp only [Sem.run_bind, h1, Result.andThen_ok, Sem.run_pure]
end
end Go.Proofs.Ytajfffoaebjnlaa
