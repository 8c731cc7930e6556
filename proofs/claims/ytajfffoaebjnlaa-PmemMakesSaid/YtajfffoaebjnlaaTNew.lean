/- append to a slice of structs without room, told that no row that was there is written; the steps of drawn regions that make memory. -/
import Derived.Test.YtajfffoaebjnlaaTGrow
import Derived.Test.YtajfffoaebjnlaaMesh
import Derived.Deep.Upon
namespace Go.Proofs.Ytajfffoaebjnlaa
set_option linter.unusedVariables false
set_option linter.unusedSimpArgs false
open Go.RowKit Go.Shelf

section
variable {α : Type} {enc : α → List Value} {k : Nat} {P : Program} {T e : TypeId} {z : Value} {bytes : Nat}
theorem run_append_t0 (E : Enc enc k) (I : ElT P T e z k bytes) (ty : TypeId) {base g : Nat} {vx : Value} {us : List α} {w : World} (hown : OwnsT enc k w base e (.slice (some ⟨g, 0, none⟩) 0 0) []) (hr : ReadsT enc k w vx us)
    (h63 : us.length ≤ maxLen) (hb : us.length * bytes ≤ 140737488355328) (hbase : base ≤ w.heap.size) :
    ∃ v' w', (Builtin.append_ #[T, T] ty #[.slice (some ⟨g, 0, none⟩) 0 0, vx]).run P w = .ok v' w' ∧ OwnsT enc k w' base e v' us ∧ Below w.heap.size w w' := by
  obtain ⟨i, hi, hz, hsz, hby⟩ := I.info
  obtain ⟨a, cap, rfl, hc, hcell⟩ := hr
  rcases Classical.em (us = []) with h0 | h0
  · subst h0
    refine ⟨_, w, run_append_nothing w T T ty e i I.under hi _ 0 0 (Nat.le_refl _) _ ?_, hown, Below.refl _ _⟩
    cases a with
    | none => exact Src.ofNil w I.under cap
    | some p => exact Src.ofSlice w I.under p 0 cap [] (by simp) (by simp) (by simp)
  · obtain ⟨b, off, rfl, _, hh⟩ := hcell h0
    have hnews : ∀ j u, (us.flatMap enc)[j]? = some u → w.cell? ((⟨b, off, none⟩ : Addr).add j) = some u := fun j u hj => by
      have hjl : j < us.length * k := by
        have := (List.getElem?_eq_some_iff.1 hj).1
        rwa [E.flat] at this
      rw [Addr.add_lit, hh j hjl, hj]
    obtain ⟨v', w', h1, h2, h3⟩ := run_append_arg_grows (P := P) (w := w) T ty e i z k bytes I.under hi hz hsz hby I.many E.pos ⟨g, 0, none⟩ 0 0 [] (by simp) (by simp) ⟨b, off, none⟩ us.length cap (us.flatMap enc) (E.flat us) hnews (by have := List.length_pos_iff.2 h0; omega) (by omega) (by simpa using hb)
    refine ⟨v', w', h1, ?_, ⟨h3.os, h3.tape, h3.output, h3.size, fun j hj => h3.block j hj (by simp)⟩⟩
    have h4 : OwnsT enc k w' w.heap.size e v' us := by
      unfold OwnsT
      simpa using h2
    exact h4.lower hbase
end

section
variable {α : Type} {enc : α → List Value} {k : Nat} {P : Program} {ops : Array Oper} {Q : Exit → Act → World → Prop} {ok : World → Prop} {acts : List Nat} {φ : Nat → Value → World → Prop} {n i f : Nat} {D : List Deferred} {M : Slots} {w w' : World} {o : Oper} {v : Value} {Rv : Value → World → Prop} {T e t : TypeId} {z : Value} {bytes : Nat} {listed listed1 : Array Bool} {K : Slots → World → Prop} {r : Option Nat} {rest : List Oper}
theorem LL.append0 {xs : Array Operand} {g base : Nat} {vx : Value} {us : List α} (ho : o.op = .call { callee := .builtin .append, args := xs, argTypes := #[T, T] }) (hx : evsM M xs.toList = some [.slice (some ⟨g, 0, none⟩) 0 0, vx]) (E : Enc enc k) (I : ElT P T e z k bytes) (hown : OwnsT enc k w base e (.slice (some ⟨g, 0, none⟩) 0 0) []) (hr : ReadsT enc k w vx us)
    (h63 : us.length ≤ maxLen) (hb : us.length * bytes ≤ 140737488355328) (hbase : base ≤ w.heap.size) (hd : dstB n o.dst = true) (hg : wantB ops M o.guard = some true)
    (c : ∀ v' w', OwnsT enc k w' base e v' us → Below w.heap.size w w' → LL r P ops Q n D (putM M o.dst v') rest w') : LL r P ops Q n D M (o :: rest) w := by
  obtain ⟨v', w', h1, h2, h3⟩ := run_append_t0 E I o.type hown hr h63 hb hbase
  refine LL.val (v := v') (R.builtin ho hx fun b => ?_) hd (by rw [ho]; rfl) hg (c v' w' h2 h3)
  unfold builtin
  simp only [Sem.run_bind, h1, Result.andThen_ok, Sem.run_pure]
theorem MS.append0 {xs : Array Operand} {g base : Nat} {vx : Value} {us : List α} (hi : ops[i]? = some o) (ho : o.op = .call { callee := .builtin .append, args := xs, argTypes := #[T, T] }) (hx : evsM M xs.toList = some [.slice (some ⟨g, 0, none⟩) 0 0, vx]) (E : Enc enc k) (I : ElT P T e z k bytes) (hown : OwnsT enc k w base e (.slice (some ⟨g, 0, none⟩) 0 0) []) (hr : ReadsT enc k w vx us)
    (h63 : us.length ≤ maxLen) (hb : us.length * bytes ≤ 140737488355328) (hbase : base ≤ w.heap.size) (hg : wantB ops M o.guard = some true)
    (c : ∀ v' w', OwnsT enc k w' base e v' us → Below w.heap.size w w' → ok w' ∧ Rv v' w') : MS P ops ok acts φ i Rv n D M w := by
  obtain ⟨v', w', h1, h2, h3⟩ := run_append_t0 E I o.type hown hr h63 hb hbase
  have h := c v' w' h2 h3
  refine MS.val (v := v') hi (R.builtin ho hx fun b => ?_) hg h.1 h.2
  unfold builtin
  simp only [Sem.run_bind, h1, Result.andThen_ok, Sem.run_pure]
theorem MS.lit {ps : Array (Nat × Operand)} {m : Nat} {vs : List (Nat × Value)} (cs : List Value) (len : Nat) (hi : ops[i]? = some o) (ho : o.op = .buildSlice t m ps) (hx : evpM M ps.toList = some vs) (hr : ∀ w, (Instr.buildSlice t m vs.toArray).run P w = .ok (.slice (some ⟨w.heap.size, 0, none⟩) len len) (w.alloc (.cells cs.toArray e))) (hg : wantB ops M o.guard = some true)
    (c : ∀ w1 g, g = w.heap.size → RowL w1 g e cs → Below w.heap.size w w1 → ok w1 ∧ Rv (.slice (some ⟨g, 0, none⟩) len len) w1) : MS P ops ok acts φ i Rv n D M w :=
  have h := c _ _ rfl (RowL.new w e cs) (Below.alloc0 w _)
  MS.val hi (R.buildSlice ho hx (hr w)) hg h.1 h.2
theorem AA.weak {L : List (Nat × Value)} (h : AA P ops ok Q n D (sl L) f listed1 w) (hL : Fits M L) (he : listed1 = listed) : AA P ops ok Q n D M f listed w := by
  subst he; exact AA.mk fun a F => h.h a (F.keep L hL)
theorem SR.lit {ps : Array (Nat × Operand)} {m : Nat} {vs : List (Nat × Value)} (cs : List Value) (len : Nat) (hi : ops[i]? = some o) (ho : o.op = .buildSlice t m ps) (hx : evpM M ps.toList = some vs) (hr : ∀ w, (Instr.buildSlice t m vs.toArray).run P w = .ok (.slice (some ⟨w.heap.size, 0, none⟩) len len) (w.alloc (.cells cs.toArray e))) (hd : dstB n o.dst = true) (hg : wantB ops M o.guard = some true)
    (c : ∀ w1 g, g = w.heap.size → RowL w1 g e cs → Below w.heap.size w w1 → ok w1 ∧ K (putM M o.dst (.slice (some ⟨g, 0, none⟩) len len)) w1) : SR P ops ok i K n D M w :=
  have h := c _ _ rfl (RowL.new w e cs) (Below.alloc0 w _)
  SR.val hi (R.buildSlice ho hx (hr w)) hd hg h.1 h.2
theorem SR.appendT2 {xs : Array Operand} {vx : Value} {base : Nat} {ts us : List α} (hi : ops[i]? = some o) (ho : o.op = .call { callee := .builtin .append, args := xs, argTypes := #[T, T] }) (hx : evsM M xs.toList = some [v, vx]) (E : Enc enc k) (I : ElT P T e z k bytes) (hown : OwnsT enc k w base e v ts) (hr : ReadsT enc k w vx us)
    (h63 : ts.length + us.length ≤ maxLen) (hb : (ts.length + us.length) * bytes ≤ 140737488355328) (hbase : base ≤ w.heap.size) (hd : dstB n o.dst = true) (hg : wantB ops M o.guard = some true)
    (c : ∀ v' w', OwnsT enc k w' base e v' (ts ++ us) → w.grownBy w' v.ownBlock → (v'.ownBlock = v.ownBlock ∨ ∃ b, v'.ownBlock = some b ∧ w.heap.size ≤ b) → ok w' ∧ K (putM M o.dst v') w') : SR P ops ok i K n D M w := by
  obtain ⟨v', w', h1, h2, h3, h4⟩ := run_append_t2 E I o.type hown hr h63 hb hbase
  have h := c v' w' h2 h3 h4
  refine SR.val (v := v') hi (R.builtin ho hx fun b => ?_) hd hg h.1 h.2
  unfold builtin
  simp only [Sem.run_bind, h1, Result.andThen_ok, Sem.run_pure]
/-- A store of one cell into a row that is known, as a step of a drawn region. -/
theorem SR.store {x y : Operand} {g off e : Nat} {xs : List Value} (hi : ops[i]? = some o) (ho : o.op = .store t x y) (hx : evM M x = some (.pointer (some ⟨g, off, none⟩))) (hy : evM M y = some v) (hz : szB P t = some 1) (hr : RowL w g e xs) (hl : off < xs.length) (h1 : v.oneCell' = true) (hcs : v.cells = #[v]) (hd : o.dst = none) (hg : wantB ops M o.guard = some true)
    (c : ∀ w1, RowL w1 g e (xs.set off v) → w.grownBy w1 (some g) → w1.heap.size = w.heap.size → ok w1 ∧ K M w1) : SR P ops ok i K n D M w := SR.mk fun K' hK a F => by
  have h := c _ (hr.set off v) (grown_set w _ v) (by simp [World.setCell])
  unfold stepR
  simp only [hi]
  rw [if_pos (F.want hg)]
  refine .inr (.inl ⟨_, R.store ho hx hy (I.st1R hz hr hl h1 hcs) a F, h.1, ?_⟩)
  rw [hd]
  exact hK _ _ h.2 _ F
end
end Go.Proofs.Ytajfffoaebjnlaa
