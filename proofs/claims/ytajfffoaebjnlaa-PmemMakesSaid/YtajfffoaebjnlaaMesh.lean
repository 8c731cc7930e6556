/- Regions that draw their order: several steps that make memory, none of which harms what the others made: one goal for each step, not one for each order. -/
import Derived.Test.YtajfffoaebjnlaaFree
namespace Go.Proofs.Ytajfffoaebjnlaa
set_option linter.unusedVariables false
set_option linter.unusedSimpArgs false
open Go.RowKit Go.Shelf

/-- Each order goes through these steps, and ends with them all. -/
def meshB (ops : Array Oper) (acts : List Nat) (L1 : Array Bool) : Nat → Array Bool → Bool
  | 0, listed => listed == L1
  | k + 1, listed => match Region.ready .any ops listed with
    | [] => false
    | r => r.all fun i => acts.contains i && meshB ops acts L1 k (listed.setIfInBounds i true)
def dstO (ops : Array Oper) (i : Nat) : Option Nat := (ops[i]?).bind (·.dst)
/-- Steps write to slots of their own. -/
def ownB (ops : Array Oper) (L : List (Nat × Value)) : List Nat → Bool
  | [] => true
  | i :: is => (match dstO ops i with | some d => (L.all fun x => !Nat.beq x.1 d) && is.all (fun j => match dstO ops j with | some e => !Nat.beq e d | none => true) | none => true) && (ops[i]?).isSome && ownB ops L is
def depB (ops : Array Oper) (i j : Nat) : Bool := match ops[i]? with
  | some o => o.after.any fun e => Region.binds .any e && Nat.beq e.on j
  | none => false
def AtD (d : Option Nat) (a : Act) (v : Value) : Prop := ∀ s, d = some s → a.tmps.getD s undef = v

/-- One step: what it needs of the others, what it makes. -/
structure MS (P : Program) (ops : Array Oper) (ok : World → Prop) (acts : List Nat) (φ : Nat → Value → World → Prop) (i : Nat) (R : Value → World → Prop) (n : Nat) (D : List Deferred) (M : Slots) (w : World) : Prop where
  h : ∀ a o, ops[i]? = some o → Fr n D M a → (∀ j ∈ acts, depB ops i j = true → ∃ v, AtD (dstO ops j) a v ∧ φ j v w) → ∀ K : Act → World → Prop, (∀ v w', ok w' → R v w' → K (a.put o.dst v) w') → stepR P ops ok i K a w

section
variable {P : Program} {ops : Array Oper} {Q : Exit → Act → World → Prop} {ok : World → Prop} {acts : List Nat} {φ : Nat → Value → World → Prop} {n i : Nat} {D : List Deferred} {M : Slots} {w w' : World} {o : Oper} {v : Value} {R : Value → World → Prop}
theorem Fr.more {a : Act} (F : Fr n D M a) {d : Nat} (h : a.tmps.getD d undef = v) : Fr n D (up M d v) a := ⟨F.size, F.defers, fun s u hs => by
  simp only [up] at hs
  by_cases e : s = d
  · subst e; rw [Nat.beq_refl] at hs; cases hs; exact h
  · rw [beq_ne e] at hs; exact F.get s u hs⟩
/-- What another step made. -/
theorem MS.dep (j : Nat) {d : Nat} (hj : acts.contains j = true) (hd : depB ops i j = true) (hs : dstO ops j = some d) (k : ∀ v, φ j v w → MS P ops ok acts φ i R n D (up M d v) w) : MS P ops ok acts φ i R n D M w := MS.mk fun a o ho F hf K hK => by
  obtain ⟨v, h1, h2⟩ := hf j (by simpa using hj) hd
  exact (k v h2).h a o ho (F.more (h1 d hs)) hf K hK
theorem MS.val (hi : ops[i]? = some o) (hr : Runs P n D M o w (.value v) w') (hg : wantB ops M o.guard = some true) (hok : ok w') (h : R v w') : MS P ops ok acts φ i R n D M w := MS.mk fun a o' ho F _ K hK => by
  obtain rfl : o = o' := Option.some.inj (hi.symm.trans ho)
  unfold stepR
  simp only [hi]
  rw [if_pos (F.want hg)]
  exact .inl ⟨v, w', hr a F, hok, hK _ _ hok h⟩
theorem MS.call {g : FuncId} {args : Array Value} {R' : Ending → World → Prop} (hi : ops[i]? = some o) (hr : Runs P n D M o w (.enter g args) w) (hg : wantB ops M o.guard = some true) (hc : Calls P g args w R') (k : ∀ e w'', R' e w'' → ∃ v, e = .returned v ∧ ok w'' ∧ R v w'') : MS P ops ok acts φ i R n D M w := MS.mk fun a o' ho F _ K hK => by
  obtain rfl : o = o' := Option.some.inj (hi.symm.trans ho)
  unfold stepR
  simp only [hi]
  rw [if_pos (F.want hg)]
  exact .inr (.inr ⟨g, args, w, R', hr a F, hc, fun e w'' hR => by
    obtain ⟨v, he, h1, h2⟩ := k e w'' hR
    exact ⟨v, he, h1, hK _ _ h1 h2⟩⟩)

theorem meshB_ready {L1 : Array Bool} {k : Nat} {listed : Array Bool} (h : meshB ops acts L1 (k + 1) listed = true) : Region.ready .any ops listed ≠ [] ∧ ∀ j ∈ Region.ready .any ops listed, j ∈ acts ∧ meshB ops acts L1 k (listed.setIfInBounds j true) = true := by
  unfold meshB at h
  split at h
  · cases h
  · rename_i hne
    refine ⟨fun e => hne e, fun j hj => ?_⟩
    have := List.all_eq_true.1 h j hj
    simp only [Bool.and_eq_true] at this
    exact ⟨by simpa using this.1, this.2⟩
theorem ownB_get {L : List (Nat × Value)} : ∀ {is : List Nat}, ownB ops L is = true → ∀ j ∈ is, (∃ o, ops[j]? = some o) ∧ ∀ d, dstO ops j = some d → (∀ x ∈ L, x.1 ≠ d) ∧ ∀ j' ∈ is, j' ≠ j → dstO ops j' ≠ some d
  | [], _, j, hj => by cases hj
  | i :: is, h, j, hj => by
    simp only [ownB, Bool.and_eq_true] at h
    obtain ⟨⟨h1, h2⟩, h3⟩ := h
    rcases List.mem_cons.1 hj with rfl | hj'
    · refine ⟨Option.isSome_iff_exists.1 h2, fun d hd => ?_⟩
      rw [hd] at h1
      simp only [Bool.and_eq_true, List.all_eq_true] at h1
      refine ⟨fun x hx e => ?_, fun j' hj' hne e => ?_⟩
      · have := h1.1 x hx
        rw [e, Nat.beq_refl] at this
        cases this
      · rcases List.mem_cons.1 hj' with rfl | hj''
        · exact hne rfl
        · have := h1.2 j' hj''
          simp only [e, Nat.beq_refl] at this
          cases this
    · have ih := ownB_get h3 j hj'
      refine ⟨ih.1, fun d hd => ⟨(ih.2 d hd).1, fun j' hj'' hne e => ?_⟩⟩
      rcases List.mem_cons.1 hj'' with rfl | hj3
      · rw [e] at h1
        simp only [Bool.and_eq_true, List.all_eq_true] at h1
        have := h1.2 j hj'
        simp only [hd, Nat.beq_refl] at this
        cases this
      · exact (ih.2 d hd).2 j' hj3 hne e
theorem sl_mem : ∀ {L : List (Nat × Value)} {s : Nat} {v : Value}, sl L s = some v → ∃ x ∈ L, x.1 = s
  | [], s, v, h => by cases h
  | (t, u) :: l, s, v, h => by
    simp only [sl] at h
    by_cases e : s = t
    · exact ⟨(t, u), List.mem_cons_self .., e.symm⟩
    · rw [beq_ne e] at h
      obtain ⟨x, hx, hxs⟩ := sl_mem h
      exact ⟨x, List.mem_cons_of_mem _ hx, hxs⟩
theorem getD_tf {listed : Array Bool} {j : Nat} (h : listed.getD j false = true) : listed.getD j true = true := by
  rw [Array.getD_eq_getD_getElem?] at *
  cases hj : listed[j]? with
  | none => rfl
  | some b => rw [hj] at h; exact h
theorem getD_put_ne {a : Act} {d s : Nat} {v : Value} (h : s ≠ d) : (a.put (some d) v).tmps.getD s undef = a.tmps.getD s undef := by
  simp [Act.put, Array.getD_eq_getD_getElem?, Array.getElem?_setIfInBounds, Ne.symm h]
theorem getD_put_self {a : Act} {d : Nat} {v : Value} (h : d < a.tmps.size) : (a.put (some d) v).tmps.getD d undef = v := by
  simp [Act.put, Array.getD_eq_getD_getElem?, h]

/-- With what the steps made. -/
def actM (ops : Array Oper) (M : Slots) (vs : Nat → Value) : List Nat → Slots
  | [] => M
  | j :: js => match dstO ops j with | some d => up (actM ops M vs js) d (vs j) | none => actM ops M vs js
theorem Fr.withM {a : Act} {vs : Nat → Value} (F : Fr n D M a) : ∀ {is : List Nat}, (∀ j ∈ is, AtD (dstO ops j) a (vs j)) → Fr n D (actM ops M vs is) a
  | [], _ => F
  | j :: js, h => by
    have ih := Fr.withM F (fun i hi => h i (List.mem_cons_of_mem _ hi))
    unfold actM
    cases hd : dstO ops j with
    | none => exact ih
    | some d => exact ih.more (h j (List.mem_cons_self ..) d hd)
theorem AA.mesh {L : List (Nat × Value)} {listed : Array Bool} (stab : World → World → Prop) (acts : List Nat) (φ : Nat → Value → World → Prop) (k f1 : Nat) (L1 : Array Bool) (hL : Fits M L) (hB : meshB ops acts L1 k listed = true) (hO : ownB ops L acts = true) (hN : acts.all (fun i => dstB n (dstO ops i)) = true) (h0 : acts.all (fun i => !listed.getD i true) = true) (hA : acts.all (fun i => L1.getD i true) = true) (hok : ok w)
    (hst : ∀ j v w w', φ j v w → stab w w' → φ j v w')
    (hstep : ∀ i ∈ acts, ∀ w, ok w → MS P ops ok acts φ i (fun v w' => stab w w' ∧ φ i v w') n D (sl L) w)
    (rest : ∀ w', ok w' → ∀ vs : Nat → Value, (∀ j ∈ acts, φ j (vs j) w') → AA P ops ok Q n D (actM ops (sl L) vs acts) f1 L1 w') : AA P ops ok Q n D M (k + f1) listed w := AA.mk fun a F => by
  have key : ∀ k listed a w, meshB ops acts L1 k listed = true → Fr n D (sl L) a → ok w → (∀ j ∈ acts, listed.getD j true = true → ∃ v, AtD (dstO ops j) a v ∧ φ j v w) → (∀ j ∈ acts, L1.getD j true = true) → AnyR P ops ok Q (k + f1) listed a w := by
    intro k
    induction k with
    | zero =>
      intro listed a w hB F hok hf hall
      have hl : listed = L1 := by simpa [meshB] using hB
      subst hl
      rw [Nat.zero_add]
      have hv : ∀ j, ∃ v, j ∈ acts → AtD (dstO ops j) a v ∧ φ j v w := fun j => by
        by_cases hj : j ∈ acts
        · obtain ⟨v, h⟩ := hf j hj (hall j hj)
          exact ⟨v, fun _ => h⟩
        · exact ⟨undef, fun h => absurd h hj⟩
      exact (rest w hok (fun j => Classical.choose (hv j)) (fun j hj => (Classical.choose_spec (hv j) hj).2)).h a (Fr.withM F fun j hj => (Classical.choose_spec (hv j) hj).1)
    | succ k ih =>
      intro listed a w hB F hok hf hall
      obtain ⟨hne, hr⟩ := meshB_ready hB
      rw [show k + 1 + f1 = (k + f1) + 1 by omega]
      refine ⟨fun h => absurd h hne, fun i hi => ?_⟩
      obtain ⟨hia, hBi⟩ := hr i hi
      obtain ⟨⟨o, ho⟩, hd⟩ := ownB_get hO i hia
      obtain ⟨_, oi, hoi, hall2⟩ := mem_ready.1 hi
      obtain rfl : o = oi := Option.some.inj (ho.symm.trans hoi)
      have hdn : ∀ d, o.dst = some d → d < n := fun d e => by
        have h1 := List.all_eq_true.1 hN i hia
        have e2 : dstO ops i = some d := by unfold dstO; rw [ho]; exact e
        rw [e2] at h1
        simpa [dstB] using h1
      refine (hstep i hia w hok).h a o ho F (fun j hj hdep => ?_) _ fun v w' hok' ⟨hs', hφ'⟩ => ih _ _ _ hBi ?_ hok' ?_ hall
      · refine hf j hj ?_
        unfold depB at hdep
        rw [ho] at hdep
        obtain ⟨e, he, hb⟩ := Array.any_eq_true'.1 hdep
        simp only [Bool.and_eq_true] at hb
        have := hall2 e he hb.1
        rw [Nat.eq_of_beq_eq_true hb.2] at this
        exact getD_tf this
      · cases hod : o.dst with
        | none => exact F
        | some d =>
          have hdd := hd d (by unfold dstO; rw [ho]; exact hod)
          refine ⟨by simp [Act.put, F.size], F.defers, fun s u hsu => ?_⟩
          obtain ⟨x, hx, hxs⟩ := sl_mem hsu
          rw [getD_put_ne (by rw [← hxs]; exact hdd.1 x hx)]
          exact F.get s u hsu
      · intro j hj hlj
        by_cases hji : j = i
        · subst hji
          refine ⟨v, fun s hs => ?_, hφ'⟩
          have hs2 : o.dst = some s := by unfold dstO at hs; rw [ho] at hs; exact hs
          rw [hs2]
          exact getD_put_self (by rw [F.size]; exact hdn s hs2)
        · have hlj' : listed.getD j true = true := by rwa [getD_set_ne true (Ne.symm hji)] at hlj
          obtain ⟨u, h1, h2⟩ := hf j hj hlj'
          refine ⟨u, fun s hs => ?_, hst j u w w' h2 hs'⟩
          cases hod : o.dst with
          | none => exact h1 s hs
          | some d =>
            have hdd := hd d (by unfold dstO; rw [ho]; exact hod)
            have hsd : s ≠ d := fun e => hdd.2 j hj hji (by rw [hs, e])
            rw [getD_put_ne hsd]
            exact h1 s hs
  have hall : ∀ j ∈ acts, L1.getD j true = true := fun j hj => List.all_eq_true.1 hA j hj
  refine key k listed a w hB (F.keep L hL) hok (fun j hj hl => ?_) hall
  have := List.all_eq_true.1 h0 j hj
  rw [hl] at this
  cases this
end
end Go.Proofs.Ytajfffoaebjnlaa
