/- Regions that draw their order: the steps of T come behind all others that are left: first the others, under what holds of the world till then; then T. -/
import Derived.Test.YtcchffdnbamkoaaPhase
namespace Go.Proofs.Ytcchffdnbamkoaa
set_option linter.unusedVariables false
set_option linter.unusedSimpArgs false
open Go.RowKit Go.Shelf

/-- Till k steps are done none of T may come; then all that is left is T. -/
def exB (ops : Array Oper) (T : List Nat) : Nat → Array Bool → Bool
  | 0, listed => (List.range ops.size).all fun i => T.contains i || listed.getD i true
  | k + 1, listed => match Region.ready .any ops listed with
    | [] => false
    | r => r.all fun i => !T.contains i && exB ops T k (listed.setIfInBounds i true)
theorem exB_step {ops : Array Oper} {T : List Nat} {k : Nat} {listed : Array Bool} (h : exB ops T (k + 1) listed = true) : Region.ready .any ops listed ≠ [] ∧ ∀ j ∈ Region.ready .any ops listed, T.contains j = false ∧ exB ops T k (listed.setIfInBounds j true) = true := by
  unfold exB at h
  split at h
  · cases h
  · rename_i hne
    refine ⟨fun e => hne e, fun j hj => ?_⟩
    have := List.all_eq_true.1 h j hj
    simp only [Bool.and_eq_true] at this
    exact ⟨by simpa using this.1, this.2⟩
def fakeL (T : List Nat) (listed : Array Bool) : Array Bool := ((List.range listed.size).map fun i => listed.getD i true || T.contains i).toArray
def lastL (T : List Nat) (n : Nat) : Array Bool := ((List.range n).map fun i => !T.contains i).toArray

/-- The same but at T: all done there, nothing done there. -/
structure Twin (T : List Nat) (n : Nat) (lr lp : Array Bool) : Prop where
  s1 : lr.size = n
  s2 : lp.size = n
  lo : ∀ i, T.contains i = false → lp[i]? = lr[i]?
  hp : ∀ j, T.contains j = true → lp[j]? = some true
  hr : ∀ j, T.contains j = true → lr[j]? = some false
theorem Twin.set {T : List Nat} {n i : Nat} {lr lp : Array Bool} (h : Twin T n lr lp) (hi : T.contains i = false) : Twin T n (lr.setIfInBounds i true) (lp.setIfInBounds i true) := by
  have hne : ∀ j, T.contains j = true → i ≠ j := fun j hj e => by rw [e, hj] at hi; cases hi
  refine ⟨by simp [h.s1], by simp [h.s2], fun j hj => ?_, fun j hj => ?_, fun j hj => ?_⟩
  · by_cases e : i = j
    · subst e
      rw [Array.getElem?_setIfInBounds_self, Array.getElem?_setIfInBounds_self, h.s1, h.s2]
    · rw [Array.getElem?_setIfInBounds_ne e, Array.getElem?_setIfInBounds_ne e, h.lo j hj]
  · rw [Array.getElem?_setIfInBounds_ne (hne j hj), h.hp j hj]
  · rw [Array.getElem?_setIfInBounds_ne (hne j hj), h.hr j hj]
theorem Twin.last {T : List Nat} {n : Nat} {lr lp : Array Bool} (h : Twin T n lr lp) (h0 : ∀ i, i < n → T.contains i = false → lr.getD i true = true) : lr = lastL T n := by
  apply Array.ext_getElem?
  intro j
  by_cases hn : j < n
  · cases hc : T.contains j with
    | true =>
      rw [h.hr j hc]
      simp only [lastL, List.getElem?_toArray, List.getElem?_map]
      rw [List.getElem?_range hn, Option.map_some, hc]
      rfl
    | false =>
      have := h0 j hn hc
      rw [Array.getD_eq_getD_getElem?, Array.getElem?_eq_getElem (by rw [h.s1]; exact hn)] at this
      simp only [Option.getD_some] at this
      rw [Array.getElem?_eq_getElem (by rw [h.s1]; exact hn), this]
      simp only [lastL, List.getElem?_toArray, List.getElem?_map]
      rw [List.getElem?_range hn, Option.map_some, hc]
      rfl
  · rw [Array.getElem?_eq_none (by rw [h.s1]; omega), Array.getElem?_eq_none (by simp [lastL]; omega)]
theorem twin_start {T : List Nat} {lr : Array Bool} (h : T.all (fun j => !lr.getD j true) = true) : Twin T lr.size lr (fakeL T lr) := by
  have hT : ∀ j, T.contains j = true → lr[j]? = some false := fun j hj => by
    have h1 := List.all_eq_true.1 h j (by simpa using hj)
    rw [Array.getD_eq_getD_getElem?] at h1
    cases hg : lr[j]? with
    | none => rw [hg] at h1; cases h1
    | some b => rw [hg] at h1; cases b; rfl; cases h1
  have hget : ∀ i, (fakeL T lr)[i]? = if i < lr.size then some (lr.getD i true || T.contains i) else none := fun i => by
    unfold fakeL
    rw [List.getElem?_toArray, List.getElem?_map]
    by_cases hi : i < lr.size
    · rw [List.getElem?_range hi, if_pos hi, Option.map_some]
    · rw [List.getElem?_eq_none (by simp; omega), if_neg hi, Option.map_none]
  refine ⟨rfl, by simp [fakeL], fun i hi => ?_, fun j hj => ?_, hT⟩
  · rw [hget]
    by_cases h1 : i < lr.size
    · rw [if_pos h1, hi, Bool.or_false, Array.getD_eq_getD_getElem?, Array.getElem?_eq_getElem h1]
      rfl
    · rw [if_neg h1, Array.getElem?_eq_none (by omega)]
  · rw [hget, if_pos (Array.getElem?_eq_some_iff.1 (hT j hj)).1, hj, Bool.or_true]

section
variable {P : Program} {ops : Array Oper} {Q : Exit → Act → World → Prop} {ok : World → Prop} {n : Nat} {D : List Deferred} {M : Slots} {w : World}
theorem AA.split {listed : Array Bool} (T : List Nat) (ok : World → Prop) (k f1 : Nat) (hB : (Nat.beq listed.size ops.size && T.all (fun j => !listed.getD j true) && exB ops T k listed) = true)
    (h : AA P ops ok (fun _ a w => AnyR P ops (fun _ => True) Q f1 (lastL T ops.size) a w) n D M k (fakeL T listed) w) : AA P ops (fun _ => True) Q n D M (k + f1) listed w := AA.mk fun a F => by
  simp only [Bool.and_eq_true] at hB
  obtain ⟨⟨hsz, hT⟩, hex⟩ := hB
  have hsz := Nat.eq_of_beq_eq_true hsz
  have key : ∀ k lr lp a w, Twin T ops.size lr lp → exB ops T k lr = true → AnyR P ops ok (fun _ a w => AnyR P ops (fun _ => True) Q f1 (lastL T ops.size) a w) k lp a w → AnyR P ops (fun _ => True) Q (k + f1) lr a w := by
    intro k
    induction k with
    | zero =>
      intro lr lp a w hA h0 hR
      rw [Nat.zero_add, hA.last fun i hi hc => by
        have := List.all_eq_true.1 h0 i (List.mem_range.2 hi)
        rwa [hc, Bool.false_or] at this]
      exact hR.2
    | succ k ih =>
      intro lr lp a w hA hex hR
      obtain ⟨hne, hin⟩ := exB_step hex
      rw [show k + 1 + f1 = (k + f1) + 1 by omega]
      refine ⟨fun h0 => absurd h0 hne, fun i hi => ?_⟩
      obtain ⟨hci, hexi⟩ := hin i hi
      obtain ⟨hui, o, ho, hdeps⟩ := mem_ready.1 hi
      have hil : i ∈ Region.ready .any ops lp := by
        refine mem_ready.2 ⟨?_, o, ho, fun e he hb => ?_⟩
        · rw [Array.getD_eq_getD_getElem?, hA.lo i hci, ← Array.getD_eq_getD_getElem?]
          exact hui
        · have h1 := hdeps e he hb
          cases hce : T.contains e.on with
          | true => rw [Array.getD_eq_getD_getElem?, hA.hp _ hce]; rfl
          | false => rw [Array.getD_eq_getD_getElem?, hA.lo _ hce, ← Array.getD_eq_getD_getElem?]; exact h1
      have h2 := hR.2 i hil
      have hrec : ∀ a' w', AnyR P ops ok (fun _ a w => AnyR P ops (fun _ => True) Q f1 (lastL T ops.size) a w) k (lp.setIfInBounds i true) a' w' → AnyR P ops (fun _ => True) Q (k + f1) (lr.setIfInBounds i true) a' w' :=
        fun a' w' h' => ih _ _ a' w' (hA.set hci) hexi h'
      unfold stepR at h2 ⊢
      split
      · rename_i hn; simp only [hn] at h2; exact hrec _ _ h2
      · rename_i o ho
        simp only [ho] at h2
        split
        · rename_i hw
          rw [if_pos hw] at h2
          exact actR_mono (fun a' w' hk => ⟨trivial, hrec a' w' hk.2⟩) h2
        · rename_i hw
          rw [if_neg hw] at h2
          exact hrec _ _ h2
  exact key k listed _ a w (by have := twin_start hT; rwa [hsz] at this) hex (h.h a F)
theorem EE.splitA {f1 : Nat} {L1 : Array Bool} (h : AA P ops (fun _ => True) Q n D M f1 L1 w) : EE (fun _ a w => AnyR P ops (fun _ => True) Q f1 L1 a w) n D M .normal w := EE.mk fun a F => h.h a F
end
end Go.Proofs.Ytcchffdnbamkoaa
