/- Runs, in plain lists. -/
import Derived.Test.YtojoaplbgcdapaaKit
namespace Go.Proofs.Ytojoaplbgcdapaa
set_option linter.unusedVariables false
set_option linter.unusedSimpArgs false

/-- A run: its first bit, how many. -/
abbrev Rn := Nat × Nat
/-- One bit more. -/
def addR (p : Nat → Bool) (l : List Rn) (i : Nat) : List Rn := if p i then (match l.getLast? with | some r => if r.1 + r.2 = i then l.dropLast ++ [(r.1, r.2 + 1)] else l ++ [(i, 1)] | none => [(i, 1)]) else l
/-- The runs of the bits from a on, n of them. -/
def runsP (p : Nat → Bool) (a : Nat) : Nat → List Rn
  | 0 => []
  | n + 1 => addR p (runsP p a n) (a + n)
theorem runsP_off {p : Nat → Bool} {a n : Nat} (h : p (a + n) = false) : runsP p a (n + 1) = runsP p a n := by
  show addR p _ _ = _
  unfold addR
  rw [if_neg (by rw [h]; simp)]
/-- All runs lie below, each has a bit. -/
theorem runsP_in {p : Nat → Bool} {a : Nat} : ∀ (n : Nat), ∀ r ∈ runsP p a n, a ≤ r.1 ∧ 1 ≤ r.2 ∧ r.1 + r.2 ≤ a + n
  | 0, r, h => by cases h
  | n + 1, r, h => by
    have ih := runsP_in (p := p) (a := a) n
    have h' : r ∈ addR p (runsP p a n) (a + n) := h
    unfold addR at h'
    split at h'
    · split at h'
      · rename_i x hx
        have hm := ih x (List.mem_of_getLast? hx)
        split at h'
        · rcases List.mem_append.1 h' with h1 | h1
          · have := ih r (List.dropLast_subset _ h1)
            omega
          · simp only [List.mem_singleton] at h1
            subst h1
            simp only
            omega
        · rcases List.mem_append.1 h' with h1 | h1
          · have := ih r h1
            omega
          · simp only [List.mem_singleton] at h1
            subst h1
            simp only
            omega
      · simp only [List.mem_singleton] at h'
        subst h'
        simp only
        omega
    · have := ih r h'
      omega
/-- Ahead of a run: the last run ends earlier. -/
def Apart (p : Nat → Bool) (a n : Nat) : Prop := ∀ r ∈ runsP p a n, r.1 + r.2 < a + n
theorem apart_zero {p : Nat → Bool} {a : Nat} : Apart p a 0 := fun r h => by cases h
theorem apart_off {p : Nat → Bool} {a n : Nat} (h : p (a + n) = false) : Apart p a (n + 1) := fun r hr => by
  rw [runsP_off h] at hr
  have := runsP_in n r hr
  omega
/-- A run that begins here. -/
theorem runsP_run {p : Nat → Bool} {a n : Nat} (h : Apart p a n) : ∀ m, 1 ≤ m → (∀ i, i < m → p (a + n + i) = true) → runsP p a (n + m) = runsP p a n ++ [(a + n, m)]
  | 0, h1, _ => absurd h1 (by omega)
  | m + 1, _, hp => by
    have hpm : p (a + (n + m)) = true := by
      have := hp m (by omega)
      rwa [Nat.add_assoc] at this
    show addR p (runsP p a (n + m)) (a + (n + m)) = _
    unfold addR
    rw [if_pos hpm]
    by_cases hm : m = 0
    · subst hm
      rw [Nat.add_zero]
      cases hl : (runsP p a n).getLast? with
      | none =>
        have : runsP p a n = [] := List.getLast?_eq_none_iff.1 hl
        rw [this]
        rfl
      | some x =>
        have := h x (List.mem_of_getLast? hl)
        simp only
        rw [if_neg (by omega)]
    · have ih := runsP_run h m (by omega) (fun i hi => hp i (by omega))
      rw [ih]
      simp only [List.getLast?_append, List.getLast?_singleton, Option.some_or]
      rw [if_pos (by omega)]
      simp
/-- What is told is not taken back. -/
theorem runsP_more {p : Nat → Bool} {a n : Nat} (h : Apart p a n) : ∀ k, ∃ s, runsP p a (n + k) = runsP p a n ++ s ∧ (∀ r ∈ s, a + n ≤ r.1)
  | 0 => ⟨[], by simp, by simp⟩
  | k + 1 => by
    obtain ⟨s, hs, hge⟩ := runsP_more h k
    have e : runsP p a (n + (k + 1)) = addR p (runsP p a (n + k)) (a + (n + k)) := rfl
    rw [e, hs]
    unfold addR
    by_cases hp : p (a + (n + k)) = true
    · rw [if_pos hp]
      cases s with
      | nil =>
        rw [List.append_nil] at *
        cases hl : (runsP p a n).getLast? with
        | none =>
          have h0 : runsP p a n = [] := List.getLast?_eq_none_iff.1 hl
          exact ⟨[(a + (n + k), 1)], by rw [h0]; rfl, by intro r hr; simp only [List.mem_singleton] at hr; subst hr; show a + n ≤ a + (n + k); omega⟩
        | some x =>
          have := h x (List.mem_of_getLast? hl)
          simp only
          rw [if_neg (by omega)]
          exact ⟨[(a + (n + k), 1)], rfl, by intro r hr; simp only [List.mem_singleton] at hr; subst hr; show a + n ≤ a + (n + k); omega⟩
      | cons y t =>
        have hne : y :: t ≠ [] := by simp
        obtain ⟨z, hz⟩ : ∃ z, (y :: t).getLast? = some z := ⟨_, List.getLast?_eq_some_getLast hne⟩
        have hgl : (runsP p a n ++ y :: t).getLast? = some z := by rw [List.getLast?_append, hz]; rfl
        rw [hgl]
        simp only
        have hzm := hge z (List.mem_of_getLast? hz)
        split
        · refine ⟨(y :: t).dropLast ++ [(z.1, z.2 + 1)], ?_, ?_⟩
          · rw [List.dropLast_append_of_ne_nil hne, List.append_assoc]
          · intro r hr
            rcases List.mem_append.1 hr with h1 | h1
            · exact hge r (List.dropLast_subset _ h1)
            · simp only [List.mem_singleton] at h1
              subst h1
              exact hzm
        · refine ⟨(y :: t) ++ [(a + (n + k), 1)], by rw [List.append_assoc], ?_⟩
          intro r hr
          rcases List.mem_append.1 hr with h1 | h1
          · exact hge r h1
          · simp only [List.mem_singleton] at h1
            subst h1
            simp only
            omega
    · rw [if_neg hp]
      exact ⟨s, rfl, hge⟩
end Go.Proofs.Ytojoaplbgcdapaa
