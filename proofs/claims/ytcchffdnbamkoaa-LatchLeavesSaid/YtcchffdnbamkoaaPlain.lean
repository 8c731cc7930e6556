/- What a latch does, in plain lists. -/
import Derived.Test.YtcchffdnbamkoaaRef
namespace Go.Proofs.Ytcchffdnbamkoaa
set_option linter.unusedVariables false
set_option linter.unusedSimpArgs false
open Go.RowKit Go.Shelf

/-- Who holds, who waits. -/
abbrev LS := List Tn × List Tn
def fitsP (hs : List Tn) (t : Tn) : Bool := hs.isEmpty || (!t.2 && !hs.any (·.2))
def giveP : List Tn → List Tn → LS
  | hs, [] => (hs, [])
  | hs, t :: ts => if fitsP hs t = true then giveP (hs ++ [t]) ts else (hs, t :: ts)
def hasP (l : List Tn) (c : Int) : Prop := ∃ t ∈ l, (t.1 : Int) = c
instance (l : List Tn) (c : Int) : Decidable (hasP l c) := by unfold hasP; infer_instance
def outP (l : List Tn) (c : Int) : List Tn := l.filter fun t => decide ((t.1 : Int) ≠ c)
def askP (S : LS) (c : Int) (wr : Bool) : LS × Nat := if c < 0 ∨ 8 ≤ c then (S, 2) else if hasP (S.1 ++ S.2) c then (S, 191) else (giveP S.1 (S.2 ++ [(c.toNat, wr)]), 0)
def freeP (S : LS) (c : Int) : LS × Nat := if c < 0 ∨ 8 ≤ c then (S, 2) else if hasP (S.1 ++ S.2) c then (giveP (outP S.1 c) (outP S.2 c), 0) else (S, 5)
/-- What each client does. -/
def stP (S : LS) (c : Nat) : Nat := if hasP S.1 c then 1 else if hasP S.2 c then 2 else 0
def clP (S : LS) : List Nat := (List.range 8).map (stP S)
theorem clP_len (S : LS) : (clP S).length = 8 := by simp [clP]
theorem clP_get (S : LS) {c : Nat} (h : c < 8) : (clP S)[c]? = some (stP S c) := by simp [clP, h]
theorem clP_set {S S' : LS} {c x : Nat} (hc : stP S' c = x) (h : ∀ d, d ≠ c → stP S' d = stP S d) : (clP S).set c x = clP S' := by
  apply List.ext_getElem?
  intro d
  by_cases hd : d < 8
  · rw [clP_get S' hd]
    by_cases e : c = d
    · subst e
      rw [List.getElem?_set_self (by rw [clP_len]; exact hd), hc]
    · rw [List.getElem?_set_ne e, clP_get S hd, h d (Ne.symm e)]
  · rw [List.getElem?_eq_none (by rw [List.length_set, clP_len]; omega), List.getElem?_eq_none (by rw [clP_len]; omega)]

/-- Names are names, each once. -/
structure Good (S : LS) : Prop where
  lt : ∀ t ∈ S.1 ++ S.2, t.1 < 8
  once : ((S.1 ++ S.2).map (·.1)).Nodup
theorem pigeon : ∀ (n : Nat) (l : List Nat), l.Nodup → (∀ x ∈ l, x < n) → l.length ≤ n
  | 0, l, _, h => by
    cases l with
    | nil => simp
    | cons x l => exact absurd (h x (List.mem_cons_self ..)) (by omega)
  | n + 1, l, hn, h => by
    have h1 := pigeon n (l.erase n) (hn.erase n) (fun x hx => by
      have h2 := (hn.mem_erase_iff).1 hx
      have := h x h2.2
      have := h2.1
      omega)
    rw [List.length_erase] at h1
    split at h1 <;> omega
theorem Good.len {S : LS} (h : Good S) : S.1.length + S.2.length ≤ 8 := by
  have := pigeon 8 _ h.once (by
    intro x hx
    obtain ⟨t, ht, rfl⟩ := List.mem_map.1 hx
    exact h.lt t ht)
  simpa using this
theorem hasP_app {l m : List Tn} {c : Int} : hasP (l ++ m) c ↔ hasP l c ∨ hasP m c := by
  unfold hasP
  constructor
  · rintro ⟨t, ht, e⟩
    rcases List.mem_append.1 ht with h | h
    · exact .inl ⟨t, h, e⟩
    · exact .inr ⟨t, h, e⟩
  · rintro (⟨t, ht, e⟩ | ⟨t, ht, e⟩)
    · exact ⟨t, List.mem_append.2 (.inl ht), e⟩
    · exact ⟨t, List.mem_append.2 (.inr ht), e⟩
theorem hasP_one {t : Tn} {c : Int} : hasP [t] c ↔ (t.1 : Int) = c := by simp [hasP]
theorem hasP_cons {t : Tn} {l : List Tn} {c : Int} : hasP (t :: l) c ↔ (t.1 : Int) = c ∨ hasP l c := by
  rw [show t :: l = [t] ++ l from rfl, hasP_app, hasP_one]
theorem hasP_out {l : List Tn} {c d : Int} : hasP (outP l c) d ↔ hasP l d ∧ d ≠ c := by
  unfold hasP outP
  constructor
  · rintro ⟨t, ht, rfl⟩
    have := List.mem_filter.1 ht
    exact ⟨⟨t, this.1, rfl⟩, of_decide_eq_true this.2⟩
  · rintro ⟨⟨t, ht, rfl⟩, h⟩
    exact ⟨t, List.mem_filter.2 ⟨ht, by simpa using h⟩, rfl⟩
theorem outP_none {l : List Tn} {c : Int} (h : ¬ hasP l c) : outP l c = l := by
  unfold outP
  rw [List.filter_eq_self]
  intro t ht
  exact decide_eq_true fun e => h ⟨t, ht, e⟩
theorem outP_app (l m : List Tn) (c : Int) : outP (l ++ m) c = outP l c ++ outP m c := List.filter_append ..
/-- A first turn that is given. -/
theorem Good.move {hs ws : List Tn} {t : Tn} (h : Good (hs, t :: ws)) : Good (hs ++ [t], ws) := by
  have e : hs ++ [t] ++ ws = hs ++ t :: ws := by simp
  exact ⟨by rw [e]; exact h.lt, by rw [e]; exact h.once⟩
theorem Good.give : ∀ {ws hs : List Tn}, Good (hs, ws) → Good (giveP hs ws)
  | [], hs, h => h
  | t :: ws, hs, h => by
    unfold giveP
    split
    · exact Good.give h.move
    · exact h
theorem Good.out {S : LS} (h : Good S) (c : Int) : Good (outP S.1 c, outP S.2 c) := by
  refine ⟨fun t ht => ?_, ?_⟩
  · rw [← outP_app] at ht
    exact h.lt t (List.mem_filter.1 ht).1
  · rw [← outP_app]
    exact List.Nodup.sublist (List.Sublist.map _ List.filter_sublist) h.once
theorem Good.more {S : LS} (h : Good S) {c : Nat} (wr : Bool) (hc : c < 8) (hn : ¬ hasP (S.1 ++ S.2) c) : Good (S.1, S.2 ++ [(c, wr)]) := by
  refine ⟨fun t ht => ?_, ?_⟩
  · rw [← List.append_assoc] at ht
    rcases List.mem_append.1 ht with h1 | h1
    · exact h.lt t h1
    · simp only [List.mem_singleton] at h1
      subst h1
      exact hc
  · simp only [← List.append_assoc, List.map_append, List.map_cons, List.map_nil]
    rw [← List.map_append, List.nodup_append]
    refine ⟨h.once, by simp, ?_⟩
    intro a ha b hb e
    simp only [List.mem_singleton] at hb
    obtain ⟨t, ht, rfl⟩ := List.mem_map.1 ha
    exact hn ⟨t, ht, by omega⟩
theorem Good.ask {S : LS} (h : Good S) (c : Int) (wr : Bool) : Good (askP S c wr).1 := by
  unfold askP
  split
  · exact h
  · rename_i h1
    split
    · exact h
    · rename_i h2
      exact Good.give (h.more wr (by omega) (by rwa [Int.toNat_of_nonneg (by omega)]))
theorem Good.free {S : LS} (h : Good S) (c : Int) : Good (freeP S c).1 := by
  unfold freeP
  split
  · exact h
  · split
    · exact Good.give (h.out c)
    · exact h
theorem good_none : Good ([], []) := ⟨by simp, by simp⟩
/-- A name is among those that hold, or among those that wait. -/
theorem Good.apart {S : LS} (h : Good S) {c : Int} (h1 : hasP S.1 c) (h2 : hasP S.2 c) : False := by
  obtain ⟨t, ht, e⟩ := h1
  obtain ⟨u, hu, e2⟩ := h2
  have := h.once
  rw [List.map_append, List.nodup_append] at this
  exact this.2.2 t.1 (List.mem_map.2 ⟨t, ht, rfl⟩) u.1 (List.mem_map.2 ⟨u, hu, rfl⟩) (by omega)
theorem clP_move {hs ws : List Tn} {t : Tn} (h : Good (hs, t :: ws)) : (clP (hs, t :: ws)).set t.1 1 = clP (hs ++ [t], ws) := by
  refine clP_set ?_ fun d hd => ?_
  · unfold stP
    rw [if_pos (hasP_app.2 (.inr (hasP_one.2 rfl)))]
  · unfold stP
    have hne : ¬ ((t.1 : Int) = (d : Int)) := by omega
    have e1 : hasP (hs ++ [t]) d ↔ hasP hs d := by rw [hasP_app, hasP_one]; exact ⟨fun h => h.resolve_right hne, .inl⟩
    have e2 : hasP (t :: ws) d ↔ hasP ws d := by rw [hasP_cons]; exact ⟨fun h => h.resolve_left hne, .inr⟩
    simp only [e1, e2]
theorem clP_ask {S : LS} {c : Nat} (wr : Bool) (h : ¬ hasP (S.1 ++ S.2) c) : (clP S).set c 2 = clP (S.1, S.2 ++ [(c, wr)]) := by
  rw [hasP_app] at h
  refine clP_set ?_ fun d hd => ?_
  · unfold stP
    rw [if_neg (fun h1 => h (.inl h1)), if_pos (hasP_app.2 (.inr (hasP_one.2 rfl)))]
  · unfold stP
    have hne : ¬ ((c : Int) = (d : Int)) := by omega
    have e1 : hasP (S.2 ++ [(c, wr)]) d ↔ hasP S.2 d := by rw [hasP_app, hasP_one]; exact ⟨fun h => h.resolve_right hne, .inl⟩
    simp only [e1]
theorem clP_out (S : LS) (c : Nat) : (clP S).set c 0 = clP (outP S.1 c, outP S.2 c) := by
  refine clP_set ?_ fun d hd => ?_
  · unfold stP
    simp [hasP_out]
  · unfold stP
    have : (d : Int) ≠ (c : Int) := by omega
    simp only [hasP_out, this, ne_eq, not_false_eq_true, and_true]
theorem stP_zero {S : LS} {c : Nat} : stP S c = 0 ↔ ¬ hasP (S.1 ++ S.2) c := by
  unfold stP
  rw [hasP_app]
  by_cases h1 : hasP S.1 c <;> by_cases h2 : hasP S.2 c <;> simp [h1, h2]
theorem stP_one {S : LS} {c : Nat} : stP S c = 1 ↔ hasP S.1 c := by
  unfold stP
  by_cases h1 : hasP S.1 c <;> by_cases h2 : hasP S.2 c <;> simp [h1, h2]
/-- The document's free tells the same. -/
theorem free_fits (hs : List Tn) (t : Tn) : (hs.all fun u => !(t.2 || u.2)) = fitsP hs t := by
  unfold fitsP
  cases hs with
  | nil => rfl
  | cons u l =>
    cases h : t.2
    · simp only [Bool.false_or, List.isEmpty_cons, Bool.not_false, Bool.true_and]
      rw [← List.not_any_eq_all_not]
    · simp
end Go.Proofs.Ytcchffdnbamkoaa
