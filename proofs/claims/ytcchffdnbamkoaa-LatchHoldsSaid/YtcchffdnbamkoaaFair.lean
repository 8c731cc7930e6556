/- What LatchHolds tells of, in plain lists. -/
import Derived.Test.YtcchffdnbamkoaaWorks
namespace Go.Proofs.Ytcchffdnbamkoaa
set_option linter.unusedVariables false
set_option linter.unusedSimpArgs false
open Go.RowKit Go.Shelf

/-- Whoever writes holds it alone; if nobody holds it, nobody waits. -/
structure Fine (S : LS) : Prop where
  good : Good S
  alone : ∀ t ∈ S.1, t.2 = true → S.1.length ≤ 1
  busy : S.1 = [] → S.2 = []
theorem fits_alone {hs : List Tn} {t : Tn} (h : ∀ u ∈ hs, u.2 = true → hs.length ≤ 1) (hf : fitsP hs t = true) : ∀ u ∈ hs ++ [t], u.2 = true → (hs ++ [t]).length ≤ 1 := by
  intro u hu hw
  unfold fitsP at hf
  cases hs with
  | nil => simp
  | cons x l =>
    simp only [List.isEmpty_cons, Bool.false_or, Bool.and_eq_true, Bool.not_eq_true'] at hf
    rcases List.mem_append.1 hu with h1 | h1
    · have := List.any_eq_false.1 hf.2 u h1
      rw [hw] at this
      simp at this
    · simp only [List.mem_singleton] at h1
      subst h1
      rw [hf.1] at hw
      cases hw
theorem give_alone : ∀ (ws hs : List Tn), (∀ u ∈ hs, u.2 = true → hs.length ≤ 1) → ∀ u ∈ (giveP hs ws).1, u.2 = true → (giveP hs ws).1.length ≤ 1
  | [], hs, h => h
  | t :: ws, hs, h => by
    by_cases hf : fitsP hs t = true
    · rw [← giveP_step hf]
      exact give_alone ws (hs ++ [t]) (fits_alone h hf)
    · rw [giveP_stop (by simpa using hf)]
      exact h
theorem give_more : ∀ (ws hs : List Tn), ∀ t ∈ hs, t ∈ (giveP hs ws).1
  | [], hs, t, h => h
  | x :: ws, hs, t, h => by
    by_cases hf : fitsP hs x = true
    · rw [← giveP_step hf]
      exact give_more ws (hs ++ [x]) t (List.mem_append.2 (.inl h))
    · rw [giveP_stop (by simpa using hf)]
      exact h
theorem give_busy (ws hs : List Tn) (h : (giveP hs ws).1 = []) : (giveP hs ws).2 = [] := by
  cases ws with
  | nil => rfl
  | cons t ws =>
    by_cases hf : fitsP hs t = true
    · exfalso
      rw [← giveP_step hf] at h
      have := give_more ws (hs ++ [t]) t (by simp)
      rw [h] at this
      cases this
    · have h0 : hs = [] := by
        rw [giveP_stop (by simpa using hf)] at h
        exact h
      subst h0
      exact absurd rfl hf
theorem Fine.give {hs ws : List Tn} (hg : Good (hs, ws)) (h : ∀ u ∈ hs, u.2 = true → hs.length ≤ 1) : Fine (giveP hs ws) := ⟨hg.give, give_alone ws hs h, give_busy ws hs⟩
theorem Fine.ask {S : LS} (h : Fine S) (c : Int) (wr : Bool) : Fine (askP S c wr).1 := by
  unfold askP
  split
  · exact h
  · rename_i h1
    split
    · exact h
    · rename_i h2
      exact Fine.give (h.good.more wr (by omega) (by rwa [Int.toNat_of_nonneg (by omega)])) h.alone
theorem Fine.free {S : LS} (h : Fine S) (c : Int) : Fine (freeP S c).1 := by
  unfold freeP
  split
  · exact h
  · split
    · refine Fine.give (h.good.out c) fun u hu hw => ?_
      have hm : u ∈ S.1 := (List.mem_filter.1 hu).1
      have hl : (outP S.1 c).length ≤ S.1.length := List.length_filter_le _ _
      have := h.alone u hm hw
      omega
    · exact h
theorem Fine.act {S : LS} (h : Fine S) (what c : Int) : Fine (actP S what c) := by
  unfold actP
  split
  · exact h.ask _ _
  · split
    · exact h.ask _ _
    · split
      · exact h.free _
      · exact h
theorem fine_none : Fine ([], []) := ⟨good_none, by simp, fun _ => rfl⟩
theorem playP_fine (xs : List Ac) : Fine (playP xs) := by
  have : ∀ (xs : List Ac) (S : LS), Fine S → Fine (xs.foldl stepP S) := by
    intro xs
    induction xs with
    | nil => intro S h; exact h
    | cons a xs ih => intro S h; exact ih _ (h.act _ _)
  exact this xs _ fine_none

/-- A client has it, or waits, and all ahead of it are among these. -/
def Queued (S : LS) (c : Nat) (A : List Tn) : Prop := hasP S.1 c ∨ ∃ pre wr post, S.2 = pre ++ (c, wr) :: post ∧ ∀ t ∈ S.1 ++ pre, t ∈ A
theorem Queued.give {c : Nat} {A : List Tn} : ∀ (ws hs : List Tn), Queued (hs, ws) c A → Queued (giveP hs ws) c A
  | [], hs, h => h
  | t :: ws, hs, h => by
    by_cases hf : fitsP hs t = true
    · rw [← giveP_step hf]
      refine Queued.give ws (hs ++ [t]) ?_
      rcases h with h | ⟨pre, wr, post, e, h⟩
      · exact .inl (hasP_app.2 (.inl h))
      · cases pre with
        | nil =>
          cases e
          exact .inl (hasP_app.2 (.inr (hasP_one.2 rfl)))
        | cons x pre =>
          cases e
          refine .inr ⟨pre, wr, post, rfl, fun u hu => h u ?_⟩
          simp only [List.mem_append, List.mem_cons, List.not_mem_nil, or_false] at hu ⊢
          rcases hu with (h1 | h1) | h1
          · exact .inl h1
          · exact .inr (.inl h1)
          · exact .inr (.inr h1)
    · rw [giveP_stop (by simpa using hf)]
      exact h
theorem queued_new {S : LS} {c : Nat} (wr : Bool) (hc : c < 8) (h : ¬ hasP (S.1 ++ S.2) c) : Queued (askP S c wr).1 c (S.1 ++ S.2) := by
  have e : askP S c wr = (giveP S.1 (S.2 ++ [(c, wr)]), 0) := by
    unfold askP
    rw [if_neg (by omega), if_neg h]
    simp
  rw [e]
  exact Queued.give _ _ (.inr ⟨S.2, wr, [], rfl, fun t h => h⟩)
theorem Queued.ask {S : LS} {c : Nat} {A : List Tn} (h : Queued S c A) (d : Int) (wr : Bool) : Queued (askP S d wr).1 c A := by
  unfold askP
  split
  · exact h
  · split
    · exact h
    · refine Queued.give _ _ ?_
      rcases h with h | ⟨pre, w, post, e, h⟩
      · exact .inl h
      · exact .inr ⟨pre, w, post ++ [(d.toNat, wr)], by simp [e], h⟩
theorem Queued.free {S : LS} {c : Nat} {A : List Tn} (hS : Good S) (h : Queued S c A) (d : Int) (hd : d ≠ c) : Queued (freeP S d).1 c (outP A d) := by
  have key : (∀ t ∈ S.1 ++ S.2, (t.1 : Int) ≠ d) → Queued S c (outP A d) := by
    intro hn
    rcases h with h | ⟨pre, w, post, e, h⟩
    · exact .inl h
    · refine .inr ⟨pre, w, post, e, fun t ht => List.mem_filter.2 ⟨h t ht, decide_eq_true (hn t ?_)⟩⟩
      rw [e]
      rcases List.mem_append.1 ht with h1 | h1
      · exact List.mem_append.2 (.inl h1)
      · exact List.mem_append.2 (.inr (List.mem_append.2 (.inl h1)))
  unfold freeP
  split
  · rename_i h1
    refine key fun t ht => ?_
    have := hS.lt t ht
    omega
  · split
    · refine Queued.give _ _ ?_
      rcases h with h | ⟨pre, w, post, e, h⟩
      · exact .inl (hasP_out.2 ⟨h, fun e => hd e.symm⟩)
      · refine .inr ⟨outP pre d, w, outP post d, ?_, fun t ht => ?_⟩
        · simp only
          rw [e, outP_app]
          congr 1
          have hne : ¬ ((c : Int) = d) := fun e => hd e.symm
          simp [outP, hne]
        · simp only at ht
          rw [← outP_app] at ht
          have := List.mem_filter.1 ht
          exact List.mem_filter.2 ⟨h t this.1, this.2⟩
    · rename_i h2
      exact key fun t ht e => h2 ⟨t, ht, e⟩
/-- Those ahead, behind an act. -/
def leftP (A : List Tn) (what d : Int) : List Tn := if what = 2 then outP A d else A
theorem Queued.act {S : LS} {c : Nat} {A : List Tn} (hS : Good S) (h : Queued S c A) (what d : Int) (hd : d ≠ c) : Queued (actP S what d) c (leftP A what d) := by
  unfold actP leftP
  by_cases h0 : what = 0
  · rw [if_pos h0, if_neg (by omega)]; exact h.ask _ _
  · rw [if_neg h0]
    by_cases h1 : what = 1
    · rw [if_pos h1, if_neg (by omega)]; exact h.ask _ _
    · rw [if_neg h1]
      by_cases h2 : what = 2
      · rw [if_pos h2, if_pos h2]; exact h.free hS d hd
      · rw [if_neg h2, if_neg h2]; exact h
theorem Queued.holds {S : LS} {c : Nat} (hS : Fine S) (h : Queued S c []) : hasP S.1 c := by
  rcases h with h | ⟨pre, w, post, e, h⟩
  · exact h
  · exfalso
    have h1 : S.1 = [] := by
      cases hs : S.1 with
      | nil => rfl
      | cons x l =>
        have := h x (by rw [hs]; simp)
        cases this
    have := hS.busy h1
    rw [e] at this
    simp at this
end Go.Proofs.Ytcchffdnbamkoaa
