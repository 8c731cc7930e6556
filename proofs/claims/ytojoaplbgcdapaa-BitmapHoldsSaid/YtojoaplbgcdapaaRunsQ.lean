/- Runs, gaps between them, how many: in plain lists. -/
import Derived.Test.YtojoaplbgcdapaaRunsP
namespace Go.Proofs.Ytojoaplbgcdapaa
set_option linter.unusedVariables false
set_option linter.unusedSimpArgs false

theorem last_eq {α : Type} {l : List α} {x : α} (h : l.getLast? = some x) : l = l.dropLast ++ [x] := by
  have hne : l ≠ [] := fun e => by rw [e] at h; cases h
  rw [List.getLast?_eq_some_getLast hne] at h
  cases h
  exact (List.dropLast_concat_getLast hne).symm
theorem addR_on {p : Nat → Bool} {l : List Rn} {i : Nat} (h : p i = true) : (∃ r, l.getLast? = some r ∧ r.1 + r.2 = i ∧ addR p l i = l.dropLast ++ [(r.1, r.2 + 1)]) ∨ ((∀ r, l.getLast? = some r → r.1 + r.2 ≠ i) ∧ addR p l i = l ++ [(i, 1)]) := by
  unfold addR
  rw [if_pos h]
  cases hl : l.getLast? with
  | none =>
    have h0 : l = [] := List.getLast?_eq_none_iff.1 hl
    refine .inr ⟨fun r hr => (by cases hr), ?_⟩
    rw [h0]
    rfl
  | some x =>
    by_cases hx : x.1 + x.2 = i
    · exact .inl ⟨x, rfl, hx, by simp only; rw [if_pos hx]⟩
    · refine .inr ⟨fun r hr => by cases hr; exact hx, ?_⟩
      simp only
      rw [if_neg hx]
theorem runsP_succ (p : Nat → Bool) (a n : Nat) : runsP p a (n + 1) = addR p (runsP p a n) (a + n) := rfl
theorem runsP_all {p : Nat → Bool} {a : Nat} : ∀ (n : Nat), ∀ r ∈ runsP p a n, ∀ i, i < r.2 → p (r.1 + i) = true
  | 0, r, h => by cases h
  | n + 1, r, h => by
    have ih := runsP_all (p := p) (a := a) n
    cases hp : p (a + n) with
    | false => rw [runsP_off hp] at h; exact ih r h
    | true =>
      rw [runsP_succ] at h
      rcases addR_on (l := runsP p a n) hp with ⟨x, hx, he, hl⟩ | ⟨_, hl⟩
      · rw [hl] at h
        rcases List.mem_append.1 h with h1 | h1
        · exact ih r (List.dropLast_subset _ h1)
        · simp only [List.mem_singleton] at h1
          subst h1
          intro i hi
          simp only at hi ⊢
          rcases Nat.lt_succ_iff_lt_or_eq.1 hi with h2 | h2
          · exact ih x (List.mem_of_getLast? hx) i h2
          · rw [h2, he]; exact hp
      · rw [hl] at h
        rcases List.mem_append.1 h with h1 | h1
        · exact ih r h1
        · simp only [List.mem_singleton] at h1
          subst h1
          intro i hi
          simp only at hi ⊢
          rw [show i = 0 by omega]
          exact hp
/-- Who ends at the end is the last one. -/
theorem runsP_end {p : Nat → Bool} {a : Nat} : ∀ (n : Nat), ∀ r ∈ runsP p a n, r.1 + r.2 = a + n → (runsP p a n).getLast? = some r
  | 0, r, h, _ => by cases h
  | n + 1, r, h, he => by
    cases hp : p (a + n) with
    | false =>
      rw [runsP_off hp] at h
      have := runsP_in n r h
      omega
    | true =>
      rw [runsP_succ] at h ⊢
      rcases addR_on (l := runsP p a n) hp with ⟨x, hx, he2, hl⟩ | ⟨_, hl⟩
      · rw [hl] at h ⊢
        rcases List.mem_append.1 h with h1 | h1
        · have := runsP_in n r (List.dropLast_subset _ h1)
          omega
        · simp only [List.mem_singleton] at h1
          subst h1
          simp
      · rw [hl] at h ⊢
        rcases List.mem_append.1 h with h1 | h1
        · have := runsP_in n r h1
          omega
        · simp only [List.mem_singleton] at h1
          subst h1
          simp
/-- So many beside one another lie in one run. -/
theorem runsP_has {p : Nat → Bool} {a : Nat} : ∀ (n k m : Nat), a ≤ k → 1 ≤ m → k + m ≤ a + n → (∀ i, i < m → p (k + i) = true) → ∃ r ∈ runsP p a n, r.1 ≤ k ∧ k + m ≤ r.1 + r.2
  | 0, k, m, h1, h2, h3, _ => by omega
  | n + 1, k, m, h1, h2, h3, h => by
    by_cases hk : k + m ≤ a + n
    · obtain ⟨r, hr, h4, h5⟩ := runsP_has n k m h1 h2 hk h
      cases hp : p (a + n) with
      | false => rw [runsP_off hp]; exact ⟨r, hr, h4, h5⟩
      | true =>
        rw [runsP_succ]
        rcases addR_on (l := runsP p a n) hp with ⟨x, hx, he2, hl⟩ | ⟨_, hl⟩
        · rw [hl]
          by_cases hrx : r = x
          · subst hrx
            exact ⟨(r.1, r.2 + 1), by simp, h4, by simp only; omega⟩
          · have hne : runsP p a n ≠ [] := fun e => by rw [e] at hr; cases hr
            have hd : runsP p a n = (runsP p a n).dropLast ++ [x] := last_eq hx
            rw [hd] at hr
            rcases List.mem_append.1 hr with h6 | h6
            · exact ⟨r, List.mem_append_left _ h6, h4, h5⟩
            · simp only [List.mem_singleton] at h6
              exact absurd h6 hrx
        · rw [hl]
          exact ⟨r, List.mem_append_left _ hr, h4, h5⟩
    · have hke : k + m = a + n + 1 := by omega
      have hp : p (a + n) = true := by
        have := h (m - 1) (by omega)
        rwa [show k + (m - 1) = a + n by omega] at this
      rw [runsP_succ]
      by_cases hm : m = 1
      · rcases addR_on (l := runsP p a n) hp with ⟨x, hx, he2, hl⟩ | ⟨_, hl⟩
        · rw [hl]
          exact ⟨(x.1, x.2 + 1), by simp, by simp only; have := runsP_in n x (List.mem_of_getLast? hx); omega, by simp only; omega⟩
        · rw [hl]
          exact ⟨(a + n, 1), by simp, by simp only; omega, by simp only; omega⟩
      · obtain ⟨r, hr, h4, h5⟩ := runsP_has n k (m - 1) h1 (by omega) (by omega) (fun i hi => h i (by omega))
        have hin := runsP_in n r hr
        have hre : r.1 + r.2 = a + n := by omega
        have hlast := runsP_end n r hr hre
        rcases addR_on (l := runsP p a n) hp with ⟨x, hx, he2, hl⟩ | ⟨hno, _⟩
        · rw [hl]
          rw [hlast] at hx
          cases hx
          exact ⟨(r.1, r.2 + 1), by simp, h4, by simp only; omega⟩
        · exact absurd hre (hno r hlast)
theorem runsP_pw {p : Nat → Bool} {a : Nat} : ∀ (n : Nat), (runsP p a n).Pairwise fun r s => r.1 + r.2 ≤ s.1
  | 0 => List.Pairwise.nil
  | n + 1 => by
    have ih := runsP_pw (p := p) (a := a) n
    cases hp : p (a + n) with
    | false => rw [runsP_off hp]; exact ih
    | true =>
      rw [runsP_succ]
      rcases addR_on (l := runsP p a n) hp with ⟨x, hx, he2, hl⟩ | ⟨_, hl⟩
      · rw [hl]
        have hne : runsP p a n ≠ [] := fun e => by rw [e] at hx; cases hx
        have hd : runsP p a n = (runsP p a n).dropLast ++ [x] := last_eq hx
        rw [hd] at ih
        rw [List.pairwise_append] at ih ⊢
        refine ⟨ih.1, List.pairwise_singleton _ _, fun r hr s hs => ?_⟩
        simp only [List.mem_singleton] at hs
        subst hs
        exact ih.2.2 r hr x (by simp)
      · rw [hl, List.pairwise_append]
        refine ⟨ih, List.pairwise_singleton _ _, fun r hr s hs => ?_⟩
        simp only [List.mem_singleton] at hs
        subst hs
        exact (runsP_in n r hr).2.2

/-- How many below n. -/
def cntP (p : Nat → Bool) (n : Nat) : Nat := ((List.range n).filter p).length
theorem cntP_succ (p : Nat → Bool) (n : Nat) : cntP p (n + 1) = cntP p n + if p n then 1 else 0 := by
  unfold cntP
  rw [List.range_succ, List.filter_append]
  cases hp : p n <;> simp [hp]
theorem cntP_le (p : Nat → Bool) : ∀ n, cntP p n ≤ n
  | 0 => by simp [cntP]
  | n + 1 => by
    have := cntP_le p n
    rw [cntP_succ]
    split <;> omega
/-- Sum, longest gap, end. -/
def foldR (st : Nat × Nat × Nat) (r : Rn) : Nat × Nat × Nat := (st.1 + r.2, max st.2.1 (r.1 - st.2.2), r.1 + r.2)
def gaps (l : List Rn) : Nat × Nat × Nat := l.foldl foldR (0, 0, 0)
theorem gaps_snoc (l : List Rn) (r : Rn) : gaps (l ++ [r]) = foldR (gaps l) r := by unfold gaps; rw [List.foldl_append]; rfl
theorem gaps_end (l : List Rn) : (gaps l).2.2 = match l.getLast? with | some r => r.1 + r.2 | none => 0 := by
  cases hl : l.getLast? with
  | none => rw [List.getLast?_eq_none_iff.1 hl]; rfl
  | some x =>
    have hne : l ≠ [] := fun e => by rw [e] at hl; cases hl
    have hd : l = l.dropLast ++ [x] := last_eq hl
    rw [hd, gaps_snoc]
    rfl
structure GapOk (p : Nat → Bool) (n : Nat) (s L e : Nat) : Prop where
  sum : s = cntP p n
  hi : e ≤ n
  free : ∀ i, e ≤ i → i < n → p i = false
  last : e = 0 ∨ p (e - 1) = true
  most : ∀ k m, k + m ≤ e → (∀ i, i < m → p (k + i) = false) → m ≤ L
  some : ∃ k, k + L ≤ e ∧ ∀ i, i < L → p (k + i) = false
theorem GapOk.off {p : Nat → Bool} {n s L e : Nat} (h : GapOk p n s L e) (hp : p n = false) : GapOk p (n + 1) s L e :=
  ⟨by rw [cntP_succ, hp, h.sum]; rfl, by have := h.hi; omega, fun i h1 h2 => by
    rcases Nat.lt_succ_iff_lt_or_eq.1 h2 with h3 | h3
    · exact h.free i h1 h3
    · rw [h3]; exact hp, h.last, h.most, h.some⟩
theorem GapOk.on {p : Nat → Bool} {n s L e : Nat} (h : GapOk p n s L e) (hp : p n = true) : GapOk p (n + 1) (s + 1) (max L (n - e)) (n + 1) := by
  have hhi := h.hi
  refine ⟨by rw [cntP_succ, hp, h.sum]; rfl, Nat.le_refl _, fun i h1 h2 => by omega, .inr hp, fun k m hk hf => ?_, ?_⟩
  · by_cases hm : m = 0
    · omega
    · have hkn : k + m ≤ n := by
        rcases Nat.lt_or_ge n (k + m) with h1 | h1
        · have h2 := hf (n - k) (by omega)
          rw [show k + (n - k) = n by omega, hp] at h2
          cases h2
        · exact h1
      by_cases hke : e ≤ k
      · omega
      · have hkm : k + m ≤ e := by
          rcases Nat.lt_or_ge e (k + m) with h1 | h1
          · rcases h.last with h2 | h2
            · omega
            · have h3 := hf (e - 1 - k) (by omega)
              rw [show k + (e - 1 - k) = e - 1 by omega, h2] at h3
              cases h3
          · exact h1
        have := h.most k m hkm hf
        omega
  · by_cases hc : n - e ≤ L
    · obtain ⟨k, h1, h2⟩ := h.some
      rw [Nat.max_eq_left hc]
      exact ⟨k, by omega, h2⟩
    · rw [Nat.max_eq_right (by omega)]
      exact ⟨e, by omega, fun i hi => h.free (e + i) (by omega) (by omega)⟩
theorem gaps_ok (p : Nat → Bool) : ∀ n, GapOk p n (gaps (runsP p 0 n)).1 (gaps (runsP p 0 n)).2.1 (gaps (runsP p 0 n)).2.2
  | 0 => ⟨rfl, Nat.le_refl _, fun i h1 h2 => absurd h2 (Nat.not_lt_zero _), .inl rfl, fun k m h _ => by
      have : (gaps (runsP p 0 0)).2.2 = 0 := rfl
      omega, ⟨0, Nat.le_refl _, fun i hi => absurd hi (Nat.not_lt_zero _)⟩⟩
  | n + 1 => by
    have ih := gaps_ok p n
    cases hp : p n with
    | false =>
      have hp' : p (0 + n) = false := by rw [Nat.zero_add]; exact hp
      rw [runsP_off hp']
      exact ih.off hp
    | true =>
      have hp' : p (0 + n) = true := by rw [Nat.zero_add]; exact hp
      rw [runsP_succ]
      rcases addR_on (l := runsP p 0 n) hp' with ⟨x, hx, he2, hl⟩ | ⟨hno, hl⟩
      · rw [hl]
        have hge := gaps_end (runsP p 0 n)
        rw [hx] at hge
        simp only at hge
        have hne : runsP p 0 n ≠ [] := fun e => by rw [e] at hx; cases hx
        have hd : runsP p 0 n = (runsP p 0 n).dropLast ++ [x] := last_eq hx
        have hg : gaps ((runsP p 0 n).dropLast ++ [(x.1, x.2 + 1)]) = ((gaps (runsP p 0 n)).1 + 1, (gaps (runsP p 0 n)).2.1, n + 1) := by
          rw [gaps_snoc]
          have h2 := gaps_snoc (runsP p 0 n).dropLast x
          rw [← hd] at h2
          rw [h2]
          unfold foldR
          simp only
          rw [show x.1 + (x.2 + 1) = n + 1 by omega, Nat.add_assoc]
        rw [hg]
        have := ih.on hp
        rw [hge, show n - (x.1 + x.2) = 0 by omega, Nat.max_eq_left (Nat.zero_le _)] at this
        exact this
      · rw [hl, gaps_snoc]
        have := ih.on hp
        unfold foldR
        simp only
        rw [Nat.zero_add]
        exact this
/-- All gaps, the last one too. -/
theorem gaps_most {p : Nat → Bool} {n s L e : Nat} (h : GapOk p n s L e) {k m : Nat} (hk : k + m ≤ n) (hf : ∀ i, i < m → p (k + i) = false) : m ≤ max L (n - e) := by
  have hhi := h.hi
  by_cases hm : m = 0
  · omega
  by_cases hke : e ≤ k
  · omega
  · have hkm : k + m ≤ e := by
      rcases Nat.lt_or_ge e (k + m) with h1 | h1
      · rcases h.last with h2 | h2
        · omega
        · have h3 := hf (e - 1 - k) (by omega)
          rw [show k + (e - 1 - k) = e - 1 by omega, h2] at h3
          cases h3
      · exact h1
    have := h.most k m hkm hf
    omega
theorem gaps_some {p : Nat → Bool} {n s L e : Nat} (h : GapOk p n s L e) : ∃ k, k + max L (n - e) ≤ n ∧ ∀ i, i < max L (n - e) → p (k + i) = false := by
  have hhi := h.hi
  by_cases hc : n - e ≤ L
  · obtain ⟨k, h1, h2⟩ := h.some
    rw [Nat.max_eq_left hc]
    exact ⟨k, by omega, h2⟩
  · rw [Nat.max_eq_right (by omega)]
    exact ⟨e, by omega, fun i hi => h.free (e + i) (by omega) (by omega)⟩
/-- A run begins behind all those ahead of it. -/
theorem gaps_ahead {p : Nat → Bool} {n : Nat} {pre : List Rn} {x : Rn} (h : pre ++ [x] <+: runsP p 0 n) : (gaps pre).2.2 ≤ x.1 ∧ 1 ≤ x.2 ∧ x.1 + x.2 ≤ n := by
  obtain ⟨t, ht⟩ := h
  have hx := runsP_in n x (by rw [← ht]; simp)
  refine ⟨?_, hx.2.1, by omega⟩
  have hpw := runsP_pw (p := p) (a := 0) n
  rw [← ht, List.append_assoc, List.pairwise_append] at hpw
  rw [gaps_end]
  cases hl : pre.getLast? with
  | none => exact Nat.zero_le _
  | some r => exact hpw.2.2 r (List.mem_of_getLast? hl) x (by simp)
end Go.Proofs.Ytojoaplbgcdapaa
