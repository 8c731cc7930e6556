/- Paths and their parts, both ways. -/
import Derived.Test.YtnfggikomoialaaDoorRf3
namespace Go.Proofs.YtnfggikomoialaaDoor
set_option linter.unusedVariables false
set_option linter.unusedSimpArgs false
open Go.RowKit Go.Shelf

structure OkPart (p : Bs) : Prop where
  ne : p ≠ []
  no : ∀ c ∈ p, c ≠ 47
  nz : ∀ c ∈ p, c ≠ 0
  short : p.length ≤ 120
theorem partsL_stroke (r : Bs) : partsL (47 :: r) = partsL r := by
  have := partsL_cur (cur := []) (r := r) (fun c hc => by cases hc)
  exact this
theorem oneP_ok {p : Bs} (h : p ≠ []) : oneP p = [p] := by unfold oneP; rw [if_neg h]
theorem partsL_flat : ∀ ps : List Bs, (∀ p ∈ ps, OkPart p) → partsL (flatG ps) = ps
  | [], _ => rfl
  | p :: ps, h => by
    have ih := partsL_flat ps (fun q hq => h q (List.mem_cons_of_mem _ hq))
    have hp := h p (List.mem_cons_self ..)
    have e : flatG (p :: ps) = 47 :: (p ++ flatG ps) := rfl
    rw [e, partsL_stroke]
    cases ps with
    | nil =>
      rw [show flatG [] = ([] : Bs) from rfl, List.append_nil, partsL_end hp.no, oneP_ok hp.ne]
    | cons q qs =>
      have e2 : flatG (q :: qs) = 47 :: (q ++ flatG qs) := rfl
      rw [e2] at ih ⊢
      rw [partsL_cur hp.no, oneP_ok hp.ne]
      rw [partsL_stroke] at ih
      rw [ih]
      rfl
theorem partsL_glue {ps : List Bs} (h : ∀ p ∈ ps, OkPart p) : partsL (glueL ps) = ps := by
  unfold glueL
  split
  · rename_i e
    rw [e]
    rfl
  · exact partsL_flat ps h
theorem flatG_sub {ps : List Bs} {c : UInt8} (h : c ∈ flatG ps) : c = 47 ∨ ∃ p ∈ ps, c ∈ p := by
  unfold flatG at h
  obtain ⟨p, hp, hc⟩ := List.mem_flatMap.1 h
  rcases List.mem_cons.1 hc with h | h
  · exact .inl h
  · exact .inr ⟨p, hp, h⟩
theorem pathN_glue {ps : List Bs} (h : ∀ p ∈ ps, OkPart p) (hl : (flatG ps).length ≤ 1000) : pathN (glueL ps) = 0 := by
  have hp := partsL_glue h
  have h1 : ¬ 1000 < (glueL ps).length := by
    unfold glueL
    split
    · simp
    · omega
  have h2 : (glueL ps).head? = some 47 := by
    unfold glueL
    split
    · rfl
    · rename_i hne
      cases ps with
      | nil => exact absurd rfl hne
      | cons p ps => rfl
  have h3 : ¬ (0 : UInt8) ∈ glueL ps := by
    unfold glueL
    split
    · decide
    · intro hm
      rcases flatG_sub hm with h4 | ⟨p, hp, hc⟩
      · cases h4
      · exact (h p hp).nz 0 hc rfl
  have h4 : wideL (glueL ps) = false := by
    unfold wideL
    rw [hp, List.any_eq_false]
    intro p hpm
    have := (h p hpm).short
    simp only [decide_eq_true_eq]
    omega
  rw [pathN_ok h1 h2 h3, h4]
  rfl
theorem pcs_mem : ∀ (l : Bs) (p : Bs), p ∈ pcs l → (∀ c ∈ p, c ≠ 47) ∧ (∀ c ∈ p, c ∈ l)
  | [], p, h => by
    simp [pcs] at h
    subst h
    exact ⟨fun c hc => (by cases hc), fun c hc => (by cases hc)⟩
  | b :: l, p, h => by
    have ih := pcs_mem l
    unfold pcs at h
    split at h
    · rcases List.mem_cons.1 h with rfl | h
      · exact ⟨fun c hc => (by cases hc), fun c hc => (by cases hc)⟩
      · obtain ⟨h1, h2⟩ := ih p h
        exact ⟨h1, fun c hc => List.mem_cons_of_mem _ (h2 c hc)⟩
    · rename_i hb
      split at h
      · rename_i x t e
        rw [e] at ih
        rcases List.mem_cons.1 h with rfl | h
        · obtain ⟨h1, h2⟩ := ih x (List.mem_cons_self ..)
          refine ⟨fun c hc => ?_, fun c hc => ?_⟩
          · rcases List.mem_cons.1 hc with rfl | hc
            · exact hb
            · exact h1 c hc
          · rcases List.mem_cons.1 hc with rfl | hc
            · exact List.mem_cons_self ..
            · exact List.mem_cons_of_mem _ (h2 c hc)
        · obtain ⟨h1, h2⟩ := ih p (List.mem_cons_of_mem _ h)
          exact ⟨h1, fun c hc => List.mem_cons_of_mem _ (h2 c hc)⟩
      · simp at h
        subst h
        refine ⟨fun c hc => ?_, fun c hc => ?_⟩
        · simp at hc; subst hc; exact hb
        · simp at hc; subst hc; exact List.mem_cons_self ..
theorem pathN_inv {l : Bs} (h : pathN l = 0) : l.length ≤ 1000 ∧ l.head? = some 47 ∧ (0 : UInt8) ∉ l ∧ wideL l = false := by
  have h1 := pathN_long h
  unfold pathN at h
  rw [if_neg (by omega)] at h
  split at h
  · cases h
  · rename_i h2
    split at h
    · cases h
    · rename_i h3
      simp at h2
      exact ⟨h1, h2.1, h2.2, by simpa using h3⟩
theorem okParts_of {l : Bs} (h : pathN l = 0) : ∀ p ∈ partsL l, OkPart p := fun p hp => by
  obtain ⟨h1, h2, h3, h4⟩ := pathN_inv h
  have hp2 : p ∈ pcs l ∧ p ≠ [] := by
    unfold partsL at hp
    rw [List.mem_filter] at hp
    exact ⟨hp.1, by simpa using hp.2⟩
  obtain ⟨h5, h6⟩ := pcs_mem l p hp2.1
  refine ⟨hp2.2, h5, fun c hc e => h3 (by rw [← e]; exact h6 c hc), ?_⟩
  unfold wideL at h4
  have := List.any_eq_false.1 h4 p hp
  simp only [decide_eq_true_eq] at this
  omega
theorem glue_short {l : Bs} (h : pathN l = 0) : (flatG (partsL l)).length ≤ l.length ∧ (glueL (partsL l)).length ≤ l.length := by
  obtain ⟨h1, h2, h3, h4⟩ := pathN_inv h
  cases l with
  | nil => cases h2
  | cons b r =>
    simp at h2
    subst h2
    have hf := flatG_parts r
    rw [partsL_stroke]
    have hg : (flatG (partsL r)).length ≤ (47 :: r).length := by rw [List.length_cons]; exact hf
    refine ⟨hg, ?_⟩
    unfold glueL
    split
    · simp
    · exact hg
/-- The parts of a path in short. -/
theorem short_path {l : Bs} (h : pathN l = 0) : pathN (glueL (partsL l)) = 0 ∧ partsL (glueL (partsL l)) = partsL l := by
  have hok := okParts_of h
  have := glue_short h
  have := (pathN_inv h).1
  exact ⟨pathN_glue hok (by omega), partsL_glue hok⟩
theorem nameN_ok {p : Bs} (h : OkPart p) (hd : dotsB p = false) : nameN p = 0 := by
  have h1 : ¬ (0 : UInt8) ∈ p := fun hm => h.nz 0 hm rfl
  have h2 : ¬ (47 : UInt8) ∈ p := fun hm => h.no 47 hm rfl
  have h3 : ¬ 120 < p.length := by have := h.short; omega
  unfold nameN fltB
  simp [h.ne, hd, h1, h2, h3]
/-- What Split tells. -/
theorem split_path {l d n : Bs} (h : pathN l = 0) (hs : splitN l = (d, n, 0)) : pathN d = 0 ∧ partsL d ++ [n] = partsL l ∧ nameN n = 0 ∧ underN l d = (true, 0) := by
  have hok := okParts_of h
  unfold splitN at hs
  rw [if_pos h] at hs
  cases hg : (partsL l).getLast? with
  | none => rw [hg] at hs; cases hs
  | some p =>
    rw [hg] at hs
    simp only at hs
    cases hd : dotsB p with
    | true => rw [hd] at hs; cases hs
    | false =>
      rw [hd] at hs
      cases hs
      have hne : partsL l ≠ [] := fun e => by rw [e] at hg; cases hg
      have hle : (partsL l).dropLast ++ [n] = partsL l := by
        rw [List.getLast?_eq_some_getLast hne] at hg
        cases hg
        exact List.dropLast_concat_getLast hne
      have hokd : ∀ q ∈ (partsL l).dropLast, OkPart q := fun q hq => hok q (List.dropLast_subset _ hq)
      have hfl : (flatG (partsL l).dropLast).length ≤ 1000 := by
        have h5 := (glue_short h).1
        have h6 := (pathN_inv h).1
        have h7 : (partsL l).dropLast = (partsL l).take ((partsL l).length - 1) := List.dropLast_eq_take
        have h8 := flatG_take (partsL l) ((partsL l).length - 1)
        rw [h7]
        omega
      have hpd := partsL_glue hokd
      have hpn := pathN_glue hokd hfl
      refine ⟨hpn, by rw [hpd]; exact hle, nameN_ok (hok n (List.mem_of_getLast? hg)) hd, ?_⟩
      unfold underN
      rw [if_pos h, if_pos hpn, hpd]
      congr 1
      exact decide_eq_true (List.dropLast_prefix _)
theorem partN_ok {p : Bs} (h : partN p = 0) : OkPart p := by
  unfold partN at h
  split at h
  · rename_i hd
    unfold dotsB at hd
    simp at hd
    rcases hd with rfl | rfl
    · exact ⟨by simp, by decide, by decide, by decide⟩
    · exact ⟨by simp, by decide, by decide, by decide⟩
  · unfold nameN at h
    have f0 : fltB p 0 = false := by
      cases e : fltB p 0 with
      | false => rfl
      | true => rw [e, if_pos rfl] at h; cases h
    rw [f0, if_neg (by simp)] at h
    have f1 : fltB p 1 = false := by
      cases e : fltB p 1 with
      | false => rfl
      | true => rw [e, if_pos rfl] at h; cases h
    rw [f1, if_neg (by simp)] at h
    have f2 : fltB p 2 = false := by
      cases e : fltB p 2 with
      | false => rfl
      | true => rw [e, if_pos rfl] at h; cases h
    rw [f2, if_neg (by simp)] at h
    have f3 : fltB p 3 = false := by
      cases e : fltB p 3 with
      | false => rfl
      | true => rw [e, if_pos rfl] at h; cases h
    have h0 : (decide (p = []) || dotsB p) = false := f0
    have h1 : decide ((0 : UInt8) ∈ p) = false := f1
    have h2 : decide ((47 : UInt8) ∈ p) = false := f2
    have h3 : decide (120 < p.length) = false := f3
    simp at h0 h1 h2 h3
    exact ⟨h0.1, fun c hc e => h2 (by rw [← e]; exact hc), fun c hc e => h1 (by rw [← e]; exact hc), by omega⟩
theorem partsN_ok : ∀ {ps : List Bs}, partsN ps = 0 → ∀ p ∈ ps, OkPart p
  | [], _, p, hp => by cases hp
  | x :: ps, h, p, hp => by
    have h' : (if partN x = 0 then partsN ps else partN x) = 0 := h
    by_cases hx : partN x = 0
    · rw [if_pos hx] at h'
      rcases List.mem_cons.1 hp with rfl | hp
      · exact partN_ok hx
      · exact partsN_ok h' p hp
    · rw [if_neg hx] at h'
      exact absurd h' hx
theorem join_path {ps : List Bs} (h : joinN ps = 0) : pathN (glueL ps) = 0 ∧ partsL (glueL ps) = ps := by
  unfold joinN at h
  split at h
  · rename_i h0
    have hok := partsN_ok h0
    split at h
    · cases h
    · rename_i h1
      exact ⟨pathN_glue hok (by omega), partsL_glue hok⟩
  · rename_i h0
    exact absurd h h0
end Go.Proofs.YtnfggikomoialaaDoor
