/- A plan of stores is ordered, and has these stores. -/
import Derived.Test.YtcmgpfahpmkeoaaLw
namespace Go.Proofs.Ytcmgpfahpmkeoaa
set_option linter.unusedVariables false
set_option linter.unusedSimpArgs false
open Go.RowKit Go.Shelf

def sO (o : Option Nat) : OS := match o with
  | none => (-1, false, true)
  | some k => ((k : Int), false, true)
theorem fold_setA (k : Nat) : (setA k).foldl stepO (sO (some k)) = sO none := by
  simp [setA, sO, stepO]
theorem step_stA (o : Option Nat) (p : Pt) (h0 : 0 ≤ p.1) (ho : o = none ∨ o = some (lnP p)) : stepO (sO o) (stA p) = sO (some (lnP p)) := by
  have hl : lnA (stA p) = lnP p := rfl
  rcases ho with rfl | rfl
  · simp [sO, stepO, stA, lnA, lnP]
  · simp [sO, stepO, stA, lnA, lnP]
theorem fold_plan : ∀ (l : List Pt) (o : Option Nat), (∀ p ∈ l, 0 ≤ p.1) → (planP o l).foldl stepO (sO o) = sO none
  | [], none, _ => rfl
  | [], some k, _ => fold_setA k
  | p :: l, o, h => by
    have ih := fold_plan l (some (lnP p)) (fun q hq => h q (List.mem_cons_of_mem _ hq))
    have h0 := h p (List.mem_cons_self ..)
    show (gapA o p ++ stA p :: planP (some (lnP p)) l).foldl stepO (sO o) = _
    rw [List.foldl_append, List.foldl_cons]
    cases o with
    | none =>
      show (planP (some (lnP p)) l).foldl stepO (stepO (sO none) (stA p)) = _
      rw [step_stA none p h0 (.inl rfl)]
      exact ih
    | some k =>
      by_cases hk : lnP p = k
      · have e : gapA (some k) p = [] := by simp [gapA, hk]
        rw [e]
        show (planP (some (lnP p)) l).foldl stepO (stepO (sO (some k)) (stA p)) = _
        rw [step_stA (some k) p h0 (.inr (by rw [hk]))]
        exact ih
      · have e : gapA (some k) p = setA k := by simp [gapA, hk]
        rw [e, fold_setA, step_stA none p h0 (.inl rfl)]
        exact ih
theorem okA_set (k : Nat) : ∀ a ∈ setA k, okA a = true := by
  intro a ha
  simp only [setA, List.mem_cons, List.not_mem_nil, or_false] at ha
  rcases ha with rfl | rfl
  · simp [okA]
  · simp [okA]
theorem okA_plan : ∀ (l : List Pt) (o : Option Nat), (∀ p ∈ l, 0 ≤ p.1) → ∀ a ∈ planP o l, okA a = true
  | [], none, _ => fun a ha => by cases ha
  | [], some k, _ => okA_set k
  | p :: l, o, h => by
    intro a ha
    have ih := okA_plan l (some (lnP p)) (fun q hq => h q (List.mem_cons_of_mem _ hq))
    have ha' : a ∈ gapA o p ∨ a = stA p ∨ a ∈ planP (some (lnP p)) l := by
      have : a ∈ gapA o p ++ stA p :: planP (some (lnP p)) l := ha
      simpa using this
    rcases ha' with ha' | rfl | ha'
    · unfold gapA at ha'
      split at ha'
      · split at ha'
        · cases ha'
        · exact okA_set _ a ha'
      · cases ha'
    · have := h p (List.mem_cons_self ..)
      simp [okA, stA, this]
    · exact ih a ha'
theorem sto_set (k : Nat) : stoP (setA k) = [] := by simp [stoP, setA]
theorem stoP_append (a b : List Ac) : stoP (a ++ b) = stoP a ++ stoP b := by simp [stoP]
theorem sto_plan : ∀ (l : List Pt) (o : Option Nat), stoP (planP o l) = l
  | [], none => rfl
  | [], some k => sto_set k
  | p :: l, o => by
    show stoP (gapA o p ++ stA p :: planP (some (lnP p)) l) = _
    have e : stoP (gapA o p) = [] := by
      unfold gapA
      split
      · split
        · rfl
        · exact sto_set _
      · rfl
    have e2 : stoP (stA p :: planP (some (lnP p)) l) = p :: stoP (planP (some (lnP p)) l) := by
      simp [stoP, stA, putA]
    rw [stoP_append, e, e2, sto_plan l]
    rfl
theorem order_fine {l : List Pt} (h : okPs l = true) : ordP (orderP l) = true ∧ stoP (orderP l) = l := by
  have hp : ∀ p ∈ l, 0 ≤ p.1 := fun p hp => by simpa using List.all_eq_true.1 h p hp
  have e : orderP l = planP none l := by unfold orderP; rw [if_pos h]
  rw [e]
  refine ⟨?_, sto_plan l none⟩
  have hok : okAs (planP none l) = true := List.all_eq_true.2 (okA_plan l none hp)
  have hf := fold_plan l none hp
  have hf2 : foldO true (planP none l) = sO none := hf
  unfold ordP
  rw [hok, hf2]
  rfl
theorem order_at {l : List Pt} {a : Ac} (h : a ∈ orderP l) (hw : ∀ p ∈ l, p.1 ≤ 9223372036854775807) (hk : okPs l = true) : a.2.1 ≤ 9223372036854775807 := by
  have key : ∀ (l : List Pt) (o : Option Nat), (∀ k, o = some k → k ≤ 9223372036854775807) → (∀ p ∈ l, p.1 ≤ 9223372036854775807) → ∀ a ∈ planP o l, a.2.1 ≤ 9223372036854775807 := by
    intro l
    induction l with
    | nil =>
      intro o ho _ a ha
      cases o with
      | none => cases ha
      | some k =>
        have := ho k rfl
        have ha : a ∈ setA k := ha
        simp only [setA, List.mem_cons, List.not_mem_nil, or_false] at ha
        rcases ha with rfl | rfl
        · show ((k : Nat) : Int) ≤ _
          omega
        · decide
    | cons p l ih =>
      intro o ho hl a ha
      have hp := hl p (List.mem_cons_self ..)
      have ha' : a ∈ gapA o p ∨ a = stA p ∨ a ∈ planP (some (lnP p)) l := by
        have : a ∈ gapA o p ++ stA p :: planP (some (lnP p)) l := ha
        simpa using this
      rcases ha' with ha' | rfl | ha'
      · unfold gapA at ha'
        split at ha'
        · rename_i k
          have := ho k rfl
          split at ha'
          · cases ha'
          · simp only [setA, List.mem_cons, List.not_mem_nil, or_false] at ha'
            rcases ha' with rfl | rfl
            · show ((k : Nat) : Int) ≤ _
              omega
            · decide
        · cases ha'
      · exact hp
      · refine ih (some (lnP p)) (fun k hk => ?_) (fun q hq => hl q (List.mem_cons_of_mem _ hq)) a ha'
        cases hk
        unfold lnP
        omega
  unfold orderP at h
  rw [if_pos hk] at h
  exact key l none (fun k hk => by cases hk) hw a h
end Go.Proofs.Ytcmgpfahpmkeoaa
