/- layout: the document's formula of parts. -/
import Derived.Test.YthdgnogpjpoklaaLay7
namespace Go.Proofs.Ythdgnogpjpoklaa
set_option linter.unusedVariables false
set_option linter.unusedSimpArgs false
open Go.RowKit Go.Shelf

/-- What a word belongs to, by its block. -/
def partF (i r w : Nat) : Nat × Nat :=
  if w / 64 = 0 then (1, 0) else if w / 64 < 9 then (2, w / 64 - 1) else if w / 64 < 9 + i / 4 then (3, (w - 64 * 9) / 16 + 1) else if w / 64 < 9 + i / 4 + r / 4 then (4, (w - 64 * (9 + i / 4)) / 16 + 1) else if w / 64 = 9 + i / 4 + r / 4 then (5, 0) else (6, w / 64)
/-- Where the kinds end. -/
theorem kEnd {b i r c : Nat} (hc : c < 5) (hi : i % 4 = 0) (hr : r % 4 = 0) : kF i r c * 64 + kM b i r c * kW c = kF i r (c + 1) * 64 := by
  match c, hc with
  | 0, _ => simp [kF, kM, kW]
  | 1, _ => simp [kF, kM, kW]
  | 2, _ => simp only [kF, kM, kW]; omega
  | 3, _ => simp only [kF, kM, kW]; omega
  | 4, _ => simp only [kF, kM, kW]; omega
theorem grp_mem {f m fi wd kd : Nat} {x : Pa} (h : x ∈ grp f m fi wd kd) : ∃ j, j < m ∧ x = (f * 64 + j * wd, kd, fi + j) := by
  obtain ⟨j, hj, rfl⟩ := List.mem_map.1 h
  exact ⟨j, List.mem_range.1 hj, rfl⟩
theorem kF_mono {i r c : Nat} (hc : c < 5) : kF i r c ≤ kF i r (c + 1) := by
  match c, hc with
  | 0, _ | 1, _ | 2, _ | 3, _ | 4, _ => simp only [kF]; omega
theorem kW_pos (c : Nat) : 0 < kW c := by
  unfold kW
  split <;> omega
/-- All ahead of a kind's first word begin ahead of it. -/
theorem pre_lt {b i r : Nat} (hi : i % 4 = 0) (hr : r % 4 = 0) (c : Nat) (hc : c ≤ 5) : ∀ x ∈ preL b i r c, x.1 < kF i r c * 64 := by
  induction c with
  | zero => intro x h; cases h
  | succ c ih =>
    intro x h
    have hm := kF_mono (i := i) (r := r) (c := c) (by omega)
    have he := kEnd (b := b) (c := c) (by omega) hi hr
    rcases List.mem_append.1 h with h | h
    · have := ih (by omega) x h
      omega
    · obtain ⟨j, hj, rfl⟩ := grp_mem h
      have hw := kW_pos c
      have h1 : j * kW c + kW c ≤ kM b i r c * kW c := by
        rw [← Nat.succ_mul]
        exact Nat.mul_le_mul_right _ hj
      show kF i r c * 64 + j * kW c < kF i r (c + 1) * 64
      omega
/-- What comes behind a kind. -/
def postL (b i r c : Nat) : List Pa := (allP b i r).drop (preL b i r c).length
theorem allP_split (b i r c : Nat) (hc : c ≤ 6) : allP b i r = preL b i r c ++ postL b i r c := by
  obtain ⟨t, ht⟩ := preL_pre b i r (6 - c) c (by omega)
  unfold postL
  rw [← ht, List.drop_left]
theorem post_step (b i r c : Nat) (hc : c < 6) : postL b i r c = kG b i r c ++ postL b i r (c + 1) := by
  have h1 := allP_split b i r c (by omega)
  have h2 := allP_split b i r (c + 1) (by omega)
  rw [h1] at h2
  simp only [preL, List.append_assoc] at h2
  exact List.append_cancel_left h2
/-- The first word of what comes behind a kind. -/
theorem post_head {b i r c : Nat} (hc : c < 5) (hm : 0 < kM b i r (c + 1)) : ∃ x t, postL b i r (c + 1) = x :: t ∧ x.1 = kF i r (c + 1) * 64 := by
  rw [post_step b i r (c + 1) (by omega)]
  unfold kG grp
  obtain ⟨m, hm'⟩ : ∃ m, kM b i r (c + 1) = m + 1 := ⟨kM b i r (c + 1) - 1, by omega⟩
  rw [hm', List.range_succ_eq_map]
  exact ⟨_, _, rfl, by simp⟩
theorem scan_in {b i r c j word : Nat} (hc : c < 6) (hi : i % 4 = 0) (hr : r % 4 = 0) (hj : j < kM b i r c) (h1 : kF i r c * 64 + j * kW c ≤ word) (h2 : word < kF i r c * 64 + (j + 1) * kW c) (hn : c < 5 → 0 < kM b i r (c + 1)) : scanP word (allP b i r) (0, 0) = (c + 1, kN i r c + j) := by
  have hG : kG b i r c = (kG b i r c).take j ++ [(kF i r c * 64 + j * kW c, c + 1, kN i r c + j)] ++ (kG b i r c).drop (j + 1) := by
    have := grp_at (f := kF i r c) (fi := kN i r c) (wd := kW c) (kd := c + 1) hj
    unfold kG
    rw [← this, List.take_append_drop]
  rw [allP_split b i r c (by omega), post_step b i r c hc, hG]
  have hle : ∀ y ∈ preL b i r c ++ ((kG b i r c).take j ++ [(kF i r c * 64 + j * kW c, c + 1, kN i r c + j)]), y.1 ≤ word := by
    intro y hy
    rcases List.mem_append.1 hy with hy | hy
    · have := pre_lt hi hr c (by omega) y hy
      omega
    rcases List.mem_append.1 hy with hy | hy
    · unfold kG grp at hy
      rw [← List.map_take, List.take_range, List.mem_map] at hy
      obtain ⟨k, hk, rfl⟩ := hy
      have hk' : k ≤ j := by have := List.mem_range.1 hk; omega
      have := Nat.mul_le_mul_right (kW c) hk'
      show kF i r c * 64 + k * kW c ≤ word
      omega
    · simp at hy
      subst hy
      exact h1
  have hacc : scanP word (preL b i r c ++ ((kG b i r c).take j ++ [(kF i r c * 64 + j * kW c, c + 1, kN i r c + j)])) (0, 0) = (c + 1, kN i r c + j) := by
    rw [← List.append_assoc]
    rw [← List.append_assoc] at hle
    exact scan_snoc (fun y hy => hle y (List.mem_append_left _ hy)) h1
  have hnext : ∀ x t, (kG b i r c).drop (j + 1) ++ postL b i r (c + 1) = x :: t → ¬x.1 ≤ word := by
    intro x t hx
    by_cases hj2 : j + 1 < kM b i r c
    · have hd : (kG b i r c).drop (j + 1) = (kF i r c * 64 + (j + 1) * kW c, c + 1, kN i r c + (j + 1)) :: (kG b i r c).drop (j + 2) := by
        unfold kG
        rw [List.drop_eq_getElem_cons (by rw [grp_len]; exact hj2)]
        simp [grp]
      rw [hd, List.cons_append] at hx
      cases hx
      show ¬(kF i r c * 64 + (j + 1) * kW c ≤ word)
      omega
    · rw [List.drop_of_length_le (by unfold kG; rw [grp_len]; omega), List.nil_append] at hx
      by_cases hc5 : c < 5
      · obtain ⟨y, t', hy, hy1⟩ := post_head (b := b) hc5 (hn hc5)
        rw [hy] at hx
        cases hx
        have he := kEnd (b := b) (c := c) hc5 hi hr
        rw [show kM b i r c = j + 1 by omega] at he
        omega
      · obtain rfl : c = 5 := by omega
        exfalso
        unfold postL allP at hx
        rw [List.drop_of_length_le (Nat.le_refl _)] at hx
        cases hx
  rw [List.append_assoc, List.append_assoc, ← List.append_assoc, ← List.append_assoc, scan_app (by rw [List.append_assoc]; exact hle), List.append_assoc, hacc]
  cases hr' : (kG b i r c).drop (j + 1) ++ postL b i r (c + 1) with
  | nil => rfl
  | cons x t => simp [scanP, hnext x t hr']
theorem scan_partF {b i r word : Nat} (hi : i % 4 = 0) (hr : r % 4 = 0) (hi4 : 4 ≤ i) (hr4 : 4 ≤ r) (hd : 10 + i / 4 + r / 4 < b) (hw : word < 64 * b) : scanP word (allP b i r) (0, 0) = partF i r word := by
  unfold partF
  split
  · rw [scan_in (c := 0) (j := 0) (by omega) hi hr (by simp [kM]) (by simp only [kF, kW]; omega) (by simp only [kF, kW]; omega) (by intro _; simp [kM])]
    rfl
  split
  · rw [scan_in (c := 1) (j := word / 64 - 1) (by omega) hi hr (by simp only [kM]; omega) (by simp only [kF, kW]; omega) (by simp only [kF, kW]; omega) (by intro _; simp only [kM]; omega)]
    simp [kN]
  split
  · rw [scan_in (c := 2) (j := (word - 64 * 9) / 16) (by omega) hi hr (by simp only [kM]; omega) (by simp only [kF, kW]; omega) (by simp only [kF, kW]; omega) (by intro _; simp only [kM]; omega)]
    simp [kN]; omega
  split
  · rw [scan_in (c := 3) (j := (word - 64 * (9 + i / 4)) / 16) (by omega) hi hr (by simp only [kM]; omega) (by simp only [kF, kW]; omega) (by simp only [kF, kW]; omega) (by intro _; simp only [kM]; omega)]
    simp [kN]; omega
  split
  · rw [scan_in (c := 4) (j := 0) (by omega) hi hr (by simp [kM]) (by simp only [kF, kW]; omega) (by simp only [kF, kW]; omega) (by intro _; simp only [kM]; omega)]
    rfl
  · rw [scan_in (c := 5) (j := word / 64 - (10 + i / 4 + r / 4)) (by omega) hi hr (by simp only [kM]; omega) (by simp only [kF, kW]; omega) (by simp only [kF, kW]; omega) (by intro h; omega)]
    simp only [kN]
    congr 1
    omega
end Go.Proofs.Ythdgnogpjpoklaa
