/- What the statements' walks use: Sc24, Sc25, So21, So22, So23, So24, So25, Sc26, Sc21, Sc27, Sc28. -/

import Derived.Test.YtloflmkolnediaaMhb
import Derived.Test.YtloflmkolnediaaMhd
/- scan: a reader that goes up beside Put; readers beside Swap. -/
namespace Go.Proofs.Ytloflmkolnediaa
set_option linter.unusedVariables false
set_option linter.unusedSimpArgs false
open Go.RowKit Go.Shelf
set_option maxRecDepth 100000
set_option maxHeartbeats 4000000
section
variable {left : Nat} {s : List Nat} {m i k p : Nat}
def puK (s : List Nat) (i m k j t : Nat) : Nat := if j = i ∧ 2 * (m - i) + 3 ≤ t then k else if i < j ∧ j ≤ m ∧ 2 * (m - j) + 3 ≤ t then keyN s (j - 1) else keyN s j
def puP (left : Nat) (s : List Nat) (i m p j t : Nat) : Nat := if j = i ∧ 2 * (m - i) + 4 ≤ t then p else if j = i ∧ 2 * (m - i) + 2 ≤ t then aheadN left s i else if i < j ∧ j ≤ m ∧ 2 * (m - j) + 2 ≤ t then ptrN s (j - 1) else ptrN s j
def puH (s : List Nat) (i m key j t : Nat) : Prop := ∃ x, x < m ∧ keyN s x = key ∧ (j ≤ x ∨ (x + 1 = j ∧ i ≤ x ∧ 2 * (m - x) + 2 ≤ t))
theorem ahead_nz (hs : Stl left s m) (hl : left ≠ 0) (hi : i ≤ m) : aheadN left s i ≠ 0 := by
  unfold aheadN
  split
  · exact hl
  · exact hs.ne _ (by omega)
theorem puP_nz {j t : Nat} (hs : Stl left s m) (hl : left ≠ 0) (hi : i ≤ m) (hp0 : p ≠ 0) (hj : j < m) : puP left s i m p j t ≠ 0 := by
  unfold puP
  split
  · exact hp0
  split
  · exact ahead_nz hs hl hi
  split
  · exact hs.ne _ (by omega)
  · exact hs.ne _ hj
theorem pu_hist {key slots : Nat} (hs : Stl left s m) (hl : left ≠ 0) (hsl : slots = s.length / 2) (hm1 : m + 1 < slots) (hi : i ≤ m) (hp0 : p ≠ 0) (hd : ∀ j, j < m → ptrN s j ≠ p) : HistU slots key (puK s i m k) (puP left s i m p) (ahP left (puP left s i m p)) (fun v => inRow s m key v ∨ (key = k ∧ v = p)) (puH s i m key) where
  mono := fun j t t' ⟨x, h1, h3, h4⟩ ht => ⟨x, h1, h3, h4.imp_right fun h => ⟨h.1, h.2.1, by omega⟩⟩
  f1 := fun j t1 t2 t3 t4 hj h12 h23 h34 k1 k4 p0 pa => by
    obtain ⟨v, hv⟩ : ∃ v, puP left s i m p j t3 = v := ⟨_, rfl⟩
    rw [hv] at p0 pa ⊢
    unfold puP at hv
    by_cases c1 : j = i ∧ 2 * (m - i) + 4 ≤ t3
    · rw [if_pos c1] at hv
      refine .inr ⟨?_, hv.symm⟩
      rw [← k4]
      unfold puK
      rw [if_pos (by omega)]
    rw [if_neg c1] at hv
    by_cases c2 : j = i ∧ 2 * (m - i) + 2 ≤ t3
    · rw [if_pos c2] at hv
      refine absurd ?_ pa
      obtain ⟨rfl, _⟩ := c2
      rw [← hv]
      unfold ahP aheadN
      by_cases h0 : j = 0
      · rw [if_pos h0, if_pos h0]
      · rw [if_neg h0, if_neg h0]
        unfold puP
        rw [if_neg (by omega), if_neg (by omega), if_neg (by omega)]
    rw [if_neg c2] at hv
    by_cases c3 : i < j ∧ j ≤ m ∧ 2 * (m - j) + 2 ≤ t3
    · rw [if_pos c3] at hv
      by_cases c4 : 2 * (m - j) + 3 ≤ t4
      · refine .inl ⟨j - 1, by omega, ?_, hv⟩
        rw [← k4]
        unfold puK
        rw [if_neg (by omega), if_pos (by omega)]
      · refine absurd ?_ pa
        rw [← hv]
        unfold ahP
        rw [if_neg (by omega)]
        unfold puP
        rw [if_neg (by omega), if_neg (by omega), if_neg (by omega)]
    rw [if_neg c3] at hv
    have hjm : j < m := Nat.lt_of_not_le fun h => p0 (by rw [← hv]; exact hs.z j h (by omega))
    refine .inl ⟨j, hjm, ?_, hv⟩
    rw [← k1]
    unfold puK
    rw [if_neg (by omega), if_neg (by omega)]
  n1 := fun j t1 t3 hj h13 ⟨x, h1, h3, h4⟩ hk => by
    rcases h4 with h4 | ⟨h4, h5, h6⟩
    · refine ⟨puP_nz hs hl hi hp0 (by omega), by omega, x, h1, h3, ?_⟩
      by_cases e : x = j
      · subst e
        have c : i ≤ x ∧ 2 * (m - x) + 3 ≤ t1 := Decidable.byContradiction fun c => hk (by unfold puK; rw [if_neg (by omega), if_neg (by omega)]; exact h3)
        exact .inr ⟨rfl, c.1, by omega⟩
      · exact .inl (by omega)
    · refine absurd ?_ hk
      unfold puK
      rw [if_neg (by omega), if_pos (by omega), show j - 1 = x by omega]
      exact h3
  n2 := fun j t1 t2 t3 t4 hj h12 h23 h34 ⟨x, h1, h3, h4⟩ hk hn => by
    rcases h4 with h4 | ⟨h4, h5, h6⟩
    · refine ⟨puP_nz hs hl hi hp0 (by omega), by omega, x, h1, h3, ?_⟩
      by_cases e : x = j
      · subst e
        by_cases c : i ≤ x ∧ 2 * (m - x) + 2 ≤ t4
        · exact .inr ⟨rfl, c.1, c.2⟩
        · exfalso
          have e1 : puP left s i m p x t3 = ptrN s x := by
            unfold puP
            rw [if_neg (by omega), if_neg (by omega), if_neg (by omega)]
          refine hn ⟨?_, by rw [e1]; exact hs.ne x h1, ?_⟩
          · unfold puK
            rw [if_neg (by omega), if_neg (by omega)]
            exact h3
          · rw [e1]
            unfold ahP
            by_cases h0 : x = 0
            · rw [if_pos h0]; exact hs.nl x h1
            rw [if_neg h0]
            unfold puP
            split
            · exact hd x h1
            split
            · exact hs.ahI h1 (by omega)
            split
            · intro e2
              have := hs.ptrI h1 (by omega) e2
              omega
            · intro e2
              have := hs.ptrI h1 (by omega) e2
              omega
      · exact .inl (by omega)
    · exfalso
      have e1 : ∀ t, t1 ≤ t → puP left s i m p j t = ptrN s x := fun t ht => by
        unfold puP
        rw [if_neg (by omega), if_neg (by omega), if_pos (by omega), show j - 1 = x by omega]
      refine hn ⟨?_, by rw [e1 _ (by omega)]; exact hs.ne x h1, ?_⟩
      · unfold puK
        rw [if_neg (by omega), if_pos (by omega), show j - 1 = x by omega]
        exact h3
      · rw [e1 _ (by omega)]
        unfold ahP
        rw [if_neg (by omega), show j - 1 = x by omega]
        unfold puP
        split
        · exact hd x h1
        split
        · exact hs.ahI h1 (by omega)
        split
        · intro e2
          have := hs.ptrI h1 (by omega) e2
          omega
        · omega
/-- Swap: one store, of a pointer. -/
def swP (s : List Nat) (i p j t : Nat) : Nat := if j = i ∧ 1 ≤ t then p else ptrN s j
theorem swP_ah {j x t t' : Nat} (hs : Stl left s m) (hpl : p ≠ left) (hd : ∀ j, j < m → ptrN s j ≠ p) (hi : i < m) (hj : j < m) : swP s i p j t ≠ ahP left (swP s i p) j t' := by
  unfold ahP
  by_cases h0 : j = 0
  · rw [if_pos h0]
    unfold swP
    split
    · exact hpl
    · exact hs.nl j hj
  · rw [if_neg h0]
    unfold swP
    split
    · rw [if_neg (by omega)]
      exact (hd _ (by omega)).symm
    · split
      · exact hd j hj
      · intro e
        have := hs.ptrI hj (by omega) e
        omega
theorem swP_nz {j t : Nat} (hs : Stl left s m) (hp0 : p ≠ 0) (hj : j < m) : swP s i p j t ≠ 0 := by
  unfold swP
  split
  · exact hp0
  · exact hs.ne j hj
theorem swP_z {j t slots : Nat} (hs : Stl left s m) (hsl : slots = s.length / 2) (hi : i < m) (hj : ¬ j < m) (hj2 : j < slots) : swP s i p j t = 0 := by
  unfold swP
  rw [if_neg (by omega)]
  exact hs.z j (by omega) (by omega)
def swG (s : List Nat) (i m p key v : Nat) : Prop := inRow s m key v ∨ (keyN s i = key ∧ v = p)
theorem swP_good {j t key : Nat} (hj : j < m) (hk : keyN s j = key) : swG s i m p key (swP s i p j t) := by
  unfold swP
  split
  · rename_i c
    exact .inr ⟨by rw [← c.1]; exact hk, rfl⟩
  · exact .inl ⟨j, hj, hk, rfl⟩
theorem sw_histU {key slots : Nat} (hs : Stl left s m) (hsl : slots = s.length / 2) (hi : i < m) (hp0 : p ≠ 0) (hpl : p ≠ left) (hd : ∀ j, j < m → ptrN s j ≠ p) : HistU slots key (fun j _ => keyN s j) (swP s i p) (ahP left (swP s i p)) (swG s i m p key) (fun j _ => ∃ x, x < m ∧ keyN s x = key ∧ j ≤ x) where
  mono := fun j t t' h _ => h
  f1 := fun j t1 t2 t3 t4 hj h12 h23 h34 k1 k4 p0 pa => by
    by_cases hm : j < m
    · exact swP_good hm k1
    · exact absurd (swP_z hs hsl hi hm hj) p0
  n1 := fun j t1 t3 hj h13 ⟨x, h1, h3, h4⟩ hk => by
    have hlt := hs.lt
    have : x ≠ j := fun e => hk (by rw [← e]; exact h3)
    exact ⟨swP_nz hs hp0 (by omega), by omega, x, h1, h3, by omega⟩
  n2 := fun j t1 t2 t3 t4 hj h12 h23 h34 ⟨x, h1, h3, h4⟩ hk hn => by
    have hjm : j < m := by omega
    exact absurd ⟨hk, swP_nz hs hp0 hjm, swP_ah (x := 0) hs hpl hd hi hjm⟩ hn
theorem sw_histD {key slots : Nat} (hs : Stl left s m) (hsl : slots = s.length / 2) (hi : i < m) (hp0 : p ≠ 0) (hpl : p ≠ left) (hd : ∀ j, j < m → ptrN s j ≠ p) : HistD slots key (fun j _ => keyN s j) (swP s i p) (ahP left (swP s i p)) (swG s i m p key) (fun j _ => ∃ x, x < m ∧ keyN s x = key ∧ x ≤ j) where
  mono := fun j t t' h _ => h
  f1 := fun j t1 t2 t3 t4 hj h12 h23 h34 k1 k4 p0 pa => by
    by_cases hm : j < m
    · exact swP_good hm k1
    · exact absurd (swP_z hs hsl hi hm hj) p0
  n1 := fun j t1 hj ⟨x, h1, h3, h4⟩ hk => by
    have : x ≠ j := fun e => hk (by rw [← e]; exact h3)
    exact ⟨by omega, x, h1, h3, by omega⟩
  n2 := fun j t1 t2 hj h12 ⟨x, h1, h3, h4⟩ hk hp => by
    have : x ≠ j := fun e => swP_nz (i := i) (t := t2) hs hp0 (by omega) (by rw [e]; exact hp)
    exact ⟨by omega, x, h1, h3, by omega⟩
  n3 := fun j t1 t2 t3 t4 hj h12 h23 h34 ⟨x, h1, h3, h4⟩ hk hn => by
    by_cases hjm : j < m
    · exact absurd ⟨hk, swP_ah (x := 0) hs hpl hd hi hjm⟩ hn
    · exact ⟨by omega, x, h1, h3, by omega⟩
end
end Go.Proofs.Ytloflmkolnediaa

/- scan: the words behind so many stores of Take, Put, Swap. -/
namespace Go.Proofs.Ytloflmkolnediaa
set_option linter.unusedVariables false
set_option linter.unusedSimpArgs false
open Go.RowKit Go.Shelf
set_option maxRecDepth 100000
set_option maxHeartbeats 4000000
def wN (s : List Nat) (w : Nat) : Nat := (s[w]?).getD 0
theorem keyN_w (s : List Nat) (j : Nat) : keyN s j = wN s (2 * j) := rfl
theorem ptrN_w (s : List Nat) (j : Nat) : ptrN s j = wN s (2 * j + 1) := rfl
theorem take_word {s : List Nat} {f : Nat → Nat × Nat} {T c w : Nat} (hc : c < T) (hw : w < s.length) :
    wN (applyS s (((List.range T).map fun t => (((f t).1 : Int), (f t).2)).take (c + 1))) w = if (f c).1 = w then (f c).2 else wN (applyS s (((List.range T).map fun t => (((f t).1 : Int), (f t).2)).take c)) w := by
  have e : ((List.range T).map fun t => (((f t).1 : Int), (f t).2))[c]? = some (((f c).1 : Int), (f c).2) := by
    rw [List.getElem?_map, List.getElem?_range hc]; rfl
  rw [List.take_add_one, e, applyS_app]
  show wN (applyS _ [_]) w = _
  rw [applyS_one]
  unfold wN
  rw [List.getElem?_set]
  by_cases h : (f c).1 = w
  · rw [if_pos h, if_pos h, if_pos (by rw [applyS_len, h]; exact hw)]
    rfl
  · rw [if_neg h, if_neg h]
theorem shK_map (s : List Nat) (d : Nat) : ∀ k, shK s d k = (List.range (2 * k)).map fun u => (((2 * d + u : Nat) : Int), wN s (2 * d + u + 2))
  | 0 => rfl
  | k + 1 => by
    unfold shK
    rw [shK_map s d k, show 2 * (k + 1) = 2 * k + 1 + 1 by omega, List.range_succ, List.range_succ, List.map_append, List.map_append, List.append_assoc]
    congr 1
    simp only [List.map_cons, List.map_nil, List.cons_append, List.nil_append, keyN_w, ptrN_w]
    rw [show 2 * (d + k + 1) = 2 * d + 2 * k + 2 by omega, show 2 * (d + k) = 2 * d + 2 * k by omega, show 2 * d + (2 * k + 1) + 2 = 2 * d + 2 * k + 2 + 1 by omega, show 2 * d + (2 * k + 1) = 2 * d + 2 * k + 1 by omega]
theorem upK_map (s : List Nat) (n : Nat) : ∀ t, t ≤ n → upK s n t = (List.range (2 * t)).map fun u => (((2 * n + 1 - u : Nat) : Int), wN s (2 * n - 1 - u))
  | 0, _ => rfl
  | t + 1, ht => by
    unfold upK
    rw [upK_map s n t (by omega), show 2 * (t + 1) = 2 * t + 1 + 1 by omega, List.range_succ, List.range_succ, List.map_append, List.map_append, List.append_assoc]
    congr 1
    simp only [List.map_cons, List.map_nil, List.cons_append, List.nil_append, keyN_w, ptrN_w]
    rw [show 2 * (n - 1 - t + 1) + 1 = 2 * n + 1 - 2 * t by omega, show 2 * (n - 1 - t) + 1 = 2 * n - 1 - 2 * t by omega, show 2 * (n - 1 - t + 1) = 2 * n + 1 - (2 * t + 1) by omega, show 2 * (n - 1 - t) = 2 * n - 1 - (2 * t + 1) by omega]
section
variable {left : Nat} {s : List Nat} {m i k p : Nat}
def tkF (left : Nat) (s : List Nat) (i m t : Nat) : Nat × Nat := if t = 0 then (2 * i + 1, aheadN left s i) else if t = 2 * (m - i) - 1 then (2 * m - 1, 0) else (2 * i + t - 1, wN s (2 * i + t + 1))
theorem takeL_map (hi : i < m) : takeL left s i m = (List.range (2 * (m - i))).map fun t => (((tkF left s i m t).1 : Int), (tkF left s i m t).2) := by
  obtain ⟨N, hN⟩ : ∃ N, m - 1 - i = N := ⟨_, rfl⟩
  unfold takeL shL
  rw [hN, shK_map, show 2 * (m - i) = 2 * N + 1 + 1 by omega, List.range_succ_eq_map, List.map_cons, List.map_map, List.range_succ, List.map_append]
  show _ :: _ = _ :: _
  congr 1
  show _ ++ _ = _ ++ _
  congr 1
  · refine List.map_congr_left fun u hu => ?_
    have := List.mem_range.1 hu
    show _ = (((tkF left s i m (u + 1)).1 : Int), (tkF left s i m (u + 1)).2)
    unfold tkF
    rw [if_neg (by omega), if_neg (by omega)]
    simp only
    rw [show 2 * i + (u + 1) - 1 = 2 * i + u by omega, show 2 * i + (u + 1) + 1 = 2 * i + u + 2 by omega]
  · show _ = [(((tkF left s i m (2 * N + 1)).1 : Int), (tkF left s i m (2 * N + 1)).2)]
    unfold tkF
    rw [if_neg (by omega), if_pos (by omega), show 2 * (m - 1) + 1 = 2 * m - 1 by omega]
theorem tk_time (hi : i < m) (hm : m ≤ s.length / 2) (h2 : s.length % 2 = 0) : ∀ c, c ≤ 2 * (m - i) → ∀ j, j < s.length / 2 → keyN (applyS s ((takeL left s i m).take c)) j = tkK s i m j c ∧ ptrN (applyS s ((takeL left s i m).take c)) j = tkP left s i m j c := by
  rw [takeL_map hi]
  intro c
  induction c with
  | zero =>
    intro _ j hj
    rw [List.take_zero, applyS_nil]
    unfold tkK tkP
    rw [if_neg (by omega), if_neg (by omega), if_neg (by omega), if_neg (by omega)]
    exact ⟨rfl, rfl⟩
  | succ c ih =>
    intro hc j hj
    obtain ⟨hk, hp⟩ := ih (by omega) j hj
    rw [keyN_w] at hk
    rw [ptrN_w] at hp
    rw [keyN_w, ptrN_w, take_word (by omega) (by omega), take_word (by omega) (by omega), hk, hp]
    unfold tkF
    by_cases c0 : c = 0
    · subst c0
      simp only [if_pos]
      rw [if_neg (by omega)]
      refine ⟨by unfold tkK; (repeat' split) <;> first | rfl | omega | (exfalso; omega), ?_⟩
      by_cases e : 2 * i + 1 = 2 * j + 1
      · obtain rfl : i = j := by omega
        rw [if_pos rfl]
        unfold tkP
        rw [if_neg (by omega), if_neg (by omega), if_pos (by omega)]
      · rw [if_neg e]
        unfold tkP
        (repeat' split) <;> first | rfl | omega | (exfalso; omega)
    by_cases c1 : c = 2 * (m - i) - 1
    · rw [if_neg c0, if_pos c1]
      simp only
      rw [if_neg (by omega)]
      refine ⟨by unfold tkK; (repeat' split) <;> first | rfl | omega | (exfalso; omega), ?_⟩
      by_cases e : 2 * m - 1 = 2 * j + 1
      · rw [if_pos e]
        unfold tkP
        rw [if_pos (by omega)]
      · rw [if_neg e]
        unfold tkP
        (repeat' split) <;> first | rfl | omega | (exfalso; omega)
    · rw [if_neg c0, if_neg c1]
      simp only
      constructor
      · by_cases e : 2 * i + c - 1 = 2 * j
        · rw [if_pos e]
          unfold tkK
          rw [if_pos (by omega), keyN_w, show 2 * (j + 1) = 2 * i + c + 1 by omega]
        · rw [if_neg e]
          unfold tkK
          (repeat' split) <;> first | rfl | omega | (exfalso; omega)
      · by_cases e : 2 * i + c - 1 = 2 * j + 1
        · rw [if_pos e]
          unfold tkP
          rw [if_neg (by omega), if_pos (by omega), ptrN_w, show 2 * (j + 1) + 1 = 2 * i + c + 1 by omega]
        · rw [if_neg e]
          unfold tkP
          (repeat' split) <;> first | rfl | omega | (exfalso; omega)
def puF (left : Nat) (s : List Nat) (i m k p t : Nat) : Nat × Nat := if t = 0 then (2 * m + 3, 0) else if t = 2 * (m - i) + 3 then (2 * i + 1, p) else if t = 2 * (m - i) + 2 then (2 * i, k) else if t = 2 * (m - i) + 1 then (2 * i + 1, aheadN left s i) else (2 * m + 2 - t, wN s (2 * m - t))
theorem putL_map (hi : i ≤ m) : putL left s m i k p = (List.range (2 * (m - i) + 4)).map fun t => (((puF left s i m k p t).1 : Int), (puF left s i m k p t).2) := by
  obtain ⟨N, hN⟩ : ∃ N, m - i = N := ⟨_, rfl⟩
  unfold putL putA
  rw [hN, upK_map s m N (by omega), show 2 * N + 4 = 2 * N + 1 + 1 + 1 + 1 by omega, List.range_succ, List.range_succ, List.range_succ, List.range_succ_eq_map, List.map_append, List.map_append, List.map_append, List.map_cons, List.map_map]
  congr 1
  · congr 1
    · congr 1
      · show _ :: _ = _ :: _
        congr 1
        refine List.map_congr_left fun u hu => ?_
        have := List.mem_range.1 hu
        show _ = (((puF left s i m k p (u + 1)).1 : Int), (puF left s i m k p (u + 1)).2)
        unfold puF
        rw [if_neg (by omega), if_neg (by omega), if_neg (by omega), if_neg (by omega)]
        simp only
        rw [show 2 * m + 2 - (u + 1) = 2 * m + 1 - u by omega, show 2 * m - (u + 1) = 2 * m - 1 - u by omega]
      · show _ = [(((puF left s i m k p (2 * N + 1)).1 : Int), (puF left s i m k p (2 * N + 1)).2)]
        unfold puF
        rw [if_neg (by omega), if_neg (by omega), if_neg (by omega), if_pos (by omega)]
    · show _ = [(((puF left s i m k p (2 * N + 1 + 1)).1 : Int), (puF left s i m k p (2 * N + 1 + 1)).2)]
      unfold puF
      rw [if_neg (by omega), if_neg (by omega), if_pos (by omega)]
  · show _ = [(((puF left s i m k p (2 * N + 1 + 1 + 1)).1 : Int), (puF left s i m k p (2 * N + 1 + 1 + 1)).2)]
    unfold puF
    rw [if_neg (by omega), if_pos (by omega)]
theorem pu_time (hi : i ≤ m) (hm : m + 1 < s.length / 2) (hz : ptrN s (m + 1) = 0) (h2 : s.length % 2 = 0) : ∀ c, c ≤ 2 * (m - i) + 4 → ∀ j, j < s.length / 2 → keyN (applyS s ((putL left s m i k p).take c)) j = puK s i m k j c ∧ ptrN (applyS s ((putL left s m i k p).take c)) j = puP left s i m p j c := by
  rw [putL_map hi]
  intro c
  induction c with
  | zero =>
    intro _ j hj
    rw [List.take_zero, applyS_nil]
    unfold puK puP
    rw [if_neg (by omega), if_neg (by omega), if_neg (by omega), if_neg (by omega), if_neg (by omega)]
    exact ⟨rfl, rfl⟩
  | succ c ih =>
    intro hc j hj
    obtain ⟨hk, hp⟩ := ih (by omega) j hj
    rw [keyN_w] at hk
    rw [ptrN_w] at hp
    rw [keyN_w, ptrN_w, take_word (by omega) (by omega), take_word (by omega) (by omega), hk, hp]
    unfold puF
    by_cases c0 : c = 0
    · subst c0
      simp only [if_pos]
      rw [if_neg (by omega)]
      refine ⟨by unfold puK; (repeat' split) <;> first | rfl | omega | (exfalso; omega), ?_⟩
      by_cases e : 2 * m + 3 = 2 * j + 1
      · rw [if_pos e]
        unfold puP
        rw [if_neg (by omega), if_neg (by omega), if_neg (by omega), show j = m + 1 by omega, hz]
      · rw [if_neg e]
        unfold puP
        (repeat' split) <;> first | rfl | omega | (exfalso; omega)
    by_cases c1 : c = 2 * (m - i) + 3
    · rw [if_neg c0, if_pos c1]
      simp only
      rw [if_neg (by omega)]
      refine ⟨by unfold puK; (repeat' split) <;> first | rfl | omega | (exfalso; omega), ?_⟩
      by_cases e : 2 * i + 1 = 2 * j + 1
      · rw [if_pos e]
        unfold puP
        rw [if_pos (by omega)]
      · rw [if_neg e]
        unfold puP
        (repeat' split) <;> first | rfl | omega | (exfalso; omega)
    by_cases c2 : c = 2 * (m - i) + 2
    · rw [if_neg c0, if_neg c1, if_pos c2]
      simp only
      rw [if_neg (show ¬ 2 * i = 2 * j + 1 by omega)]
      refine ⟨?_, by unfold puP; (repeat' split) <;> first | rfl | omega | (exfalso; omega)⟩
      by_cases e : 2 * i = 2 * j
      · rw [if_pos e]
        unfold puK
        rw [if_pos (by omega)]
      · rw [if_neg e]
        unfold puK
        (repeat' split) <;> first | rfl | omega | (exfalso; omega)
    by_cases c3 : c = 2 * (m - i) + 1
    · rw [if_neg c0, if_neg c1, if_neg c2, if_pos c3]
      simp only
      rw [if_neg (show ¬ 2 * i + 1 = 2 * j by omega)]
      refine ⟨by unfold puK; (repeat' split) <;> first | rfl | omega | (exfalso; omega), ?_⟩
      by_cases e : 2 * i + 1 = 2 * j + 1
      · rw [if_pos e]
        unfold puP
        rw [if_neg (by omega), if_pos (by omega)]
      · rw [if_neg e]
        unfold puP
        (repeat' split) <;> first | rfl | omega | (exfalso; omega)
    · rw [if_neg c0, if_neg c1, if_neg c2, if_neg c3]
      simp only
      constructor
      · by_cases e : 2 * m + 2 - c = 2 * j
        · rw [if_pos e]
          unfold puK
          rw [if_neg (by omega), if_pos (by omega), keyN_w, show 2 * (j - 1) = 2 * m - c by omega]
        · rw [if_neg e]
          unfold puK
          (repeat' split) <;> first | rfl | omega | (exfalso; omega)
      · by_cases e : 2 * m + 2 - c = 2 * j + 1
        · rw [if_pos e]
          unfold puP
          rw [if_neg (by omega), if_neg (by omega), if_pos (by omega), ptrN_w, show 2 * (j - 1) + 1 = 2 * m - c by omega]
        · rw [if_neg e]
          unfold puP
          (repeat' split) <;> first | rfl | omega | (exfalso; omega)
theorem sw_time (hi : i < s.length / 2) : ∀ c, c ≤ 1 → ∀ j, j < s.length / 2 → keyN (applyS s ((swapL i p).take c)) j = keyN s j ∧ ptrN (applyS s ((swapL i p).take c)) j = swP s i p j c := by
  intro c hc j hj
  obtain rfl | rfl : c = 0 ∨ c = 1 := by omega
  · rw [List.take_zero, applyS_nil]
    unfold swP
    rw [if_neg (by omega)]
    exact ⟨rfl, rfl⟩
  · show keyN (applyS s [_]) j = _ ∧ ptrN (applyS s [_]) j = _
    rw [applyS_one, keyN_w, ptrN_w]
    unfold wN swP
    rw [List.getElem?_set_ne (by omega), List.getElem?_set]
    refine ⟨rfl, ?_⟩
    by_cases e : j = i
    · rw [if_pos (by omega), if_pos (by omega), if_pos (by omega)]
      rfl
    · rw [if_neg (by omega), if_neg (by omega)]
      rfl
end
end Go.Proofs.Ytloflmkolnediaa

/- slots: the document's find, pointer, shift. -/
namespace Go.Proofs.Ytloflmkolnediaa
set_option linter.unusedVariables false
set_option linter.unusedSimpArgs false
open Go.RowKit Go.Shelf
/-- What find finds. -/
def fndP (l : List Pr) (k i : Nat) (b : Bool) : Prop := i ≤ l.length ∧ (∀ j x, j < i → l[j]? = some x → x.1 < k) ∧ (∀ x, l[i]? = some x → k ≤ x.1) ∧ (b = true ↔ ∃ p, l[i]? = some (k, p))
set_option maxRecDepth 100000
set_option maxHeartbeats 4000000
theorem dfind_any (v : Value) (l : List Pr) (k : Nat) (w : World) (hv : ReadsT prE 2 w v l) (hl : l.length ≤ 1048576) : Calls Try.prog 52 #[v, .int .u64 (k : Int)] w fun e w' => ∃ i b, e = .returned (.tuple #[.int .i64 ((i : Nat) : Int), .bool b]) ∧ fndP l k i b ∧ Below w.heap.size w w' := by
  have q := Below.refl w.heap.size w
  obtain ⟨N, hN⟩ : ∃ N, l.length = N := ⟨_, rfl⟩
  obtain ⟨a, cap, rfl, hc⟩ := hv.form hN
  rw [hN] at hl
  have hF : ∀ W, Below w.heap.size w W → ReadsT prE 2 W (.slice a N cap) l := fun W b => hv.up b
  clear hv
  refine X.fn Try.func52 rfl (n := 36) rfl rfl ?_
  refine CC.seq ?_
  refine CC.region ?_
  refine LL.val (R.assign rfl rfl) rfl rfl rfl ?_
  refine LL.val (R.assign rfl rfl) rfl rfl rfl ?_
  refine LL.nilS ?_
  refine CC.seq ?_
  refine CC.region ?_
  refine LL.val (R.assign rfl rfl) rfl rfl rfl ?_
  refine LL.nilS ?_
  refine CC.seq ?_
  refine CC.block ?_
  refine CC.loop (α := Nat) (fun i => [(0, .slice a N cap), (1, .int .u64 (k : Int)), (6, .int .i64 (i : Int))]) (fun i W => i ≤ N ∧ Below w.heap.size w W ∧ ∀ j x, j < i → l[j]? = some x → x.1 < k) (fun i => N - i) 0 ⟨rfl, rfl, rfl, trivial⟩ ⟨Nat.zero_le _, q, fun j x h => by omega⟩ ?_
  clear q
  rintro i W ⟨hi, q, ht⟩
  show CC none Try.prog _ 36 [] (sl [(0, .slice a N cap), (1, .int .u64 (k : Int)), (6, .int .i64 (i : Int))]) _ W
  by_cases hlt : i < N
  case neg =>
    obtain rfl : i = N := by omega
    have hno : l[i]? = none := List.getElem?_eq_none (by omega)
    have hR : fndP l k i false := ⟨by omega, ht, fun x hx => (by rw [hno] at hx; cases hx), by simp [hno]⟩
    clear ht
    refine CC.seq ?_
    refine CC.seq ?_
    refine CC.region ?_
    refine LL.val (R.move rfl rfl) rfl rfl rfl ?_
    refine LL.val (R.move rfl rfl) rfl rfl rfl ?_
    refine LL.val (R.len rfl rfl rfl rfl) rfl rfl rfl ?_
    refine LL.val (R.ltF rfl rfl rfl (by omega)) rfl rfl rfl ?_
    refine LL.val (R.move rfl rfl) rfl rfl rfl ?_
    refine LL.skip rfl rfl ?_
    refine LL.skip rfl rfl ?_
    refine LL.skip rfl rfl ?_
    refine LL.skip rfl rfl ?_
    refine LL.skip rfl rfl ?_
    refine LL.skip rfl rfl ?_
    refine LL.skip rfl rfl ?_
    refine LL.val (R.pick rfl rfl rfl) rfl rfl rfl ?_
    refine LL.nilS ?_
    refine CC.no rfl ?_
    refine CC.exit ?_
    refine EE.thenX ?_
    refine EE.thenX ?_
    refine EE.inX ?_
    refine EE.thenN ?_
    refine CC.seq ?_
    refine CC.quietB (by kernel_rfl) (by kernel_rfl) (fun Wa2 ba1 za3 => ?_)
    replace q := q.trans (ba1.mono q.size)
    refine SS.val (R.move rfl rfl) rfl rfl ?_
    refine SS.val (R.move rfl rfl) rfl rfl ?_
    refine SS.val (R.move rfl rfl) rfl rfl ?_
    refine SS.val (R.len rfl rfl rfl rfl) rfl rfl ?_
    refine SS.val (R.ltF rfl rfl rfl (by omega)) rfl rfl ?_
    refine SS.val (R.move rfl rfl) rfl rfl ?_
    refine SS.skip rfl rfl ?_
    refine SS.skip rfl rfl ?_
    refine SS.skip rfl rfl ?_
    refine SS.skip rfl rfl ?_
    refine SS.skip rfl rfl ?_
    refine SS.skip rfl rfl ?_
    refine SS.skip rfl rfl ?_
    refine SS.val (R.pick rfl rfl rfl) rfl rfl ?_
    refine SS.val (R.assign rfl rfl) rfl rfl ?_
    refine SS.val (R.assign rfl rfl) rfl rfl ?_
    refine SS.nilQ ?_
    refine EE.thenN ?_
    refine CC.ret ?_
    refine EE.ret _ rfl rfl ?_
    exact ⟨_, _, rfl, hR, q⟩
  obtain ⟨⟨k1, p1⟩, hx⟩ : ∃ x, l[i]? = some x := ⟨_, List.getElem?_eq_getElem (by omega)⟩
  obtain ⟨b1, o1, rfl, _, _⟩ := (hF _ q).get prEnc hx
  have c1 : W.cell? ⟨b1, o1 + i * 2, none⟩ = some (.int .u64 (k1 : Int)) := ((hF W q).elemN prEnc hx).cell (j := 0) rfl
  by_cases h1 : k1 < k
  · have ht' : ∀ j x, j < i + 1 → l[j]? = some x → x.1 < k := fun j x hj hjx => by
      by_cases e : j = i
      · subst e; rw [hx] at hjx; cases hjx; exact h1
      · exact ht j x (by omega) hjx
    clear ht
    refine CC.seq ?_
    refine CC.seq ?_
    refine CC.region ?_
    refine LL.val (R.move rfl rfl) rfl rfl rfl ?_
    refine LL.val (R.move rfl rfl) rfl rfl rfl ?_
    refine LL.val (R.len rfl rfl rfl rfl) rfl rfl rfl ?_
    refine LL.val (R.ltT rfl rfl rfl (by omega)) rfl rfl rfl ?_
    refine LL.val (R.move rfl rfl) rfl rfl rfl ?_
    refine LL.val (R.move rfl rfl) rfl rfl rfl ?_
    refine LL.val (R.move rfl rfl) rfl rfl rfl ?_
    refine LL.val (R.index rfl rfl rfl (I.ixS rfl (by omega))) rfl rfl rfl ?_
    refine LL.val (R.field rfl rfl (I.fld rfl)) rfl rfl rfl ?_
    refine LL.val (R.load rfl rfl (I.ld1 rfl (by assumption))) rfl rfl rfl ?_
    refine LL.val (R.move rfl rfl) rfl rfl rfl ?_
    refine LL.val (R.ltT rfl rfl rfl (by omega)) rfl rfl rfl ?_
    refine LL.val (R.pick rfl rfl rfl) rfl rfl rfl ?_
    refine LL.nilS ?_
    refine CC.yes rfl ?_
    refine CC.skip ?_
    refine EE.thenN ?_
    refine CC.block ?_
    refine CC.region ?_
    refine LL.val (R.move rfl rfl) rfl rfl rfl ?_
    refine LL.val (R.addNc rfl rfl rfl rfl (by omega)) rfl rfl rfl ?_
    refine LL.val (R.assign rfl rfl) rfl rfl rfl ?_
    refine LL.nil ?_
    refine EE.inN ?_
    exact EE.round (i + 1) ⟨rfl, rfl, rfl, trivial⟩ ⟨by show i + 1 ≤ N; omega, q, ht'⟩ (by show N - (i + 1) < N - i; omega)
  by_cases h2 : k1 = k
  · subst h2
    have hR : fndP l k1 i true := ⟨by omega, ht, fun x hx' => (by rw [hx] at hx'; cases hx'; exact Nat.le_refl _), ⟨fun _ => ⟨_, hx⟩, fun _ => rfl⟩⟩
    clear ht
    refine CC.seq ?_
    refine CC.seq ?_
    refine CC.region ?_
    refine LL.val (R.move rfl rfl) rfl rfl rfl ?_
    refine LL.val (R.move rfl rfl) rfl rfl rfl ?_
    refine LL.val (R.len rfl rfl rfl rfl) rfl rfl rfl ?_
    refine LL.val (R.ltT rfl rfl rfl (by omega)) rfl rfl rfl ?_
    refine LL.val (R.move rfl rfl) rfl rfl rfl ?_
    refine LL.val (R.move rfl rfl) rfl rfl rfl ?_
    refine LL.val (R.move rfl rfl) rfl rfl rfl ?_
    refine LL.val (R.index rfl rfl rfl (I.ixS rfl (by omega))) rfl rfl rfl ?_
    refine LL.val (R.field rfl rfl (I.fld rfl)) rfl rfl rfl ?_
    refine LL.val (R.load rfl rfl (I.ld1 rfl (by assumption))) rfl rfl rfl ?_
    refine LL.val (R.move rfl rfl) rfl rfl rfl ?_
    refine LL.val (R.ltF rfl rfl rfl (by omega)) rfl rfl rfl ?_
    refine LL.val (R.pick rfl rfl rfl) rfl rfl rfl ?_
    refine LL.nilS ?_
    refine CC.no rfl ?_
    refine CC.exit ?_
    refine EE.thenX ?_
    refine EE.thenX ?_
    refine EE.inX ?_
    refine EE.thenN ?_
    refine CC.seq ?_
    refine CC.quietB (by kernel_rfl) (by kernel_rfl) (fun Wc2 bc1 zc3 => ?_)
    replace q := q.trans (bc1.mono q.size)
    replace c1 := cell_up c1 bc1
    refine SS.val (R.move rfl rfl) rfl rfl ?_
    refine SS.val (R.move rfl rfl) rfl rfl ?_
    refine SS.val (R.move rfl rfl) rfl rfl ?_
    refine SS.val (R.len rfl rfl rfl rfl) rfl rfl ?_
    refine SS.val (R.ltT rfl rfl rfl (by omega)) rfl rfl ?_
    refine SS.val (R.move rfl rfl) rfl rfl ?_
    refine SS.val (R.move rfl rfl) rfl rfl ?_
    refine SS.val (R.move rfl rfl) rfl rfl ?_
    refine SS.val (R.index rfl rfl rfl (I.ixS rfl (by omega))) rfl rfl ?_
    refine SS.val (R.field rfl rfl (I.fld rfl)) rfl rfl ?_
    refine SS.val (R.load rfl rfl (I.ld1 rfl (by assumption))) rfl rfl ?_
    refine SS.val (R.move rfl rfl) rfl rfl ?_
    refine SS.val (R.eqT rfl rfl rfl (by omega)) rfl rfl ?_
    refine SS.val (R.pick rfl rfl rfl) rfl rfl ?_
    refine SS.val (R.assign rfl rfl) rfl rfl ?_
    refine SS.val (R.assign rfl rfl) rfl rfl ?_
    refine SS.nilQ ?_
    refine EE.thenN ?_
    refine CC.ret ?_
    refine EE.ret _ rfl rfl ?_
    exact ⟨_, _, rfl, hR, q⟩
  · have hR : fndP l k i false := ⟨by omega, ht, fun x hx' => (by rw [hx] at hx'; cases hx'; show k ≤ k1; omega), ⟨fun h => (by cases h), fun ⟨p, hp⟩ => (by rw [hx] at hp; cases hp; exact absurd rfl h2)⟩⟩
    clear ht
    refine CC.seq ?_
    refine CC.seq ?_
    refine CC.region ?_
    refine LL.val (R.move rfl rfl) rfl rfl rfl ?_
    refine LL.val (R.move rfl rfl) rfl rfl rfl ?_
    refine LL.val (R.len rfl rfl rfl rfl) rfl rfl rfl ?_
    refine LL.val (R.ltT rfl rfl rfl (by omega)) rfl rfl rfl ?_
    refine LL.val (R.move rfl rfl) rfl rfl rfl ?_
    refine LL.val (R.move rfl rfl) rfl rfl rfl ?_
    refine LL.val (R.move rfl rfl) rfl rfl rfl ?_
    refine LL.val (R.index rfl rfl rfl (I.ixS rfl (by omega))) rfl rfl rfl ?_
    refine LL.val (R.field rfl rfl (I.fld rfl)) rfl rfl rfl ?_
    refine LL.val (R.load rfl rfl (I.ld1 rfl (by assumption))) rfl rfl rfl ?_
    refine LL.val (R.move rfl rfl) rfl rfl rfl ?_
    refine LL.val (R.ltF rfl rfl rfl (by omega)) rfl rfl rfl ?_
    refine LL.val (R.pick rfl rfl rfl) rfl rfl rfl ?_
    refine LL.nilS ?_
    refine CC.no rfl ?_
    refine CC.exit ?_
    refine EE.thenX ?_
    refine EE.thenX ?_
    refine EE.inX ?_
    refine EE.thenN ?_
    refine CC.seq ?_
    refine CC.quietB (by kernel_rfl) (by kernel_rfl) (fun Wd2 bd1 zd3 => ?_)
    replace q := q.trans (bd1.mono q.size)
    replace c1 := cell_up c1 bd1
    refine SS.val (R.move rfl rfl) rfl rfl ?_
    refine SS.val (R.move rfl rfl) rfl rfl ?_
    refine SS.val (R.move rfl rfl) rfl rfl ?_
    refine SS.val (R.len rfl rfl rfl rfl) rfl rfl ?_
    refine SS.val (R.ltT rfl rfl rfl (by omega)) rfl rfl ?_
    refine SS.val (R.move rfl rfl) rfl rfl ?_
    refine SS.val (R.move rfl rfl) rfl rfl ?_
    refine SS.val (R.move rfl rfl) rfl rfl ?_
    refine SS.val (R.index rfl rfl rfl (I.ixS rfl (by omega))) rfl rfl ?_
    refine SS.val (R.field rfl rfl (I.fld rfl)) rfl rfl ?_
    refine SS.val (R.load rfl rfl (I.ld1 rfl (by assumption))) rfl rfl ?_
    refine SS.val (R.move rfl rfl) rfl rfl ?_
    refine SS.val (R.eqF rfl rfl rfl (by omega)) rfl rfl ?_
    refine SS.val (R.pick rfl rfl rfl) rfl rfl ?_
    refine SS.val (R.assign rfl rfl) rfl rfl ?_
    refine SS.val (R.assign rfl rfl) rfl rfl ?_
    refine SS.nilQ ?_
    refine EE.thenN ?_
    refine CC.ret ?_
    refine EE.ret _ rfl rfl ?_
    exact ⟨_, _, rfl, hR, q⟩
theorem fnd_set {left m k i : Nat} {s : List Nat} {b : Bool} (hs : Stl left s m) (h : fndP (pairP left s) k i b) : i = posN s k ∧ (b = true ↔ ∃ j, j < m ∧ keyN s j = k) := by
  rw [hs.pairP] at h
  obtain ⟨h1, h2, h3, h4⟩ := h
  rw [List.length_map, List.length_range] at h1
  obtain ⟨q1, q2, q3⟩ := posN_spec s k
  rw [hs.over] at q1 q3
  have g := fun j (hj : j < m) => range_map_get (f := prA s) hj
  have e : i = posN s k := by
    rcases Nat.lt_trichotomy i (posN s k) with e | e | e
    · have a := h3 _ (g i (by omega))
      have b : keyN s i < k := q2 i e
      have a : k ≤ keyN s i := a
      omega
    · exact e
    · have a := h2 _ _ e (g (posN s k) (by omega))
      have a : keyN s (posN s k) < k := a
      omega
  refine ⟨e, h4.trans ⟨fun ⟨p, hp⟩ => ?_, fun ⟨j, hj, hk⟩ => ?_⟩⟩
  · have hi : i < m := by have := (List.getElem?_eq_some_iff.1 hp).1; simpa using this
    rw [g i hi] at hp
    have e1 : prA s i = (k, p) := Option.some.inj hp
    exact ⟨i, hi, congrArg Prod.fst e1⟩
  · have e2 : i = j := by rw [e]; exact posN_key hs hj hk
    subst e2
    exact ⟨ptrN s i, by rw [g i hj, ← hk]; rfl⟩
open Classical in
noncomputable def ptrF (left : Nat) (s : List Nat) (p : Nat) : Nat :=
  if noRow left s.length then 2 else if p = 0 ∨ p = left then 2 else if ¬ setP left s then 190 else if ∃ j, j < overN s ∧ ptrN s j = p then 2 else 0
theorem mem_ptr {left m p : Nat} {s : List Nat} (hs : Stl left s m) : p ∈ (pairP left s).map (·.2) ↔ ∃ j, j < overN s ∧ ptrN s j = p := by
  rw [hs.pairP, hs.over, List.map_map]
  constructor
  · intro h
    obtain ⟨j, hj, e⟩ := List.mem_map.1 h
    exact ⟨j, List.mem_range.1 hj, e⟩
  · rintro ⟨j, hj, e⟩
    exact List.mem_map.2 ⟨j, List.mem_range.2 hj, e⟩
theorem dpointer_any (left n k p : Nat) (v : Value) (s : List Nat) (w : World) (hv : ReadsT uE 1 w v s) (hn : s.length = n) (h : n ≤ 1048576) : Calls Try.prog 51 #[.int .u64 (left : Int), v, .agg #[.int .u64 (k : Int), .int .u64 (p : Int)]] w fun e w' => e = .returned (.int .i64 (ptrF left s p : Int)) ∧ Below w.heap.size w w' := by
  have q := Below.refl w.heap.size w
  obtain ⟨a, c, rfl, hc⟩ := hv.form hn
  have hvF : ∀ X, Below w.heap.size w X → ReadsT uE 1 X (.slice a n c) s := fun X b => hv.up b
  clear hv
  unfold ptrF
  rw [hn]
  by_cases h1 : noRow left n
  · rw [if_pos h1]
    refine X.fn Try.func51 rfl (n := 43) rfl rfl ?_
    refine CC.seq ?_
    refine CC.region ?_
    refine LL.box [Value.int IntKind.u64 ↑k, Value.int IntKind.u64 ↑p] rfl rfl rfl rfl rfl ?_
    intro W2 g3 eg3 r4 z5 b1
    replace q := q.trans (b1.mono q.size)
    refine LL.val (R.assign rfl rfl) rfl rfl rfl ?_
    refine LL.nilS ?_
    refine CC.seq ?_
    refine CC.seq ?_
    refine CC.region ?_
    refine LL.val (R.move rfl rfl) rfl rfl rfl ?_
    refine LL.val (R.move rfl rfl) rfl rfl rfl ?_
    refine LL.call (R.call rfl rfl rfl) rfl rfl rfl (dright_F _ _ _ _ _ (by first | assumption | omega) (by first | assumption | omega)) ?_
    rintro e W' ⟨rfl, rfl⟩
    refine ⟨_, rfl, ?_⟩
    refine LL.val (R.not rfl rfl) rfl rfl rfl ?_
    refine LL.val (R.move rfl rfl) rfl rfl rfl ?_
    refine LL.skip rfl rfl ?_
    refine LL.skip rfl rfl ?_
    refine LL.skip rfl rfl ?_
    refine LL.val (R.pick rfl rfl rfl) rfl rfl rfl ?_
    refine LL.val (R.move rfl rfl) rfl rfl rfl ?_
    refine LL.skip rfl rfl ?_
    refine LL.skip rfl rfl ?_
    refine LL.skip rfl rfl ?_
    refine LL.skip rfl rfl ?_
    refine LL.val (R.pick rfl rfl rfl) rfl rfl rfl ?_
    refine LL.nilS ?_
    refine CC.yes rfl ?_
    refine CC.seq ?_
    refine CC.region ?_
    refine LL.val (R.assign rfl rfl) rfl rfl rfl ?_
    refine LL.nilS ?_
    refine CC.ret ?_
    refine EE.thenR ?_
    refine EE.ret _ rfl rfl ?_
    exact ⟨rfl, q⟩
  rw [if_neg h1]
  have hrow := noRow_not h1
  by_cases h2 : p = 0 ∨ p = left
  · rw [if_pos h2]
    rcases h2 with rfl | rfl
    · refine X.fn Try.func51 rfl (n := 43) rfl rfl ?_
      refine CC.seq ?_
      refine CC.region ?_
      refine LL.box [Value.int IntKind.u64 ↑k, Value.int IntKind.u64 ↑0] rfl rfl rfl rfl rfl ?_
      intro Wa2 ga3 ega3 ra4 za5 ba1
      replace q := q.trans (ba1.mono q.size)
      refine LL.val (R.assign rfl rfl) rfl rfl rfl ?_
      refine LL.nilS ?_
      refine CC.seq ?_
      refine CC.seq ?_
      refine CC.region ?_
      refine LL.val (R.move rfl rfl) rfl rfl rfl ?_
      refine LL.val (R.move rfl rfl) rfl rfl rfl ?_
      refine LL.call (R.call rfl rfl rfl) rfl rfl rfl (dright_T _ _ _ _ _ (by first | assumption | omega)) ?_
      rintro e W' ⟨rfl, rfl⟩
      refine ⟨_, rfl, ?_⟩
      refine LL.val (R.not rfl rfl) rfl rfl rfl ?_
      refine LL.val (R.move rfl rfl) rfl rfl rfl ?_
      refine LL.val (R.field rfl rfl (I.fld rfl)) rfl rfl rfl ?_
      refine LL.val (R.load rfl rfl (I.ld1 rfl (RowL.cell ra4 rfl))) rfl rfl rfl ?_
      refine LL.val (R.eqT rfl rfl rfl (by omega)) rfl rfl rfl ?_
      refine LL.val (R.pick rfl rfl rfl) rfl rfl rfl ?_
      refine LL.val (R.move rfl rfl) rfl rfl rfl ?_
      refine LL.skip rfl rfl ?_
      refine LL.skip rfl rfl ?_
      refine LL.skip rfl rfl ?_
      refine LL.skip rfl rfl ?_
      refine LL.val (R.pick rfl rfl rfl) rfl rfl rfl ?_
      refine LL.nilS ?_
      refine CC.yes rfl ?_
      refine CC.seq ?_
      refine CC.region ?_
      refine LL.val (R.assign rfl rfl) rfl rfl rfl ?_
      refine LL.nilS ?_
      refine CC.ret ?_
      refine EE.thenR ?_
      refine EE.ret _ rfl rfl ?_
      exact ⟨rfl, q⟩
    · refine X.fn Try.func51 rfl (n := 43) rfl rfl ?_
      refine CC.seq ?_
      refine CC.region ?_
      refine LL.box [Value.int IntKind.u64 ↑k, Value.int IntKind.u64 ↑p] rfl rfl rfl rfl rfl ?_
      intro Wb2 gb3 egb3 rb4 zb5 bb1
      replace q := q.trans (bb1.mono q.size)
      refine LL.val (R.assign rfl rfl) rfl rfl rfl ?_
      refine LL.nilS ?_
      refine CC.seq ?_
      refine CC.seq ?_
      refine CC.region ?_
      refine LL.val (R.move rfl rfl) rfl rfl rfl ?_
      refine LL.val (R.move rfl rfl) rfl rfl rfl ?_
      refine LL.call (R.call rfl rfl rfl) rfl rfl rfl (dright_T _ _ _ _ _ (by first | assumption | omega)) ?_
      rintro e W' ⟨rfl, rfl⟩
      refine ⟨_, rfl, ?_⟩
      refine LL.val (R.not rfl rfl) rfl rfl rfl ?_
      refine LL.val (R.move rfl rfl) rfl rfl rfl ?_
      refine LL.val (R.field rfl rfl (I.fld rfl)) rfl rfl rfl ?_
      refine LL.val (R.load rfl rfl (I.ld1 rfl (RowL.cell rb4 rfl))) rfl rfl rfl ?_
      refine LL.val (R.eqF rfl rfl rfl (by omega)) rfl rfl rfl ?_
      refine LL.val (R.pick rfl rfl rfl) rfl rfl rfl ?_
      refine LL.val (R.move rfl rfl) rfl rfl rfl ?_
      refine LL.val (R.field rfl rfl (I.fld rfl)) rfl rfl rfl ?_
      refine LL.val (R.load rfl rfl (I.ld1 rfl (RowL.cell rb4 rfl))) rfl rfl rfl ?_
      refine LL.val (R.move rfl rfl) rfl rfl rfl ?_
      refine LL.val (R.eqT rfl rfl rfl (by omega)) rfl rfl rfl ?_
      refine LL.val (R.pick rfl rfl rfl) rfl rfl rfl ?_
      refine LL.nilS ?_
      refine CC.yes rfl ?_
      refine CC.seq ?_
      refine CC.region ?_
      refine LL.val (R.assign rfl rfl) rfl rfl rfl ?_
      refine LL.nilS ?_
      refine CC.ret ?_
      refine EE.thenR ?_
      refine EE.ret _ rfl rfl ?_
      exact ⟨rfl, q⟩
  rw [if_neg h2]
  have hp : p ≠ 0 ∧ p ≠ left := ⟨fun e => h2 (.inl e), fun e => h2 (.inr e)⟩
  clear h2
  obtain ⟨ps, eps⟩ : ∃ ps, pairP left s = ps := ⟨_, rfl⟩
  have hpl : ps.length ≤ n / 2 := by rw [← eps, ← hn]; unfold pairP; rw [List.length_map]; exact pairS_len left s
  have hckT : setP left s → checkF left s = 0 := fun hs => by unfold checkF; rw [hn, if_neg h1, if_pos hs]
  have hckF : ¬ setP left s → checkF left s = 190 := fun hs => by unfold checkF; rw [hn, if_neg h1, if_neg hs]
  clear h1
  by_cases h3 : setP left s
  case neg =>
    have hck := hckF h3
    rw [if_pos h3]
    refine X.fn Try.func51 rfl (n := 43) rfl rfl ?_
    refine CC.seq ?_
    refine CC.region ?_
    refine LL.box [Value.int IntKind.u64 ↑k, Value.int IntKind.u64 ↑p] rfl rfl rfl rfl rfl ?_
    intro Wc16 gc17 egc17 rc18 zc19 bc15
    replace q := q.trans (bc15.mono q.size)
    refine LL.val (R.assign rfl rfl) rfl rfl rfl ?_
    refine LL.nilS ?_
    refine CC.seq ?_
    refine CC.seq ?_
    refine CC.region ?_
    refine LL.val (R.move rfl rfl) rfl rfl rfl ?_
    refine LL.val (R.move rfl rfl) rfl rfl rfl ?_
    refine LL.call (R.call rfl rfl rfl) rfl rfl rfl (dright_T _ _ _ _ _ (by first | assumption | omega)) ?_
    rintro e W' ⟨rfl, rfl⟩
    refine ⟨_, rfl, ?_⟩
    refine LL.val (R.not rfl rfl) rfl rfl rfl ?_
    refine LL.val (R.move rfl rfl) rfl rfl rfl ?_
    refine LL.val (R.field rfl rfl (I.fld rfl)) rfl rfl rfl ?_
    refine LL.val (R.load rfl rfl (I.ld1 rfl (RowL.cell rc18 rfl))) rfl rfl rfl ?_
    refine LL.val (R.eqF rfl rfl rfl (by omega)) rfl rfl rfl ?_
    refine LL.val (R.pick rfl rfl rfl) rfl rfl rfl ?_
    refine LL.val (R.move rfl rfl) rfl rfl rfl ?_
    refine LL.val (R.field rfl rfl (I.fld rfl)) rfl rfl rfl ?_
    refine LL.val (R.load rfl rfl (I.ld1 rfl (RowL.cell rc18 rfl))) rfl rfl rfl ?_
    refine LL.val (R.move rfl rfl) rfl rfl rfl ?_
    refine LL.val (R.eqF rfl rfl rfl (by omega)) rfl rfl rfl ?_
    refine LL.val (R.pick rfl rfl rfl) rfl rfl rfl ?_
    refine LL.nilS ?_
    refine CC.no rfl ?_
    refine CC.skip ?_
    refine EE.thenN ?_
    refine CC.seq ?_
    refine CC.region ?_
    refine LL.val (R.move rfl rfl) rfl rfl rfl ?_
    refine LL.val (R.move rfl rfl) rfl rfl rfl ?_
    have lc312 := rc18.lt
    (refine LL.call (R.call rfl rfl rfl) rfl rfl rfl (dcheck_any left n _ s _ (hvF _ q) hn h) ?_; rintro e Wc311 ⟨rfl, bc308⟩; refine ⟨_, rfl, ?_⟩; rw [hck])
    have zbc308 := bc308.size
    replace rc18 := rc18.up bc308
    replace bc15 := bc15.trans (bc308.mono bc15.size)
    replace q := q.trans (bc308.mono q.size)
    refine LL.val (R.assign rfl rfl) rfl rfl rfl ?_
    refine LL.nilS ?_
    refine CC.seq ?_
    refine CC.region ?_
    refine LL.val (R.move rfl rfl) rfl rfl rfl ?_
    refine LL.val (R.move rfl rfl) rfl rfl rfl ?_
    have lc376 := rc18.lt
    (refine LL.call (R.call rfl rfl rfl) rfl rfl rfl (dread_any left a n c s _ (hvF _ q) hn h) ?_; rintro e Wc375 ⟨v1, v2, rfl, o1, o2, hd, bc372⟩; refine ⟨_, rfl, ?_⟩; rw [eps] at o1; obtain ⟨aP, cP, rfl, hcP⟩ := (o1.reads prEnc).form rfl; have hpF : ∀ X, Below (Wc375).heap.size Wc375 X → ReadsT prE 2 X (.slice aP ps.length cP) ps := fun X b => (o1.reads prEnc).up b; have qP := Below.refl (Wc375).heap.size Wc375; clear o1 o2 hd)
    have zbc372 := bc372.size
    replace bc308 := bc308.trans (bc372.mono bc308.size)
    replace rc18 := rc18.up bc372
    replace bc15 := bc15.trans (bc372.mono bc15.size)
    replace q := q.trans (bc372.mono q.size)
    refine LL.val (R.move rfl rfl) rfl rfl rfl ?_
    refine LL.val (R.extract rfl rfl rfl) rfl rfl rfl ?_
    refine LL.val (R.extract rfl rfl rfl) rfl rfl rfl ?_
    refine LL.val (R.assign rfl rfl) rfl rfl rfl ?_
    refine LL.val (R.assign rfl rfl) rfl rfl rfl ?_
    refine LL.nilS ?_
    refine CC.seq ?_
    refine CC.seq ?_
    refine CC.region ?_
    refine LL.val (R.move rfl rfl) rfl rfl rfl ?_
    refine LL.val (R.eqF rfl rfl rfl (by omega)) rfl rfl rfl ?_
    refine LL.val (R.move rfl rfl) rfl rfl rfl ?_
    refine LL.skip rfl rfl ?_
    refine LL.skip rfl rfl ?_
    refine LL.skip rfl rfl ?_
    refine LL.skip rfl rfl ?_
    refine LL.val (R.pick rfl rfl rfl) rfl rfl rfl ?_
    refine LL.nilS ?_
    refine CC.no rfl ?_
    refine CC.skip ?_
    refine EE.thenN ?_
    refine CC.seq ?_
    refine CC.region ?_
    refine LL.val (R.move rfl rfl) rfl rfl rfl ?_
    refine LL.val (R.assign rfl rfl) rfl rfl rfl ?_
    refine LL.nilS ?_
    refine CC.ret ?_
    refine EE.ret _ rfl rfl ?_
    exact ⟨rfl, q⟩
  have hck := hckT h3
  rw [if_neg (fun h => h h3)]
  obtain ⟨m, hs⟩ := setP_iff.1 h3
  have hmp := mem_ptr (p := p) hs
  rw [eps] at hmp
  by_cases h4 : ∃ j, j < overN s ∧ ptrN s j = p
  · rw [if_pos h4]
    have hm := hmp.2 h4
    clear h4 hmp
    refine X.fn Try.func51 rfl (n := 43) rfl rfl ?_
    refine CC.seq ?_
    refine CC.region ?_
    refine LL.box [Value.int IntKind.u64 ↑k, Value.int IntKind.u64 ↑p] rfl rfl rfl rfl rfl ?_
    intro Wd16 gd17 egd17 rd18 zd19 bd15
    replace q := q.trans (bd15.mono q.size)
    refine LL.val (R.assign rfl rfl) rfl rfl rfl ?_
    refine LL.nilS ?_
    refine CC.seq ?_
    refine CC.seq ?_
    refine CC.region ?_
    refine LL.val (R.move rfl rfl) rfl rfl rfl ?_
    refine LL.val (R.move rfl rfl) rfl rfl rfl ?_
    refine LL.call (R.call rfl rfl rfl) rfl rfl rfl (dright_T _ _ _ _ _ (by first | assumption | omega)) ?_
    rintro e W' ⟨rfl, rfl⟩
    refine ⟨_, rfl, ?_⟩
    refine LL.val (R.not rfl rfl) rfl rfl rfl ?_
    refine LL.val (R.move rfl rfl) rfl rfl rfl ?_
    refine LL.val (R.field rfl rfl (I.fld rfl)) rfl rfl rfl ?_
    refine LL.val (R.load rfl rfl (I.ld1 rfl (RowL.cell rd18 rfl))) rfl rfl rfl ?_
    refine LL.val (R.eqF rfl rfl rfl (by omega)) rfl rfl rfl ?_
    refine LL.val (R.pick rfl rfl rfl) rfl rfl rfl ?_
    refine LL.val (R.move rfl rfl) rfl rfl rfl ?_
    refine LL.val (R.field rfl rfl (I.fld rfl)) rfl rfl rfl ?_
    refine LL.val (R.load rfl rfl (I.ld1 rfl (RowL.cell rd18 rfl))) rfl rfl rfl ?_
    refine LL.val (R.move rfl rfl) rfl rfl rfl ?_
    refine LL.val (R.eqF rfl rfl rfl (by omega)) rfl rfl rfl ?_
    refine LL.val (R.pick rfl rfl rfl) rfl rfl rfl ?_
    refine LL.nilS ?_
    refine CC.no rfl ?_
    refine CC.skip ?_
    refine EE.thenN ?_
    refine CC.seq ?_
    refine CC.region ?_
    refine LL.val (R.move rfl rfl) rfl rfl rfl ?_
    refine LL.val (R.move rfl rfl) rfl rfl rfl ?_
    have ld312 := rd18.lt
    (refine LL.call (R.call rfl rfl rfl) rfl rfl rfl (dcheck_any left n _ s _ (hvF _ q) hn h) ?_; rintro e Wd311 ⟨rfl, bd308⟩; refine ⟨_, rfl, ?_⟩; rw [hck])
    have zbd308 := bd308.size
    replace rd18 := rd18.up bd308
    replace bd15 := bd15.trans (bd308.mono bd15.size)
    replace q := q.trans (bd308.mono q.size)
    refine LL.val (R.assign rfl rfl) rfl rfl rfl ?_
    refine LL.nilS ?_
    refine CC.seq ?_
    refine CC.region ?_
    refine LL.val (R.move rfl rfl) rfl rfl rfl ?_
    refine LL.val (R.move rfl rfl) rfl rfl rfl ?_
    have ld376 := rd18.lt
    (refine LL.call (R.call rfl rfl rfl) rfl rfl rfl (dread_any left a n c s _ (hvF _ q) hn h) ?_; rintro e Wd375 ⟨v1, v2, rfl, o1, o2, hd, bd372⟩; refine ⟨_, rfl, ?_⟩; rw [eps] at o1; obtain ⟨aP, cP, rfl, hcP⟩ := (o1.reads prEnc).form rfl; have hpF : ∀ X, Below (Wd375).heap.size Wd375 X → ReadsT prE 2 X (.slice aP ps.length cP) ps := fun X b => (o1.reads prEnc).up b; have qP := Below.refl (Wd375).heap.size Wd375; clear o1 o2 hd)
    have zbd372 := bd372.size
    replace bd308 := bd308.trans (bd372.mono bd308.size)
    replace rd18 := rd18.up bd372
    replace bd15 := bd15.trans (bd372.mono bd15.size)
    replace q := q.trans (bd372.mono q.size)
    refine LL.val (R.move rfl rfl) rfl rfl rfl ?_
    refine LL.val (R.extract rfl rfl rfl) rfl rfl rfl ?_
    refine LL.val (R.extract rfl rfl rfl) rfl rfl rfl ?_
    refine LL.val (R.assign rfl rfl) rfl rfl rfl ?_
    refine LL.val (R.assign rfl rfl) rfl rfl rfl ?_
    refine LL.nilS ?_
    refine CC.seq ?_
    refine CC.seq ?_
    refine CC.region ?_
    refine LL.val (R.move rfl rfl) rfl rfl rfl ?_
    refine LL.val (R.eqT rfl rfl rfl (by omega)) rfl rfl rfl ?_
    refine LL.val (R.move rfl rfl) rfl rfl rfl ?_
    refine LL.val (R.move rfl rfl) rfl rfl rfl ?_
    refine LL.val (R.field rfl rfl (I.fld rfl)) rfl rfl rfl ?_
    refine LL.val (R.load rfl rfl (I.ld1 rfl (RowL.cell rd18 rfl))) rfl rfl rfl ?_
    (refine LL.call (R.call rfl rfl rfl) rfl rfl rfl (dhas_any _ ps p _ (hpF _ qP) (by omega)) ?_; rintro e W' ⟨rfl, rfl⟩; refine ⟨_, rfl, ?_⟩; rw [decide_eq_true hm])
    refine LL.val (R.pick rfl rfl rfl) rfl rfl rfl ?_
    refine LL.nilS ?_
    refine CC.yes rfl ?_
    refine CC.seq ?_
    refine CC.region ?_
    refine LL.val (R.assign rfl rfl) rfl rfl rfl ?_
    refine LL.nilS ?_
    refine CC.ret ?_
    refine EE.thenR ?_
    refine EE.ret _ rfl rfl ?_
    exact ⟨rfl, q⟩
  · rw [if_neg h4]
    have hm : p ∉ ps.map (·.2) := fun e => h4 (hmp.1 e)
    clear h4 hmp
    refine X.fn Try.func51 rfl (n := 43) rfl rfl ?_
    refine CC.seq ?_
    refine CC.region ?_
    refine LL.box [Value.int IntKind.u64 ↑k, Value.int IntKind.u64 ↑p] rfl rfl rfl rfl rfl ?_
    intro We16 ge17 ege17 re18 ze19 be15
    replace q := q.trans (be15.mono q.size)
    refine LL.val (R.assign rfl rfl) rfl rfl rfl ?_
    refine LL.nilS ?_
    refine CC.seq ?_
    refine CC.seq ?_
    refine CC.region ?_
    refine LL.val (R.move rfl rfl) rfl rfl rfl ?_
    refine LL.val (R.move rfl rfl) rfl rfl rfl ?_
    refine LL.call (R.call rfl rfl rfl) rfl rfl rfl (dright_T _ _ _ _ _ (by first | assumption | omega)) ?_
    rintro e W' ⟨rfl, rfl⟩
    refine ⟨_, rfl, ?_⟩
    refine LL.val (R.not rfl rfl) rfl rfl rfl ?_
    refine LL.val (R.move rfl rfl) rfl rfl rfl ?_
    refine LL.val (R.field rfl rfl (I.fld rfl)) rfl rfl rfl ?_
    refine LL.val (R.load rfl rfl (I.ld1 rfl (RowL.cell re18 rfl))) rfl rfl rfl ?_
    refine LL.val (R.eqF rfl rfl rfl (by omega)) rfl rfl rfl ?_
    refine LL.val (R.pick rfl rfl rfl) rfl rfl rfl ?_
    refine LL.val (R.move rfl rfl) rfl rfl rfl ?_
    refine LL.val (R.field rfl rfl (I.fld rfl)) rfl rfl rfl ?_
    refine LL.val (R.load rfl rfl (I.ld1 rfl (RowL.cell re18 rfl))) rfl rfl rfl ?_
    refine LL.val (R.move rfl rfl) rfl rfl rfl ?_
    refine LL.val (R.eqF rfl rfl rfl (by omega)) rfl rfl rfl ?_
    refine LL.val (R.pick rfl rfl rfl) rfl rfl rfl ?_
    refine LL.nilS ?_
    refine CC.no rfl ?_
    refine CC.skip ?_
    refine EE.thenN ?_
    refine CC.seq ?_
    refine CC.region ?_
    refine LL.val (R.move rfl rfl) rfl rfl rfl ?_
    refine LL.val (R.move rfl rfl) rfl rfl rfl ?_
    have le312 := re18.lt
    (refine LL.call (R.call rfl rfl rfl) rfl rfl rfl (dcheck_any left n _ s _ (hvF _ q) hn h) ?_; rintro e We311 ⟨rfl, be308⟩; refine ⟨_, rfl, ?_⟩; rw [hck])
    have zbe308 := be308.size
    replace re18 := re18.up be308
    replace be15 := be15.trans (be308.mono be15.size)
    replace q := q.trans (be308.mono q.size)
    refine LL.val (R.assign rfl rfl) rfl rfl rfl ?_
    refine LL.nilS ?_
    refine CC.seq ?_
    refine CC.region ?_
    refine LL.val (R.move rfl rfl) rfl rfl rfl ?_
    refine LL.val (R.move rfl rfl) rfl rfl rfl ?_
    have le376 := re18.lt
    (refine LL.call (R.call rfl rfl rfl) rfl rfl rfl (dread_any left a n c s _ (hvF _ q) hn h) ?_; rintro e We375 ⟨v1, v2, rfl, o1, o2, hd, be372⟩; refine ⟨_, rfl, ?_⟩; rw [eps] at o1; obtain ⟨aP, cP, rfl, hcP⟩ := (o1.reads prEnc).form rfl; have hpF : ∀ X, Below (We375).heap.size We375 X → ReadsT prE 2 X (.slice aP ps.length cP) ps := fun X b => (o1.reads prEnc).up b; have qP := Below.refl (We375).heap.size We375; clear o1 o2 hd)
    have zbe372 := be372.size
    replace be308 := be308.trans (be372.mono be308.size)
    replace re18 := re18.up be372
    replace be15 := be15.trans (be372.mono be15.size)
    replace q := q.trans (be372.mono q.size)
    refine LL.val (R.move rfl rfl) rfl rfl rfl ?_
    refine LL.val (R.extract rfl rfl rfl) rfl rfl rfl ?_
    refine LL.val (R.extract rfl rfl rfl) rfl rfl rfl ?_
    refine LL.val (R.assign rfl rfl) rfl rfl rfl ?_
    refine LL.val (R.assign rfl rfl) rfl rfl rfl ?_
    refine LL.nilS ?_
    refine CC.seq ?_
    refine CC.seq ?_
    refine CC.region ?_
    refine LL.val (R.move rfl rfl) rfl rfl rfl ?_
    refine LL.val (R.eqT rfl rfl rfl (by omega)) rfl rfl rfl ?_
    refine LL.val (R.move rfl rfl) rfl rfl rfl ?_
    refine LL.val (R.move rfl rfl) rfl rfl rfl ?_
    refine LL.val (R.field rfl rfl (I.fld rfl)) rfl rfl rfl ?_
    refine LL.val (R.load rfl rfl (I.ld1 rfl (RowL.cell re18 rfl))) rfl rfl rfl ?_
    (refine LL.call (R.call rfl rfl rfl) rfl rfl rfl (dhas_any _ ps p _ (hpF _ qP) (by omega)) ?_; rintro e W' ⟨rfl, rfl⟩; refine ⟨_, rfl, ?_⟩; rw [decide_eq_false hm])
    refine LL.val (R.pick rfl rfl rfl) rfl rfl rfl ?_
    refine LL.nilS ?_
    refine CC.no rfl ?_
    refine CC.skip ?_
    refine EE.thenN ?_
    refine CC.seq ?_
    refine CC.region ?_
    refine LL.val (R.move rfl rfl) rfl rfl rfl ?_
    refine LL.val (R.assign rfl rfl) rfl rfl rfl ?_
    refine LL.nilS ?_
    refine CC.ret ?_
    refine EE.ret _ rfl rfl ?_
    exact ⟨rfl, q⟩
end Go.Proofs.Ytloflmkolnediaa

/- slots: the document's shift. -/
namespace Go.Proofs.Ytloflmkolnediaa
set_option linter.unusedVariables false
set_option linter.unusedSimpArgs false
open Go.RowKit Go.Shelf
set_option maxRecDepth 100000
set_option maxHeartbeats 4000000
theorem dshift_any (n d m : Nat) (v : Value) (s : List Nat) (w : World) (hv : ReadsT uE 1 w v s) (hn : s.length = n) (h : n ≤ 56) (hd : d < m) (hm : 2 * m ≤ n) : Calls Try.prog 53 #[v, .int .i64 (d : Int), .int .i64 (m : Int)] w fun e w' => ∃ vo, e = .returned vo ∧ OwnsT pE 2 w' w.heap.size 99 vo (shL s d m) ∧ Below w.heap.size w w' := by
  have q := Below.refl w.heap.size w
  obtain ⟨a, c, rfl, hc⟩ := hv.form hn
  have hvF : ∀ X, Below w.heap.size w X → ReadsT uE 1 X (.slice a n c) s := fun X b => hv.up b
  clear hv
  refine X.fn Try.func53 rfl (n := 45) rfl rfl ?_
  refine CC.seq ?_
  refine CC.region ?_
  refine LL.val (R.assign rfl rfl) rfl rfl rfl ?_
  refine LL.nilS ?_
  refine CC.seq ?_
  refine CC.region ?_
  refine LL.val (R.assign rfl rfl) rfl rfl rfl ?_
  refine LL.nilS ?_
  refine CC.seq ?_
  refine CC.seq ?_
  refine CC.region ?_
  refine LL.val (R.move rfl rfl) rfl rfl rfl ?_
  refine LL.val (R.assign rfl rfl) rfl rfl rfl ?_
  refine LL.nilS ?_
  refine CC.block ?_
  refine CC.loop (α := Nat × Value) (fun p => [(0, .slice a n c), (2, .int .i64 (m : Int)), (7, p.2), (8, .int .i64 ((d + p.1 : Nat) : Int))])
    (fun p W => d + p.1 ≤ m - 1 ∧ Below w.heap.size w W ∧ OwnsT pE 2 W w.heap.size 99 p.2 (shK s d p.1)) (fun p => m - p.1)
    (0, .slice none 0 0) ⟨rfl, rfl, rfl, rfl, trivial⟩ ⟨by show d + 0 ≤ m - 1; omega, q, OwnsT.none _ _ _⟩ ?_
  clear q
  rintro ⟨k, vo⟩ W ⟨hk, q, o1⟩
  simp only at hk o1
  have yq := q.size
  show CC none Try.prog _ 45 [] (sl [(0, .slice a n c), (2, .int .i64 (m : Int)), (7, vo), (8, .int .i64 ((d + k : Nat) : Int))]) _ W
  have hl1 : (shK s d k).length ≤ 200 := by rw [shK_len]; omega
  obtain ⟨ps, eps⟩ : ∃ ps, shK s d k = ps := ⟨_, rfl⟩
  by_cases hlt2 : d + k ≤ m - 2 ∧ 2 ≤ m
  case neg =>
    obtain rfl : k = m - 1 - d := by omega
    have eL : shL s d m = ps ++ [(((2 * m - 1 : Nat) : Int), 0)] := by unfold shL; rw [eps, show 2 * (m - 1) + 1 = 2 * m - 1 by omega]
    rw [eps] at o1 hl1
    clear hlt2 eps
    obtain ⟨av1, cv1, rfl, hcv1⟩ := (o1.reads pEnc).form rfl
    refine CC.seq ?_
    refine CC.seq ?_
    refine CC.region ?_
    refine LL.val (R.move rfl rfl) rfl rfl rfl ?_
    refine LL.val (R.move rfl rfl) rfl rfl rfl ?_
    refine LL.val (R.subI rfl rfl rfl (by omega)) rfl rfl rfl ?_
    refine LL.val (R.leF rfl rfl rfl (by omega)) rfl rfl rfl ?_
    refine LL.nilS ?_
    refine CC.no rfl ?_
    refine CC.exit ?_
    refine EE.thenX ?_
    refine EE.thenX ?_
    refine EE.inX ?_
    refine EE.thenN ?_
    refine CC.seq ?_
    refine CC.region ?_
    refine LL.val (R.move rfl rfl) rfl rfl rfl ?_
    refine LL.val (R.move rfl rfl) rfl rfl rfl ?_
    refine LL.val (R.mulcN rfl rfl rfl rfl (by omega)) rfl rfl rfl ?_
    refine LL.val (R.subNc rfl rfl rfl rfl (by omega) (by omega)) rfl rfl rfl ?_
    refine LL.val (R.buildV rfl rfl (v := .agg #[Value.int IntKind.i64 ↑(2 * m - 1), Value.int IntKind.u64 0]) (fun _ => by kernel_rfl)) rfl rfl rfl ?_
    refine LL.lit (e := 99) [Value.int IntKind.i64 ↑(2 * m - 1), Value.int IntKind.u64 0] 1 rfl rfl (fun _ => by kernel_rfl) rfl rfl ?_
    intro Wa2 ga3 ega3 ra4 za5 ba1
    replace q := q.trans (ba1.mono q.size)
    replace o1 := o1.up ba1
    (refine LL.appendT2 rfl rfl pEnc ElPut o1 (us := [(((2 * m - 1 : Nat) : Int), 0)]) (RowL.readsT pEnc (ts := [(((2 * m - 1 : Nat) : Int), 0)]) (by assumption) 1 (Nat.le_refl _)) (by simp [maxLen]; omega) (by simp; omega) (by have := q.size; omega) rfl rfl ?_; intro v' Wa oa gra hva; replace q := q.grown gra q.size (fun g hg => by have := own_ge o1 g hg; omega); clear o1 hva gra; have o1 := oa; clear oa)
    refine LL.val (R.assign rfl rfl) rfl rfl rfl ?_
    refine LL.nilS ?_
    refine CC.ret ?_
    refine EE.ret _ rfl rfl ?_
    exact ⟨_, rfl, by rw [eL]; exact o1, q⟩
  obtain ⟨hlt2, hm2⟩ := hlt2
  obtain ⟨b, o, rfl, lb, m1⟩ := u_at (hvF _ (Below.refl _ _)) (keyN_at (s := s) (j := d + k + 1) (by omega))
  obtain ⟨b', o', ea', lb', m2⟩ := u_at (hvF _ (Below.refl _ _)) (ptrN_at (s := s) (j := d + k + 1) (by omega))
  cases ea'
  have c1 := m1 W q
  have c2 := m2 W q
  have e3 : shK s d (k + 1) = ps ++ [(((2 * (d + k) : Nat) : Int), keyN s (d + k + 1)), (((2 * (d + k) + 1 : Nat) : Int), ptrN s (d + k + 1))] := by rw [← eps]; rfl
  rw [eps] at o1 hl1
  clear eps
  have og1 := own_ge o1
  obtain ⟨av1, cv1, rfl, hcv1⟩ := (o1.reads pEnc).form rfl
  refine CC.seq ?_
  refine CC.seq ?_
  refine CC.region ?_
  refine LL.val (R.move rfl rfl) rfl rfl rfl ?_
  refine LL.val (R.move rfl rfl) rfl rfl rfl ?_
  refine LL.val (R.subNc rfl rfl rfl rfl (by omega) (by omega)) rfl rfl rfl ?_
  refine LL.val (R.leT rfl rfl rfl (by omega)) rfl rfl rfl ?_
  refine LL.nilS ?_
  refine CC.yes rfl ?_
  refine CC.skip ?_
  refine EE.thenN ?_
  refine CC.seq ?_
  refine CC.block ?_
  refine CC.freeZ (fun W_ j => j < W_.heap.size ∧ (j < w.heap.size)) (by kernel_rfl) (by kernel_rfl) (fun Wb2 bb1 zb3 => ?_)
  replace q := q.trans (bb1.mono q.size)
  replace c1 := cell_up c1 bb1
  replace c2 := cell_up c2 bb1
  replace o1 := o1.up bb1
  have hok : Kept (fun j => j < Wb2.heap.size ∧ (j < w.heap.size)) Wb2 Wb2 := Kept.refl _ _
  have fzc1 := fzCell (K := fun j => j < Wb2.heap.size ∧ (j < w.heap.size)) c1 ⟨World.block_lt_of_cell? _ _ c1, (by first | trivial | omega)⟩
  have fzc2 := fzCell (K := fun j => j < Wb2.heap.size ∧ (j < w.heap.size)) c2 ⟨World.block_lt_of_cell? _ _ c2, (by first | trivial | omega)⟩
  refine AA.pure 0 rfl hok (by kernel_rfl) (fun w' b' => R.move rfl rfl) rfl rfl ?_
  refine AA.pure 1 rfl hok (by kernel_rfl) (fun w' b' => R.move rfl rfl) rfl rfl ?_
  refine AA.pure 2 rfl hok (by kernel_rfl) (fun w' b' => R.mulcN rfl rfl rfl rfl (by omega)) rfl rfl ?_
  refine AA.pure 3 rfl hok (by kernel_rfl) (fun w' b' => R.move rfl rfl) rfl rfl ?_
  refine AA.pure 4 rfl hok (by kernel_rfl) (fun w' b' => R.move rfl rfl) rfl rfl ?_
  refine AA.pure 5 rfl hok (by kernel_rfl) (fun w' b' => R.mulcN rfl rfl rfl rfl (by omega)) rfl rfl ?_
  refine AA.pure 6 rfl hok (by kernel_rfl) (fun w' b' => R.addNc rfl rfl rfl rfl (by omega)) rfl rfl ?_
  refine AA.pure 7 rfl hok (by kernel_rfl) (fun w' b' => R.index rfl rfl rfl (I.ixS1 rfl (by omega))) rfl rfl ?_
  refine AA.pure 8 rfl hok (by kernel_rfl) (fun w' b' => R.load rfl rfl (I.ld1 rfl (cell_kept c1 b' (by refine ⟨?_, ?_⟩ <;> omega)))) rfl rfl ?_
  refine AA.pure 9 rfl hok (by kernel_rfl) (fun w' b' => R.buildV rfl rfl (v := .agg #[Value.int IntKind.i64 ↑(2 * (d + k)), Value.int IntKind.u64 ↑(keyN s (d + k + 1))]) (fun _ => by kernel_rfl)) rfl rfl ?_
  refine AA.pure 10 rfl hok (by kernel_rfl) (fun w' b' => R.move rfl rfl) rfl rfl ?_
  refine AA.pure 11 rfl hok (by kernel_rfl) (fun w' b' => R.mulcN rfl rfl rfl rfl (by omega)) rfl rfl ?_
  refine AA.pure 12 rfl hok (by kernel_rfl) (fun w' b' => R.addNc rfl rfl rfl rfl (by omega)) rfl rfl ?_
  refine AA.pure 13 rfl hok (by kernel_rfl) (fun w' b' => R.move rfl rfl) rfl rfl ?_
  refine AA.pure 14 rfl hok (by kernel_rfl) (fun w' b' => R.move rfl rfl) rfl rfl ?_
  refine AA.pure 15 rfl hok (by kernel_rfl) (fun w' b' => R.mulcN rfl rfl rfl rfl (by omega)) rfl rfl ?_
  refine AA.pure 16 rfl hok (by kernel_rfl) (fun w' b' => R.addNc rfl rfl rfl rfl (by omega)) rfl rfl ?_
  refine AA.pure 17 rfl hok (by kernel_rfl) (fun w' b' => R.index rfl rfl rfl (I.ixS1 rfl (by omega))) rfl rfl ?_
  refine AA.pure 18 rfl hok (by kernel_rfl) (fun w' b' => R.load rfl rfl (I.ld1 rfl (cell_kept c2 b' (by refine ⟨?_, ?_⟩ <;> omega)))) rfl rfl ?_
  refine AA.pure 19 rfl hok (by kernel_rfl) (fun w' b' => R.buildV rfl rfl (v := .agg #[Value.int IntKind.i64 ↑(2 * (d + k) + 1), Value.int IntKind.u64 ↑(ptrN s (d + k + 1))]) (fun _ => by kernel_rfl)) rfl rfl ?_
  refine AA.one 20 (by kernel_rfl) ?_
  refine ZR.lit (e := 99) [Value.int IntKind.i64 ↑(2 * (d + k)), Value.int IntKind.u64 ↑(keyN s (d + k + 1)), Value.int IntKind.i64 ↑(2 * (d + k) + 1), Value.int IntKind.u64 ↑(ptrN s (d + k + 1))] 2 rfl rfl rfl (fun _ => by kernel_rfl) rfl rfl ?_
  intro Wb5 gb6 egb6 rb7 zb8 bb4
  replace bb1 := bb1.trans (bb4.mono bb1.size)
  replace q := q.trans (bb4.mono q.size)
  replace c1 := cell_up c1 bb4
  replace c2 := cell_up c2 bb4
  replace o1 := o1.up bb4
  replace hok := hok.trans (bkept bb4 (fun j h => by have := h.1; have := hok.size; omega))
  have yb9 := hok.size
  refine ⟨hok, ?_⟩
  refine AA.one 21 (by kernel_rfl) ?_
  (refine SR.appendT2 rfl rfl rfl pEnc ElPut o1 (us := [(((2 * (d + k) : Nat) : Int), keyN s (d + k + 1)), (((2 * (d + k) + 1 : Nat) : Int), ptrN s (d + k + 1))]) (RowL.readsT pEnc (ts := [(((2 * (d + k) : Nat) : Int), keyN s (d + k + 1)), (((2 * (d + k) + 1 : Nat) : Int), ptrN s (d + k + 1))]) (by assumption) 2 (by simp)) (by simp [maxLen]; omega) (by simp; omega) (by omega) rfl rfl ?_; intro v' Wa oa gra hva; replace q := q.grown gra q.size (fun g hg => by have := own_ge o1 g hg; omega); replace hok := hok.trans (grown_kept gra (fun j h => by have := h.1; have := hok.size; omega) (fun j h e => by have := own_ge o1 j e; omega)); have hsz := gra.size; clear o1 hva gra; have o1 := oa; clear oa; refine ⟨hok, ?_⟩)
  refine AA.pure 22 rfl hok (by kernel_rfl) (fun w' b' => R.assign rfl rfl) rfl rfl ?_
  refine AA.done rfl ?_
  clear fzc1 fzc2 hok
  refine EE.inN ?_
  refine EE.thenN ?_
  refine CC.region ?_
  refine LL.val (R.move rfl rfl) rfl rfl rfl ?_
  refine LL.val (R.addNc rfl rfl rfl rfl (by omega)) rfl rfl rfl ?_
  refine LL.val (R.assign rfl rfl) rfl rfl rfl ?_
  refine LL.nil ?_
  exact EE.round (k + 1, _) ⟨rfl, rfl, rfl, rfl, trivial⟩ ⟨by show d + (k + 1) ≤ m - 1; omega, q, by rw [e3]; exact o1⟩ (by show m - (k + 1) < m - k; omega)
end Go.Proofs.Ytloflmkolnediaa

/- slots: the document's Take, Swap, Put (gen23.py writes this). -/
namespace Go.Proofs.Ytloflmkolnediaa
set_option linter.unusedVariables false
set_option linter.unusedSimpArgs false
open Go.RowKit Go.Shelf
set_option maxRecDepth 100000
set_option maxHeartbeats 4000000
theorem dtake_any (left n k : Nat) (v : Value) (s : List Nat) (w : World) (hv : ReadsT uE 1 w v s) (hn : s.length = n) (h : n ≤ 1048576) : Calls Try.prog 30 #[.int .u64 (left : Int), v, .int .u64 (k : Int)] w (chQ (takeF left s k) w) := by
  have q := Below.refl w.heap.size w
  obtain ⟨a, c, rfl, hc⟩ := hv.form hn
  have hvF : ∀ X, Below w.heap.size w X → ReadsT uE 1 X (.slice a n c) s := fun X b => hv.up b
  clear hv
  have hck := Eq.refl (checkF left s)
  conv at hck => { rhs; unfold checkF; rw [hn] }
  unfold takeF
  rw [hn]
  by_cases h1 : noRow left n
  · rw [if_pos h1] at hck
    rw [if_pos h1]
    refine X.fn Try.func30 rfl (n := 48) rfl rfl ?_
    refine CC.seq ?_
    refine CC.region ?_
    refine LL.val (R.assign rfl rfl) rfl rfl rfl ?_
    refine LL.val (R.assign rfl rfl) rfl rfl rfl ?_
    refine LL.nilS ?_
    refine CC.seq ?_
    refine CC.seq ?_
    refine CC.region ?_
    refine LL.val (R.move rfl rfl) rfl rfl rfl ?_
    refine LL.val (R.move rfl rfl) rfl rfl rfl ?_
    (refine LL.call (R.call rfl rfl rfl) rfl rfl rfl (dcheck_any left n _ s _ (hvF _ q) hn h) ?_; rintro e W32 ⟨rfl, b29⟩; refine ⟨_, rfl, ?_⟩; rw [hck])
    have zb29 := b29.size
    replace q := q.trans (b29.mono q.size)
    refine LL.val (R.assign rfl rfl) rfl rfl rfl ?_
    refine LL.nilS ?_
    refine CC.seq ?_
    refine CC.region ?_
    refine LL.val (R.move rfl rfl) rfl rfl rfl ?_
    refine LL.val (R.neT rfl rfl rfl (by omega)) rfl rfl rfl ?_
    refine LL.nilS ?_
    refine CC.yes rfl ?_
    refine CC.seq ?_
    refine CC.region ?_
    refine LL.val (R.move rfl rfl) rfl rfl rfl ?_
    refine LL.val (R.assign rfl rfl) rfl rfl rfl ?_
    refine LL.val (R.assign rfl rfl) rfl rfl rfl ?_
    refine LL.nilS ?_
    refine CC.ret ?_
    refine EE.thenR ?_
    refine EE.ret _ rfl rfl ?_
    exact ⟨_, rfl, OwnsT.none _ _ _, q⟩
  rw [if_neg h1] at hck
  rw [if_neg h1]
  have hrow := noRow_not h1
  clear h1
  by_cases h3 : setP left s
  case neg =>
    rw [if_neg h3] at hck
    rw [if_pos h3]
    refine X.fn Try.func30 rfl (n := 48) rfl rfl ?_
    refine CC.seq ?_
    refine CC.region ?_
    refine LL.val (R.assign rfl rfl) rfl rfl rfl ?_
    refine LL.val (R.assign rfl rfl) rfl rfl rfl ?_
    refine LL.nilS ?_
    refine CC.seq ?_
    refine CC.seq ?_
    refine CC.region ?_
    refine LL.val (R.move rfl rfl) rfl rfl rfl ?_
    refine LL.val (R.move rfl rfl) rfl rfl rfl ?_
    (refine LL.call (R.call rfl rfl rfl) rfl rfl rfl (dcheck_any left n _ s _ (hvF _ q) hn h) ?_; rintro e Wa32 ⟨rfl, ba29⟩; refine ⟨_, rfl, ?_⟩; rw [hck])
    have zba29 := ba29.size
    replace q := q.trans (ba29.mono q.size)
    refine LL.val (R.assign rfl rfl) rfl rfl rfl ?_
    refine LL.nilS ?_
    refine CC.seq ?_
    refine CC.region ?_
    refine LL.val (R.move rfl rfl) rfl rfl rfl ?_
    refine LL.val (R.neT rfl rfl rfl (by omega)) rfl rfl rfl ?_
    refine LL.nilS ?_
    refine CC.yes rfl ?_
    refine CC.seq ?_
    refine CC.region ?_
    refine LL.val (R.move rfl rfl) rfl rfl rfl ?_
    refine LL.val (R.assign rfl rfl) rfl rfl rfl ?_
    refine LL.val (R.assign rfl rfl) rfl rfl rfl ?_
    refine LL.nilS ?_
    refine CC.ret ?_
    refine EE.thenR ?_
    refine EE.ret _ rfl rfl ?_
    exact ⟨_, rfl, OwnsT.none _ _ _, q⟩
  rw [if_pos h3] at hck
  rw [if_neg (fun h => h h3)]
  obtain ⟨ps, eps⟩ : ∃ ps, pairP left s = ps := ⟨_, rfl⟩
  have hpl : ps.length ≤ n / 2 := by rw [← eps, ← hn]; unfold pairP; rw [List.length_map]; exact pairS_len left s
  obtain ⟨m, hs⟩ := setP_iff.1 h3
  have hfnd : ∀ i b, fndP ps k i b → i = posN s k ∧ (b = true ↔ ∃ j, j < m ∧ keyN s j = k) := fun i b hf => fnd_set hs (by rw [eps]; exact hf)
  have hpm : ps.length = m := by rw [← eps, hs.pairP, List.length_map, List.length_range]
  have hml := hs.lt
  rw [hn] at hml
  rw [hs.over]
  obtain rfl := hpm
  by_cases hyes : ∃ j, j < ps.length ∧ keyN s j = k
  case neg =>
    have hno := hyes
    clear hyes
    rw [if_neg hno]
    refine X.fn Try.func30 rfl (n := 48) rfl rfl ?_
    refine CC.seq ?_
    refine CC.region ?_
    refine LL.val (R.assign rfl rfl) rfl rfl rfl ?_
    refine LL.val (R.assign rfl rfl) rfl rfl rfl ?_
    refine LL.nilS ?_
    refine CC.seq ?_
    refine CC.seq ?_
    refine CC.region ?_
    refine LL.val (R.move rfl rfl) rfl rfl rfl ?_
    refine LL.val (R.move rfl rfl) rfl rfl rfl ?_
    (refine LL.call (R.call rfl rfl rfl) rfl rfl rfl (dcheck_any left n _ s _ (hvF _ q) hn h) ?_; rintro e Wb88 ⟨rfl, bb85⟩; refine ⟨_, rfl, ?_⟩; rw [hck])
    have zbb85 := bb85.size
    replace q := q.trans (bb85.mono q.size)
    refine LL.val (R.assign rfl rfl) rfl rfl rfl ?_
    refine LL.nilS ?_
    refine CC.seq ?_
    refine CC.region ?_
    refine LL.val (R.move rfl rfl) rfl rfl rfl ?_
    refine LL.val (R.neF rfl rfl rfl (by omega)) rfl rfl rfl ?_
    refine LL.nilS ?_
    refine CC.no rfl ?_
    refine CC.skip ?_
    refine EE.thenN ?_
    refine CC.seq ?_
    refine CC.region ?_
    refine LL.val (R.move rfl rfl) rfl rfl rfl ?_
    refine LL.val (R.move rfl rfl) rfl rfl rfl ?_
    (refine LL.call (R.call rfl rfl rfl) rfl rfl rfl (dread_any left a n c s _ (hvF _ q) hn h) ?_; rintro e Wb207 ⟨v1, v2, rfl, o1, o2, hd, bb204⟩; refine ⟨_, rfl, ?_⟩; rw [eps] at o1; obtain ⟨aP, cP, rfl, hcP⟩ := (o1.reads prEnc).form rfl; have hpF : ∀ X, Below (Wb207).heap.size Wb207 X → ReadsT prE 2 X (.slice aP ps.length cP) ps := fun X b => (o1.reads prEnc).up b; have qP := Below.refl (Wb207).heap.size Wb207; clear o1 o2 hd)
    have zbb204 := bb204.size
    replace bb85 := bb85.trans (bb204.mono bb85.size)
    replace q := q.trans (bb204.mono q.size)
    refine LL.val (R.move rfl rfl) rfl rfl rfl ?_
    refine LL.val (R.extract rfl rfl rfl) rfl rfl rfl ?_
    refine LL.val (R.extract rfl rfl rfl) rfl rfl rfl ?_
    refine LL.val (R.assign rfl rfl) rfl rfl rfl ?_
    refine LL.val (R.assign rfl rfl) rfl rfl rfl ?_
    refine LL.nilS ?_
    refine CC.seq ?_
    refine CC.region ?_
    refine LL.val (R.move rfl rfl) rfl rfl rfl ?_
    refine LL.val (R.move rfl rfl) rfl rfl rfl ?_
    (refine LL.call (R.call rfl rfl rfl) rfl rfl rfl (dfind_any _ ps k _ (hpF _ qP) (by omega)) ?_; rintro e Wb375 ⟨fi, fb, rfl, hfn, bb372⟩; obtain ⟨rfl, hfb⟩ := hfnd fi fb hfn; obtain rfl : fb = false := (by revert hfb; cases fb with | false => exact fun _ => rfl | true => exact fun h => absurd (h.1 rfl) hno); clear hfn hfb; refine ⟨_, rfl, ?_⟩)
    have zbb372 := bb372.size
    replace bb204 := bb204.trans (bb372.mono bb204.size)
    replace qP := qP.trans (bb372.mono qP.size)
    replace bb85 := bb85.trans (bb372.mono bb85.size)
    replace q := q.trans (bb372.mono q.size)
    refine LL.val (R.move rfl rfl) rfl rfl rfl ?_
    refine LL.val (R.extract rfl rfl rfl) rfl rfl rfl ?_
    refine LL.val (R.extract rfl rfl rfl) rfl rfl rfl ?_
    refine LL.val (R.assign rfl rfl) rfl rfl rfl ?_
    refine LL.val (R.assign rfl rfl) rfl rfl rfl ?_
    refine LL.nilS ?_
    refine CC.seq ?_
    refine CC.seq ?_
    refine CC.region ?_
    refine LL.val (R.move rfl rfl) rfl rfl rfl ?_
    refine LL.val (R.not rfl rfl) rfl rfl rfl ?_
    refine LL.nilS ?_
    refine CC.yes rfl ?_
    refine CC.seq ?_
    refine CC.region ?_
    refine LL.val (R.assign rfl rfl) rfl rfl rfl ?_
    refine LL.val (R.assign rfl rfl) rfl rfl rfl ?_
    refine LL.nilS ?_
    refine CC.ret ?_
    refine EE.thenR ?_
    refine EE.ret _ rfl rfl ?_
    exact ⟨_, rfl, OwnsT.none _ _ _, q⟩
  rw [if_pos hyes]
  have hpos : posN s k < ps.length := by obtain ⟨j, hj, hk⟩ := hyes; rw [posN_key hs hj hk]; exact hj
  have hshl := shL_len s (posN s k) _ hpos
  unfold takeL
  refine X.fn Try.func30 rfl (n := 48) rfl rfl ?_
  refine CC.seq ?_
  refine CC.region ?_
  refine LL.val (R.assign rfl rfl) rfl rfl rfl ?_
  refine LL.val (R.assign rfl rfl) rfl rfl rfl ?_
  refine LL.nilS ?_
  refine CC.seq ?_
  refine CC.seq ?_
  refine CC.region ?_
  refine LL.val (R.move rfl rfl) rfl rfl rfl ?_
  refine LL.val (R.move rfl rfl) rfl rfl rfl ?_
  (refine LL.call (R.call rfl rfl rfl) rfl rfl rfl (dcheck_any left n _ s _ (hvF _ q) hn h) ?_; rintro e Wc116 ⟨rfl, bc113⟩; refine ⟨_, rfl, ?_⟩; rw [hck])
  have zbc113 := bc113.size
  replace q := q.trans (bc113.mono q.size)
  refine LL.val (R.assign rfl rfl) rfl rfl rfl ?_
  refine LL.nilS ?_
  refine CC.seq ?_
  refine CC.region ?_
  refine LL.val (R.move rfl rfl) rfl rfl rfl ?_
  refine LL.val (R.neF rfl rfl rfl (by omega)) rfl rfl rfl ?_
  refine LL.nilS ?_
  refine CC.no rfl ?_
  refine CC.skip ?_
  refine EE.thenN ?_
  refine CC.seq ?_
  refine CC.region ?_
  refine LL.val (R.move rfl rfl) rfl rfl rfl ?_
  refine LL.val (R.move rfl rfl) rfl rfl rfl ?_
  (refine LL.call (R.call rfl rfl rfl) rfl rfl rfl (dread_any left a n c s _ (hvF _ q) hn h) ?_; rintro e Wc270 ⟨v1, v2, rfl, o1, o2, hd, bc267⟩; refine ⟨_, rfl, ?_⟩; rw [eps] at o1; obtain ⟨aP, cP, rfl, hcP⟩ := (o1.reads prEnc).form rfl; have hpF : ∀ X, Below (Wc270).heap.size Wc270 X → ReadsT prE 2 X (.slice aP ps.length cP) ps := fun X b => (o1.reads prEnc).up b; have qP := Below.refl (Wc270).heap.size Wc270; clear o1 o2 hd)
  have zbc267 := bc267.size
  replace bc113 := bc113.trans (bc267.mono bc113.size)
  replace q := q.trans (bc267.mono q.size)
  refine LL.val (R.move rfl rfl) rfl rfl rfl ?_
  refine LL.val (R.extract rfl rfl rfl) rfl rfl rfl ?_
  refine LL.val (R.extract rfl rfl rfl) rfl rfl rfl ?_
  refine LL.val (R.assign rfl rfl) rfl rfl rfl ?_
  refine LL.val (R.assign rfl rfl) rfl rfl rfl ?_
  refine LL.nilS ?_
  refine CC.seq ?_
  refine CC.region ?_
  refine LL.val (R.move rfl rfl) rfl rfl rfl ?_
  refine LL.val (R.move rfl rfl) rfl rfl rfl ?_
  (refine LL.call (R.call rfl rfl rfl) rfl rfl rfl (dfind_any _ ps k _ (hpF _ qP) (by omega)) ?_; rintro e Wc487 ⟨fi, fb, rfl, hfn, bc484⟩; obtain ⟨rfl, hfb⟩ := hfnd fi fb hfn; obtain rfl : fb = true := (by revert hfb; cases fb with | false => exact fun h => absurd (h.2 hyes) (by decide) | true => exact fun _ => rfl); clear hfn hfb; refine ⟨_, rfl, ?_⟩)
  have zbc484 := bc484.size
  replace bc267 := bc267.trans (bc484.mono bc267.size)
  replace qP := qP.trans (bc484.mono qP.size)
  replace bc113 := bc113.trans (bc484.mono bc113.size)
  replace q := q.trans (bc484.mono q.size)
  refine LL.val (R.move rfl rfl) rfl rfl rfl ?_
  refine LL.val (R.extract rfl rfl rfl) rfl rfl rfl ?_
  refine LL.val (R.extract rfl rfl rfl) rfl rfl rfl ?_
  refine LL.val (R.assign rfl rfl) rfl rfl rfl ?_
  refine LL.val (R.assign rfl rfl) rfl rfl rfl ?_
  refine LL.nilS ?_
  refine CC.seq ?_
  refine CC.seq ?_
  refine CC.region ?_
  refine LL.val (R.move rfl rfl) rfl rfl rfl ?_
  refine LL.val (R.not rfl rfl) rfl rfl rfl ?_
  refine LL.nilS ?_
  refine CC.no rfl ?_
  refine CC.skip ?_
  refine EE.thenN ?_
  refine CC.seq ?_
  refine CC.region ?_
  refine LL.val (R.move rfl rfl) rfl rfl rfl ?_
  refine LL.val (R.mulcN rfl rfl rfl rfl (by omega)) rfl rfl rfl ?_
  refine LL.val (R.addNc rfl rfl rfl rfl (by omega)) rfl rfl rfl ?_
  refine LL.val (R.move rfl rfl) rfl rfl rfl ?_
  refine LL.val (R.move rfl rfl) rfl rfl rfl ?_
  refine LL.val (R.move rfl rfl) rfl rfl rfl ?_
  (refine LL.call (R.call rfl rfl rfl) rfl rfl rfl (dahead_any left a n c (posN s k) s _ (hvF _ q) hn (by omega) (by omega)) ?_; rintro e W' ⟨rfl, rfl⟩; refine ⟨_, rfl, ?_⟩)
  refine LL.val (R.buildV rfl rfl (v := .agg #[Value.int IntKind.i64 ↑(2 * posN s k + 1), Value.int IntKind.u64 ↑(aheadN left s (posN s k))]) (fun _ => by kernel_rfl)) rfl rfl rfl ?_
  refine LL.lit (e := 99) [Value.int IntKind.i64 ↑(2 * posN s k + 1), Value.int IntKind.u64 ↑(aheadN left s (posN s k))] 1 rfl rfl (fun _ => by kernel_rfl) rfl rfl ?_
  intro Wc933 gc934 egc934 rc935 zc936 bc932
  replace bc484 := bc484.trans (bc932.mono bc484.size)
  replace bc267 := bc267.trans (bc932.mono bc267.size)
  replace qP := qP.trans (bc932.mono qP.size)
  replace bc113 := bc113.trans (bc932.mono bc113.size)
  replace q := q.trans (bc932.mono q.size)
  refine LL.val (R.move rfl rfl) rfl rfl rfl ?_
  refine LL.val (R.move rfl rfl) rfl rfl rfl ?_
  refine LL.val (R.move rfl rfl) rfl rfl rfl ?_
  refine LL.val (R.len rfl rfl rfl rfl) rfl rfl rfl ?_
  have lc1093 := rc935.lt
  (refine LL.call (R.call rfl rfl rfl) rfl rfl rfl (dshift_any n (posN s k) ps.length _ s _ (hvF _ q) hn (by omega) hpos (by omega)) ?_; rintro e Wc1092 ⟨v2, rfl, o2, bc1089⟩; refine ⟨_, rfl, ?_⟩)
  have zbc1089 := bc1089.size
  replace rc935 := rc935.up bc1089
  replace bc932 := bc932.trans (bc1089.mono bc932.size)
  replace bc484 := bc484.trans (bc1089.mono bc484.size)
  replace bc267 := bc267.trans (bc1089.mono bc267.size)
  replace qP := qP.trans (bc1089.mono qP.size)
  replace bc113 := bc113.trans (bc1089.mono bc113.size)
  replace q := q.trans (bc1089.mono q.size)
  (refine LL.appendT2 rfl rfl pEnc ElPut (RowL.ownsT (base := w.heap.size) pEnc (ts := [(((2 * posN s k + 1 : Nat) : Int), aheadN left s (posN s k))]) (by assumption) (by have := q.size; omega) (by first | simp [maxLen])) (us := shL s (posN s k) ps.length) (o2.reads pEnc) (by first | (simp [maxLen]; omega)) (by first | (simp; omega)) (by have := q.size; omega) rfl rfl ?_; intro v' Wa oa gra hva; replace q := q.grown gra q.size (fun g hg => by cases hg; have := q.size; dsimp only; omega); clear o2 hva gra; have o1 := oa; clear oa)
  refine LL.val (R.assign rfl rfl) rfl rfl rfl ?_
  refine LL.val (R.assign rfl rfl) rfl rfl rfl ?_
  refine LL.nilS ?_
  refine CC.ret ?_
  refine EE.ret _ rfl rfl ?_
  exact ⟨_, rfl, o1, q⟩
theorem dswap_any (left n k p : Nat) (v : Value) (s : List Nat) (w : World) (hv : ReadsT uE 1 w v s) (hn : s.length = n) (h : n ≤ 1048576) : Calls Try.prog 31 #[.int .u64 (left : Int), v, .agg #[.int .u64 (k : Int), .int .u64 (p : Int)]] w (chQ (swapF left s k p) w) := by
  have q := Below.refl w.heap.size w
  obtain ⟨a, c, rfl, hc⟩ := hv.form hn
  have hvF : ∀ X, Below w.heap.size w X → ReadsT uE 1 X (.slice a n c) s := fun X b => hv.up b
  clear hv
  have hck := Eq.refl (ptrF left s p)
  conv at hck => { rhs; unfold ptrF; rw [hn] }
  unfold swapF
  rw [hn]
  by_cases h1 : noRow left n
  · rw [if_pos h1] at hck
    rw [if_pos h1]
    clear h1
    refine X.fn Try.func31 rfl (n := 42) rfl rfl ?_
    refine CC.seq ?_
    refine CC.region ?_
    refine LL.box [Value.int IntKind.u64 ↑k, Value.int IntKind.u64 ↑p] rfl rfl rfl rfl rfl ?_
    intro W9 g10 eg10 r11 z12 b8
    replace q := q.trans (b8.mono q.size)
    refine LL.val (R.assign rfl rfl) rfl rfl rfl ?_
    refine LL.val (R.assign rfl rfl) rfl rfl rfl ?_
    refine LL.nilS ?_
    refine CC.seq ?_
    refine CC.seq ?_
    refine CC.region ?_
    refine LL.val (R.move rfl rfl) rfl rfl rfl ?_
    refine LL.val (R.move rfl rfl) rfl rfl rfl ?_
    refine LL.val (R.load rfl rfl (I.ldNc (vs := [Value.int IntKind.u64 ↑k, Value.int IntKind.u64 ↑p]) (RowL.cells r11 rfl) (by rfl) (by rfl))) rfl rfl rfl ?_
    have l57 := r11.lt
    (refine LL.call (R.call rfl rfl rfl) rfl rfl rfl (dpointer_any left n k p _ s _ (hvF _ q) hn h) ?_; rintro e W56 ⟨rfl, b53⟩; refine ⟨_, rfl, ?_⟩; rw [hck])
    have zb53 := b53.size
    replace r11 := r11.up b53
    replace b8 := b8.trans (b53.mono b8.size)
    replace q := q.trans (b53.mono q.size)
    refine LL.val (R.assign rfl rfl) rfl rfl rfl ?_
    refine LL.nilS ?_
    refine CC.seq ?_
    refine CC.region ?_
    refine LL.val (R.move rfl rfl) rfl rfl rfl ?_
    refine LL.val (R.neT rfl rfl rfl (by omega)) rfl rfl rfl ?_
    refine LL.nilS ?_
    refine CC.yes rfl ?_
    refine CC.seq ?_
    refine CC.region ?_
    refine LL.val (R.move rfl rfl) rfl rfl rfl ?_
    refine LL.val (R.assign rfl rfl) rfl rfl rfl ?_
    refine LL.val (R.assign rfl rfl) rfl rfl rfl ?_
    refine LL.nilS ?_
    refine CC.ret ?_
    refine EE.thenR ?_
    refine EE.ret _ rfl rfl ?_
    exact ⟨_, rfl, OwnsT.none _ _ _, q⟩
  rw [if_neg h1] at hck
  rw [if_neg h1]
  have hrow := noRow_not h1
  clear h1
  by_cases h2 : p = 0 ∨ p = left
  · rw [if_pos h2] at hck
    rw [if_pos h2]
    clear h2
    refine X.fn Try.func31 rfl (n := 42) rfl rfl ?_
    refine CC.seq ?_
    refine CC.region ?_
    refine LL.box [Value.int IntKind.u64 ↑k, Value.int IntKind.u64 ↑p] rfl rfl rfl rfl rfl ?_
    intro Wa9 ga10 ega10 ra11 za12 ba8
    replace q := q.trans (ba8.mono q.size)
    refine LL.val (R.assign rfl rfl) rfl rfl rfl ?_
    refine LL.val (R.assign rfl rfl) rfl rfl rfl ?_
    refine LL.nilS ?_
    refine CC.seq ?_
    refine CC.seq ?_
    refine CC.region ?_
    refine LL.val (R.move rfl rfl) rfl rfl rfl ?_
    refine LL.val (R.move rfl rfl) rfl rfl rfl ?_
    refine LL.val (R.load rfl rfl (I.ldNc (vs := [Value.int IntKind.u64 ↑k, Value.int IntKind.u64 ↑p]) (RowL.cells ra11 rfl) (by rfl) (by rfl))) rfl rfl rfl ?_
    have la57 := ra11.lt
    (refine LL.call (R.call rfl rfl rfl) rfl rfl rfl (dpointer_any left n k p _ s _ (hvF _ q) hn h) ?_; rintro e Wa56 ⟨rfl, ba53⟩; refine ⟨_, rfl, ?_⟩; rw [hck])
    have zba53 := ba53.size
    replace ra11 := ra11.up ba53
    replace ba8 := ba8.trans (ba53.mono ba8.size)
    replace q := q.trans (ba53.mono q.size)
    refine LL.val (R.assign rfl rfl) rfl rfl rfl ?_
    refine LL.nilS ?_
    refine CC.seq ?_
    refine CC.region ?_
    refine LL.val (R.move rfl rfl) rfl rfl rfl ?_
    refine LL.val (R.neT rfl rfl rfl (by omega)) rfl rfl rfl ?_
    refine LL.nilS ?_
    refine CC.yes rfl ?_
    refine CC.seq ?_
    refine CC.region ?_
    refine LL.val (R.move rfl rfl) rfl rfl rfl ?_
    refine LL.val (R.assign rfl rfl) rfl rfl rfl ?_
    refine LL.val (R.assign rfl rfl) rfl rfl rfl ?_
    refine LL.nilS ?_
    refine CC.ret ?_
    refine EE.thenR ?_
    refine EE.ret _ rfl rfl ?_
    exact ⟨_, rfl, OwnsT.none _ _ _, q⟩
  rw [if_neg h2] at hck
  rw [if_neg h2]
  clear h2
  by_cases h3 : setP left s
  case neg =>
    rw [if_pos h3] at hck
    rw [if_pos h3]
    clear h3
    refine X.fn Try.func31 rfl (n := 42) rfl rfl ?_
    refine CC.seq ?_
    refine CC.region ?_
    refine LL.box [Value.int IntKind.u64 ↑k, Value.int IntKind.u64 ↑p] rfl rfl rfl rfl rfl ?_
    intro Wb9 gb10 egb10 rb11 zb12 bb8
    replace q := q.trans (bb8.mono q.size)
    refine LL.val (R.assign rfl rfl) rfl rfl rfl ?_
    refine LL.val (R.assign rfl rfl) rfl rfl rfl ?_
    refine LL.nilS ?_
    refine CC.seq ?_
    refine CC.seq ?_
    refine CC.region ?_
    refine LL.val (R.move rfl rfl) rfl rfl rfl ?_
    refine LL.val (R.move rfl rfl) rfl rfl rfl ?_
    refine LL.val (R.load rfl rfl (I.ldNc (vs := [Value.int IntKind.u64 ↑k, Value.int IntKind.u64 ↑p]) (RowL.cells rb11 rfl) (by rfl) (by rfl))) rfl rfl rfl ?_
    have lb57 := rb11.lt
    (refine LL.call (R.call rfl rfl rfl) rfl rfl rfl (dpointer_any left n k p _ s _ (hvF _ q) hn h) ?_; rintro e Wb56 ⟨rfl, bb53⟩; refine ⟨_, rfl, ?_⟩; rw [hck])
    have zbb53 := bb53.size
    replace rb11 := rb11.up bb53
    replace bb8 := bb8.trans (bb53.mono bb8.size)
    replace q := q.trans (bb53.mono q.size)
    refine LL.val (R.assign rfl rfl) rfl rfl rfl ?_
    refine LL.nilS ?_
    refine CC.seq ?_
    refine CC.region ?_
    refine LL.val (R.move rfl rfl) rfl rfl rfl ?_
    refine LL.val (R.neT rfl rfl rfl (by omega)) rfl rfl rfl ?_
    refine LL.nilS ?_
    refine CC.yes rfl ?_
    refine CC.seq ?_
    refine CC.region ?_
    refine LL.val (R.move rfl rfl) rfl rfl rfl ?_
    refine LL.val (R.assign rfl rfl) rfl rfl rfl ?_
    refine LL.val (R.assign rfl rfl) rfl rfl rfl ?_
    refine LL.nilS ?_
    refine CC.ret ?_
    refine EE.thenR ?_
    refine EE.ret _ rfl rfl ?_
    exact ⟨_, rfl, OwnsT.none _ _ _, q⟩
  rw [if_neg (fun h => h h3)] at hck
  rw [if_neg (fun h => h h3)]
  by_cases h4 : ∃ j, j < overN s ∧ ptrN s j = p
  · rw [if_pos h4] at hck
    rw [if_pos h4]
    clear h3 h4
    refine X.fn Try.func31 rfl (n := 42) rfl rfl ?_
    refine CC.seq ?_
    refine CC.region ?_
    refine LL.box [Value.int IntKind.u64 ↑k, Value.int IntKind.u64 ↑p] rfl rfl rfl rfl rfl ?_
    intro Wc9 gc10 egc10 rc11 zc12 bc8
    replace q := q.trans (bc8.mono q.size)
    refine LL.val (R.assign rfl rfl) rfl rfl rfl ?_
    refine LL.val (R.assign rfl rfl) rfl rfl rfl ?_
    refine LL.nilS ?_
    refine CC.seq ?_
    refine CC.seq ?_
    refine CC.region ?_
    refine LL.val (R.move rfl rfl) rfl rfl rfl ?_
    refine LL.val (R.move rfl rfl) rfl rfl rfl ?_
    refine LL.val (R.load rfl rfl (I.ldNc (vs := [Value.int IntKind.u64 ↑k, Value.int IntKind.u64 ↑p]) (RowL.cells rc11 rfl) (by rfl) (by rfl))) rfl rfl rfl ?_
    have lc57 := rc11.lt
    (refine LL.call (R.call rfl rfl rfl) rfl rfl rfl (dpointer_any left n k p _ s _ (hvF _ q) hn h) ?_; rintro e Wc56 ⟨rfl, bc53⟩; refine ⟨_, rfl, ?_⟩; rw [hck])
    have zbc53 := bc53.size
    replace rc11 := rc11.up bc53
    replace bc8 := bc8.trans (bc53.mono bc8.size)
    replace q := q.trans (bc53.mono q.size)
    refine LL.val (R.assign rfl rfl) rfl rfl rfl ?_
    refine LL.nilS ?_
    refine CC.seq ?_
    refine CC.region ?_
    refine LL.val (R.move rfl rfl) rfl rfl rfl ?_
    refine LL.val (R.neT rfl rfl rfl (by omega)) rfl rfl rfl ?_
    refine LL.nilS ?_
    refine CC.yes rfl ?_
    refine CC.seq ?_
    refine CC.region ?_
    refine LL.val (R.move rfl rfl) rfl rfl rfl ?_
    refine LL.val (R.assign rfl rfl) rfl rfl rfl ?_
    refine LL.val (R.assign rfl rfl) rfl rfl rfl ?_
    refine LL.nilS ?_
    refine CC.ret ?_
    refine EE.thenR ?_
    refine EE.ret _ rfl rfl ?_
    exact ⟨_, rfl, OwnsT.none _ _ _, q⟩
  rw [if_neg h4] at hck
  rw [if_neg h4]
  clear h4
  obtain ⟨ps, eps⟩ : ∃ ps, pairP left s = ps := ⟨_, rfl⟩
  have hpl : ps.length ≤ n / 2 := by rw [← eps, ← hn]; unfold pairP; rw [List.length_map]; exact pairS_len left s
  obtain ⟨m, hs⟩ := setP_iff.1 h3
  have hfnd : ∀ i b, fndP ps k i b → i = posN s k ∧ (b = true ↔ ∃ j, j < m ∧ keyN s j = k) := fun i b hf => fnd_set hs (by rw [eps]; exact hf)
  have hpm : ps.length = m := by rw [← eps, hs.pairP, List.length_map, List.length_range]
  have hml := hs.lt
  rw [hn] at hml
  rw [hs.over]
  obtain rfl := hpm
  by_cases hyes : ∃ j, j < ps.length ∧ keyN s j = k
  case neg =>
    have hno := hyes
    clear hyes
    rw [if_neg hno]
    refine X.fn Try.func31 rfl (n := 42) rfl rfl ?_
    refine CC.seq ?_
    refine CC.region ?_
    refine LL.box [Value.int IntKind.u64 ↑k, Value.int IntKind.u64 ↑p] rfl rfl rfl rfl rfl ?_
    intro Wd23 gd24 egd24 rd25 zd26 bd22
    replace q := q.trans (bd22.mono q.size)
    refine LL.val (R.assign rfl rfl) rfl rfl rfl ?_
    refine LL.val (R.assign rfl rfl) rfl rfl rfl ?_
    refine LL.nilS ?_
    refine CC.seq ?_
    refine CC.seq ?_
    refine CC.region ?_
    refine LL.val (R.move rfl rfl) rfl rfl rfl ?_
    refine LL.val (R.move rfl rfl) rfl rfl rfl ?_
    refine LL.val (R.load rfl rfl (I.ldNc (vs := [Value.int IntKind.u64 ↑k, Value.int IntKind.u64 ↑p]) (RowL.cells rd25 rfl) (by rfl) (by rfl))) rfl rfl rfl ?_
    have ld151 := rd25.lt
    (refine LL.call (R.call rfl rfl rfl) rfl rfl rfl (dpointer_any left n k p _ s _ (hvF _ q) hn h) ?_; rintro e Wd150 ⟨rfl, bd147⟩; refine ⟨_, rfl, ?_⟩; rw [hck])
    have zbd147 := bd147.size
    replace rd25 := rd25.up bd147
    replace bd22 := bd22.trans (bd147.mono bd22.size)
    replace q := q.trans (bd147.mono q.size)
    refine LL.val (R.assign rfl rfl) rfl rfl rfl ?_
    refine LL.nilS ?_
    refine CC.seq ?_
    refine CC.region ?_
    refine LL.val (R.move rfl rfl) rfl rfl rfl ?_
    refine LL.val (R.neF rfl rfl rfl (by omega)) rfl rfl rfl ?_
    refine LL.nilS ?_
    refine CC.no rfl ?_
    refine CC.skip ?_
    refine EE.thenN ?_
    refine CC.seq ?_
    refine CC.region ?_
    refine LL.val (R.move rfl rfl) rfl rfl rfl ?_
    refine LL.val (R.move rfl rfl) rfl rfl rfl ?_
    have ld287 := rd25.lt
    (refine LL.call (R.call rfl rfl rfl) rfl rfl rfl (dread_any left a n c s _ (hvF _ q) hn h) ?_; rintro e Wd286 ⟨v1, v2, rfl, o1, o2, hd, bd283⟩; refine ⟨_, rfl, ?_⟩; rw [eps] at o1; obtain ⟨aP, cP, rfl, hcP⟩ := (o1.reads prEnc).form rfl; have hpF : ∀ X, Below (Wd286).heap.size Wd286 X → ReadsT prE 2 X (.slice aP ps.length cP) ps := fun X b => (o1.reads prEnc).up b; have qP := Below.refl (Wd286).heap.size Wd286; clear o1 o2 hd)
    have zbd283 := bd283.size
    replace bd147 := bd147.trans (bd283.mono bd147.size)
    replace rd25 := rd25.up bd283
    replace bd22 := bd22.trans (bd283.mono bd22.size)
    replace q := q.trans (bd283.mono q.size)
    refine LL.val (R.move rfl rfl) rfl rfl rfl ?_
    refine LL.val (R.extract rfl rfl rfl) rfl rfl rfl ?_
    refine LL.val (R.extract rfl rfl rfl) rfl rfl rfl ?_
    refine LL.val (R.assign rfl rfl) rfl rfl rfl ?_
    refine LL.val (R.assign rfl rfl) rfl rfl rfl ?_
    refine LL.nilS ?_
    refine CC.seq ?_
    refine CC.region ?_
    refine LL.val (R.move rfl rfl) rfl rfl rfl ?_
    refine LL.val (R.field rfl rfl (I.fld rfl)) rfl rfl rfl ?_
    refine LL.val (R.load rfl rfl (I.ld1 rfl (RowL.cell rd25 rfl))) rfl rfl rfl ?_
    have ld503 := rd25.lt
    (refine LL.call (R.call rfl rfl rfl) rfl rfl rfl (dfind_any _ ps k _ (hpF _ qP) (by omega)) ?_; rintro e Wd502 ⟨fi, fb, rfl, hfn, bd499⟩; obtain ⟨rfl, hfb⟩ := hfnd fi fb hfn; obtain rfl : fb = false := (by revert hfb; cases fb with | false => exact fun _ => rfl | true => exact fun h => absurd (h.1 rfl) hno); clear hfn hfb; refine ⟨_, rfl, ?_⟩)
    have zbd499 := bd499.size
    replace bd283 := bd283.trans (bd499.mono bd283.size)
    replace qP := qP.trans (bd499.mono qP.size)
    replace bd147 := bd147.trans (bd499.mono bd147.size)
    replace rd25 := rd25.up bd499
    replace bd22 := bd22.trans (bd499.mono bd22.size)
    replace q := q.trans (bd499.mono q.size)
    refine LL.val (R.move rfl rfl) rfl rfl rfl ?_
    refine LL.val (R.extract rfl rfl rfl) rfl rfl rfl ?_
    refine LL.val (R.extract rfl rfl rfl) rfl rfl rfl ?_
    refine LL.val (R.assign rfl rfl) rfl rfl rfl ?_
    refine LL.val (R.assign rfl rfl) rfl rfl rfl ?_
    refine LL.nilS ?_
    refine CC.seq ?_
    refine CC.seq ?_
    refine CC.region ?_
    refine LL.val (R.move rfl rfl) rfl rfl rfl ?_
    refine LL.val (R.not rfl rfl) rfl rfl rfl ?_
    refine LL.nilS ?_
    refine CC.yes rfl ?_
    refine CC.seq ?_
    refine CC.region ?_
    refine LL.val (R.assign rfl rfl) rfl rfl rfl ?_
    refine LL.val (R.assign rfl rfl) rfl rfl rfl ?_
    refine LL.nilS ?_
    refine CC.ret ?_
    refine EE.thenR ?_
    refine EE.ret _ rfl rfl ?_
    exact ⟨_, rfl, OwnsT.none _ _ _, q⟩
  rw [if_pos hyes]
  have hpos : posN s k < ps.length := by obtain ⟨j, hj, hk⟩ := hyes; rw [posN_key hs hj hk]; exact hj
  unfold swapL
  refine X.fn Try.func31 rfl (n := 42) rfl rfl ?_
  refine CC.seq ?_
  refine CC.region ?_
  refine LL.box [Value.int IntKind.u64 ↑k, Value.int IntKind.u64 ↑p] rfl rfl rfl rfl rfl ?_
  intro We23 ge24 ege24 re25 ze26 be22
  replace q := q.trans (be22.mono q.size)
  refine LL.val (R.assign rfl rfl) rfl rfl rfl ?_
  refine LL.val (R.assign rfl rfl) rfl rfl rfl ?_
  refine LL.nilS ?_
  refine CC.seq ?_
  refine CC.seq ?_
  refine CC.region ?_
  refine LL.val (R.move rfl rfl) rfl rfl rfl ?_
  refine LL.val (R.move rfl rfl) rfl rfl rfl ?_
  refine LL.val (R.load rfl rfl (I.ldNc (vs := [Value.int IntKind.u64 ↑k, Value.int IntKind.u64 ↑p]) (RowL.cells re25 rfl) (by rfl) (by rfl))) rfl rfl rfl ?_
  have le151 := re25.lt
  (refine LL.call (R.call rfl rfl rfl) rfl rfl rfl (dpointer_any left n k p _ s _ (hvF _ q) hn h) ?_; rintro e We150 ⟨rfl, be147⟩; refine ⟨_, rfl, ?_⟩; rw [hck])
  have zbe147 := be147.size
  replace re25 := re25.up be147
  replace be22 := be22.trans (be147.mono be22.size)
  replace q := q.trans (be147.mono q.size)
  refine LL.val (R.assign rfl rfl) rfl rfl rfl ?_
  refine LL.nilS ?_
  refine CC.seq ?_
  refine CC.region ?_
  refine LL.val (R.move rfl rfl) rfl rfl rfl ?_
  refine LL.val (R.neF rfl rfl rfl (by omega)) rfl rfl rfl ?_
  refine LL.nilS ?_
  refine CC.no rfl ?_
  refine CC.skip ?_
  refine EE.thenN ?_
  refine CC.seq ?_
  refine CC.region ?_
  refine LL.val (R.move rfl rfl) rfl rfl rfl ?_
  refine LL.val (R.move rfl rfl) rfl rfl rfl ?_
  have le287 := re25.lt
  (refine LL.call (R.call rfl rfl rfl) rfl rfl rfl (dread_any left a n c s _ (hvF _ q) hn h) ?_; rintro e We286 ⟨v1, v2, rfl, o1, o2, hd, be283⟩; refine ⟨_, rfl, ?_⟩; rw [eps] at o1; obtain ⟨aP, cP, rfl, hcP⟩ := (o1.reads prEnc).form rfl; have hpF : ∀ X, Below (We286).heap.size We286 X → ReadsT prE 2 X (.slice aP ps.length cP) ps := fun X b => (o1.reads prEnc).up b; have qP := Below.refl (We286).heap.size We286; clear o1 o2 hd)
  have zbe283 := be283.size
  replace be147 := be147.trans (be283.mono be147.size)
  replace re25 := re25.up be283
  replace be22 := be22.trans (be283.mono be22.size)
  replace q := q.trans (be283.mono q.size)
  refine LL.val (R.move rfl rfl) rfl rfl rfl ?_
  refine LL.val (R.extract rfl rfl rfl) rfl rfl rfl ?_
  refine LL.val (R.extract rfl rfl rfl) rfl rfl rfl ?_
  refine LL.val (R.assign rfl rfl) rfl rfl rfl ?_
  refine LL.val (R.assign rfl rfl) rfl rfl rfl ?_
  refine LL.nilS ?_
  refine CC.seq ?_
  refine CC.region ?_
  refine LL.val (R.move rfl rfl) rfl rfl rfl ?_
  refine LL.val (R.field rfl rfl (I.fld rfl)) rfl rfl rfl ?_
  refine LL.val (R.load rfl rfl (I.ld1 rfl (RowL.cell re25 rfl))) rfl rfl rfl ?_
  have le503 := re25.lt
  (refine LL.call (R.call rfl rfl rfl) rfl rfl rfl (dfind_any _ ps k _ (hpF _ qP) (by omega)) ?_; rintro e We502 ⟨fi, fb, rfl, hfn, be499⟩; obtain ⟨rfl, hfb⟩ := hfnd fi fb hfn; obtain rfl : fb = true := (by revert hfb; cases fb with | false => exact fun h => absurd (h.2 hyes) (by decide) | true => exact fun _ => rfl); clear hfn hfb; refine ⟨_, rfl, ?_⟩)
  have zbe499 := be499.size
  replace be283 := be283.trans (be499.mono be283.size)
  replace qP := qP.trans (be499.mono qP.size)
  replace be147 := be147.trans (be499.mono be147.size)
  replace re25 := re25.up be499
  replace be22 := be22.trans (be499.mono be22.size)
  replace q := q.trans (be499.mono q.size)
  refine LL.val (R.move rfl rfl) rfl rfl rfl ?_
  refine LL.val (R.extract rfl rfl rfl) rfl rfl rfl ?_
  refine LL.val (R.extract rfl rfl rfl) rfl rfl rfl ?_
  refine LL.val (R.assign rfl rfl) rfl rfl rfl ?_
  refine LL.val (R.assign rfl rfl) rfl rfl rfl ?_
  refine LL.nilS ?_
  refine CC.seq ?_
  refine CC.seq ?_
  refine CC.region ?_
  refine LL.val (R.move rfl rfl) rfl rfl rfl ?_
  refine LL.val (R.not rfl rfl) rfl rfl rfl ?_
  refine LL.nilS ?_
  refine CC.no rfl ?_
  refine CC.skip ?_
  refine EE.thenN ?_
  refine CC.seq ?_
  refine CC.region ?_
  refine LL.val (R.move rfl rfl) rfl rfl rfl ?_
  refine LL.val (R.mulcN rfl rfl rfl rfl (by omega)) rfl rfl rfl ?_
  refine LL.val (R.addNc rfl rfl rfl rfl (by omega)) rfl rfl rfl ?_
  refine LL.val (R.field rfl rfl (I.fld rfl)) rfl rfl rfl ?_
  refine LL.val (R.load rfl rfl (I.ld1 rfl (RowL.cell re25 rfl))) rfl rfl rfl ?_
  refine LL.val (R.buildV rfl rfl (v := .agg #[Value.int IntKind.i64 ↑(2 * posN s k + 1), Value.int IntKind.u64 ↑p]) (fun _ => by kernel_rfl)) rfl rfl rfl ?_
  have le843 := re25.lt
  refine LL.lit (e := 99) [Value.int IntKind.i64 ↑(2 * posN s k + 1), Value.int IntKind.u64 ↑p] 1 rfl rfl (fun _ => by kernel_rfl) rfl rfl ?_
  intro We845 ge846 ege846 re847 ze848 be844
  replace be499 := be499.trans (be844.mono be499.size)
  replace be283 := be283.trans (be844.mono be283.size)
  replace qP := qP.trans (be844.mono qP.size)
  replace be147 := be147.trans (be844.mono be147.size)
  replace re25 := re25.up be844
  replace be22 := be22.trans (be844.mono be22.size)
  replace q := q.trans (be844.mono q.size)
  refine LL.val (R.assign rfl rfl) rfl rfl rfl ?_
  refine LL.val (R.assign rfl rfl) rfl rfl rfl ?_
  refine LL.nilS ?_
  refine CC.ret ?_
  refine EE.ret _ rfl rfl ?_
  exact ⟨_, rfl, RowL.ownsT (base := w.heap.size) pEnc (ts := [(((2 * posN s k + 1 : Nat) : Int), p)]) (by assumption) (by first | omega) (by first | simp [maxLen]), q⟩
end Go.Proofs.Ytloflmkolnediaa

/- slots: the document's Put (gen24.py writes this). -/
namespace Go.Proofs.Ytloflmkolnediaa
set_option linter.unusedVariables false
set_option linter.unusedSimpArgs false
open Go.RowKit Go.Shelf
theorem exposeP {W : World} {v : Value} {ps : List Pr} (h : ReadsT prE 2 W v ps) : ∃ X0 : World, W.heap.size ≤ X0.heap.size ∧ (∀ X, Below X0.heap.size X0 X → ReadsT prE 2 X v ps) ∧ Below X0.heap.size X0 W := ⟨W, Nat.le_refl _, fun X b => h.up b, Below.refl _ _⟩
set_option maxRecDepth 100000
set_option maxHeartbeats 4000000
theorem dput_any (left n k p : Nat) (v : Value) (s : List Nat) (w : World) (hv : ReadsT uE 1 w v s) (hn : s.length = n) (h : n ≤ 1048576) : Calls Try.prog 29 #[.int .u64 (left : Int), v, .agg #[.int .u64 (k : Int), .int .u64 (p : Int)]] w (chQ (putF left s k p) w) := by
  have q := Below.refl w.heap.size w
  obtain ⟨a, c, rfl, hc⟩ := hv.form hn
  have hvF : ∀ X, Below w.heap.size w X → ReadsT uE 1 X (.slice a n c) s := fun X b => hv.up b
  clear hv
  have hck := Eq.refl (ptrF left s p)
  conv at hck => { rhs; unfold ptrF; rw [hn] }
  unfold putF
  rw [hn]
  refine X.fn Try.func29 rfl (n := 108) rfl rfl ?_
  refine CC.seq ?_
  refine CC.region ?_
  refine LL.box [Value.int IntKind.u64 ↑k, Value.int IntKind.u64 ↑p] rfl rfl rfl rfl rfl ?_
  intro W2 g3 eg3 r4 z5 b1
  replace q := q.trans (b1.mono q.size)
  refine LL.val (R.assign rfl rfl) rfl rfl rfl ?_
  refine LL.val (R.assign rfl rfl) rfl rfl rfl ?_
  refine LL.nilS ?_
  refine CC.seq ?_
  refine CC.seq ?_
  refine CC.region ?_
  refine LL.val (R.move rfl rfl) rfl rfl rfl ?_
  refine LL.val (R.move rfl rfl) rfl rfl rfl ?_
  refine LL.val (R.load rfl rfl (I.ldNc (vs := [Value.int IntKind.u64 ↑k, Value.int IntKind.u64 ↑p]) (RowL.cells r4 rfl) (by rfl) (by rfl))) rfl rfl rfl ?_
  have rp := r4
  clear r4
  by_cases h1 : noRow left n
  · rw [if_pos h1] at hck
    rw [if_pos h1]
    clear h1
    have la5 := rp.lt
    (refine LL.call (R.call rfl rfl rfl) rfl rfl rfl (dpointer_any left n k p _ s _ (hvF _ q) hn h) ?_; rintro e Wa4 ⟨rfl, ba1⟩; refine ⟨_, rfl, ?_⟩; rw [hck])
    have zba1 := ba1.size
    replace b1 := b1.trans (ba1.mono b1.size)
    replace q := q.trans (ba1.mono q.size)
    replace rp := rp.up ba1
    refine LL.val (R.assign rfl rfl) rfl rfl rfl ?_
    refine LL.nilS ?_
    refine CC.seq ?_
    refine CC.region ?_
    refine LL.val (R.move rfl rfl) rfl rfl rfl ?_
    refine LL.val (R.neT rfl rfl rfl (by omega)) rfl rfl rfl ?_
    refine LL.nilS ?_
    refine CC.yes rfl ?_
    refine CC.seq ?_
    refine CC.region ?_
    refine LL.val (R.move rfl rfl) rfl rfl rfl ?_
    refine LL.val (R.assign rfl rfl) rfl rfl rfl ?_
    refine LL.val (R.assign rfl rfl) rfl rfl rfl ?_
    refine LL.nilS ?_
    refine CC.ret ?_
    refine EE.thenR ?_
    refine EE.ret _ rfl rfl ?_
    exact ⟨_, rfl, OwnsT.none _ _ _, q⟩
  rw [if_neg h1] at hck
  rw [if_neg h1]
  have hrow := noRow_not h1
  clear h1
  by_cases h2 : p = 0 ∨ p = left
  · rw [if_pos h2] at hck
    rw [if_pos h2]
    clear h2
    have lb5 := rp.lt
    (refine LL.call (R.call rfl rfl rfl) rfl rfl rfl (dpointer_any left n k p _ s _ (hvF _ q) hn h) ?_; rintro e Wb4 ⟨rfl, bb1⟩; refine ⟨_, rfl, ?_⟩; rw [hck])
    have zbb1 := bb1.size
    replace b1 := b1.trans (bb1.mono b1.size)
    replace q := q.trans (bb1.mono q.size)
    replace rp := rp.up bb1
    refine LL.val (R.assign rfl rfl) rfl rfl rfl ?_
    refine LL.nilS ?_
    refine CC.seq ?_
    refine CC.region ?_
    refine LL.val (R.move rfl rfl) rfl rfl rfl ?_
    refine LL.val (R.neT rfl rfl rfl (by omega)) rfl rfl rfl ?_
    refine LL.nilS ?_
    refine CC.yes rfl ?_
    refine CC.seq ?_
    refine CC.region ?_
    refine LL.val (R.move rfl rfl) rfl rfl rfl ?_
    refine LL.val (R.assign rfl rfl) rfl rfl rfl ?_
    refine LL.val (R.assign rfl rfl) rfl rfl rfl ?_
    refine LL.nilS ?_
    refine CC.ret ?_
    refine EE.thenR ?_
    refine EE.ret _ rfl rfl ?_
    exact ⟨_, rfl, OwnsT.none _ _ _, q⟩
  rw [if_neg h2] at hck
  rw [if_neg h2]
  clear h2
  by_cases h3 : setP left s
  case neg =>
    rw [if_pos h3] at hck
    rw [if_pos h3]
    clear h3
    have lc5 := rp.lt
    (refine LL.call (R.call rfl rfl rfl) rfl rfl rfl (dpointer_any left n k p _ s _ (hvF _ q) hn h) ?_; rintro e Wc4 ⟨rfl, bc1⟩; refine ⟨_, rfl, ?_⟩; rw [hck])
    have zbc1 := bc1.size
    replace b1 := b1.trans (bc1.mono b1.size)
    replace q := q.trans (bc1.mono q.size)
    replace rp := rp.up bc1
    refine LL.val (R.assign rfl rfl) rfl rfl rfl ?_
    refine LL.nilS ?_
    refine CC.seq ?_
    refine CC.region ?_
    refine LL.val (R.move rfl rfl) rfl rfl rfl ?_
    refine LL.val (R.neT rfl rfl rfl (by omega)) rfl rfl rfl ?_
    refine LL.nilS ?_
    refine CC.yes rfl ?_
    refine CC.seq ?_
    refine CC.region ?_
    refine LL.val (R.move rfl rfl) rfl rfl rfl ?_
    refine LL.val (R.assign rfl rfl) rfl rfl rfl ?_
    refine LL.val (R.assign rfl rfl) rfl rfl rfl ?_
    refine LL.nilS ?_
    refine CC.ret ?_
    refine EE.thenR ?_
    refine EE.ret _ rfl rfl ?_
    exact ⟨_, rfl, OwnsT.none _ _ _, q⟩
  rw [if_neg (fun h => h h3)] at hck
  rw [if_neg (fun h => h h3)]
  by_cases h4 : ∃ j, j < overN s ∧ ptrN s j = p
  · rw [if_pos h4] at hck
    rw [if_pos h4]
    clear h3 h4
    have ld5 := rp.lt
    (refine LL.call (R.call rfl rfl rfl) rfl rfl rfl (dpointer_any left n k p _ s _ (hvF _ q) hn h) ?_; rintro e Wd4 ⟨rfl, bd1⟩; refine ⟨_, rfl, ?_⟩; rw [hck])
    have zbd1 := bd1.size
    replace b1 := b1.trans (bd1.mono b1.size)
    replace q := q.trans (bd1.mono q.size)
    replace rp := rp.up bd1
    refine LL.val (R.assign rfl rfl) rfl rfl rfl ?_
    refine LL.nilS ?_
    refine CC.seq ?_
    refine CC.region ?_
    refine LL.val (R.move rfl rfl) rfl rfl rfl ?_
    refine LL.val (R.neT rfl rfl rfl (by omega)) rfl rfl rfl ?_
    refine LL.nilS ?_
    refine CC.yes rfl ?_
    refine CC.seq ?_
    refine CC.region ?_
    refine LL.val (R.move rfl rfl) rfl rfl rfl ?_
    refine LL.val (R.assign rfl rfl) rfl rfl rfl ?_
    refine LL.val (R.assign rfl rfl) rfl rfl rfl ?_
    refine LL.nilS ?_
    refine CC.ret ?_
    refine EE.thenR ?_
    refine EE.ret _ rfl rfl ?_
    exact ⟨_, rfl, OwnsT.none _ _ _, q⟩
  rw [if_neg h4] at hck
  rw [if_neg h4]
  clear h4
  obtain ⟨ps, eps⟩ : ∃ ps, pairP left s = ps := ⟨_, rfl⟩
  have hpl : ps.length ≤ n / 2 := by rw [← eps, ← hn]; unfold pairP; rw [List.length_map]; exact pairS_len left s
  obtain ⟨m, hs⟩ := setP_iff.1 h3
  have hfnd : ∀ i b, fndP ps k i b → i = posN s k ∧ (b = true ↔ ∃ j, j < m ∧ keyN s j = k) := fun i b hf => fnd_set hs (by rw [eps]; exact hf)
  have hpm : ps.length = m := by rw [← eps, hs.pairP, List.length_map, List.length_range]
  have hml := hs.lt
  rw [hn] at hml
  rw [hs.over]
  obtain rfl := hpm
  by_cases hyes : ∃ j, j < ps.length ∧ keyN s j = k
  · rw [if_pos hyes]
    have le5 := rp.lt
    (refine LL.call (R.call rfl rfl rfl) rfl rfl rfl (dpointer_any left n k p _ s _ (hvF _ q) hn h) ?_; rintro e We4 ⟨rfl, be1⟩; refine ⟨_, rfl, ?_⟩; rw [hck])
    have zbe1 := be1.size
    replace b1 := b1.trans (be1.mono b1.size)
    replace q := q.trans (be1.mono q.size)
    replace rp := rp.up be1
    refine LL.val (R.assign rfl rfl) rfl rfl rfl ?_
    refine LL.nilS ?_
    refine CC.seq ?_
    refine CC.region ?_
    refine LL.val (R.move rfl rfl) rfl rfl rfl ?_
    refine LL.val (R.neF rfl rfl rfl (by omega)) rfl rfl rfl ?_
    refine LL.nilS ?_
    refine CC.no rfl ?_
    refine CC.skip ?_
    refine EE.thenN ?_
    refine CC.seq ?_
    refine CC.region ?_
    refine LL.val (R.move rfl rfl) rfl rfl rfl ?_
    refine LL.val (R.move rfl rfl) rfl rfl rfl ?_
    have le141 := rp.lt
    (refine LL.call (R.call rfl rfl rfl) rfl rfl rfl (dread_any left a n c s _ (hvF _ q) hn h) ?_; rintro e We140 ⟨v1, v2, rfl, o1, o2, hd, be137⟩; refine ⟨_, rfl, ?_⟩; rw [eps] at o1; obtain ⟨aP, cP, rfl, hcP⟩ := (o1.reads prEnc).form rfl; have hpF : ∀ X, Below (We140).heap.size We140 X → ReadsT prE 2 X (.slice aP ps.length cP) ps := fun X b => (o1.reads prEnc).up b; have qP := Below.refl (We140).heap.size We140; clear o1 o2 hd)
    have zbe137 := be137.size
    replace be1 := be1.trans (be137.mono be1.size)
    replace b1 := b1.trans (be137.mono b1.size)
    replace q := q.trans (be137.mono q.size)
    replace rp := rp.up be137
    refine LL.val (R.move rfl rfl) rfl rfl rfl ?_
    refine LL.val (R.extract rfl rfl rfl) rfl rfl rfl ?_
    refine LL.val (R.extract rfl rfl rfl) rfl rfl rfl ?_
    refine LL.val (R.assign rfl rfl) rfl rfl rfl ?_
    refine LL.val (R.assign rfl rfl) rfl rfl rfl ?_
    refine LL.nilS ?_
    refine CC.seq ?_
    refine CC.region ?_
    refine LL.val (R.move rfl rfl) rfl rfl rfl ?_
    refine LL.val (R.field rfl rfl (I.fld rfl)) rfl rfl rfl ?_
    refine LL.val (R.load rfl rfl (I.ld1 rfl (RowL.cell rp rfl))) rfl rfl rfl ?_
    have le357 := rp.lt
    (refine LL.call (R.call rfl rfl rfl) rfl rfl rfl (dfind_any _ ps k _ (hpF _ qP) (by omega)) ?_; rintro e We356 ⟨fi, fb, rfl, hfn, be353⟩; obtain ⟨rfl, hfb⟩ := hfnd fi fb hfn; obtain rfl : fb = true := (by revert hfb; cases fb with | false => exact fun h => absurd (h.2 hyes) (by decide) | true => exact fun _ => rfl); clear hfn hfb; refine ⟨_, rfl, ?_⟩)
    have zbe353 := be353.size
    replace be137 := be137.trans (be353.mono be137.size)
    replace qP := qP.trans (be353.mono qP.size)
    replace be1 := be1.trans (be353.mono be1.size)
    replace b1 := b1.trans (be353.mono b1.size)
    replace q := q.trans (be353.mono q.size)
    replace rp := rp.up be353
    refine LL.val (R.move rfl rfl) rfl rfl rfl ?_
    refine LL.val (R.extract rfl rfl rfl) rfl rfl rfl ?_
    refine LL.val (R.extract rfl rfl rfl) rfl rfl rfl ?_
    refine LL.val (R.assign rfl rfl) rfl rfl rfl ?_
    refine LL.val (R.assign rfl rfl) rfl rfl rfl ?_
    refine LL.nilS ?_
    refine CC.seq ?_
    refine CC.region ?_
    refine LL.val (R.move rfl rfl) rfl rfl rfl ?_
    refine LL.val (R.len rfl rfl rfl rfl) rfl rfl rfl ?_
    refine LL.val (R.assign rfl rfl) rfl rfl rfl ?_
    refine LL.nilS ?_
    refine CC.seq ?_
    refine CC.seq ?_
    refine CC.region ?_
    refine LL.val (R.move rfl rfl) rfl rfl rfl ?_
    refine LL.nilS ?_
    refine CC.yes rfl ?_
    refine CC.seq ?_
    refine CC.region ?_
    refine LL.val (R.assign rfl rfl) rfl rfl rfl ?_
    refine LL.val (R.assign rfl rfl) rfl rfl rfl ?_
    refine LL.nilS ?_
    refine CC.ret ?_
    refine EE.thenR ?_
    refine EE.ret _ rfl rfl ?_
    exact ⟨_, rfl, OwnsT.none _ _ _, q⟩
  have hno := hyes
  clear hyes
  rw [if_neg hno]
  by_cases hful : ps.length + 1 = n / 2
  · rw [if_pos hful]
    have lf5 := rp.lt
    (refine LL.call (R.call rfl rfl rfl) rfl rfl rfl (dpointer_any left n k p _ s _ (hvF _ q) hn h) ?_; rintro e Wf4 ⟨rfl, bf1⟩; refine ⟨_, rfl, ?_⟩; rw [hck])
    have zbf1 := bf1.size
    replace b1 := b1.trans (bf1.mono b1.size)
    replace q := q.trans (bf1.mono q.size)
    replace rp := rp.up bf1
    refine LL.val (R.assign rfl rfl) rfl rfl rfl ?_
    refine LL.nilS ?_
    refine CC.seq ?_
    refine CC.region ?_
    refine LL.val (R.move rfl rfl) rfl rfl rfl ?_
    refine LL.val (R.neF rfl rfl rfl (by omega)) rfl rfl rfl ?_
    refine LL.nilS ?_
    refine CC.no rfl ?_
    refine CC.skip ?_
    refine EE.thenN ?_
    refine CC.seq ?_
    refine CC.region ?_
    refine LL.val (R.move rfl rfl) rfl rfl rfl ?_
    refine LL.val (R.move rfl rfl) rfl rfl rfl ?_
    have lf141 := rp.lt
    (refine LL.call (R.call rfl rfl rfl) rfl rfl rfl (dread_any left a n c s _ (hvF _ q) hn h) ?_; rintro e Wf140 ⟨v1, v2, rfl, o1, o2, hd, bf137⟩; refine ⟨_, rfl, ?_⟩; rw [eps] at o1; obtain ⟨aP, cP, rfl, hcP⟩ := (o1.reads prEnc).form rfl; have hpF : ∀ X, Below (Wf140).heap.size Wf140 X → ReadsT prE 2 X (.slice aP ps.length cP) ps := fun X b => (o1.reads prEnc).up b; have qP := Below.refl (Wf140).heap.size Wf140; clear o1 o2 hd)
    have zbf137 := bf137.size
    replace bf1 := bf1.trans (bf137.mono bf1.size)
    replace b1 := b1.trans (bf137.mono b1.size)
    replace q := q.trans (bf137.mono q.size)
    replace rp := rp.up bf137
    refine LL.val (R.move rfl rfl) rfl rfl rfl ?_
    refine LL.val (R.extract rfl rfl rfl) rfl rfl rfl ?_
    refine LL.val (R.extract rfl rfl rfl) rfl rfl rfl ?_
    refine LL.val (R.assign rfl rfl) rfl rfl rfl ?_
    refine LL.val (R.assign rfl rfl) rfl rfl rfl ?_
    refine LL.nilS ?_
    refine CC.seq ?_
    refine CC.region ?_
    refine LL.val (R.move rfl rfl) rfl rfl rfl ?_
    refine LL.val (R.field rfl rfl (I.fld rfl)) rfl rfl rfl ?_
    refine LL.val (R.load rfl rfl (I.ld1 rfl (RowL.cell rp rfl))) rfl rfl rfl ?_
    have lf357 := rp.lt
    (refine LL.call (R.call rfl rfl rfl) rfl rfl rfl (dfind_any _ ps k _ (hpF _ qP) (by omega)) ?_; rintro e Wf356 ⟨fi, fb, rfl, hfn, bf353⟩; obtain ⟨rfl, hfb⟩ := hfnd fi fb hfn; obtain rfl : fb = false := (by revert hfb; cases fb with | false => exact fun _ => rfl | true => exact fun h => absurd (h.1 rfl) hno); clear hfn hfb; refine ⟨_, rfl, ?_⟩)
    have zbf353 := bf353.size
    replace bf137 := bf137.trans (bf353.mono bf137.size)
    replace qP := qP.trans (bf353.mono qP.size)
    replace bf1 := bf1.trans (bf353.mono bf1.size)
    replace b1 := b1.trans (bf353.mono b1.size)
    replace q := q.trans (bf353.mono q.size)
    replace rp := rp.up bf353
    refine LL.val (R.move rfl rfl) rfl rfl rfl ?_
    refine LL.val (R.extract rfl rfl rfl) rfl rfl rfl ?_
    refine LL.val (R.extract rfl rfl rfl) rfl rfl rfl ?_
    refine LL.val (R.assign rfl rfl) rfl rfl rfl ?_
    refine LL.val (R.assign rfl rfl) rfl rfl rfl ?_
    refine LL.nilS ?_
    refine CC.seq ?_
    refine CC.region ?_
    refine LL.val (R.move rfl rfl) rfl rfl rfl ?_
    refine LL.val (R.len rfl rfl rfl rfl) rfl rfl rfl ?_
    refine LL.val (R.assign rfl rfl) rfl rfl rfl ?_
    refine LL.nilS ?_
    refine CC.seq ?_
    refine CC.seq ?_
    refine CC.region ?_
    refine LL.val (R.move rfl rfl) rfl rfl rfl ?_
    refine LL.nilS ?_
    refine CC.no rfl ?_
    refine CC.skip ?_
    refine EE.thenN ?_
    refine CC.seq ?_
    refine CC.seq ?_
    refine CC.region ?_
    refine LL.val (R.move rfl rfl) rfl rfl rfl ?_
    refine LL.val (R.addNc rfl rfl rfl rfl (by omega)) rfl rfl rfl ?_
    refine LL.val (R.move rfl rfl) rfl rfl rfl ?_
    refine LL.val (R.len rfl rfl rfl rfl) rfl rfl rfl ?_
    refine LL.val (R.quoNc rfl rfl rfl rfl (by omega) (by omega)) rfl rfl rfl ?_
    refine LL.val (R.geT rfl rfl rfl (by omega)) rfl rfl rfl ?_
    refine LL.nilS ?_
    refine CC.yes rfl ?_
    refine CC.seq ?_
    refine CC.region ?_
    refine LL.val (R.assign rfl rfl) rfl rfl rfl ?_
    refine LL.val (R.assign rfl rfl) rfl rfl rfl ?_
    refine LL.nilS ?_
    refine CC.ret ?_
    refine EE.thenR ?_
    refine EE.ret _ rfl rfl ?_
    exact ⟨_, rfl, OwnsT.none _ _ _, q⟩
  rw [if_neg hful]
  have hpos : posN s k ≤ ps.length := by have := (posN_spec s k).1; rw [hs.over] at this; exact this
  have lg5 := rp.lt
  (refine LL.call (R.call rfl rfl rfl) rfl rfl rfl (dpointer_any left n k p _ s _ (hvF _ q) hn h) ?_; rintro e Wg4 ⟨rfl, bg1⟩; refine ⟨_, rfl, ?_⟩; rw [hck])
  have zbg1 := bg1.size
  replace b1 := b1.trans (bg1.mono b1.size)
  replace q := q.trans (bg1.mono q.size)
  replace rp := rp.up bg1
  refine LL.val (R.assign rfl rfl) rfl rfl rfl ?_
  refine LL.nilS ?_
  refine CC.seq ?_
  refine CC.region ?_
  refine LL.val (R.move rfl rfl) rfl rfl rfl ?_
  refine LL.val (R.neF rfl rfl rfl (by omega)) rfl rfl rfl ?_
  refine LL.nilS ?_
  refine CC.no rfl ?_
  refine CC.skip ?_
  refine EE.thenN ?_
  refine CC.seq ?_
  refine CC.region ?_
  refine LL.val (R.move rfl rfl) rfl rfl rfl ?_
  refine LL.val (R.move rfl rfl) rfl rfl rfl ?_
  have lg141 := rp.lt
  (refine LL.call (R.call rfl rfl rfl) rfl rfl rfl (dread_any left a n c s _ (hvF _ q) hn h) ?_; rintro e Wg140 ⟨v1, v2, rfl, o1, o2, hd, bg137⟩; refine ⟨_, rfl, ?_⟩; rw [eps] at o1; obtain ⟨aP, cP, rfl, hcP⟩ := (o1.reads prEnc).form rfl; obtain ⟨X0, hzX, hpF, qP⟩ := exposeP (o1.reads prEnc); have zX := Nat.le_trans q.size (Nat.le_trans (bg137).size hzX); clear o1 o2 hd)
  have zbg137 := bg137.size
  replace bg1 := bg1.trans (bg137.mono bg1.size)
  replace b1 := b1.trans (bg137.mono b1.size)
  replace q := q.trans (bg137.mono q.size)
  replace rp := rp.up bg137
  refine LL.val (R.move rfl rfl) rfl rfl rfl ?_
  refine LL.val (R.extract rfl rfl rfl) rfl rfl rfl ?_
  refine LL.val (R.extract rfl rfl rfl) rfl rfl rfl ?_
  refine LL.val (R.assign rfl rfl) rfl rfl rfl ?_
  refine LL.val (R.assign rfl rfl) rfl rfl rfl ?_
  refine LL.nilS ?_
  refine CC.seq ?_
  refine CC.region ?_
  refine LL.val (R.move rfl rfl) rfl rfl rfl ?_
  refine LL.val (R.field rfl rfl (I.fld rfl)) rfl rfl rfl ?_
  refine LL.val (R.load rfl rfl (I.ld1 rfl (RowL.cell rp rfl))) rfl rfl rfl ?_
  have lg357 := rp.lt
  (refine LL.call (R.call rfl rfl rfl) rfl rfl rfl (dfind_any _ ps k _ (hpF _ qP) (by omega)) ?_; rintro e Wg356 ⟨fi, fb, rfl, hfn, bg353⟩; obtain ⟨rfl, hfb⟩ := hfnd fi fb hfn; obtain rfl : fb = false := (by revert hfb; cases fb with | false => exact fun _ => rfl | true => exact fun h => absurd (h.1 rfl) hno); clear hfn hfb; refine ⟨_, rfl, ?_⟩)
  have zbg353 := bg353.size
  replace bg137 := bg137.trans (bg353.mono bg137.size)
  replace qP := qP.trans (bg353.mono qP.size)
  replace bg1 := bg1.trans (bg353.mono bg1.size)
  replace b1 := b1.trans (bg353.mono b1.size)
  replace q := q.trans (bg353.mono q.size)
  replace rp := rp.up bg353
  refine LL.val (R.move rfl rfl) rfl rfl rfl ?_
  refine LL.val (R.extract rfl rfl rfl) rfl rfl rfl ?_
  refine LL.val (R.extract rfl rfl rfl) rfl rfl rfl ?_
  refine LL.val (R.assign rfl rfl) rfl rfl rfl ?_
  refine LL.val (R.assign rfl rfl) rfl rfl rfl ?_
  refine LL.nilS ?_
  refine CC.seq ?_
  refine CC.region ?_
  refine LL.val (R.move rfl rfl) rfl rfl rfl ?_
  refine LL.val (R.len rfl rfl rfl rfl) rfl rfl rfl ?_
  refine LL.val (R.assign rfl rfl) rfl rfl rfl ?_
  refine LL.nilS ?_
  refine CC.seq ?_
  refine CC.seq ?_
  refine CC.region ?_
  refine LL.val (R.move rfl rfl) rfl rfl rfl ?_
  refine LL.nilS ?_
  refine CC.no rfl ?_
  refine CC.skip ?_
  refine EE.thenN ?_
  refine CC.seq ?_
  refine CC.seq ?_
  refine CC.region ?_
  refine LL.val (R.move rfl rfl) rfl rfl rfl ?_
  refine LL.val (R.addNc rfl rfl rfl rfl (by omega)) rfl rfl rfl ?_
  refine LL.val (R.move rfl rfl) rfl rfl rfl ?_
  refine LL.val (R.len rfl rfl rfl rfl) rfl rfl rfl ?_
  refine LL.val (R.quoNc rfl rfl rfl rfl (by omega) (by omega)) rfl rfl rfl ?_
  refine LL.val (R.geF rfl rfl rfl (by omega)) rfl rfl rfl ?_
  refine LL.nilS ?_
  refine CC.no rfl ?_
  refine CC.skip ?_
  refine EE.thenN ?_
  refine CC.seq ?_
  refine CC.region ?_
  refine LL.val (R.assign rfl rfl) rfl rfl rfl ?_
  refine LL.nilS ?_
  refine CC.seq ?_
  refine CC.seq ?_
  refine CC.region ?_
  refine LL.val (R.move rfl rfl) rfl rfl rfl ?_
  refine LL.val (R.addNc rfl rfl rfl rfl (by omega)) rfl rfl rfl ?_
  refine LL.val (R.move rfl rfl) rfl rfl rfl ?_
  refine LL.val (R.len rfl rfl rfl rfl) rfl rfl rfl ?_
  refine LL.val (R.quoNc rfl rfl rfl rfl (by omega) (by omega)) rfl rfl rfl ?_
  refine LL.val (R.ltT rfl rfl rfl (by omega)) rfl rfl rfl ?_
  refine LL.nilS ?_
  refine CC.yes rfl ?_
  refine CC.region ?_
  refine LL.val (R.move rfl rfl) rfl rfl rfl ?_
  refine LL.val (R.move rfl rfl) rfl rfl rfl ?_
  refine LL.val (R.mulcN rfl rfl rfl rfl (by omega)) rfl rfl rfl ?_
  refine LL.val (R.addNc rfl rfl rfl rfl (by omega)) rfl rfl rfl ?_
  refine LL.val (R.buildV rfl rfl (v := .agg #[Value.int IntKind.i64 ↑(2 * ps.length + 3), Value.int IntKind.u64 0]) (fun _ => by kernel_rfl)) rfl rfl rfl ?_
  have lg1033 := rp.lt
  refine LL.lit (e := 99) [Value.int IntKind.i64 ↑(2 * ps.length + 3), Value.int IntKind.u64 0] 1 rfl rfl (fun _ => by kernel_rfl) rfl rfl ?_
  intro Wg1035 gg1036 egg1036 rg1037 zg1038 bg1034
  replace bg353 := bg353.trans (bg1034.mono bg353.size)
  replace bg137 := bg137.trans (bg1034.mono bg137.size)
  replace qP := qP.trans (bg1034.mono qP.size)
  replace bg1 := bg1.trans (bg1034.mono bg1.size)
  replace b1 := b1.trans (bg1034.mono b1.size)
  replace q := q.trans (bg1034.mono q.size)
  replace rp := rp.up bg1034
  (refine LL.appendT2 rfl rfl pEnc ElPut (OwnsT.none _ X0.heap.size _) (us := [(((2 * ps.length + 3 : Nat) : Int), 0)]) (RowL.readsT pEnc (ts := [(((2 * ps.length + 3 : Nat) : Int), 0)]) (by assumption) 1 (by simp)) (by simp [maxLen]) (by simp) (by have := qP.size; omega) rfl rfl ?_; intro v' Wa oa gra hva; replace q := q.grown gra q.size (fun g hg => by cases hg); replace qP := qP.grown gra qP.size (fun g hg => by cases hg); replace rp := rp.grO gra (fun e => by cases e); have hsz := gra.size; clear hva gra; have o1 := oa; clear oa)
  refine LL.val (R.assign rfl rfl) rfl rfl rfl ?_
  refine LL.nilS ?_
  refine CC.seq ?_
  refine CC.seq ?_
  refine CC.region ?_
  refine LL.val (R.move rfl rfl) rfl rfl rfl ?_
  refine LL.val (R.subI rfl rfl rfl (by omega)) rfl rfl rfl ?_
  refine LL.val (R.assign rfl rfl) rfl rfl rfl ?_
  refine LL.nilS ?_
  refine CC.block ?_
  have hpA : [] ++ [(((2 * ps.length + 3 : Nat) : Int), 0)] = putA s ps.length 0 := by unfold putA upK; rw [List.append_nil, List.nil_append]; rfl
  rw [hpA] at o1
  have yq := q.size
  clear hfnd hck hno hpA
  refine CC.loop (α := Nat × Value × Int) (fun x => [(0, .int .u64 (left : Int)), (1, .slice a n c), (5, .pointer (some ⟨g3, 0, none⟩)), (9, .slice aP ps.length cP), (11, .int .i64 (posN s k : Int)), (14, x.2.1), (15, .int .i64 x.2.2)])
    (fun x W => x.1 ≤ ps.length - posN s k ∧ x.2.2 = ((ps.length - x.1 : Nat) : Int) - 1 ∧ Below w.heap.size w W ∧ Below X0.heap.size X0 W ∧ RowL W g3 70 [.int .u64 (k : Int), .int .u64 (p : Int)] ∧ g3 < X0.heap.size ∧ OwnsT pE 2 W X0.heap.size 99 x.2.1 (putA s ps.length x.1)) (fun x => ps.length - x.1)
    (0, _, _) ⟨rfl, rfl, rfl, rfl, rfl, rfl, rfl, trivial⟩ ⟨Nat.zero_le _, by dsimp only; omega, q, qP, rp, by omega, o1⟩ ?_
  clear q qP rp o1
  rintro ⟨t, vo, z⟩ W ⟨ht, hz, q, qP, rp, hg3, o1⟩
  simp only at ht hz o1
  have yq := q.size
  have yp := qP.size
  show CC none Try.prog _ 108 [] (sl [(0, .int .u64 (left : Int)), (1, .slice a n c), (5, .pointer (some ⟨g3, 0, none⟩)), (9, .slice aP ps.length cP), (11, .int .i64 (posN s k : Int)), (14, vo), (15, .int .i64 z)]) _ W
  have hl1 : (putA s ps.length t).length ≤ 200 := by unfold putA; rw [List.length_append, upK_len]; simp; omega
  by_cases hlt2 : t < ps.length - posN s k
  case pos =>
    obtain ⟨i, hi⟩ : ∃ i, i + 1 = ps.length - t := ⟨ps.length - t - 1, by omega⟩
    obtain rfl : z = (i : Int) := by omega
    have hx : ps[i]? = some (prA s i) := by rw [← eps, hs.pairP]; exact range_map_get (by omega)
    obtain ⟨b1, o1', rfl, _, _⟩ := (hpF _ qP).get prEnc hx
    have c1 : W.cell? ⟨b1, o1' + i * 2, none⟩ = some (.int .u64 (keyN s i : Int)) := ((hpF W qP).elemN prEnc hx).cell (j := 0) rfl
    have c2 : W.cell? ⟨b1, o1' + i * 2 + 1, none⟩ = some (.int .u64 (ptrN s i : Int)) := ((hpF W qP).elemN prEnc hx).cell (j := 1) rfl
    have e : putA s ps.length (t + 1) = putA s ps.length t ++ [(((2 * i + 3 : Nat) : Int), ptrN s i), (((2 * i + 2 : Nat) : Int), keyN s i)] := by
      unfold putA
      show _ ++ (upK s ps.length t ++ _) = _
      rw [show ps.length - 1 - t = i by omega, List.append_assoc]
      rfl
    obtain ⟨xs, exs⟩ : ∃ xs, putA s ps.length t = xs := ⟨_, rfl⟩
    rw [exs] at o1 e hl1
    clear exs
    have og1 := own_ge o1
    obtain ⟨av1, cv1, rfl, hcv1⟩ := (o1.reads pEnc).form rfl
    refine CC.seq ?_
    refine CC.seq ?_
    refine CC.region ?_
    refine LL.val (R.move rfl rfl) rfl rfl rfl ?_
    refine LL.val (R.move rfl rfl) rfl rfl rfl ?_
    refine LL.val (R.geT rfl rfl rfl (by omega)) rfl rfl rfl ?_
    refine LL.nilS ?_
    refine CC.yes rfl ?_
    refine CC.skip ?_
    refine EE.thenN ?_
    refine CC.seq ?_
    refine CC.block ?_
    refine CC.freeZ (fun W_ j => j < W_.heap.size ∧ (j < X0.heap.size)) (by kernel_rfl) (by kernel_rfl) (fun Wh14 bh13 zh15 => ?_)
    replace q := q.trans (bh13.mono q.size)
    replace qP := qP.trans (bh13.mono qP.size)
    replace rp := rp.up bh13
    replace c1 := cell_up c1 bh13
    replace c2 := cell_up c2 bh13
    replace o1 := o1.up bh13
    have hok : Kept (fun j => j < Wh14.heap.size ∧ (j < X0.heap.size)) Wh14 Wh14 := Kept.refl _ _
    have fzrp := fzRow (K := fun j => j < Wh14.heap.size ∧ (j < X0.heap.size)) rp ⟨rp.lt, (by first | trivial | omega)⟩
    refine AA.pure 0 rfl hok (by kernel_rfl) (fun w' b' => R.move rfl rfl) rfl rfl ?_
    refine AA.pure 1 rfl hok (by kernel_rfl) (fun w' b' => R.move rfl rfl) rfl rfl ?_
    refine AA.pure 2 rfl hok (by kernel_rfl) (fun w' b' => R.mulcN rfl rfl rfl rfl (by omega)) rfl rfl ?_
    refine AA.pure 3 rfl hok (by kernel_rfl) (fun w' b' => R.addNc rfl rfl rfl rfl (by omega)) rfl rfl ?_
    refine AA.pure 4 rfl hok (by kernel_rfl) (fun w' b' => R.move rfl rfl) rfl rfl ?_
    refine AA.pure 5 rfl hok (by kernel_rfl) (fun w' b' => R.move rfl rfl) rfl rfl ?_
    refine AA.pure 6 rfl hok (by kernel_rfl) (fun w' b' => R.index rfl rfl rfl (I.ixS rfl (by omega))) rfl rfl ?_
    refine AA.pure 7 rfl hok (by kernel_rfl) (fun w' b' => R.field rfl rfl (I.fld rfl)) rfl rfl ?_
    refine AA.pure 10 rfl hok (by kernel_rfl) (fun w' b' => R.move rfl rfl) rfl rfl ?_
    refine AA.pure 11 rfl hok (by kernel_rfl) (fun w' b' => R.mulcN rfl rfl rfl rfl (by omega)) rfl rfl ?_
    refine AA.pure 12 rfl hok (by kernel_rfl) (fun w' b' => R.addNc rfl rfl rfl rfl (by omega)) rfl rfl ?_
    refine AA.pure 13 rfl hok (by kernel_rfl) (fun w' b' => R.move rfl rfl) rfl rfl ?_
    refine AA.pure 14 rfl hok (by kernel_rfl) (fun w' b' => R.move rfl rfl) rfl rfl ?_
    refine AA.pure 15 rfl hok (by kernel_rfl) (fun w' b' => R.index rfl rfl rfl (I.ixS rfl (by omega))) rfl rfl ?_
    refine AA.pure 16 rfl hok (by kernel_rfl) (fun w' b' => R.field rfl rfl (I.fld rfl)) rfl rfl ?_
    refine AA.two 8 17 (by kernel_rfl) ?_ ?_
    refine SR.val rfl (R.load rfl rfl (I.ld1 rfl (by assumption))) rfl rfl hok ?_
    refine AA.pure 9 rfl hok (by kernel_rfl) (fun w' b' => R.buildV rfl rfl (v := .agg #[Value.int IntKind.i64 ↑(2 * i + 3), Value.int IntKind.u64 ↑(ptrN s i)]) (fun _ => by kernel_rfl)) rfl rfl ?_
    refine AA.one 17 (by kernel_rfl) ?_
    refine SR.val rfl (R.load rfl rfl (I.ld1 rfl (by assumption))) rfl rfl hok ?_
    refine AA.pure 18 rfl hok (by kernel_rfl) (fun w' b' => R.buildV rfl rfl (v := .agg #[Value.int IntKind.i64 ↑(2 * i + 2), Value.int IntKind.u64 ↑(keyN s i)]) (fun _ => by kernel_rfl)) rfl rfl ?_
    refine AA.one 19 (by kernel_rfl) ?_
    have lh16 := rp.lt
    refine ZR.lit (e := 99) [Value.int IntKind.i64 ↑(2 * i + 3), Value.int IntKind.u64 ↑(ptrN s i), Value.int IntKind.i64 ↑(2 * i + 2), Value.int IntKind.u64 ↑(keyN s i)] 2 rfl rfl rfl (fun _ => by kernel_rfl) rfl rfl ?_
    intro Wh18 gh19 egh19 rh20 zh21 bh17
    replace bh13 := bh13.trans (bh17.mono bh13.size)
    replace q := q.trans (bh17.mono q.size)
    replace qP := qP.trans (bh17.mono qP.size)
    replace rp := rp.up bh17
    replace c1 := cell_up c1 bh17
    replace c2 := cell_up c2 bh17
    replace o1 := o1.up bh17
    replace hok := hok.trans (bkept bh17 (fun j h => by have := h.1; have := hok.size; omega))
    have yh22 := hok.size
    refine ⟨hok, ?_⟩
    refine AA.one 20 (by kernel_rfl) ?_
    (refine SR.appendT2 rfl rfl rfl pEnc ElPut o1 (us := [(((2 * i + 3 : Nat) : Int), ptrN s i), (((2 * i + 2 : Nat) : Int), keyN s i)]) (RowL.readsT pEnc (ts := [(((2 * i + 3 : Nat) : Int), ptrN s i), (((2 * i + 2 : Nat) : Int), keyN s i)]) (by assumption) 2 (by simp)) (by simp [maxLen]; omega) (by simp; omega) (by omega) rfl rfl ?_; intro v' Wa oa gra hva; replace q := q.grown gra q.size (fun g hg => by have := own_ge o1 g hg; omega); replace qP := qP.grown gra qP.size (fun g hg => by have := own_ge o1 g hg; omega); replace rp := rp.grO gra (fun e => by have := own_ge o1 _ e; omega); replace hok := hok.trans (grown_kept gra (fun j h => by have := h.1; have := hok.size; omega) (fun j h e => by have := own_ge o1 j e; omega)); have hsz := gra.size; clear o1 hva gra; have o1 := oa; clear oa; refine ⟨hok, ?_⟩)
    refine AA.pure 21 rfl hok (by kernel_rfl) (fun w' b' => R.assign rfl rfl) rfl rfl ?_
    refine AA.done rfl ?_
    clear fzrp hok
    refine EE.inN ?_
    refine EE.thenN ?_
    refine CC.region ?_
    refine LL.val (R.move rfl rfl) rfl rfl rfl ?_
    refine LL.val (R.subI rfl rfl rfl (by omega)) rfl rfl rfl ?_
    refine LL.val (R.assign rfl rfl) rfl rfl rfl ?_
    refine LL.nil ?_
    exact EE.round (t + 1, _, _) ⟨rfl, rfl, rfl, rfl, rfl, rfl, rfl, trivial⟩ ⟨by show t + 1 ≤ ps.length - posN s k; omega, by dsimp only; omega, q, qP, rp, hg3, by dsimp only; rw [e]; exact o1⟩ (by show ps.length - (t + 1) < ps.length - t; omega)
    refine SR.val rfl (R.load rfl rfl (I.ld1 rfl (by assumption))) rfl rfl hok ?_
    refine AA.pure 18 rfl hok (by kernel_rfl) (fun w' b' => R.buildV rfl rfl (v := .agg #[Value.int IntKind.i64 ↑(2 * i + 2), Value.int IntKind.u64 ↑(keyN s i)]) (fun _ => by kernel_rfl)) rfl rfl ?_
    refine AA.one 8 (by kernel_rfl) ?_
    refine SR.val rfl (R.load rfl rfl (I.ld1 rfl (by assumption))) rfl rfl hok ?_
    refine AA.pure 9 rfl hok (by kernel_rfl) (fun w' b' => R.buildV rfl rfl (v := .agg #[Value.int IntKind.i64 ↑(2 * i + 3), Value.int IntKind.u64 ↑(ptrN s i)]) (fun _ => by kernel_rfl)) rfl rfl ?_
    refine AA.one 19 (by kernel_rfl) ?_
    have lh23 := rp.lt
    refine ZR.lit (e := 99) [Value.int IntKind.i64 ↑(2 * i + 3), Value.int IntKind.u64 ↑(ptrN s i), Value.int IntKind.i64 ↑(2 * i + 2), Value.int IntKind.u64 ↑(keyN s i)] 2 rfl rfl rfl (fun _ => by kernel_rfl) rfl rfl ?_
    intro Wh25 gh26 egh26 rh27 zh28 bh24
    replace bh13 := bh13.trans (bh24.mono bh13.size)
    replace q := q.trans (bh24.mono q.size)
    replace qP := qP.trans (bh24.mono qP.size)
    replace rp := rp.up bh24
    replace c1 := cell_up c1 bh24
    replace c2 := cell_up c2 bh24
    replace o1 := o1.up bh24
    replace hok := hok.trans (bkept bh24 (fun j h => by have := h.1; have := hok.size; omega))
    have yh29 := hok.size
    refine ⟨hok, ?_⟩
    refine AA.one 20 (by kernel_rfl) ?_
    (refine SR.appendT2 rfl rfl rfl pEnc ElPut o1 (us := [(((2 * i + 3 : Nat) : Int), ptrN s i), (((2 * i + 2 : Nat) : Int), keyN s i)]) (RowL.readsT pEnc (ts := [(((2 * i + 3 : Nat) : Int), ptrN s i), (((2 * i + 2 : Nat) : Int), keyN s i)]) (by assumption) 2 (by simp)) (by simp [maxLen]; omega) (by simp; omega) (by omega) rfl rfl ?_; intro v' Wa oa gra hva; replace q := q.grown gra q.size (fun g hg => by have := own_ge o1 g hg; omega); replace qP := qP.grown gra qP.size (fun g hg => by have := own_ge o1 g hg; omega); replace rp := rp.grO gra (fun e => by have := own_ge o1 _ e; omega); replace hok := hok.trans (grown_kept gra (fun j h => by have := h.1; have := hok.size; omega) (fun j h e => by have := own_ge o1 j e; omega)); have hsz := gra.size; clear o1 hva gra; have o1 := oa; clear oa; refine ⟨hok, ?_⟩)
    refine AA.pure 21 rfl hok (by kernel_rfl) (fun w' b' => R.assign rfl rfl) rfl rfl ?_
    refine AA.done rfl ?_
    clear fzrp hok
    refine EE.inN ?_
    refine EE.thenN ?_
    refine CC.region ?_
    refine LL.val (R.move rfl rfl) rfl rfl rfl ?_
    refine LL.val (R.subI rfl rfl rfl (by omega)) rfl rfl rfl ?_
    refine LL.val (R.assign rfl rfl) rfl rfl rfl ?_
    refine LL.nil ?_
    exact EE.round (t + 1, _, _) ⟨rfl, rfl, rfl, rfl, rfl, rfl, rfl, trivial⟩ ⟨by show t + 1 ≤ ps.length - posN s k; omega, by dsimp only; omega, q, qP, rp, hg3, by dsimp only; rw [e]; exact o1⟩ (by show ps.length - (t + 1) < ps.length - t; omega)
  obtain rfl : t = ps.length - posN s k := by omega
  have e : putL left s ps.length (posN s k) k p = putA s ps.length (ps.length - posN s k) ++ [(((2 * posN s k + 1 : Nat) : Int), aheadN left s (posN s k)), (((2 * posN s k : Nat) : Int), k), (((2 * posN s k + 1 : Nat) : Int), p)] := by
    unfold putL
    rw [List.append_assoc, List.append_assoc]
    rfl
  rw [e]
  obtain ⟨xs, exs⟩ : ∃ xs, putA s ps.length (ps.length - posN s k) = xs := ⟨_, rfl⟩
  rw [exs] at o1 hl1 ⊢
  clear exs
  have og1 := own_ge o1
  obtain ⟨av1, cv1, rfl, hcv1⟩ := (o1.reads pEnc).form rfl
  have hAh : ∀ X, Below w.heap.size w X → Calls Try.prog 50 #[.int .u64 (left : Int), .slice a n c, .int .i64 (posN s k : Int)] X fun e w' => e = .returned (.int .u64 (aheadN left s (posN s k) : Int)) ∧ X = w' := fun X hb => dahead_any left _ n c _ s X (hvF X hb) hn h (by omega)
  refine CC.seq ?_
  refine CC.seq ?_
  refine CC.region ?_
  refine LL.val (R.move rfl rfl) rfl rfl rfl ?_
  refine LL.val (R.move rfl rfl) rfl rfl rfl ?_
  refine LL.val (R.geF rfl rfl rfl (by omega)) rfl rfl rfl ?_
  refine LL.nilS ?_
  refine CC.no rfl ?_
  refine CC.exit ?_
  refine EE.thenX ?_
  refine EE.thenX ?_
  refine EE.inX ?_
  refine EE.thenN ?_
  refine CC.seq ?_
  refine CC.freeZ (fun W_ j => j < W_.heap.size ∧ (j < X0.heap.size)) (by kernel_rfl) (by kernel_rfl) (fun Wi2 bi1 zi3 => ?_)
  replace q := q.trans (bi1.mono q.size)
  replace qP := qP.trans (bi1.mono qP.size)
  replace rp := rp.up bi1
  replace o1 := o1.up bi1
  have hok : Kept (fun j => j < Wi2.heap.size ∧ (j < X0.heap.size)) Wi2 Wi2 := Kept.refl _ _
  have fzrp := fzRow (K := fun j => j < Wi2.heap.size ∧ (j < X0.heap.size)) rp ⟨rp.lt, (by first | trivial | omega)⟩
  refine AA.pure 0 rfl hok (by kernel_rfl) (fun w' b' => R.move rfl rfl) rfl rfl ?_
  refine AA.pure 1 rfl hok (by kernel_rfl) (fun w' b' => R.move rfl rfl) rfl rfl ?_
  refine AA.pure 2 rfl hok (by kernel_rfl) (fun w' b' => R.mulcN rfl rfl rfl rfl (by omega)) rfl rfl ?_
  refine AA.pure 3 rfl hok (by kernel_rfl) (fun w' b' => R.addNc rfl rfl rfl rfl (by omega)) rfl rfl ?_
  refine AA.pure 4 rfl hok (by kernel_rfl) (fun w' b' => R.move rfl rfl) rfl rfl ?_
  refine AA.pure 5 rfl hok (by kernel_rfl) (fun w' b' => R.move rfl rfl) rfl rfl ?_
  refine AA.pure 6 rfl hok (by kernel_rfl) (fun w' b' => R.move rfl rfl) rfl rfl ?_
  refine AA.pure 9 rfl hok (by kernel_rfl) (fun w' b' => R.move rfl rfl) rfl rfl ?_
  refine AA.pure 10 rfl hok (by kernel_rfl) (fun w' b' => R.mulcN rfl rfl rfl rfl (by omega)) rfl rfl ?_
  refine AA.pure 11 rfl hok (by kernel_rfl) (fun w' b' => R.field rfl rfl (I.fld rfl)) rfl rfl ?_
  refine AA.pure 12 rfl hok (by kernel_rfl) (fun w' b' => R.load rfl rfl (I.ld1 rfl (RowL.cell (fzrp w' b') rfl))) rfl rfl ?_
  refine AA.pure 13 rfl hok (by kernel_rfl) (fun w' b' => R.buildV rfl rfl (v := .agg #[Value.int IntKind.i64 ↑(2 * posN s k), Value.int IntKind.u64 ↑k]) (fun _ => by kernel_rfl)) rfl rfl ?_
  refine AA.pure 14 rfl hok (by kernel_rfl) (fun w' b' => R.move rfl rfl) rfl rfl ?_
  refine AA.pure 15 rfl hok (by kernel_rfl) (fun w' b' => R.mulcN rfl rfl rfl rfl (by omega)) rfl rfl ?_
  refine AA.pure 16 rfl hok (by kernel_rfl) (fun w' b' => R.addNc rfl rfl rfl rfl (by omega)) rfl rfl ?_
  refine AA.pure 17 rfl hok (by kernel_rfl) (fun w' b' => R.field rfl rfl (I.fld rfl)) rfl rfl ?_
  refine AA.pure 18 rfl hok (by kernel_rfl) (fun w' b' => R.load rfl rfl (I.ld1 rfl (RowL.cell (fzrp w' b') rfl))) rfl rfl ?_
  refine AA.pure 19 rfl hok (by kernel_rfl) (fun w' b' => R.buildV rfl rfl (v := .agg #[Value.int IntKind.i64 ↑(2 * posN s k + 1), Value.int IntKind.u64 ↑p]) (fun _ => by kernel_rfl)) rfl rfl ?_
  refine AA.one 7 (by kernel_rfl) ?_
  refine SR.call rfl (R.call rfl rfl rfl) rfl rfl (hAh _ q) ?_
  rintro e W' ⟨rfl, rfl⟩
  refine ⟨_, rfl, hok, ?_⟩
  refine AA.pure 8 rfl hok (by kernel_rfl) (fun w' b' => R.buildV rfl rfl (v := .agg #[Value.int IntKind.i64 ↑(2 * posN s k + 1), Value.int IntKind.u64 ↑(aheadN left s (posN s k))]) (fun _ => by kernel_rfl)) rfl rfl ?_
  refine AA.one 20 (by kernel_rfl) ?_
  have li6 := rp.lt
  refine ZR.lit (e := 99) [Value.int IntKind.i64 ↑(2 * posN s k + 1), Value.int IntKind.u64 ↑(aheadN left s (posN s k)), Value.int IntKind.i64 ↑(2 * posN s k), Value.int IntKind.u64 ↑k, Value.int IntKind.i64 ↑(2 * posN s k + 1), Value.int IntKind.u64 ↑p] 3 rfl rfl rfl (fun _ => by kernel_rfl) rfl rfl ?_
  intro Wi8 gi9 egi9 ri10 zi11 bi7
  replace bi1 := bi1.trans (bi7.mono bi1.size)
  replace q := q.trans (bi7.mono q.size)
  replace qP := qP.trans (bi7.mono qP.size)
  replace rp := rp.up bi7
  replace o1 := o1.up bi7
  replace hok := hok.trans (bkept bi7 (fun j h => by have := h.1; have := hok.size; omega))
  have yi12 := hok.size
  refine ⟨hok, ?_⟩
  refine AA.one 21 (by kernel_rfl) ?_
  (refine SR.appendT2 rfl rfl rfl pEnc ElPut o1 (us := [(((2 * posN s k + 1 : Nat) : Int), aheadN left s (posN s k)), (((2 * posN s k : Nat) : Int), k), (((2 * posN s k + 1 : Nat) : Int), p)]) (RowL.readsT pEnc (ts := [(((2 * posN s k + 1 : Nat) : Int), aheadN left s (posN s k)), (((2 * posN s k : Nat) : Int), k), (((2 * posN s k + 1 : Nat) : Int), p)]) (by assumption) 3 (by simp)) (by simp [maxLen]; omega) (by simp; omega) (by omega) rfl rfl ?_; intro v' Wa oa gra hva; replace q := q.grown gra q.size (fun g hg => by have := own_ge o1 g hg; omega); replace qP := qP.grown gra qP.size (fun g hg => by have := own_ge o1 g hg; omega); replace rp := rp.grO gra (fun e => by have := own_ge o1 _ e; omega); replace hok := hok.trans (grown_kept gra (fun j h => by have := h.1; have := hok.size; omega) (fun j h e => by have := own_ge o1 j e; omega)); have hsz := gra.size; clear o1 hva gra; have o1 := oa; clear oa; refine ⟨hok, ?_⟩)
  refine AA.pure 22 rfl hok (by kernel_rfl) (fun w' b' => R.assign rfl rfl) rfl rfl ?_
  refine AA.pure 23 rfl hok (by kernel_rfl) (fun w' b' => R.assign rfl rfl) rfl rfl ?_
  refine AA.done rfl ?_
  clear fzrp hok
  refine EE.thenN ?_
  refine CC.ret ?_
  refine EE.ret _ rfl rfl ?_
  exact ⟨_, rfl, o1.lower zX, q⟩
end Go.Proofs.Ytloflmkolnediaa

/- slots: the document's Apply, empty. -/
namespace Go.Proofs.Ytloflmkolnediaa
set_option linter.unusedVariables false
set_option linter.unusedSimpArgs false
open Go.RowKit Go.Shelf
set_option maxRecDepth 100000
set_option maxHeartbeats 4000000
theorem dapply_any (n : Nat) (v vp : Value) (s : List Nat) (os : List Pt) (w : World) (hv : ReadsT uE 1 w v s) (hn : s.length = n) (h : n ≤ 1048576) (hp : ReadsT pE 2 w vp os) (hl : os.length ≤ 1048576) (h0 : ∀ p ∈ os, 0 ≤ p.1) : Calls Try.prog 32 #[v, vp] w fun e w' => ∃ vo, e = .returned vo ∧ OwnsT uE 1 w' w.heap.size 23 vo (applyS s os) ∧ Below w.heap.size w w' := by
  have q := Below.refl w.heap.size w
  obtain ⟨N, hN⟩ : ∃ N, os.length = N := ⟨_, rfl⟩
  obtain ⟨a, c, rfl, hc⟩ := hv.form hn
  obtain ⟨a2, c2, rfl, hc2⟩ := hp.form hN
  rw [hN] at hl
  have hvF : ∀ X, Below w.heap.size w X → ReadsT uE 1 X (.slice a n c) s := fun X b => hv.up b
  have hpF : ∀ X, Below w.heap.size w X → ReadsT pE 2 X (.slice a2 N c2) os := fun X b => hp.up b
  clear hv hp
  refine X.fn Try.func32 rfl (n := 45) rfl rfl ?_
  refine CC.seq ?_
  refine CC.region ?_
  refine LL.val (R.assign rfl rfl) rfl rfl rfl ?_
  refine LL.nilS ?_
  refine CC.seq ?_
  refine CC.region ?_
  refine LL.lit (e := 23) [] 0 rfl rfl (fun _ => by kernel_rfl) rfl rfl ?_
  intro W2 g3 eg3 r4 z5 b1
  replace q := q.trans (b1.mono q.size)
  refine LL.val (R.move rfl rfl) rfl rfl rfl ?_
  (refine LL.appendT2 rfl rfl uEnc ElU (RowL.ownsT (base := w.heap.size) uEnc (ts := []) (by assumption) (by omega) (by simp)) (us := s) (hvF _ q) (by simp [maxLen]; omega) (by simp; omega) (by have := q.size; omega) rfl rfl ?_; intro v' Wa oa gra hva; replace q := q.grown gra q.size (fun g hg => by cases hg; dsimp only; omega); clear hva gra; have o1 := oa; clear oa; rw [List.nil_append] at o1)
  refine LL.val (R.assign rfl rfl) rfl rfl rfl ?_
  refine LL.nilS ?_
  refine CC.seq ?_
  refine CC.seq ?_
  refine CC.region ?_
  refine LL.val (R.assign rfl rfl) rfl rfl rfl ?_
  refine LL.nilS ?_
  refine CC.block ?_
  have yq := q.size
  refine CC.loop (α := Nat) (fun i => [(1, .slice a2 N c2), (5, v'), (6, .int .i64 (i : Int))]) (fun i W => i ≤ N ∧ Below w.heap.size w W ∧ OwnsT uE 1 W w.heap.size 23 v' (applyS s (os.take i))) (fun i => N - i) 0 ⟨rfl, rfl, rfl, trivial⟩ ⟨Nat.zero_le _, q, o1⟩ ?_
  clear q o1
  rintro i W ⟨hi, q, o1⟩
  have yq := q.size
  show CC none Try.prog _ 45 [] (sl [(1, .slice a2 N c2), (5, v'), (6, .int .i64 (i : Int))]) _ W
  by_cases hlt : i < N
  case neg =>
    obtain rfl : i = N := by omega
    rw [List.take_of_length_le (by omega)] at o1
    refine CC.seq ?_
    refine CC.seq ?_
    refine CC.region ?_
    refine LL.val (R.move rfl rfl) rfl rfl rfl ?_
    refine LL.val (R.move rfl rfl) rfl rfl rfl ?_
    refine LL.val (R.len rfl rfl rfl rfl) rfl rfl rfl ?_
    refine LL.val (R.ltF rfl rfl rfl (by omega)) rfl rfl rfl ?_
    refine LL.nilS ?_
    refine CC.no rfl ?_
    refine CC.exit ?_
    refine EE.thenX ?_
    refine EE.thenX ?_
    refine EE.inX ?_
    refine EE.thenN ?_
    refine CC.seq ?_
    refine CC.region ?_
    refine LL.val (R.move rfl rfl) rfl rfl rfl ?_
    refine LL.val (R.assign rfl rfl) rfl rfl rfl ?_
    refine LL.nilS ?_
    refine CC.ret ?_
    refine EE.ret _ rfl rfl ?_
    exact ⟨_, rfl, o1, q⟩
  obtain ⟨⟨z, y⟩, hx⟩ : ∃ x, os[i]? = some x := ⟨_, List.getElem?_eq_getElem (by omega)⟩
  have hz := h0 _ (List.mem_of_getElem? hx)
  simp only at hz
  obtain ⟨j, rfl⟩ := Int.eq_ofNat_of_zero_le hz
  obtain ⟨b1, o1', rfl, _, _⟩ := (hpF _ q).get pEnc hx
  have c1 : W.cell? ⟨b1, o1' + i * 2, none⟩ = some (.int .i64 (j : Int)) := ((hpF W q).elemN pEnc hx).cell (j := 0) rfl
  have c2 : W.cell? ⟨b1, o1' + i * 2 + 1, none⟩ = some (.int .u64 (y : Int)) := ((hpF W q).elemN pEnc hx).cell (j := 1) rfl
  have hln : (applyS s (os.take i)).length = n := by rw [applyS_len]; exact hn
  have es : applyS s (os.take (i + 1)) = (applyS s (os.take i)).set j y := by
    rw [List.take_add_one, hx, applyS_app]
    exact applyS_one _ _ _
  obtain ⟨sx, esx⟩ : ∃ sx, applyS s (os.take i) = sx := ⟨_, rfl⟩
  rw [esx] at o1 hln es
  clear esx
  by_cases hj : j < n
  case neg =>
    have e2 : sx.set j y = sx := List.set_eq_of_length_le (by omega)
    rw [e2] at es
    obtain ⟨av, cv, rfl, hcv⟩ := (o1.reads uEnc).form hln
    refine CC.seq ?_
    refine CC.seq ?_
    refine CC.region ?_
    refine LL.val (R.move rfl rfl) rfl rfl rfl ?_
    refine LL.val (R.move rfl rfl) rfl rfl rfl ?_
    refine LL.val (R.len rfl rfl rfl rfl) rfl rfl rfl ?_
    refine LL.val (R.ltT rfl rfl rfl (by omega)) rfl rfl rfl ?_
    refine LL.nilS ?_
    refine CC.yes rfl ?_
    refine CC.skip ?_
    refine EE.thenN ?_
    refine CC.seq ?_
    refine CC.block ?_
    refine CC.seq ?_
    refine CC.region ?_
    refine LL.val (R.move rfl rfl) rfl rfl rfl ?_
    refine LL.val (R.move rfl rfl) rfl rfl rfl ?_
    refine LL.val (R.index rfl rfl rfl (I.ixS rfl (by omega))) rfl rfl rfl ?_
    refine LL.val (R.field rfl rfl (I.fld rfl)) rfl rfl rfl ?_
    refine LL.val (R.load rfl rfl (I.ld1 rfl (by assumption))) rfl rfl rfl ?_
    refine LL.val (R.geT rfl rfl rfl (by omega)) rfl rfl rfl ?_
    refine LL.val (R.move rfl rfl) rfl rfl rfl ?_
    refine LL.val (R.move rfl rfl) rfl rfl rfl ?_
    refine LL.val (R.move rfl rfl) rfl rfl rfl ?_
    refine LL.val (R.index rfl rfl rfl (I.ixS rfl (by omega))) rfl rfl rfl ?_
    refine LL.val (R.field rfl rfl (I.fld rfl)) rfl rfl rfl ?_
    refine LL.val (R.load rfl rfl (I.ld1 rfl (by assumption))) rfl rfl rfl ?_
    refine LL.val (R.move rfl rfl) rfl rfl rfl ?_
    refine LL.val (R.len rfl rfl rfl rfl) rfl rfl rfl ?_
    refine LL.val (R.ltF rfl rfl rfl (by omega)) rfl rfl rfl ?_
    refine LL.val (R.pick rfl rfl rfl) rfl rfl rfl ?_
    refine LL.nilS ?_
    refine CC.no rfl ?_
    refine CC.skip ?_
    refine EE.inN ?_
    refine EE.thenN ?_
    refine CC.region ?_
    refine LL.val (R.move rfl rfl) rfl rfl rfl ?_
    refine LL.val (R.addNc rfl rfl rfl rfl (by omega)) rfl rfl rfl ?_
    refine LL.val (R.assign rfl rfl) rfl rfl rfl ?_
    refine LL.nil ?_
    exact EE.round (i + 1) ⟨rfl, rfl, rfl, trivial⟩ ⟨by show i + 1 ≤ N; omega, q, by rw [es]; exact o1⟩ (by show N - (i + 1) < N - i; omega)
  obtain ⟨g, cg, rfl, hbg, hgw, hcg⟩ := ownsT_form o1 hln (by omega)
  obtain ⟨u, hu⟩ : ∃ u, sx[j]? = some u := ⟨_, List.getElem?_eq_getElem (by omega)⟩
  refine CC.seq ?_
  refine CC.seq ?_
  refine CC.region ?_
  refine LL.val (R.move rfl rfl) rfl rfl rfl ?_
  refine LL.val (R.move rfl rfl) rfl rfl rfl ?_
  refine LL.val (R.len rfl rfl rfl rfl) rfl rfl rfl ?_
  refine LL.val (R.ltT rfl rfl rfl (by omega)) rfl rfl rfl ?_
  refine LL.nilS ?_
  refine CC.yes rfl ?_
  refine CC.skip ?_
  refine EE.thenN ?_
  refine CC.seq ?_
  refine CC.block ?_
  refine CC.seq ?_
  refine CC.region ?_
  refine LL.val (R.move rfl rfl) rfl rfl rfl ?_
  refine LL.val (R.move rfl rfl) rfl rfl rfl ?_
  refine LL.val (R.index rfl rfl rfl (I.ixS rfl (by omega))) rfl rfl rfl ?_
  refine LL.val (R.field rfl rfl (I.fld rfl)) rfl rfl rfl ?_
  refine LL.val (R.load rfl rfl (I.ld1 rfl (by assumption))) rfl rfl rfl ?_
  refine LL.val (R.geT rfl rfl rfl (by omega)) rfl rfl rfl ?_
  refine LL.val (R.move rfl rfl) rfl rfl rfl ?_
  refine LL.val (R.move rfl rfl) rfl rfl rfl ?_
  refine LL.val (R.move rfl rfl) rfl rfl rfl ?_
  refine LL.val (R.index rfl rfl rfl (I.ixS rfl (by omega))) rfl rfl rfl ?_
  refine LL.val (R.field rfl rfl (I.fld rfl)) rfl rfl rfl ?_
  refine LL.val (R.load rfl rfl (I.ld1 rfl (by assumption))) rfl rfl rfl ?_
  refine LL.val (R.move rfl rfl) rfl rfl rfl ?_
  refine LL.val (R.len rfl rfl rfl rfl) rfl rfl rfl ?_
  refine LL.val (R.ltT rfl rfl rfl (by omega)) rfl rfl rfl ?_
  refine LL.val (R.pick rfl rfl rfl) rfl rfl rfl ?_
  refine LL.nilS ?_
  refine CC.yes rfl ?_
  refine CC.tailB 12 (by kernel_rfl) (by kernel_rfl) (fun Wc2 bc1 zc3 => ?_)
  replace q := q.trans (bc1.mono q.size)
  replace c1 := cell_up c1 bc1
  replace c2 := cell_up c2 bc1
  replace o1 := o1.up bc1
  refine SS.val (R.move rfl rfl) rfl rfl ?_
  refine SS.val (R.move rfl rfl) rfl rfl ?_
  refine SS.val (R.move rfl rfl) rfl rfl ?_
  refine SS.val (R.index rfl rfl rfl (I.ixS rfl (by omega))) rfl rfl ?_
  refine SS.val (R.field rfl rfl (I.fld rfl)) rfl rfl ?_
  refine SS.val (R.load rfl rfl (I.ld1 rfl (by assumption))) rfl rfl ?_
  refine SS.val (R.move rfl rfl) rfl rfl ?_
  refine SS.val (R.move rfl rfl) rfl rfl ?_
  refine SS.val (R.index rfl rfl rfl (I.ixS rfl (by omega))) rfl rfl ?_
  refine SS.val (R.field rfl rfl (I.fld rfl)) rfl rfl ?_
  refine SS.val (R.load rfl rfl (I.ld1 rfl (by assumption))) rfl rfl ?_
  refine SS.val (R.index rfl rfl rfl (I.ixS1 rfl (by omega))) rfl rfl ?_
  refine SS.nil ?_
  (refine LL.storeF j 0 u y rfl rfl rfl rfl (by simp) uEnc o1 hu (by decide) rfl rfl rfl rfl rfl ?_; intro Wa oa gra hsz; replace q := q.grown gra q.size (fun g hg => by cases hg; omega); clear gra o1; have o1 := oa; clear oa)
  refine LL.nil ?_
  refine EE.inN ?_
  refine EE.thenN ?_
  refine CC.region ?_
  refine LL.val (R.move rfl rfl) rfl rfl rfl ?_
  refine LL.val (R.addNc rfl rfl rfl rfl (by omega)) rfl rfl rfl ?_
  refine LL.val (R.assign rfl rfl) rfl rfl rfl ?_
  refine LL.nil ?_
  exact EE.round (i + 1) ⟨rfl, rfl, rfl, trivial⟩ ⟨by show i + 1 ≤ N; omega, q, by rw [es]; exact o1⟩ (by show N - (i + 1) < N - i; omega)
end Go.Proofs.Ytloflmkolnediaa

/- scan: loads and stores by turns. -/
namespace Go.Proofs.Ytloflmkolnediaa
set_option linter.unusedVariables false
set_option linter.unusedSimpArgs false
open Go.RowKit Go.Shelf
set_option maxRecDepth 100000
set_option maxHeartbeats 8000000
theorem ReadsT.at1 {α : Type} {enc : α → List Value} {k : Nat} (E : Enc enc k) {w : World} {b off n cap c i : Nat} {ts : List α} {x : α} (h : ReadsT enc k w (.slice (some ⟨b, off, none⟩) n cap) ts) (hx : ts[i]? = some x) (hc : 1 ≤ c) : ReadsT enc k w (.slice (some ⟨b, off + i * k, none⟩) 1 c) [x] := by
  obtain ⟨b', o', e, hlt, hcs⟩ := h.get E hx
  cases e
  refine ⟨_, c, rfl, hc, fun _ => ⟨b, _, rfl, hlt, fun j hj => ?_⟩⟩
  have hl := E.len x
  rw [List.length_singleton, Nat.one_mul] at hj
  rw [List.flatMap_cons, List.flatMap_nil, List.append_nil]
  obtain ⟨u, hu⟩ : ∃ u, (enc x)[j]? = some u := ⟨_, List.getElem?_eq_getElem (by omega)⟩
  rw [hu]
  exact hcs.at hu

def yE (x : Nat) : List Value := [.int .u8 (x : Int)]
theorem yEnc : Enc yE 1 := ⟨fun _ => rfl, fun t u hu => by
  simp only [yE, List.mem_singleton] at hu
  subst hu
  rfl, by decide⟩
theorem R.rem82 {P : Program} {w : World} {n : Nat} {D : List Deferred} {M : Slots} {o : Oper} {x y : Operand} {t u : TypeId} {a : Nat} (ho : o.op = .binOp .rem t x y u) (hx : evM M x = some (.int .u8 (a : Int))) (hy : evM M y = some (.int .u8 2)) : Runs P n D M o w (.value (.int .u8 ((a % 2 : Nat) : Int))) w :=
  R.bin ho hx hy (by
    have e : ((a : Int).tmod 2) = ((a % 2 : Nat) : Int) := by rw [Int.tmod_eq_emod_of_nonneg (by omega)]; simp
    obtain ⟨q, hq⟩ : ∃ q, a % 2 = q := ⟨_, rfl⟩
    rw [hq] at e ⊢
    simp [eqGuard, binOp, Op.intDiv, e])
theorem OwnsT.keptG {α : Type} {enc : α → List Value} {k : Nat} {W W' : World} {g e : Nat} {v : Value} {ts : List α} (h : OwnsT enc k W (g + 1) e v ts) (hk : Kept (fun j => j < W.heap.size ∧ j ≠ g) W W') : OwnsT enc k W' (g + 1) e v ts := by
  refine ⟨h.1, ?_⟩
  rcases h.2 with h | ⟨g', cap, cur, h1, h2, h3, h4⟩
  · exact .inl h
  · exact .inr ⟨g', cap, cur, h1, h2, (hk.block g' ⟨(Array.getElem?_eq_some_iff.1 h3).1, by omega⟩).trans h3, h4⟩
theorem between_any (up : Bool) (left key n cs N cl M ct : Nat) (a al at' : Option Addr) (s : List Nat) (os : List Pt) (ts : List Nat) (w : World) (hv : ReadsT uE 1 w (.slice a n cs) s) (hn : s.length = n) (hr : rowOk left n) (ho : ReadsT pE 2 w (.slice al N cl) os) (hN : os.length = N) (hN8 : N ≤ 1000) (h0 : ∀ p ∈ os, 0 ≤ p.1) (ht : ReadsT yE 1 w (.slice at' M ct) ts) (hM : ts.length = M) (hM3 : M ≤ 300)
    (Iv : Rd → Nat → Prop) (i0 : Iv (newR up (n / 2) key) 0) (istep : ∀ r c, c ≤ N → InvR r → r.dn = false → r.slots = n / 2 → Iv r c → Iv (giveR r (atW left (applyS s (os.take c)) (wantR r))) c) (ilater : ∀ r c, Iv r c → Iv r (c + 1)) :
    Calls Try.prog 33 #[.int .i64 (wayI up), .int .u64 (left : Int), .slice a n cs, .int .u64 (key : Int), .slice al N cl, .slice at' M ct] w fun e w' => ∃ r c, r.dn = true ∧ Iv r c ∧ e = .returned (.tuple #[.int .u64 (r.found : Int), .bool r.is, .bool true]) ∧ Below w.heap.size w w' := by
  have q := Below.refl w.heap.size w
  obtain ⟨r1, r2, r3, r4⟩ := hr
  have hvF : ∀ X, Below w.heap.size w X → ReadsT uE 1 X (.slice a n cs) s := fun X b => hv.up b
  have hoF : ∀ X, Below w.heap.size w X → ReadsT pE 2 X (.slice al N cl) os := fun X b => ho.up b
  have htF : ∀ X, Below w.heap.size w X → ReadsT yE 1 X (.slice at' M ct) ts := fun X b => ht.up b
  obtain ⟨hi0, hm0⟩ := new_inv (up := up) (slots := n / 2) (key := key) (by omega) (by omega)
  have hsl0 : (newR up (n / 2) key).slots = n / 2 := by cases up <;> rfl
  have hlo0 : (newR up (n / 2) key).loads = 0 := by cases up <;> rfl
  obtain ⟨r0, hr0⟩ : ∃ r, newR up (n / 2) key = r := ⟨_, rfl⟩
  rw [hr0] at hi0 hsl0 hlo0 hm0 i0
  have hcl : N ≤ cl := by
    obtain ⟨_, _, e, h, _⟩ := ho
    cases e
    exact h
  clear hv ho ht
  refine X.fn Try.func33 rfl (n := 100) rfl rfl ?_
  refine CC.seq ?_
  refine CC.region ?_
  refine LL.val (R.assign rfl rfl) rfl rfl rfl ?_
  refine LL.val (R.assign rfl rfl) rfl rfl rfl ?_
  refine LL.val (R.assign rfl rfl) rfl rfl rfl ?_
  refine LL.nilS ?_
  refine CC.seq ?_
  refine CC.region ?_
  refine LL.val (R.move rfl rfl) rfl rfl rfl ?_
  refine LL.val (R.move rfl rfl) rfl rfl rfl ?_
  refine LL.val (R.len rfl rfl rfl rfl) rfl rfl rfl ?_
  refine LL.val (R.quoNc rfl rfl rfl rfl (by omega) (by omega)) rfl rfl rfl ?_
  refine LL.val (R.move rfl rfl) rfl rfl rfl ?_
  (refine LL.call (R.call rfl rfl rfl) rfl rfl rfl (new_T up (n / 2) key _ (by omega) (by omega)) ?_; rintro e W116 ⟨g, rfl, hg, hgl, b113⟩; rw [hr0] at hg; have lg := hg.lt; refine ⟨_, rfl, ?_⟩)
  have zb113 := b113.size
  replace q := q.trans (b113.mono q.size)
  refine LL.val (R.move rfl rfl) rfl rfl rfl ?_
  refine LL.val (R.extract rfl rfl rfl) rfl rfl rfl ?_
  refine LL.val (R.extract rfl rfl rfl) rfl rfl rfl ?_
  refine LL.val (R.assign rfl rfl) rfl rfl rfl ?_
  refine LL.val (R.assign rfl rfl) rfl rfl rfl ?_
  refine LL.nilS ?_
  refine CC.seq ?_
  refine CC.seq ?_
  refine CC.region ?_
  refine LL.val (R.move rfl rfl) rfl rfl rfl ?_
  refine LL.call (R.call rfl rfl rfl) rfl rfl rfl (num_any _ _) ?_
  rintro e W' ⟨rfl, rfl⟩
  refine ⟨_, rfl, ?_⟩
  refine LL.val (R.neF rfl rfl rfl (by omega)) rfl rfl rfl ?_
  refine LL.nilS ?_
  refine CC.no rfl ?_
  refine CC.skip ?_
  refine EE.thenN ?_
  refine CC.seq ?_
  refine CC.region ?_
  have l264 := hg.lt
  refine LL.lit (e := 23) [] 0 rfl rfl (fun _ => by kernel_rfl) rfl rfl ?_
  intro W266 g267 eg267 r268 z269 b265
  replace hg := hg.up b265
  replace b113 := b113.trans (b265.mono b113.size)
  replace q := q.trans (b265.mono q.size)
  refine LL.val (R.move rfl rfl) rfl rfl rfl ?_
  have l301 := r268.lt
  have l302 := hg.lt
  (refine LL.append0 rfl rfl uEnc ElU (RowL.ownsT (base := g + 1) (ts := []) uEnc (by assumption) (by omega) (by simp [maxLen])) (hvF _ q) (by simp only [maxLen]; omega) (by omega) (by omega) rfl rfl ?_; intro v' W300 o1 b297)
  have zb297 := b297.size
  replace r268 := r268.up b297
  replace b265 := b265.trans (b297.mono b265.size)
  replace hg := hg.up b297
  replace b113 := b113.trans (b297.mono b113.size)
  replace q := q.trans (b297.mono q.size)
  refine LL.val (R.assign rfl rfl) rfl rfl rfl ?_
  refine LL.nilS ?_
  refine CC.seq ?_
  refine CC.region ?_
  refine LL.val (R.assign rfl rfl) rfl rfl rfl ?_
  refine LL.nilS ?_
  refine CC.seq ?_
  refine CC.seq ?_
  refine CC.region ?_
  refine LL.val (R.assign rfl rfl) rfl rfl rfl ?_
  refine LL.nilS ?_
  refine CC.block ?_
  have lgw := hg.lt
  refine CC.loop (α := Nat × Nat × Rd × Value) (fun x => [(1, .int .u64 (left : Int)), (2, .slice a n cs), (4, .slice al N cl), (5, .slice at' M ct), (15, .pointer (some ⟨g, 0, none⟩)), (17, x.2.2.2), (18, .int .i64 (x.2.1 : Int)), (19, .int .i64 (x.1 : Int))])
    (fun x W => x.1 ≤ M + 5 * n ∧ x.2.1 ≤ N ∧ x.2.1 ≤ M ∧ x.1 = x.2.1 + x.2.2.1.loads ∧ Below w.heap.size w W ∧ RowL W g 56 (rdR g x.2.2.1) ∧ OwnsT uE 1 W (g + 1) 23 x.2.2.2 (applyS s (os.take x.2.1)) ∧ InvR x.2.2.1 ∧ x.2.2.1.slots = n / 2 ∧ Iv x.2.2.1 x.2.1) (fun x => M + 5 * n - x.1)
    (0, 0, r0, v') ⟨rfl, rfl, rfl, rfl, rfl, rfl, rfl, rfl, trivial⟩ ⟨Nat.zero_le _, Nat.zero_le _, Nat.zero_le _, by show 0 = 0 + r0.loads; omega, q, hg, o1, hi0, hsl0, i0⟩ ?_
  clear q hg o1 hi0 hsl0 i0 hm0 hlo0 hr0 b113 b265 b297 r268 lgw
  rintro ⟨i, c, r, vn⟩ W ⟨hi, hcN, hcM, hic, q, hg, o1, hin, hsl, hI⟩
  simp only at hi hcN hcM hic hg o1 hin hsl hI
  show CC none Try.prog _ 100 [] (sl [(1, .int .u64 (left : Int)), (2, .slice a n cs), (4, .slice al N cl), (5, .slice at' M ct), (15, .pointer (some ⟨g, 0, none⟩)), (17, vn), (18, .int .i64 (c : Int)), (19, .int .i64 (i : Int))]) _ W
  have hlo := hin.loads
  cases hd : r.dn with
  | true =>
    clear istep ilater
    by_cases hlt : i < M + 5 * n
    · refine CC.seq ?_
      refine CC.seq ?_
      refine CC.region ?_
      refine LL.val (R.move rfl rfl) rfl rfl rfl ?_
      refine LL.val (R.move rfl rfl) rfl rfl rfl ?_
      refine LL.val (R.len rfl rfl rfl rfl) rfl rfl rfl ?_
      refine LL.val (R.move rfl rfl) rfl rfl rfl ?_
      refine LL.val (R.len rfl rfl rfl rfl) rfl rfl rfl ?_
      refine LL.val (R.mulcN rfl rfl rfl rfl (by omega)) rfl rfl rfl ?_
      refine LL.val (R.addN rfl rfl rfl (by omega)) rfl rfl rfl ?_
      refine LL.val (R.ltT rfl rfl rfl (by omega)) rfl rfl rfl ?_
      refine LL.nilS ?_
      refine CC.yes rfl ?_
      refine CC.skip ?_
      refine EE.thenN ?_
      refine CC.seq ?_
      refine CC.block ?_
      refine CC.seq ?_
      refine CC.region ?_
      refine LL.val (R.move rfl rfl) rfl rfl rfl ?_
      (refine LL.call (R.call rfl rfl rfl) rfl rfl rfl (wants_done g r hg hd) ?_; rintro e W' ⟨rfl, rfl⟩; refine ⟨_, rfl, ?_⟩)
      refine LL.val (R.move rfl rfl) rfl rfl rfl ?_
      refine LL.val (R.extract rfl rfl rfl) rfl rfl rfl ?_
      refine LL.val (R.extract rfl rfl rfl) rfl rfl rfl ?_
      refine LL.val (R.assign rfl rfl) rfl rfl rfl ?_
      refine LL.val (R.assign rfl rfl) rfl rfl rfl ?_
      refine LL.nilS ?_
      refine CC.seq ?_
      refine CC.seq ?_
      refine CC.region ?_
      refine LL.val (R.move rfl rfl) rfl rfl rfl ?_
      refine LL.val (R.not rfl rfl) rfl rfl rfl ?_
      refine LL.nilS ?_
      refine CC.yes rfl ?_
      refine CC.exit ?_
      refine EE.thenX ?_
      refine EE.inX' rfl ?_
      refine EE.thenX ?_
      refine EE.thenX ?_
      refine EE.inX ?_
      refine EE.thenN ?_
      refine CC.seq ?_
      refine CC.region ?_
      refine LL.val (R.move rfl rfl) rfl rfl rfl ?_
      have la141 := hg.lt
      (refine LL.call (R.call rfl rfl rfl) rfl rfl rfl (found_any g r hg) ?_; rintro e Wa140 ⟨rfl, ba137⟩; refine ⟨_, rfl, ?_⟩)
      have zba137 := ba137.size
      replace q := q.trans (ba137.mono q.size)
      replace hg := hg.up ba137
      replace o1 := o1.up ba137
      refine LL.val (R.extract rfl rfl rfl) rfl rfl rfl ?_
      refine LL.val (R.extract rfl rfl rfl) rfl rfl rfl ?_
      refine LL.val (R.extract rfl rfl rfl) rfl rfl rfl ?_
      refine LL.val (R.assign rfl rfl) rfl rfl rfl ?_
      refine LL.val (R.assign rfl rfl) rfl rfl rfl ?_
      refine LL.val (R.assign rfl rfl) rfl rfl rfl ?_
      refine LL.nilS ?_
      refine CC.ret ?_
      refine EE.ret _ rfl rfl ?_
      exact ⟨r, c, hd, hI, by rw [hd]; rfl, q⟩
    · refine CC.seq ?_
      refine CC.seq ?_
      refine CC.region ?_
      refine LL.val (R.move rfl rfl) rfl rfl rfl ?_
      refine LL.val (R.move rfl rfl) rfl rfl rfl ?_
      refine LL.val (R.len rfl rfl rfl rfl) rfl rfl rfl ?_
      refine LL.val (R.move rfl rfl) rfl rfl rfl ?_
      refine LL.val (R.len rfl rfl rfl rfl) rfl rfl rfl ?_
      refine LL.val (R.mulcN rfl rfl rfl rfl (by omega)) rfl rfl rfl ?_
      refine LL.val (R.addN rfl rfl rfl (by omega)) rfl rfl rfl ?_
      refine LL.val (R.ltT rfl rfl rfl (by omega)) rfl rfl rfl ?_
      refine LL.nilS ?_
      refine CC.yes rfl ?_
      refine CC.skip ?_
      refine EE.thenN ?_
      refine CC.seq ?_
      refine CC.block ?_
      refine CC.seq ?_
      refine CC.region ?_
      refine LL.val (R.move rfl rfl) rfl rfl rfl ?_
      (refine LL.call (R.call rfl rfl rfl) rfl rfl rfl (wants_done g r hg hd) ?_; rintro e W' ⟨rfl, rfl⟩; refine ⟨_, rfl, ?_⟩)
      refine LL.val (R.move rfl rfl) rfl rfl rfl ?_
      refine LL.val (R.extract rfl rfl rfl) rfl rfl rfl ?_
      refine LL.val (R.extract rfl rfl rfl) rfl rfl rfl ?_
      refine LL.val (R.assign rfl rfl) rfl rfl rfl ?_
      refine LL.val (R.assign rfl rfl) rfl rfl rfl ?_
      refine LL.nilS ?_
      refine CC.seq ?_
      refine CC.seq ?_
      refine CC.region ?_
      refine LL.val (R.move rfl rfl) rfl rfl rfl ?_
      refine LL.val (R.not rfl rfl) rfl rfl rfl ?_
      refine LL.nilS ?_
      refine CC.yes rfl ?_
      refine CC.exit ?_
      refine EE.thenX ?_
      refine EE.inX' rfl ?_
      refine EE.thenX ?_
      refine EE.thenX ?_
      refine EE.inX ?_
      refine EE.thenN ?_
      refine CC.seq ?_
      refine CC.region ?_
      refine LL.val (R.move rfl rfl) rfl rfl rfl ?_
      have lb141 := hg.lt
      (refine LL.call (R.call rfl rfl rfl) rfl rfl rfl (found_any g r hg) ?_; rintro e Wb140 ⟨rfl, bb137⟩; refine ⟨_, rfl, ?_⟩)
      have zbb137 := bb137.size
      replace q := q.trans (bb137.mono q.size)
      replace hg := hg.up bb137
      replace o1 := o1.up bb137
      refine LL.val (R.extract rfl rfl rfl) rfl rfl rfl ?_
      refine LL.val (R.extract rfl rfl rfl) rfl rfl rfl ?_
      refine LL.val (R.extract rfl rfl rfl) rfl rfl rfl ?_
      refine LL.val (R.assign rfl rfl) rfl rfl rfl ?_
      refine LL.val (R.assign rfl rfl) rfl rfl rfl ?_
      refine LL.val (R.assign rfl rfl) rfl rfl rfl ?_
      refine LL.nilS ?_
      refine CC.ret ?_
      refine EE.ret _ rfl rfl ?_
      exact ⟨r, c, hd, hI, by rw [hd]; rfl, q⟩
  | false =>
  have hp := mu_pos hin hd
  have hlt : i < M + 5 * n := by omega
  have hln : (applyS s (os.take c)).length = n := by rw [applyS_len]; exact hn
  obtain ⟨an, cn, rfl, hcn⟩ := (o1.reads uEnc).form hln
  have hstep := istep r c hcN hin hd hsl hI
  obtain ⟨hin2, hmu2⟩ := give_inv hin hd (atW left (applyS s (os.take c)) (wantR r))
  have hkey := give_key r (atW left (applyS s (os.take c)) (wantR r))
  have hsl2 : (giveR r (atW left (applyS s (os.take c)) (wantR r))).slots = n / 2 := by rw [hkey.2.1]; exact hsl
  have hlo2 := hkey.2.2
  have e3 : wantR r < (n : Int) := by have := want_lt hin; omega
  have e2 := want_ge r
  have hwr := wants_run g r hg hd
  obtain ⟨x, hx⟩ : ∃ x, wantR r = x := ⟨_, rfl⟩
  rw [show wantI r.k r.slot = x from hx] at hwr
  rw [hx] at e2 e3 hstep hin2 hmu2 hsl2 hlo2
  have lgw := hg.lt
  have hbig := hin.big
  clear hkey istep hx
  have load : ∀ Y, Below w.heap.size w Y → RowL Y g 56 (rdR g (giveR r (atW left (applyS s (os.take c)) x))) → OwnsT uE 1 Y (g + 1) 23 (.slice an n cn) (applyS s (os.take c)) → (i + 1 ≤ M + 5 * n ∧ c ≤ N ∧ c ≤ M ∧ i + 1 = c + (giveR r (atW left (applyS s (os.take c)) x)).loads ∧ Below w.heap.size w Y ∧ RowL Y g 56 (rdR g (giveR r (atW left (applyS s (os.take c)) x))) ∧ OwnsT uE 1 Y (g + 1) 23 (.slice an n cn) (applyS s (os.take c)) ∧ InvR (giveR r (atW left (applyS s (os.take c)) x)) ∧ (giveR r (atW left (applyS s (os.take c)) x)).slots = n / 2 ∧ Iv (giveR r (atW left (applyS s (os.take c)) x)) c) := fun Y h1 h2 h3 => ⟨by omega, hcN, hcM, by omega, h1, h2, h3, hin2, hsl2, hstep⟩
  obtain ⟨v, hv⟩ : ∃ v, atW left (applyS s (os.take c)) x = v := ⟨_, rfl⟩
  rw [hv] at load
  clear hin2 hmu2 hsl2 hlo2 hstep
  by_cases hiM : i < M
  case neg =>
    refine CC.seq ?_
    refine CC.seq ?_
    refine CC.region ?_
    refine LL.val (R.move rfl rfl) rfl rfl rfl ?_
    refine LL.val (R.move rfl rfl) rfl rfl rfl ?_
    refine LL.val (R.len rfl rfl rfl rfl) rfl rfl rfl ?_
    refine LL.val (R.move rfl rfl) rfl rfl rfl ?_
    refine LL.val (R.len rfl rfl rfl rfl) rfl rfl rfl ?_
    refine LL.val (R.mulcN rfl rfl rfl rfl (by omega)) rfl rfl rfl ?_
    refine LL.val (R.addN rfl rfl rfl (by omega)) rfl rfl rfl ?_
    refine LL.val (R.ltT rfl rfl rfl (by omega)) rfl rfl rfl ?_
    refine LL.nilS ?_
    refine CC.yes rfl ?_
    refine CC.skip ?_
    refine EE.thenN ?_
    refine CC.seq ?_
    refine CC.block ?_
    refine CC.seq ?_
    refine CC.region ?_
    refine LL.val (R.move rfl rfl) rfl rfl rfl ?_
    (refine LL.call (R.call rfl rfl rfl) rfl rfl rfl hwr ?_; rintro e W' ⟨rfl, rfl⟩; clear hwr; refine ⟨_, rfl, ?_⟩)
    refine LL.val (R.move rfl rfl) rfl rfl rfl ?_
    refine LL.val (R.extract rfl rfl rfl) rfl rfl rfl ?_
    refine LL.val (R.extract rfl rfl rfl) rfl rfl rfl ?_
    refine LL.val (R.assign rfl rfl) rfl rfl rfl ?_
    refine LL.val (R.assign rfl rfl) rfl rfl rfl ?_
    refine LL.nilS ?_
    refine CC.seq ?_
    refine CC.seq ?_
    refine CC.region ?_
    refine LL.val (R.move rfl rfl) rfl rfl rfl ?_
    refine LL.val (R.not rfl rfl) rfl rfl rfl ?_
    refine LL.nilS ?_
    refine CC.no rfl ?_
    refine CC.skip ?_
    refine EE.thenN ?_
    refine CC.seq ?_
    refine CC.seq ?_
    refine CC.region ?_
    refine LL.val (R.move rfl rfl) rfl rfl rfl ?_
    refine LL.val (R.move rfl rfl) rfl rfl rfl ?_
    refine LL.val (R.len rfl rfl rfl rfl) rfl rfl rfl ?_
    refine LL.val (R.ltF rfl rfl rfl (by omega)) rfl rfl rfl ?_
    refine LL.val (R.move rfl rfl) rfl rfl rfl ?_
    refine LL.skip rfl rfl ?_
    refine LL.skip rfl rfl ?_
    refine LL.skip rfl rfl ?_
    refine LL.skip rfl rfl ?_
    refine LL.skip rfl rfl ?_
    refine LL.skip rfl rfl ?_
    refine LL.val (R.pick rfl rfl rfl) rfl rfl rfl ?_
    refine LL.val (R.move rfl rfl) rfl rfl rfl ?_
    refine LL.skip rfl rfl ?_
    refine LL.skip rfl rfl ?_
    refine LL.skip rfl rfl ?_
    refine LL.skip rfl rfl ?_
    refine LL.val (R.pick rfl rfl rfl) rfl rfl rfl ?_
    refine LL.nilS ?_
    refine CC.no rfl ?_
    refine CC.skip ?_
    refine EE.thenN ?_
    refine CC.seq ?_
    refine CC.seq ?_
    refine CC.region ?_
    refine LL.val (R.move rfl rfl) rfl rfl rfl ?_
    refine LL.val (R.ltF rfl rfl rfl (by omega)) rfl rfl rfl ?_
    refine LL.val (R.move rfl rfl) rfl rfl rfl ?_
    refine LL.val (R.move rfl rfl) rfl rfl rfl ?_
    refine LL.val (R.move rfl rfl) rfl rfl rfl ?_
    refine LL.val (R.len rfl rfl rfl rfl) rfl rfl rfl ?_
    refine LL.val (R.geF rfl rfl rfl (by omega)) rfl rfl rfl ?_
    refine LL.val (R.pick rfl rfl rfl) rfl rfl rfl ?_
    refine LL.nilS ?_
    refine CC.no rfl ?_
    refine CC.skip ?_
    refine EE.thenN ?_
    refine CC.region ?_
    refine LL.val (R.move rfl rfl) rfl rfl rfl ?_
    refine LL.val (R.move rfl rfl) rfl rfl rfl ?_
    refine LL.val (R.move rfl rfl) rfl rfl rfl ?_
    refine LL.val (R.move rfl rfl) rfl rfl rfl ?_
    (refine LL.call (R.call rfl rfl rfl) rfl rfl rfl (at_any left n cn an (applyS s (os.take c)) x _ (o1.reads uEnc) hln (by omega) e3) ?_; rintro e W' ⟨rfl, rfl⟩; rw [hv]; refine ⟨_, rfl, ?_⟩)
    (refine LL.call (R.call rfl rfl rfl) rfl rfl rfl (give_any g v r hg hin.k hd hin.slot hin.slots hin.big) ?_; rintro e Wc256 ⟨rfl, hgN, tc255⟩; have o2 := OwnsT.keptG o1 tc255; clear hg o1; refine ⟨_, rfl, ?_⟩)
    have ztc255 := tc255.size
    replace q := tc255.onB q (fun j hj => ⟨by have := q.size; omega, by omega⟩)
    refine LL.nil ?_
    refine EE.inN ?_
    refine EE.thenN ?_
    refine CC.region ?_
    refine LL.val (R.move rfl rfl) rfl rfl rfl ?_
    refine LL.val (R.addNc rfl rfl rfl rfl (by omega)) rfl rfl rfl ?_
    refine LL.val (R.assign rfl rfl) rfl rfl rfl ?_
    refine LL.nil ?_
    exact EE.round (i + 1, c, giveR r v, .slice an n cn) ⟨rfl, rfl, rfl, rfl, rfl, rfl, rfl, rfl, trivial⟩ (load _ q hgN o2) (by show M + 5 * n - (i + 1) < M + 5 * n - i; omega)
  obtain ⟨b, hb⟩ : ∃ b, ts[i]? = some b := ⟨_, List.getElem?_eq_getElem (by omega)⟩
  obtain ⟨b1, ob, rfl, lb1, hc1⟩ := (htF w (Below.refl _ _)).one yEnc hb
  have cF : ∀ X, Below w.heap.size w X → X.cell? ⟨b1, ob + i, none⟩ = some (.int .u8 (b : Int)) := fun X hX => (hX.cell (p := ⟨b1, ob + i, none⟩) lb1).trans (hc1 _ rfl)
  clear hc1
  by_cases hodd : b % 2 = 1 ∧ c < N
  case neg =>
    by_cases hb2 : b % 2 = 1
    · have hcN2 : ¬ c < N := fun h => hodd ⟨hb2, h⟩
      clear hodd
      refine CC.seq ?_
      refine CC.seq ?_
      refine CC.region ?_
      refine LL.val (R.move rfl rfl) rfl rfl rfl ?_
      refine LL.val (R.move rfl rfl) rfl rfl rfl ?_
      refine LL.val (R.len rfl rfl rfl rfl) rfl rfl rfl ?_
      refine LL.val (R.move rfl rfl) rfl rfl rfl ?_
      refine LL.val (R.len rfl rfl rfl rfl) rfl rfl rfl ?_
      refine LL.val (R.mulcN rfl rfl rfl rfl (by omega)) rfl rfl rfl ?_
      refine LL.val (R.addN rfl rfl rfl (by omega)) rfl rfl rfl ?_
      refine LL.val (R.ltT rfl rfl rfl (by omega)) rfl rfl rfl ?_
      refine LL.nilS ?_
      refine CC.yes rfl ?_
      refine CC.skip ?_
      refine EE.thenN ?_
      refine CC.seq ?_
      refine CC.block ?_
      refine CC.seq ?_
      refine CC.region ?_
      refine LL.val (R.move rfl rfl) rfl rfl rfl ?_
      (refine LL.call (R.call rfl rfl rfl) rfl rfl rfl hwr ?_; rintro e W' ⟨rfl, rfl⟩; clear hwr; refine ⟨_, rfl, ?_⟩)
      refine LL.val (R.move rfl rfl) rfl rfl rfl ?_
      refine LL.val (R.extract rfl rfl rfl) rfl rfl rfl ?_
      refine LL.val (R.extract rfl rfl rfl) rfl rfl rfl ?_
      refine LL.val (R.assign rfl rfl) rfl rfl rfl ?_
      refine LL.val (R.assign rfl rfl) rfl rfl rfl ?_
      refine LL.nilS ?_
      refine CC.seq ?_
      refine CC.seq ?_
      refine CC.region ?_
      refine LL.val (R.move rfl rfl) rfl rfl rfl ?_
      refine LL.val (R.not rfl rfl) rfl rfl rfl ?_
      refine LL.nilS ?_
      refine CC.no rfl ?_
      refine CC.skip ?_
      refine EE.thenN ?_
      refine CC.seq ?_
      refine CC.seq ?_
      refine CC.region ?_
      refine LL.val (R.move rfl rfl) rfl rfl rfl ?_
      refine LL.val (R.move rfl rfl) rfl rfl rfl ?_
      refine LL.val (R.len rfl rfl rfl rfl) rfl rfl rfl ?_
      refine LL.val (R.ltT rfl rfl rfl (by omega)) rfl rfl rfl ?_
      refine LL.val (R.move rfl rfl) rfl rfl rfl ?_
      refine LL.val (R.move rfl rfl) rfl rfl rfl ?_
      refine LL.val (R.move rfl rfl) rfl rfl rfl ?_
      refine LL.val (R.index rfl rfl rfl (I.ixS1 rfl (by omega))) rfl rfl rfl ?_
      (refine LL.val (R.load rfl rfl (I.ld1 rfl (cF _ q))) rfl rfl rfl ?_)
      (refine LL.val (R.rem82 rfl rfl rfl) rfl rfl rfl ?_)
      refine LL.val (R.eqT rfl rfl rfl (by omega)) rfl rfl rfl ?_
      refine LL.val (R.pick rfl rfl rfl) rfl rfl rfl ?_
      refine LL.val (R.move rfl rfl) rfl rfl rfl ?_
      refine LL.val (R.move rfl rfl) rfl rfl rfl ?_
      refine LL.val (R.move rfl rfl) rfl rfl rfl ?_
      refine LL.val (R.len rfl rfl rfl rfl) rfl rfl rfl ?_
      refine LL.val (R.ltF rfl rfl rfl (by omega)) rfl rfl rfl ?_
      refine LL.val (R.pick rfl rfl rfl) rfl rfl rfl ?_
      refine LL.nilS ?_
      refine CC.no rfl ?_
      refine CC.skip ?_
      refine EE.thenN ?_
      refine CC.seq ?_
      refine CC.seq ?_
      refine CC.region ?_
      refine LL.val (R.move rfl rfl) rfl rfl rfl ?_
      refine LL.val (R.ltF rfl rfl rfl (by omega)) rfl rfl rfl ?_
      refine LL.val (R.move rfl rfl) rfl rfl rfl ?_
      refine LL.val (R.move rfl rfl) rfl rfl rfl ?_
      refine LL.val (R.move rfl rfl) rfl rfl rfl ?_
      refine LL.val (R.len rfl rfl rfl rfl) rfl rfl rfl ?_
      refine LL.val (R.geF rfl rfl rfl (by omega)) rfl rfl rfl ?_
      refine LL.val (R.pick rfl rfl rfl) rfl rfl rfl ?_
      refine LL.nilS ?_
      refine CC.no rfl ?_
      refine CC.skip ?_
      refine EE.thenN ?_
      refine CC.region ?_
      refine LL.val (R.move rfl rfl) rfl rfl rfl ?_
      refine LL.val (R.move rfl rfl) rfl rfl rfl ?_
      refine LL.val (R.move rfl rfl) rfl rfl rfl ?_
      refine LL.val (R.move rfl rfl) rfl rfl rfl ?_
      (refine LL.call (R.call rfl rfl rfl) rfl rfl rfl (at_any left n cn an (applyS s (os.take c)) x _ (o1.reads uEnc) hln (by omega) e3) ?_; rintro e W' ⟨rfl, rfl⟩; rw [hv]; refine ⟨_, rfl, ?_⟩)
      (refine LL.call (R.call rfl rfl rfl) rfl rfl rfl (give_any g v r hg hin.k hd hin.slot hin.slots hin.big) ?_; rintro e Wd326 ⟨rfl, hgN, td325⟩; have o2 := OwnsT.keptG o1 td325; clear hg o1; refine ⟨_, rfl, ?_⟩)
      have ztd325 := td325.size
      replace q := td325.onB q (fun j hj => ⟨by have := q.size; omega, by omega⟩)
      refine LL.nil ?_
      refine EE.inN ?_
      refine EE.thenN ?_
      refine CC.region ?_
      refine LL.val (R.move rfl rfl) rfl rfl rfl ?_
      refine LL.val (R.addNc rfl rfl rfl rfl (by omega)) rfl rfl rfl ?_
      refine LL.val (R.assign rfl rfl) rfl rfl rfl ?_
      refine LL.nil ?_
      exact EE.round (i + 1, c, giveR r v, .slice an n cn) ⟨rfl, rfl, rfl, rfl, rfl, rfl, rfl, rfl, trivial⟩ (load _ q hgN o2) (by show M + 5 * n - (i + 1) < M + 5 * n - i; omega)
    · clear hodd
      refine CC.seq ?_
      refine CC.seq ?_
      refine CC.region ?_
      refine LL.val (R.move rfl rfl) rfl rfl rfl ?_
      refine LL.val (R.move rfl rfl) rfl rfl rfl ?_
      refine LL.val (R.len rfl rfl rfl rfl) rfl rfl rfl ?_
      refine LL.val (R.move rfl rfl) rfl rfl rfl ?_
      refine LL.val (R.len rfl rfl rfl rfl) rfl rfl rfl ?_
      refine LL.val (R.mulcN rfl rfl rfl rfl (by omega)) rfl rfl rfl ?_
      refine LL.val (R.addN rfl rfl rfl (by omega)) rfl rfl rfl ?_
      refine LL.val (R.ltT rfl rfl rfl (by omega)) rfl rfl rfl ?_
      refine LL.nilS ?_
      refine CC.yes rfl ?_
      refine CC.skip ?_
      refine EE.thenN ?_
      refine CC.seq ?_
      refine CC.block ?_
      refine CC.seq ?_
      refine CC.region ?_
      refine LL.val (R.move rfl rfl) rfl rfl rfl ?_
      (refine LL.call (R.call rfl rfl rfl) rfl rfl rfl hwr ?_; rintro e W' ⟨rfl, rfl⟩; clear hwr; refine ⟨_, rfl, ?_⟩)
      refine LL.val (R.move rfl rfl) rfl rfl rfl ?_
      refine LL.val (R.extract rfl rfl rfl) rfl rfl rfl ?_
      refine LL.val (R.extract rfl rfl rfl) rfl rfl rfl ?_
      refine LL.val (R.assign rfl rfl) rfl rfl rfl ?_
      refine LL.val (R.assign rfl rfl) rfl rfl rfl ?_
      refine LL.nilS ?_
      refine CC.seq ?_
      refine CC.seq ?_
      refine CC.region ?_
      refine LL.val (R.move rfl rfl) rfl rfl rfl ?_
      refine LL.val (R.not rfl rfl) rfl rfl rfl ?_
      refine LL.nilS ?_
      refine CC.no rfl ?_
      refine CC.skip ?_
      refine EE.thenN ?_
      refine CC.seq ?_
      refine CC.seq ?_
      refine CC.region ?_
      refine LL.val (R.move rfl rfl) rfl rfl rfl ?_
      refine LL.val (R.move rfl rfl) rfl rfl rfl ?_
      refine LL.val (R.len rfl rfl rfl rfl) rfl rfl rfl ?_
      refine LL.val (R.ltT rfl rfl rfl (by omega)) rfl rfl rfl ?_
      refine LL.val (R.move rfl rfl) rfl rfl rfl ?_
      refine LL.val (R.move rfl rfl) rfl rfl rfl ?_
      refine LL.val (R.move rfl rfl) rfl rfl rfl ?_
      refine LL.val (R.index rfl rfl rfl (I.ixS1 rfl (by omega))) rfl rfl rfl ?_
      (refine LL.val (R.load rfl rfl (I.ld1 rfl (cF _ q))) rfl rfl rfl ?_)
      (refine LL.val (R.rem82 rfl rfl rfl) rfl rfl rfl ?_)
      refine LL.val (R.eqF rfl rfl rfl (by omega)) rfl rfl rfl ?_
      refine LL.val (R.pick rfl rfl rfl) rfl rfl rfl ?_
      refine LL.val (R.move rfl rfl) rfl rfl rfl ?_
      refine LL.skip rfl rfl ?_
      refine LL.skip rfl rfl ?_
      refine LL.skip rfl rfl ?_
      refine LL.skip rfl rfl ?_
      refine LL.val (R.pick rfl rfl rfl) rfl rfl rfl ?_
      refine LL.nilS ?_
      refine CC.no rfl ?_
      refine CC.skip ?_
      refine EE.thenN ?_
      refine CC.seq ?_
      refine CC.seq ?_
      refine CC.region ?_
      refine LL.val (R.move rfl rfl) rfl rfl rfl ?_
      refine LL.val (R.ltF rfl rfl rfl (by omega)) rfl rfl rfl ?_
      refine LL.val (R.move rfl rfl) rfl rfl rfl ?_
      refine LL.val (R.move rfl rfl) rfl rfl rfl ?_
      refine LL.val (R.move rfl rfl) rfl rfl rfl ?_
      refine LL.val (R.len rfl rfl rfl rfl) rfl rfl rfl ?_
      refine LL.val (R.geF rfl rfl rfl (by omega)) rfl rfl rfl ?_
      refine LL.val (R.pick rfl rfl rfl) rfl rfl rfl ?_
      refine LL.nilS ?_
      refine CC.no rfl ?_
      refine CC.skip ?_
      refine EE.thenN ?_
      refine CC.region ?_
      refine LL.val (R.move rfl rfl) rfl rfl rfl ?_
      refine LL.val (R.move rfl rfl) rfl rfl rfl ?_
      refine LL.val (R.move rfl rfl) rfl rfl rfl ?_
      refine LL.val (R.move rfl rfl) rfl rfl rfl ?_
      (refine LL.call (R.call rfl rfl rfl) rfl rfl rfl (at_any left n cn an (applyS s (os.take c)) x _ (o1.reads uEnc) hln (by omega) e3) ?_; rintro e W' ⟨rfl, rfl⟩; rw [hv]; refine ⟨_, rfl, ?_⟩)
      (refine LL.call (R.call rfl rfl rfl) rfl rfl rfl (give_any g v r hg hin.k hd hin.slot hin.slots hin.big) ?_; rintro e We298 ⟨rfl, hgN, te297⟩; have o2 := OwnsT.keptG o1 te297; clear hg o1; refine ⟨_, rfl, ?_⟩)
      have zte297 := te297.size
      replace q := te297.onB q (fun j hj => ⟨by have := q.size; omega, by omega⟩)
      refine LL.nil ?_
      refine EE.inN ?_
      refine EE.thenN ?_
      refine CC.region ?_
      refine LL.val (R.move rfl rfl) rfl rfl rfl ?_
      refine LL.val (R.addNc rfl rfl rfl rfl (by omega)) rfl rfl rfl ?_
      refine LL.val (R.assign rfl rfl) rfl rfl rfl ?_
      refine LL.nil ?_
      exact EE.round (i + 1, c, giveR r v, .slice an n cn) ⟨rfl, rfl, rfl, rfl, rfl, rfl, rfl, rfl, trivial⟩ (load _ q hgN o2) (by show M + 5 * n - (i + 1) < M + 5 * n - i; omega)
  obtain ⟨hb2, hcN2⟩ := hodd
  obtain ⟨y, hy⟩ : ∃ y, os[c]? = some y := ⟨_, List.getElem?_eq_getElem (by omega)⟩
  obtain ⟨b2, o2, rfl, _, _⟩ := (hoF _ q).get pEnc hy
  have hI2 := ilater r c hI
  have hap : applyS (applyS s (os.take c)) [y] = applyS s (os.take (c + 1)) := by rw [List.take_add_one, hy, applyS_app]; rfl
  have hy0 : ∀ p ∈ [y], 0 ≤ p.1 := fun p hp => by rw [List.mem_singleton.1 hp]; exact h0 y (List.mem_of_getElem? hy)
  have hat : ∀ X, Below w.heap.size w X → ∀ cc, 1 ≤ cc → ReadsT pE 2 X (.slice (some ⟨b2, o2 + c * 2, none⟩) (c + 1 - c) cc) [y] := fun X hX cc hcc => by
    rw [Nat.add_sub_cancel_left]
    exact (hoF X hX).at1 pEnc hy hcc
  clear load ilater
  refine CC.seq ?_
  refine CC.seq ?_
  refine CC.region ?_
  refine LL.val (R.move rfl rfl) rfl rfl rfl ?_
  refine LL.val (R.move rfl rfl) rfl rfl rfl ?_
  refine LL.val (R.len rfl rfl rfl rfl) rfl rfl rfl ?_
  refine LL.val (R.move rfl rfl) rfl rfl rfl ?_
  refine LL.val (R.len rfl rfl rfl rfl) rfl rfl rfl ?_
  refine LL.val (R.mulcN rfl rfl rfl rfl (by omega)) rfl rfl rfl ?_
  refine LL.val (R.addN rfl rfl rfl (by omega)) rfl rfl rfl ?_
  refine LL.val (R.ltT rfl rfl rfl (by omega)) rfl rfl rfl ?_
  refine LL.nilS ?_
  refine CC.yes rfl ?_
  refine CC.skip ?_
  refine EE.thenN ?_
  refine CC.seq ?_
  refine CC.block ?_
  refine CC.seq ?_
  refine CC.region ?_
  refine LL.val (R.move rfl rfl) rfl rfl rfl ?_
  (refine LL.call (R.call rfl rfl rfl) rfl rfl rfl hwr ?_; rintro e W' ⟨rfl, rfl⟩; clear hwr; refine ⟨_, rfl, ?_⟩)
  refine LL.val (R.move rfl rfl) rfl rfl rfl ?_
  refine LL.val (R.extract rfl rfl rfl) rfl rfl rfl ?_
  refine LL.val (R.extract rfl rfl rfl) rfl rfl rfl ?_
  refine LL.val (R.assign rfl rfl) rfl rfl rfl ?_
  refine LL.val (R.assign rfl rfl) rfl rfl rfl ?_
  refine LL.nilS ?_
  refine CC.seq ?_
  refine CC.seq ?_
  refine CC.region ?_
  refine LL.val (R.move rfl rfl) rfl rfl rfl ?_
  refine LL.val (R.not rfl rfl) rfl rfl rfl ?_
  refine LL.nilS ?_
  refine CC.no rfl ?_
  refine CC.skip ?_
  refine EE.thenN ?_
  refine CC.seq ?_
  refine CC.seq ?_
  refine CC.region ?_
  refine LL.val (R.move rfl rfl) rfl rfl rfl ?_
  refine LL.val (R.move rfl rfl) rfl rfl rfl ?_
  refine LL.val (R.len rfl rfl rfl rfl) rfl rfl rfl ?_
  refine LL.val (R.ltT rfl rfl rfl (by omega)) rfl rfl rfl ?_
  refine LL.val (R.move rfl rfl) rfl rfl rfl ?_
  refine LL.val (R.move rfl rfl) rfl rfl rfl ?_
  refine LL.val (R.move rfl rfl) rfl rfl rfl ?_
  refine LL.val (R.index rfl rfl rfl (I.ixS1 rfl (by omega))) rfl rfl rfl ?_
  (refine LL.val (R.load rfl rfl (I.ld1 rfl (cF _ q))) rfl rfl rfl ?_)
  (refine LL.val (R.rem82 rfl rfl rfl) rfl rfl rfl ?_)
  refine LL.val (R.eqT rfl rfl rfl (by omega)) rfl rfl rfl ?_
  refine LL.val (R.pick rfl rfl rfl) rfl rfl rfl ?_
  refine LL.val (R.move rfl rfl) rfl rfl rfl ?_
  refine LL.val (R.move rfl rfl) rfl rfl rfl ?_
  refine LL.val (R.move rfl rfl) rfl rfl rfl ?_
  refine LL.val (R.len rfl rfl rfl rfl) rfl rfl rfl ?_
  refine LL.val (R.ltT rfl rfl rfl (by omega)) rfl rfl rfl ?_
  refine LL.val (R.pick rfl rfl rfl) rfl rfl rfl ?_
  refine LL.nilS ?_
  refine CC.yes rfl ?_
  refine CC.seq ?_
  refine CC.region ?_
  refine LL.val (R.move rfl rfl) rfl rfl rfl ?_
  refine LL.val (R.move rfl rfl) rfl rfl rfl ?_
  refine LL.val (R.move rfl rfl) rfl rfl rfl ?_
  refine LL.val (R.move rfl rfl) rfl rfl rfl ?_
  refine LL.val (R.addNc rfl rfl rfl rfl (by omega)) rfl rfl rfl ?_
  refine LL.val (R.slice rfl rfl rfl rfl rfl (I.slS rfl (by omega) (by omega) (by omega))) rfl rfl rfl ?_
  have lf325 := hg.lt
  (refine LL.call (R.call rfl rfl rfl) rfl rfl rfl (dapply_any n _ _ (applyS s (os.take c)) [y] _ (o1.reads uEnc) hln (by omega) (hat _ q _ (by omega)) (by simp) hy0) ?_; rintro e Wf324 ⟨vo, rfl, o5, bf321⟩; rw [hap] at o5; replace o5 := OwnsT.lower (base := g + 1) o5 (by omega); clear o1; refine ⟨_, rfl, ?_⟩)
  have zbf321 := bf321.size
  replace q := q.trans (bf321.mono q.size)
  replace hg := hg.up bf321
  refine LL.val (R.assign rfl rfl) rfl rfl rfl ?_
  refine LL.nilS ?_
  refine CC.seq ?_
  refine CC.region ?_
  refine LL.val (R.move rfl rfl) rfl rfl rfl ?_
  refine LL.val (R.addNc rfl rfl rfl rfl (by omega)) rfl rfl rfl ?_
  refine LL.val (R.assign rfl rfl) rfl rfl rfl ?_
  refine LL.nilS ?_
  refine CC.exit ?_
  refine EE.thenX ?_
  refine EE.inX ?_
  refine EE.thenN ?_
  refine CC.region ?_
  refine LL.val (R.move rfl rfl) rfl rfl rfl ?_
  refine LL.val (R.addNc rfl rfl rfl rfl (by omega)) rfl rfl rfl ?_
  refine LL.val (R.assign rfl rfl) rfl rfl rfl ?_
  refine LL.nil ?_
  exact EE.round (i + 1, c + 1, r, vo) ⟨rfl, rfl, rfl, rfl, rfl, rfl, rfl, rfl, trivial⟩ ⟨by show i + 1 ≤ M + 5 * n; omega, by show c + 1 ≤ N; omega, by show c + 1 ≤ M; omega, by show i + 1 = c + 1 + r.loads; omega, q, hg, o5, hin, hsl, hI2⟩ (by show M + 5 * n - (i + 1) < M + 5 * n - i; omega)
end Go.Proofs.Ytloflmkolnediaa

/- scan: ScanSettled: the walk. -/
namespace Go.Proofs.Ytloflmkolnediaa
set_option linter.unusedVariables false
set_option linter.unusedSimpArgs false
open Go.RowKit Go.Shelf
set_option maxRecDepth 100000
set_option maxHeartbeats 8000000
theorem find_pre {l : List Pr} {k i : Nat} {x : Pr} (ht : ∀ j y, j < i → l[j]? = some y → y.1 ≠ k) (hx : l[i]? = some x) (hk : x.1 = k) : pairV l k = (x.2, true) := by
  unfold pairV
  have : l.find? (fun y => y.1 == k) = some x := by
    rw [List.find?_eq_some_iff_append]
    obtain ⟨h, hg⟩ := List.getElem?_eq_some_iff.1 hx
    refine ⟨by simp [hk], l.take i, l.drop (i + 1), ?_, ?_⟩
    · rw [← hg, List.getElem_cons_drop, List.take_append_drop]
    · intro y hy
      obtain ⟨j, hj⟩ := List.mem_iff_getElem?.1 hy
      rw [List.getElem?_take] at hj
      split at hj
      · have := ht j y (by omega) hj
        simpa using this
      · cases hj
  rw [this]
theorem find_none {l : List Pr} {k : Nat} (ht : ∀ j y, j < l.length → l[j]? = some y → y.1 ≠ k) : pairV l k = (0, false) := by
  unfold pairV
  have : l.find? (fun y => y.1 == k) = none := by
    rw [List.find?_eq_none]
    intro y hy
    obtain ⟨j, hj⟩ := List.mem_iff_getElem?.1 hy
    have := ht j y (List.getElem?_eq_some_iff.1 hj).1 hj
    simpa using this
  rw [this]
theorem lpair_any (v : Value) (l : List Pr) (k : Nat) (w : World) (hv : ReadsT prE 2 w v l) (hl : l.length ≤ 1048576) : Calls Try.prog 28 #[v, .int .u64 (k : Int)] w fun e w' => e = .returned (.tuple #[.int .u64 ((pairV l k).1 : Int), .bool (pairV l k).2]) ∧ Below w.heap.size w w' := by
  have q := Below.refl w.heap.size w
  obtain ⟨N, hN⟩ : ∃ N, l.length = N := ⟨_, rfl⟩
  obtain ⟨a, cap, rfl, hc⟩ := hv.form hN
  rw [hN] at hl
  have hF : ∀ W, Below w.heap.size w W → ReadsT prE 2 W (.slice a N cap) l := fun W b => hv.up b
  clear hv
  refine X.fn Try.func28 rfl (n := 25) rfl rfl ?_
  refine CC.seq ?_
  refine CC.region ?_
  refine LL.val (R.assign rfl rfl) rfl rfl rfl ?_
  refine LL.val (R.assign rfl rfl) rfl rfl rfl ?_
  refine LL.nilS ?_
  refine CC.seq ?_
  refine CC.seq ?_
  refine CC.region ?_
  refine LL.val (R.assign rfl rfl) rfl rfl rfl ?_
  refine LL.nilS ?_
  refine CC.block ?_
  refine CC.loop (α := Nat) (fun i => [(0, .slice a N cap), (1, .int .u64 (k : Int)), (6, .int .i64 (i : Int))]) (fun i W => i ≤ N ∧ Below w.heap.size w W ∧ ∀ j x, j < i → l[j]? = some x → x.1 ≠ k) (fun i => N - i) 0 ⟨rfl, rfl, rfl, trivial⟩ ⟨Nat.zero_le _, q, fun j x h => by omega⟩ ?_
  clear q
  rintro i W ⟨hi, q, ht⟩
  show CC none Try.prog _ 25 [] (sl [(0, .slice a N cap), (1, .int .u64 (k : Int)), (6, .int .i64 (i : Int))]) _ W
  by_cases hlt : i < N
  case neg =>
    obtain rfl : i = N := by omega
    have hR : pairV l k = (0, false) := find_none (fun j y h => ht j y (by omega))
    rw [hR]
    clear ht
    refine CC.seq ?_
    refine CC.seq ?_
    refine CC.region ?_
    refine LL.val (R.move rfl rfl) rfl rfl rfl ?_
    refine LL.val (R.move rfl rfl) rfl rfl rfl ?_
    refine LL.val (R.len rfl rfl rfl rfl) rfl rfl rfl ?_
    refine LL.val (R.ltF rfl rfl rfl (by omega)) rfl rfl rfl ?_
    refine LL.nilS ?_
    refine CC.no rfl ?_
    refine CC.exit ?_
    refine EE.thenX ?_
    refine EE.thenX ?_
    refine EE.inX ?_
    refine EE.thenN ?_
    refine CC.seq ?_
    refine CC.region ?_
    refine LL.val (R.assign rfl rfl) rfl rfl rfl ?_
    refine LL.val (R.assign rfl rfl) rfl rfl rfl ?_
    refine LL.nilS ?_
    refine CC.ret ?_
    refine EE.ret _ rfl rfl ?_
    exact ⟨rfl, q⟩
  obtain ⟨⟨k1, p1⟩, hx⟩ : ∃ x, l[i]? = some x := ⟨_, List.getElem?_eq_getElem (by omega)⟩
  obtain ⟨b1, o1, rfl, _, _⟩ := (hF _ q).get prEnc hx
  have c1 : W.cell? ⟨b1, o1 + i * 2, none⟩ = some (.int .u64 (k1 : Int)) := ((hF W q).elemN prEnc hx).cell (j := 0) rfl
  have c2 : W.cell? ⟨b1, o1 + i * 2 + 1, none⟩ = some (.int .u64 (p1 : Int)) := ((hF W q).elemN prEnc hx).cell (j := 1) rfl
  by_cases h2 : k1 = k
  · have hR := find_pre ht hx h2
    rw [hR]
    clear ht
    refine CC.seq ?_
    refine CC.seq ?_
    refine CC.region ?_
    refine LL.val (R.move rfl rfl) rfl rfl rfl ?_
    refine LL.val (R.move rfl rfl) rfl rfl rfl ?_
    refine LL.val (R.len rfl rfl rfl rfl) rfl rfl rfl ?_
    refine LL.val (R.ltT rfl rfl rfl (by omega)) rfl rfl rfl ?_
    refine LL.nilS ?_
    refine CC.yes rfl ?_
    refine CC.skip ?_
    refine EE.thenN ?_
    refine CC.seq ?_
    refine CC.block ?_
    refine CC.seq ?_
    refine CC.region ?_
    refine LL.val (R.move rfl rfl) rfl rfl rfl ?_
    refine LL.val (R.move rfl rfl) rfl rfl rfl ?_
    refine LL.val (R.index rfl rfl rfl (I.ixS rfl (by omega))) rfl rfl rfl ?_
    refine LL.val (R.field rfl rfl (I.fld rfl)) rfl rfl rfl ?_
    refine LL.val (R.load rfl rfl (I.ld1 rfl (by assumption))) rfl rfl rfl ?_
    refine LL.val (R.move rfl rfl) rfl rfl rfl ?_
    refine LL.val (R.eqT rfl rfl rfl (by omega)) rfl rfl rfl ?_
    refine LL.nilS ?_
    refine CC.yes rfl ?_
    refine CC.seq ?_
    refine CC.region ?_
    refine LL.val (R.move rfl rfl) rfl rfl rfl ?_
    refine LL.val (R.move rfl rfl) rfl rfl rfl ?_
    refine LL.val (R.index rfl rfl rfl (I.ixS rfl (by omega))) rfl rfl rfl ?_
    refine LL.val (R.field rfl rfl (I.fld rfl)) rfl rfl rfl ?_
    refine LL.val (R.load rfl rfl (I.ld1 rfl (by assumption))) rfl rfl rfl ?_
    refine LL.val (R.assign rfl rfl) rfl rfl rfl ?_
    refine LL.val (R.assign rfl rfl) rfl rfl rfl ?_
    refine LL.nilS ?_
    refine CC.ret ?_
    refine EE.inR ?_
    refine EE.thenR ?_
    refine EE.thenR ?_
    refine EE.inR ?_
    refine EE.thenR ?_
    refine EE.ret _ rfl rfl ?_
    exact ⟨rfl, q⟩
  · have ht' : ∀ j x, j < i + 1 → l[j]? = some x → x.1 ≠ k := fun j x hj hjx => by
      by_cases e : j = i
      · subst e; rw [hx] at hjx; cases hjx; exact h2
      · exact ht j x (by omega) hjx
    clear ht
    refine CC.seq ?_
    refine CC.seq ?_
    refine CC.region ?_
    refine LL.val (R.move rfl rfl) rfl rfl rfl ?_
    refine LL.val (R.move rfl rfl) rfl rfl rfl ?_
    refine LL.val (R.len rfl rfl rfl rfl) rfl rfl rfl ?_
    refine LL.val (R.ltT rfl rfl rfl (by omega)) rfl rfl rfl ?_
    refine LL.nilS ?_
    refine CC.yes rfl ?_
    refine CC.skip ?_
    refine EE.thenN ?_
    refine CC.seq ?_
    refine CC.block ?_
    refine CC.seq ?_
    refine CC.region ?_
    refine LL.val (R.move rfl rfl) rfl rfl rfl ?_
    refine LL.val (R.move rfl rfl) rfl rfl rfl ?_
    refine LL.val (R.index rfl rfl rfl (I.ixS rfl (by omega))) rfl rfl rfl ?_
    refine LL.val (R.field rfl rfl (I.fld rfl)) rfl rfl rfl ?_
    refine LL.val (R.load rfl rfl (I.ld1 rfl (by assumption))) rfl rfl rfl ?_
    refine LL.val (R.move rfl rfl) rfl rfl rfl ?_
    refine LL.val (R.eqF rfl rfl rfl (by omega)) rfl rfl rfl ?_
    refine LL.nilS ?_
    refine CC.no rfl ?_
    refine CC.skip ?_
    refine EE.inN ?_
    refine EE.thenN ?_
    refine CC.region ?_
    refine LL.val (R.move rfl rfl) rfl rfl rfl ?_
    refine LL.val (R.addNc rfl rfl rfl rfl (by omega)) rfl rfl rfl ?_
    refine LL.val (R.assign rfl rfl) rfl rfl rfl ?_
    refine LL.nil ?_
    exact EE.round (i + 1) ⟨rfl, rfl, rfl, trivial⟩ ⟨by show i + 1 ≤ N; omega, q, ht'⟩ (by show N - (i + 1) < N - i; omega)
theorem settled_walk (left : Nat) (v : Value) (s : List Nat) (key : Nat) (w : World) (hv : ReadsT uE 1 w v s) : Calls Try.prog 6 #[.int .u64 (left : Int), v, .int .u64 (key : Int)] w fun e w' => e = .returned (.bool true) ∧ Below w.heap.size w w' := by
  have q := Below.refl w.heap.size w
  obtain ⟨n, hn⟩ : ∃ n, s.length = n := ⟨_, rfl⟩
  obtain ⟨a, c, rfl, hc⟩ := hv.form hn
  have hvF : ∀ X, Below w.heap.size w X → ReadsT uE 1 X (.slice a n c) s := fun X b => hv.up b
  clear hv
  by_cases hl : n ≤ 56
  case neg =>
    refine X.fn Try.func6 rfl (n := 72) rfl rfl ?_
    refine CC.seq ?_
    refine CC.region ?_
    refine LL.val (R.assign rfl rfl) rfl rfl rfl ?_
    refine LL.nilS ?_
    refine CC.seq ?_
    refine CC.seq ?_
    refine CC.region ?_
    refine LL.val (R.move rfl rfl) rfl rfl rfl ?_
    refine LL.val (R.len rfl rfl rfl rfl) rfl rfl rfl ?_
    refine LL.val (R.gtT rfl rfl rfl (by omega)) rfl rfl rfl ?_
    refine LL.val (R.move rfl rfl) rfl rfl rfl ?_
    refine LL.skip rfl rfl ?_
    refine LL.skip rfl rfl ?_
    refine LL.skip rfl rfl ?_
    refine LL.skip rfl rfl ?_
    refine LL.val (R.pick rfl rfl rfl) rfl rfl rfl ?_
    refine LL.nilS ?_
    refine CC.yes rfl ?_
    refine CC.seq ?_
    refine CC.region ?_
    (refine LL.call (R.call rfl rfl rfl) rfl rfl rfl (works_any _) ?_; rintro e W46 ⟨rfl, b43⟩; refine ⟨_, rfl, ?_⟩)
    have zb43 := b43.size
    replace q := q.trans (b43.mono q.size)
    refine LL.val (R.assign rfl rfl) rfl rfl rfl ?_
    refine LL.nilS ?_
    refine CC.ret ?_
    refine EE.thenR ?_
    refine EE.ret _ rfl rfl ?_
    exact ⟨rfl, q⟩
  have h : n ≤ 1048576 := by omega
  by_cases hck : checkF left s = 0
  case neg =>
    refine X.fn Try.func6 rfl (n := 72) rfl rfl ?_
    refine CC.seq ?_
    refine CC.region ?_
    refine LL.val (R.assign rfl rfl) rfl rfl rfl ?_
    refine LL.nilS ?_
    refine CC.seq ?_
    refine CC.seq ?_
    refine CC.region ?_
    refine LL.val (R.move rfl rfl) rfl rfl rfl ?_
    refine LL.val (R.len rfl rfl rfl rfl) rfl rfl rfl ?_
    refine LL.val (R.gtF rfl rfl rfl (by omega)) rfl rfl rfl ?_
    refine LL.val (R.move rfl rfl) rfl rfl rfl ?_
    refine LL.val (R.move rfl rfl) rfl rfl rfl ?_
    refine LL.val (R.move rfl rfl) rfl rfl rfl ?_
    (refine LL.call (R.call rfl rfl rfl) rfl rfl rfl (dcheck_any left n _ s _ (hvF _ q) hn h) ?_; rintro e Wa102 ⟨rfl, ba99⟩; refine ⟨_, rfl, ?_⟩)
    have zba99 := ba99.size
    replace q := q.trans (ba99.mono q.size)
    refine LL.val (R.neT rfl rfl rfl (by omega)) rfl rfl rfl ?_
    refine LL.val (R.pick rfl rfl rfl) rfl rfl rfl ?_
    refine LL.nilS ?_
    refine CC.yes rfl ?_
    refine CC.seq ?_
    refine CC.region ?_
    (refine LL.call (R.call rfl rfl rfl) rfl rfl rfl (works_any _) ?_; rintro e Wa144 ⟨rfl, ba141⟩; refine ⟨_, rfl, ?_⟩)
    have zba141 := ba141.size
    replace ba99 := ba99.trans (ba141.mono ba99.size)
    replace q := q.trans (ba141.mono q.size)
    refine LL.val (R.assign rfl rfl) rfl rfl rfl ?_
    refine LL.nilS ?_
    refine CC.ret ?_
    refine EE.thenR ?_
    refine EE.ret _ rfl rfl ?_
    exact ⟨rfl, q⟩
  have hrs : ¬ noRow left s.length ∧ setP left s := by
    unfold checkF at hck
    by_cases h1 : noRow left s.length
    · rw [if_pos h1] at hck; cases hck
    · rw [if_neg h1] at hck
      by_cases h2 : setP left s
      · exact ⟨h1, h2⟩
      · rw [if_neg h2] at hck; cases hck
  obtain ⟨m, hs⟩ := setP_iff.1 hrs.2
  have hrow : rowOk left s.length := noRow_not hrs.1
  have e1 := look_settled (key := key) true hs hrow
  have e2 := look_settled (key := key) false hs hrow
  obtain ⟨⟨p, b⟩, hP⟩ : ∃ r, pairV (pairP left s) key = r := ⟨_, rfl⟩
  rw [hP] at e1 e2
  have e3 := congrArg Prod.fst e1
  have e4 := congrArg Prod.snd e1
  have e5 := congrArg Prod.fst e2
  have e6 := congrArg Prod.snd e2
  simp only at e3 e4 e5 e6
  have hL : ∀ (up : Bool) (W : World), ReadsT uE 1 W (.slice a n c) s → Calls Try.prog 17 #[.int .i64 (wayI up), .int .u64 (left : Int), .slice a n c, .int .u64 (key : Int)] W fun e w' => e = .returned (.tuple #[.int .u64 (p : Int), .bool b]) ∧ Below W.heap.size W w' := fun up W hv => by
    have := look_T up left n c key a s W hv hn (by rw [← hn]; exact hrow)
    cases up
    · rwa [e5, e6] at this
    · rwa [e3, e4] at this
  have hU := hL true
  have hD := hL false
  rw [show wayI true = 1 from rfl] at hU
  rw [show wayI false = 2 from rfl] at hD
  have hpl : (pairP left s).length ≤ 1048576 := by rw [hs.pairP]; have := hs.lt; simp; omega
  clear hL e1 e2 e3 e4 e5 e6
  refine X.fn Try.func6 rfl (n := 72) rfl rfl ?_
  refine CC.seq ?_
  refine CC.region ?_
  refine LL.val (R.assign rfl rfl) rfl rfl rfl ?_
  refine LL.nilS ?_
  refine CC.seq ?_
  refine CC.seq ?_
  refine CC.region ?_
  refine LL.val (R.move rfl rfl) rfl rfl rfl ?_
  refine LL.val (R.len rfl rfl rfl rfl) rfl rfl rfl ?_
  refine LL.val (R.gtF rfl rfl rfl (by omega)) rfl rfl rfl ?_
  refine LL.val (R.move rfl rfl) rfl rfl rfl ?_
  refine LL.val (R.move rfl rfl) rfl rfl rfl ?_
  refine LL.val (R.move rfl rfl) rfl rfl rfl ?_
  (refine LL.call (R.call rfl rfl rfl) rfl rfl rfl (dcheck_any left n _ s _ (hvF _ q) hn h) ?_; rw [hck]; rintro e Wb298 ⟨rfl, bb295⟩; refine ⟨_, rfl, ?_⟩)
  have zbb295 := bb295.size
  replace q := q.trans (bb295.mono q.size)
  refine LL.val (R.neF rfl rfl rfl (by omega)) rfl rfl rfl ?_
  refine LL.val (R.pick rfl rfl rfl) rfl rfl rfl ?_
  refine LL.nilS ?_
  refine CC.no rfl ?_
  refine CC.skip ?_
  refine EE.thenN ?_
  refine CC.seq ?_
  refine CC.region ?_
  refine LL.val (R.move rfl rfl) rfl rfl rfl ?_
  refine LL.val (R.move rfl rfl) rfl rfl rfl ?_
  (refine LL.call (R.call rfl rfl rfl) rfl rfl rfl (dread_any left a n c s _ (hvF _ q) hn h) ?_; rintro e Wb480 ⟨v1, v2, rfl, o1, o2, hd, bb477⟩; clear o2 hd; refine ⟨_, rfl, ?_⟩)
  have zbb477 := bb477.size
  replace bb295 := bb295.trans (bb477.mono bb295.size)
  replace q := q.trans (bb477.mono q.size)
  refine LL.val (R.move rfl rfl) rfl rfl rfl ?_
  refine LL.val (R.extract rfl rfl rfl) rfl rfl rfl ?_
  refine LL.val (R.extract rfl rfl rfl) rfl rfl rfl ?_
  refine LL.val (R.assign rfl rfl) rfl rfl rfl ?_
  refine LL.val (R.assign rfl rfl) rfl rfl rfl ?_
  refine LL.nilS ?_
  refine CC.seq ?_
  refine CC.region ?_
  refine LL.val (R.move rfl rfl) rfl rfl rfl ?_
  refine LL.val (R.move rfl rfl) rfl rfl rfl ?_
  (refine LL.call (R.call rfl rfl rfl) rfl rfl rfl (lpair_any v1 _ key _ (o1.reads prEnc) hpl) ?_; rw [hP]; rintro e Wb795 ⟨rfl, bb792⟩; refine ⟨_, rfl, ?_⟩)
  have zbb792 := bb792.size
  replace o1 := o1.up bb792
  replace bb477 := bb477.trans (bb792.mono bb477.size)
  replace bb295 := bb295.trans (bb792.mono bb295.size)
  replace q := q.trans (bb792.mono q.size)
  refine LL.val (R.move rfl rfl) rfl rfl rfl ?_
  refine LL.val (R.extract rfl rfl rfl) rfl rfl rfl ?_
  refine LL.val (R.extract rfl rfl rfl) rfl rfl rfl ?_
  refine LL.val (R.assign rfl rfl) rfl rfl rfl ?_
  refine LL.val (R.assign rfl rfl) rfl rfl rfl ?_
  refine LL.nilS ?_
  refine CC.seq ?_
  refine CC.region ?_
  refine LL.val (R.move rfl rfl) rfl rfl rfl ?_
  refine LL.val (R.move rfl rfl) rfl rfl rfl ?_
  refine LL.val (R.move rfl rfl) rfl rfl rfl ?_
  (refine LL.call (R.call rfl rfl rfl) rfl rfl rfl (hU _ (hvF _ q)) ?_; rintro e Wb1159 ⟨rfl, bb1156⟩; refine ⟨_, rfl, ?_⟩)
  have zbb1156 := bb1156.size
  replace bb792 := bb792.trans (bb1156.mono bb792.size)
  replace o1 := o1.up bb1156
  replace bb477 := bb477.trans (bb1156.mono bb477.size)
  replace bb295 := bb295.trans (bb1156.mono bb295.size)
  replace q := q.trans (bb1156.mono q.size)
  refine LL.val (R.move rfl rfl) rfl rfl rfl ?_
  refine LL.val (R.extract rfl rfl rfl) rfl rfl rfl ?_
  refine LL.val (R.extract rfl rfl rfl) rfl rfl rfl ?_
  refine LL.val (R.assign rfl rfl) rfl rfl rfl ?_
  refine LL.val (R.assign rfl rfl) rfl rfl rfl ?_
  refine LL.nilS ?_
  refine CC.seq ?_
  refine CC.region ?_
  refine LL.val (R.move rfl rfl) rfl rfl rfl ?_
  refine LL.val (R.move rfl rfl) rfl rfl rfl ?_
  refine LL.val (R.move rfl rfl) rfl rfl rfl ?_
  (refine LL.call (R.call rfl rfl rfl) rfl rfl rfl (hD _ (hvF _ q)) ?_; rintro e Wb1530 ⟨rfl, bb1527⟩; refine ⟨_, rfl, ?_⟩)
  have zbb1527 := bb1527.size
  replace bb1156 := bb1156.trans (bb1527.mono bb1156.size)
  replace bb792 := bb792.trans (bb1527.mono bb792.size)
  replace o1 := o1.up bb1527
  replace bb477 := bb477.trans (bb1527.mono bb477.size)
  replace bb295 := bb295.trans (bb1527.mono bb295.size)
  replace q := q.trans (bb1527.mono q.size)
  refine LL.val (R.move rfl rfl) rfl rfl rfl ?_
  refine LL.val (R.extract rfl rfl rfl) rfl rfl rfl ?_
  refine LL.val (R.extract rfl rfl rfl) rfl rfl rfl ?_
  refine LL.val (R.assign rfl rfl) rfl rfl rfl ?_
  refine LL.val (R.assign rfl rfl) rfl rfl rfl ?_
  refine LL.nilS ?_
  refine CC.seq ?_
  refine CC.region ?_
  refine LL.val (R.move rfl rfl) rfl rfl rfl ?_
  refine LL.val (R.move rfl rfl) rfl rfl rfl ?_
  (refine LL.val (R.eqBool (a := b) (c := b) (b := true) rfl rfl rfl rfl (by cases b <;> rfl)) rfl rfl rfl ?_)
  refine LL.val (R.move rfl rfl) rfl rfl rfl ?_
  refine LL.val (R.move rfl rfl) rfl rfl rfl ?_
  refine LL.val (R.move rfl rfl) rfl rfl rfl ?_
  (refine LL.val (R.eqBool (a := b) (c := b) (b := true) rfl rfl rfl rfl (by cases b <;> rfl)) rfl rfl rfl ?_)
  refine LL.val (R.pick rfl rfl rfl) rfl rfl rfl ?_
  refine LL.val (R.move rfl rfl) rfl rfl rfl ?_
  refine LL.val (R.move rfl rfl) rfl rfl rfl ?_
  refine LL.val (R.move rfl rfl) rfl rfl rfl ?_
  refine LL.val (R.eqT rfl rfl rfl (by omega)) rfl rfl rfl ?_
  refine LL.val (R.pick rfl rfl rfl) rfl rfl rfl ?_
  refine LL.val (R.move rfl rfl) rfl rfl rfl ?_
  refine LL.val (R.move rfl rfl) rfl rfl rfl ?_
  refine LL.val (R.move rfl rfl) rfl rfl rfl ?_
  refine LL.val (R.eqT rfl rfl rfl (by omega)) rfl rfl rfl ?_
  refine LL.val (R.pick rfl rfl rfl) rfl rfl rfl ?_
  refine LL.val (R.move rfl rfl) rfl rfl rfl ?_
  (refine LL.call (R.call rfl rfl rfl) rfl rfl rfl (works_any _) ?_; rintro e Wb2496 ⟨rfl, bb2493⟩; refine ⟨_, rfl, ?_⟩)
  have zbb2493 := bb2493.size
  replace bb1527 := bb1527.trans (bb2493.mono bb1527.size)
  replace bb1156 := bb1156.trans (bb2493.mono bb1156.size)
  replace bb792 := bb792.trans (bb2493.mono bb792.size)
  replace o1 := o1.up bb2493
  replace bb477 := bb477.trans (bb2493.mono bb477.size)
  replace bb295 := bb295.trans (bb2493.mono bb295.size)
  replace q := q.trans (bb2493.mono q.size)
  refine LL.val (R.pick rfl rfl rfl) rfl rfl rfl ?_
  refine LL.val (R.assign rfl rfl) rfl rfl rfl ?_
  refine LL.nilS ?_
  refine CC.ret ?_
  refine EE.ret _ rfl rfl ?_
  exact ⟨rfl, q⟩
end Go.Proofs.Ytloflmkolnediaa

/- scan: the rows behind Take, Put, Swap; what a reader's end says. -/
namespace Go.Proofs.Ytloflmkolnediaa
set_option linter.unusedVariables false
set_option linter.unusedSimpArgs false
open Go.RowKit Go.Shelf
set_option maxRecDepth 100000
set_option maxHeartbeats 8000000
section
variable {left : Nat} {s : List Nat} {m i k p : Nat}
theorem tk_end (hs : Stl left s m) (hi : i < m) (h2 : s.length % 2 = 0) : Stl left (applyS s (takeL left s i m)) (m - 1) ∧ ∀ j, j < m - 1 → keyN (applyS s (takeL left s i m)) j = keyN s (if i ≤ j then j + 1 else j) := by
  have hlt := hs.lt
  have hT := tk_time (left := left) hi (by omega) h2 (2 * (m - i)) (Nat.le_refl _)
  have e : (takeL left s i m).take (2 * (m - i)) = takeL left s i m := by
    rw [takeL_map hi]
    exact List.take_of_length_le (by simp)
  rw [e] at hT
  have hl : (applyS s (takeL left s i m)).length / 2 = s.length / 2 := by rw [applyS_len]
  have hK : ∀ j, j < m - 1 → keyN (applyS s (takeL left s i m)) j = keyN s (if i ≤ j then j + 1 else j) := fun j hj => by
    rw [(hT j (by omega)).1]
    unfold tkK
    by_cases c : i ≤ j
    · rw [if_pos (by omega), if_pos c]
    · rw [if_neg (by omega), if_neg c]
  have hP : ∀ j, j < m - 1 → ptrN (applyS s (takeL left s i m)) j = ptrN s (if i ≤ j then j + 1 else j) := fun j hj => by
    rw [(hT j (by omega)).2]
    unfold tkP
    rw [if_neg (by omega)]
    by_cases c : i ≤ j
    · rw [if_pos (by omega), if_pos c]
    · rw [if_neg (by omega), if_neg c, if_neg (by omega)]
  refine ⟨⟨by omega, fun j hj => ?_, fun j h1 h3 => ?_, fun j hj => ?_, fun a b h1 h3 => ?_, fun j hj => ?_⟩, hK⟩
  · rw [hP j hj]; split <;> exact hs.ne _ (by omega)
  · rw [(hT j (by omega)).2]
    unfold tkP
    by_cases c : j + 1 = m
    · rw [if_pos (by omega)]
    · rw [if_neg (by omega), if_neg (by omega), if_neg (by omega)]
      exact hs.z j (by omega) (by omega)
  · rw [hP j hj]; split <;> exact hs.nl _ (by omega)
  · rw [hP a (by omega), hP b h3]
    intro e
    have := hs.ptrI (by split <;> omega) (by split <;> omega) e
    split at this <;> split at this <;> omega
  · rw [hK j (by omega), hK (j + 1) hj]
    exact hs.rise _ _ (by split <;> split <;> omega) (by split <;> omega)
theorem pu_end (hs : Stl left s m) (hm : m + 1 < s.length / 2) (hi : i ≤ m) (h2 : s.length % 2 = 0) (hp0 : p ≠ 0) (hpl : p ≠ left) (hd : ∀ j, j < m → ptrN s j ≠ p) (hk1 : ∀ j, j < i → keyN s j < k) (hk2 : ∀ j, i ≤ j → j < m → k < keyN s j) : Stl left (applyS s (putL left s m i k p)) (m + 1) ∧ keyN (applyS s (putL left s m i k p)) i = k ∧ ptrN (applyS s (putL left s m i k p)) i = p := by
  have hT := pu_time (left := left) (k := k) (p := p) hi hm (hs.z _ (by omega) hm) h2 (2 * (m - i) + 4) (Nat.le_refl _)
  have e : (putL left s m i k p).take (2 * (m - i) + 4) = putL left s m i k p := by
    rw [putL_map hi]
    exact List.take_of_length_le (by simp)
  rw [e] at hT
  have hl : (applyS s (putL left s m i k p)).length / 2 = s.length / 2 := by rw [applyS_len]
  have hK : ∀ j, j < m + 1 → keyN (applyS s (putL left s m i k p)) j = if j = i then k else keyN s (if i < j then j - 1 else j) := fun j hj => by
    rw [(hT j (by omega)).1]
    unfold puK
    by_cases c : j = i
    · rw [if_pos (by omega), if_pos c]
    · rw [if_neg (by omega), if_neg c]
      by_cases c2 : i < j
      · rw [if_pos (by omega), if_pos c2]
      · rw [if_neg (by omega), if_neg c2]
  have hP : ∀ j, j < m + 1 → ptrN (applyS s (putL left s m i k p)) j = if j = i then p else ptrN s (if i < j then j - 1 else j) := fun j hj => by
    rw [(hT j (by omega)).2]
    unfold puP
    by_cases c : j = i
    · rw [if_pos (by omega), if_pos c]
    · rw [if_neg (by omega), if_neg (by omega), if_neg c]
      by_cases c2 : i < j
      · rw [if_pos (by omega), if_pos c2]
      · rw [if_neg (by omega), if_neg c2]
  have hw : ∀ j, j < m + 1 → j ≠ i → (if i < j then j - 1 else j) < m := fun j h1 h3 => by split <;> omega
  refine ⟨⟨by omega, fun j hj => ?_, fun j h1 h3 => ?_, fun j hj => ?_, fun a b h1 h3 => ?_, fun j hj => ?_⟩, by rw [hK i (by omega), if_pos rfl], by rw [hP i (by omega), if_pos rfl]⟩
  · rw [hP j hj]
    by_cases c : j = i
    · rw [if_pos c]; exact hp0
    · rw [if_neg c]; exact hs.ne _ (hw j hj c)
  · rw [(hT j (by omega)).2]
    unfold puP
    rw [if_neg (by omega), if_neg (by omega), if_neg (by omega)]
    exact hs.z j (by omega) (by omega)
  · rw [hP j hj]
    by_cases c : j = i
    · rw [if_pos c]; exact hpl
    · rw [if_neg c]; exact hs.nl _ (hw j hj c)
  · rw [hP a (by omega), hP b h3]
    by_cases ca : a = i
    · rw [if_pos ca, if_neg (by omega)]
      exact (hd _ (hw b h3 (by omega))).symm
    rw [if_neg ca]
    by_cases cb : b = i
    · rw [if_pos cb]
      exact hd _ (hw a (by omega) ca)
    rw [if_neg cb]
    intro e
    have := hs.ptrI (hw a (by omega) ca) (hw b h3 cb) e
    split at this <;> split at this <;> omega
  · rw [hK j (by omega), hK (j + 1) hj]
    by_cases ca : j = i
    · rw [if_pos ca, if_neg (by omega), if_pos (by omega)]
      exact hk2 _ (by omega) (by omega)
    rw [if_neg ca]
    by_cases cb : j + 1 = i
    · rw [if_pos cb, if_neg (by omega)]
      exact hk1 _ (by omega)
    rw [if_neg cb]
    exact hs.rise _ _ (by split <;> split <;> omega) (hw (j + 1) hj cb)
theorem sw_end (hs : Stl left s m) (hi : i < m) (hp0 : p ≠ 0) (hpl : p ≠ left) (hd : ∀ j, j < m → ptrN s j ≠ p) : Stl left (applyS s (swapL i p)) m ∧ keyN (applyS s (swapL i p)) i = keyN s i ∧ ptrN (applyS s (swapL i p)) i = p := by
  have hlt := hs.lt
  have hT : ∀ j, j < s.length / 2 → keyN (applyS s (swapL i p)) j = keyN s j ∧ ptrN (applyS s (swapL i p)) j = swP s i p j 1 := sw_time (p := p) (show i < s.length / 2 by omega) 1 (Nat.le_refl _)
  have hl : (applyS s (swapL i p)).length / 2 = s.length / 2 := by rw [applyS_len]
  refine ⟨⟨by omega, fun j hj => ?_, fun j h1 h3 => ?_, fun j hj => ?_, fun a b h1 h3 => ?_, fun j hj => ?_⟩, (hT i (by omega)).1, by rw [(hT i (by omega)).2]; unfold swP; rw [if_pos (by omega)]⟩
  · rw [(hT j (by omega)).2]; exact swP_nz hs hp0 hj
  · rw [(hT j (by omega)).2]; exact swP_z hs rfl hi (by omega) (by omega)
  · rw [(hT j (by omega)).2]
    unfold swP
    split
    · exact hpl
    · exact hs.nl j hj
  · rw [(hT a (by omega)).2, (hT b (by omega)).2]
    unfold swP
    split
    · rw [if_neg (by omega)]
      exact (hd b h3).symm
    · split
      · exact hd a (by omega)
      · exact hs.dis a b h1 h3
  · rw [(hT j (by omega)).1, (hT (j + 1) (by omega)).1]
    exact hs.up j hj
/-- What a list of pairs has at a key. -/
theorem pairV_some {key : Nat} (hs : Stl left s m) (h : (pairV (pairP left s) key).2 = true) : ∃ x, x < m ∧ keyN s x = key := by
  by_cases c : ∃ x, x < m ∧ keyN s x = key
  · exact c
  · rw [pairV_F hs (fun j hj e => c ⟨j, hj, e⟩)] at h
    cases h
theorem atW_up {r : Rd} {c : Nat} {row : List Nat} {K P : Nat → Nat → Nat} (hk : r.k ≤ 4) (hK : keyN row r.slot = K r.slot c) (hP : ∀ j, j ≤ r.slot → ptrN row j = P j c) : atW left row (wantR r) = (match r.k with | 0 => K r.slot c | 1 => ahP left P r.slot c | 2 => P r.slot c | 3 => K r.slot c | _ => P r.slot c) := by
  obtain ⟨key, slots, slot, ahead, ptr, loads, found, is, dn, k⟩ := r
  simp only at hk hK hP
  have hA : aheadN left row slot = ahP left P slot c := by
    unfold aheadN ahP
    split
    · rfl
    · exact hP _ (by omega)
  rcases (by omega : k = 0 ∨ k = 1 ∨ k = 2 ∨ k = 3 ∨ k = 4) with rfl | rfl | rfl | rfl | rfl
  · exact (atW_key slot).trans hK
  · exact (atW_ahead slot).trans hA
  · exact (atW_ptr slot).trans (hP _ (Nat.le_refl _))
  · exact (atW_key slot).trans hK
  · exact (atW_ptr slot).trans (hP _ (Nat.le_refl _))
theorem atW_dn {r : Rd} {c : Nat} {row : List Nat} {K P : Nat → Nat → Nat} (hk : 5 ≤ r.k ∧ r.k ≤ 8) (hK : keyN row r.slot = K r.slot c) (hP : ∀ j, j ≤ r.slot → ptrN row j = P j c) : atW left row (wantR r) = (match r.k with | 5 => K r.slot c | 6 => P r.slot c | 7 => ahP left P r.slot c | _ => K r.slot c) := by
  obtain ⟨key, slots, slot, ahead, ptr, loads, found, is, dn, k⟩ := r
  simp only at hk hK hP
  have hA : aheadN left row slot = ahP left P slot c := by
    unfold aheadN ahP
    split
    · rfl
    · exact hP _ (by omega)
  rcases (by omega : k = 5 ∨ k = 6 ∨ k = 7 ∨ k = 8) with rfl | rfl | rfl | rfl
  · exact (atW_key slot).trans hK
  · exact (atW_ptr slot).trans (hP _ (Nat.le_refl _))
  · exact (atW_ahead slot).trans hA
  · exact (atW_key slot).trans hK
end
end Go.Proofs.Ytloflmkolnediaa

/- scan: what a reader beside a writer finds is right. -/
namespace Go.Proofs.Ytloflmkolnediaa
set_option linter.unusedVariables false
set_option linter.unusedSimpArgs false
open Go.RowKit Go.Shelf
set_option maxRecDepth 100000
set_option maxHeartbeats 8000000
theorem InvU.kk {slots key : Nat} {K P A : Nat → Nat → Nat} {good : Nat → Prop} {Hid : Nat → Nat → Prop} {must : Prop} {r : Rd} {c : Nat} (h : InvU slots key K P A good Hid must r c) (hd : r.dn = false) : r.k ≤ 4 := by
  obtain ⟨key, slots, slot, ahead, ptr, loads, found, is, dn, k⟩ := r
  obtain ⟨_, _, h⟩ := h
  simp only at hd
  subst hd
  rcases k with _ | _ | _ | _ | _ | k
  · exact Nat.zero_le _
  · show 1 ≤ 4; omega
  · show 2 ≤ 4; omega
  · show 3 ≤ 4; omega
  · show 4 ≤ 4; omega
  · exact h.elim
theorem InvD.kk {slots key : Nat} {K P A : Nat → Nat → Nat} {good : Nat → Prop} {Hid : Nat → Nat → Prop} {must : Prop} {r : Rd} {c : Nat} (h : InvD slots key K P A good Hid must r c) (hd : r.dn = false) : 5 ≤ r.k ∧ r.k ≤ 8 := by
  obtain ⟨key, slots, slot, ahead, ptr, loads, found, is, dn, k⟩ := r
  obtain ⟨_, _, h⟩ := h
  simp only at hd
  subst hd
  rcases k with _ | _ | _ | _ | _ | _ | _ | _ | _ | k
  · exact h.elim
  · exact h.elim
  · exact h.elim
  · exact h.elim
  · exact h.elim
  · show 5 ≤ 5 ∧ 5 ≤ 8; omega
  · show 5 ≤ 6 ∧ 6 ≤ 8; omega
  · show 5 ≤ 7 ∧ 7 ≤ 8; omega
  · show 5 ≤ 8 ∧ 8 ≤ 8; omega
  · exact h.elim
section
variable {left key n cs N cl M ct : Nat} {a al at' : Option Addr} {s : List Nat} {os : List Pt} {ts : List Nat} {w : World}
def endQ (good : Nat → Prop) (must : Prop) (w : World) (e : Ending) (w' : World) : Prop := ∃ (p : Nat) (b : Bool), e = .returned (.tuple #[.int .u64 (p : Int), .bool b, .bool true]) ∧ ((b = true → good p) ∧ (b = false → p = 0 ∧ ¬ must)) ∧ Below w.heap.size w w'
theorem between_U {K P : Nat → Nat → Nat} {good : Nat → Prop} {Hid : Nat → Nat → Prop} {must : Prop} (hv : ReadsT uE 1 w (.slice a n cs) s) (hn : s.length = n) (hr : rowOk left n) (ho : ReadsT pE 2 w (.slice al N cl) os) (hN : os.length = N) (hN8 : N ≤ 1000) (h0 : ∀ p ∈ os, 0 ≤ p.1) (ht : ReadsT yE 1 w (.slice at' M ct) ts) (hM : ts.length = M) (hM3 : M ≤ 300)
    (H : HistU (n / 2) key K P (ahP left P) good Hid) (hT : ∀ c, c ≤ N → ∀ j, j < n / 2 → keyN (applyS s (os.take c)) j = K j c ∧ ptrN (applyS s (os.take c)) j = P j c) (hm : must → Hid 0 0) :
    Calls Try.prog 33 #[.int .i64 1, .int .u64 (left : Int), .slice a n cs, .int .u64 (key : Int), .slice al N cl, .slice at' M ct] w (endQ good must w) := by
  refine (between_any true left key n cs N cl M ct a al at' s os ts w hv hn hr ho hN hN8 h0 ht hM hM3 (InvU (n / 2) key K P (ahP left P) good Hid must) ⟨rfl, rfl, 0, Nat.le_refl _, hm⟩ (fun r c hc hin hd hsl h => InvU.step H h hin hd (atW_up (h.kk hd) (hT c hc _ (by have := hin.slot; omega)).1 (fun j hj => (hT c hc j (by have := hin.slot; omega)).2))) (fun r c h => h.later (Nat.le_succ c))).mono ?_
  rintro e w' ⟨r, c, hd, ⟨_, _, h⟩, rfl, hb⟩
  rw [if_pos hd] at h
  exact ⟨r.found, r.is, rfl, h, hb⟩
theorem between_D {K P : Nat → Nat → Nat} {good : Nat → Prop} {Hid : Nat → Nat → Prop} {must : Prop} (hv : ReadsT uE 1 w (.slice a n cs) s) (hn : s.length = n) (hr : rowOk left n) (ho : ReadsT pE 2 w (.slice al N cl) os) (hN : os.length = N) (hN8 : N ≤ 1000) (h0 : ∀ p ∈ os, 0 ≤ p.1) (ht : ReadsT yE 1 w (.slice at' M ct) ts) (hM : ts.length = M) (hM3 : M ≤ 300)
    (H : HistD (n / 2) key K P (ahP left P) good Hid) (hT : ∀ c, c ≤ N → ∀ j, j < n / 2 → keyN (applyS s (os.take c)) j = K j c ∧ ptrN (applyS s (os.take c)) j = P j c) (hm : must → Hid (n / 2 - 1) 0) :
    Calls Try.prog 33 #[.int .i64 2, .int .u64 (left : Int), .slice a n cs, .int .u64 (key : Int), .slice al N cl, .slice at' M ct] w (endQ good must w) := by
  refine (between_any false left key n cs N cl M ct a al at' s os ts w hv hn hr ho hN hN8 h0 ht hM hM3 (InvD (n / 2) key K P (ahP left P) good Hid must) ⟨rfl, rfl, 0, Nat.le_refl _, hm⟩ (fun r c hc hin hd hsl h => InvD.step H h hin hd (atW_dn (h.kk hd) (hT c hc _ (by have := hin.slot; omega)).1 (fun j hj => (hT c hc j (by have := hin.slot; omega)).2))) (fun r c h => h.later (Nat.le_succ c))).mono ?_
  rintro e w' ⟨r, c, hd, ⟨_, _, h⟩, rfl, hb⟩
  rw [if_pos hd] at h
  exact ⟨r.found, r.is, rfl, h, hb⟩
end
/-- What was found is right, of a key that has these pairs ahead and behind. -/
def ansOK (l1 l2 : List Pr) (key p : Nat) (b : Bool) : Prop := (b = true → pairV l1 key = (p, true) ∨ pairV l2 key = (p, true)) ∧ (b = false → p = 0 ∧ ¬ ((pairV l1 key).2 = true ∧ (pairV l2 key).2 = true))
theorem inRow_V {left m key p : Nat} {s : List Nat} (hs : Stl left s m) (h : inRow s m key p) : pairV (pairP left s) key = (p, true) := by
  obtain ⟨x, h1, h2, h3⟩ := h
  rw [pairV_T hs h1 h2, h3]
theorem ans_tk {left m i key p : Nat} {b : Bool} {s : List Nat} (hs : Stl left s m) (hi : i < m) (h2 : s.length % 2 = 0) (h : (b = true → inRow s m key p) ∧ (b = false → p = 0 ∧ ¬ ∃ x, x < m ∧ x ≠ i ∧ keyN s x = key)) : ansOK (pairP left s) (pairP left (applyS s (takeL left s i m))) key p b := by
  obtain ⟨he, hk⟩ := tk_end hs hi h2
  refine ⟨fun hb => .inl (inRow_V hs (h.1 hb)), fun hb => ⟨(h.2 hb).1, fun ⟨h3, h4⟩ => ?_⟩⟩
  obtain ⟨x, hx, hxk⟩ := pairV_some hs h3
  obtain ⟨y, hy, hyk⟩ := pairV_some he h4
  refine (h.2 hb).2 ⟨x, hx, fun e => ?_, hxk⟩
  rw [hk y hy] at hyk
  have := hs.keyI (by split <;> omega) hx (hyk.trans hxk.symm)
  split at this <;> omega
theorem ans_pu {left m i k p key v : Nat} {b : Bool} {s : List Nat} (hs : Stl left s m) (hm : m + 1 < s.length / 2) (hi : i ≤ m) (h2 : s.length % 2 = 0) (hp0 : p ≠ 0) (hpl : p ≠ left) (hd : ∀ j, j < m → ptrN s j ≠ p) (hk1 : ∀ j, j < i → keyN s j < k) (hk2 : ∀ j, i ≤ j → j < m → k < keyN s j) (h : (b = true → inRow s m key v ∨ (key = k ∧ v = p)) ∧ (b = false → v = 0 ∧ ¬ ∃ x, x < m ∧ keyN s x = key)) : ansOK (pairP left s) (pairP left (applyS s (putL left s m i k p))) key v b := by
  obtain ⟨he, e1, e2⟩ := pu_end hs hm hi h2 hp0 hpl hd hk1 hk2
  refine ⟨fun hb => ?_, fun hb => ⟨(h.2 hb).1, fun ⟨h3, _⟩ => (h.2 hb).2 (pairV_some hs h3)⟩⟩
  rcases h.1 hb with h | ⟨rfl, rfl⟩
  · exact .inl (inRow_V hs h)
  · exact .inr (inRow_V he ⟨i, by omega, e1, e2⟩)
theorem ans_sw {left m i p key v : Nat} {b : Bool} {s : List Nat} (hs : Stl left s m) (hi : i < m) (hp0 : p ≠ 0) (hpl : p ≠ left) (hd : ∀ j, j < m → ptrN s j ≠ p) (h : (b = true → swG s i m p key v) ∧ (b = false → v = 0 ∧ ¬ ∃ x, x < m ∧ keyN s x = key)) : ansOK (pairP left s) (pairP left (applyS s (swapL i p))) key v b := by
  obtain ⟨he, e1, e2⟩ := sw_end hs hi hp0 hpl hd
  refine ⟨fun hb => ?_, fun hb => ⟨(h.2 hb).1, fun ⟨h3, _⟩ => (h.2 hb).2 (pairV_some hs h3)⟩⟩
  rcases h.1 hb with h | ⟨h3, rfl⟩
  · exact .inl (inRow_V hs h)
  · exact .inr (inRow_V he ⟨i, hi, e1.trans h3, e2⟩)
theorem holds_any (v1 v2 : Value) (l1 l2 : List Pr) (key p : Nat) (b : Bool) (w : World) (h1 : ReadsT prE 2 w v1 l1) (h2 : ReadsT prE 2 w v2 l2) (hl1 : l1.length ≤ 1048576) (hl2 : l2.length ≤ 1048576) (h : ansOK l1 l2 key p b) : Calls Try.prog 34 #[v1, v2, .int .u64 (key : Int), .int .u64 (p : Int), .bool b] w fun e w' => e = .returned (.bool true) ∧ Below w.heap.size w w' := by
  have q := Below.refl w.heap.size w
  have h1F : ∀ X, Below w.heap.size w X → ReadsT prE 2 X v1 l1 := fun X b => h1.up b
  have h2F : ∀ X, Below w.heap.size w X → ReadsT prE 2 X v2 l2 := fun X b => h2.up b
  clear h1 h2
  obtain ⟨⟨a, ah⟩, e1⟩ : ∃ r, pairV l1 key = r := ⟨_, rfl⟩
  obtain ⟨⟨d, dh⟩, e2⟩ : ∃ r, pairV l2 key = r := ⟨_, rfl⟩
  obtain ⟨hT, hF⟩ := h
  rw [e1, e2] at hT hF
  have c1 : ∀ W, Below w.heap.size w W → Calls Try.prog 28 #[v1, .int .u64 (key : Int)] W fun e w' => e = .returned (.tuple #[.int .u64 (a : Int), .bool ah]) ∧ Below W.heap.size W w' := fun W b => by
    have := lpair_any v1 l1 key W (h1F W b) hl1
    rwa [e1] at this
  have c2 : ∀ W, Below w.heap.size w W → Calls Try.prog 28 #[v2, .int .u64 (key : Int)] W fun e w' => e = .returned (.tuple #[.int .u64 (d : Int), .bool dh]) ∧ Below W.heap.size W w' := fun W b => by
    have := lpair_any v2 l2 key W (h2F W b) hl2
    rwa [e2] at this
  clear h1F h2F e1 e2
  cases b with
  | false =>
    obtain ⟨rfl, hn⟩ := hF rfl
    simp only at hn
    clear hT hF
    cases ah
    · refine X.fn Try.func34 rfl (n := 52) rfl rfl ?_
      refine CC.seq ?_
      refine CC.region ?_
      refine LL.val (R.assign rfl rfl) rfl rfl rfl ?_
      refine LL.nilS ?_
      refine CC.seq ?_
      refine CC.region ?_
      refine LL.val (R.move rfl rfl) rfl rfl rfl ?_
      refine LL.val (R.move rfl rfl) rfl rfl rfl ?_
      (refine LL.call (R.call rfl rfl rfl) rfl rfl rfl (c1 _ q) ?_; rintro e W46 ⟨rfl, b43⟩; refine ⟨_, rfl, ?_⟩)
      have zb43 := b43.size
      replace q := q.trans (b43.mono q.size)
      refine LL.val (R.move rfl rfl) rfl rfl rfl ?_
      refine LL.val (R.extract rfl rfl rfl) rfl rfl rfl ?_
      refine LL.val (R.extract rfl rfl rfl) rfl rfl rfl ?_
      refine LL.val (R.assign rfl rfl) rfl rfl rfl ?_
      refine LL.val (R.assign rfl rfl) rfl rfl rfl ?_
      refine LL.nilS ?_
      refine CC.seq ?_
      refine CC.region ?_
      refine LL.val (R.move rfl rfl) rfl rfl rfl ?_
      refine LL.val (R.move rfl rfl) rfl rfl rfl ?_
      (refine LL.call (R.call rfl rfl rfl) rfl rfl rfl (c2 _ q) ?_; rintro e W158 ⟨rfl, b155⟩; refine ⟨_, rfl, ?_⟩)
      have zb155 := b155.size
      replace b43 := b43.trans (b155.mono b43.size)
      replace q := q.trans (b155.mono q.size)
      refine LL.val (R.move rfl rfl) rfl rfl rfl ?_
      refine LL.val (R.extract rfl rfl rfl) rfl rfl rfl ?_
      refine LL.val (R.extract rfl rfl rfl) rfl rfl rfl ?_
      refine LL.val (R.assign rfl rfl) rfl rfl rfl ?_
      refine LL.val (R.assign rfl rfl) rfl rfl rfl ?_
      refine LL.nilS ?_
      refine CC.seq ?_
      refine CC.seq ?_
      refine CC.region ?_
      refine LL.val (R.move rfl rfl) rfl rfl rfl ?_
      refine LL.val (R.not rfl rfl) rfl rfl rfl ?_
      refine LL.nilS ?_
      refine CC.yes rfl ?_
      refine CC.seq ?_
      refine CC.region ?_
      refine LL.val (R.move rfl rfl) rfl rfl rfl ?_
      refine LL.val (R.eqT rfl rfl rfl (by omega)) rfl rfl rfl ?_
      refine LL.val (R.move rfl rfl) rfl rfl rfl ?_
      refine LL.val (R.move rfl rfl) rfl rfl rfl ?_
      refine LL.val (R.move rfl rfl) rfl rfl rfl ?_
      refine LL.skip rfl rfl ?_
      refine LL.val (R.pick rfl rfl rfl) rfl rfl rfl ?_
      refine LL.val (R.not rfl rfl) rfl rfl rfl ?_
      refine LL.val (R.pick rfl rfl rfl) rfl rfl rfl ?_
      refine LL.val (R.assign rfl rfl) rfl rfl rfl ?_
      refine LL.nilS ?_
      refine CC.ret ?_
      refine EE.thenR ?_
      refine EE.ret _ rfl rfl ?_
      exact ⟨rfl, q⟩
    cases dh
    · refine X.fn Try.func34 rfl (n := 52) rfl rfl ?_
      refine CC.seq ?_
      refine CC.region ?_
      refine LL.val (R.assign rfl rfl) rfl rfl rfl ?_
      refine LL.nilS ?_
      refine CC.seq ?_
      refine CC.region ?_
      refine LL.val (R.move rfl rfl) rfl rfl rfl ?_
      refine LL.val (R.move rfl rfl) rfl rfl rfl ?_
      (refine LL.call (R.call rfl rfl rfl) rfl rfl rfl (c1 _ q) ?_; rintro e Wa46 ⟨rfl, ba43⟩; refine ⟨_, rfl, ?_⟩)
      have zba43 := ba43.size
      replace q := q.trans (ba43.mono q.size)
      refine LL.val (R.move rfl rfl) rfl rfl rfl ?_
      refine LL.val (R.extract rfl rfl rfl) rfl rfl rfl ?_
      refine LL.val (R.extract rfl rfl rfl) rfl rfl rfl ?_
      refine LL.val (R.assign rfl rfl) rfl rfl rfl ?_
      refine LL.val (R.assign rfl rfl) rfl rfl rfl ?_
      refine LL.nilS ?_
      refine CC.seq ?_
      refine CC.region ?_
      refine LL.val (R.move rfl rfl) rfl rfl rfl ?_
      refine LL.val (R.move rfl rfl) rfl rfl rfl ?_
      (refine LL.call (R.call rfl rfl rfl) rfl rfl rfl (c2 _ q) ?_; rintro e Wa158 ⟨rfl, ba155⟩; refine ⟨_, rfl, ?_⟩)
      have zba155 := ba155.size
      replace ba43 := ba43.trans (ba155.mono ba43.size)
      replace q := q.trans (ba155.mono q.size)
      refine LL.val (R.move rfl rfl) rfl rfl rfl ?_
      refine LL.val (R.extract rfl rfl rfl) rfl rfl rfl ?_
      refine LL.val (R.extract rfl rfl rfl) rfl rfl rfl ?_
      refine LL.val (R.assign rfl rfl) rfl rfl rfl ?_
      refine LL.val (R.assign rfl rfl) rfl rfl rfl ?_
      refine LL.nilS ?_
      refine CC.seq ?_
      refine CC.seq ?_
      refine CC.region ?_
      refine LL.val (R.move rfl rfl) rfl rfl rfl ?_
      refine LL.val (R.not rfl rfl) rfl rfl rfl ?_
      refine LL.nilS ?_
      refine CC.yes rfl ?_
      refine CC.seq ?_
      refine CC.region ?_
      refine LL.val (R.move rfl rfl) rfl rfl rfl ?_
      refine LL.val (R.eqT rfl rfl rfl (by omega)) rfl rfl rfl ?_
      refine LL.val (R.move rfl rfl) rfl rfl rfl ?_
      refine LL.val (R.move rfl rfl) rfl rfl rfl ?_
      refine LL.val (R.move rfl rfl) rfl rfl rfl ?_
      refine LL.val (R.move rfl rfl) rfl rfl rfl ?_
      refine LL.val (R.pick rfl rfl rfl) rfl rfl rfl ?_
      refine LL.val (R.not rfl rfl) rfl rfl rfl ?_
      refine LL.val (R.pick rfl rfl rfl) rfl rfl rfl ?_
      refine LL.val (R.assign rfl rfl) rfl rfl rfl ?_
      refine LL.nilS ?_
      refine CC.ret ?_
      refine EE.thenR ?_
      refine EE.ret _ rfl rfl ?_
      exact ⟨rfl, q⟩
    · exact absurd ⟨rfl, rfl⟩ hn
  | true =>
    have hT := hT rfl
    simp only [Prod.mk.injEq] at hT
    clear hF
    by_cases hA : ah = true ∧ a = p
    · obtain ⟨rfl, rfl⟩ := hA
      clear hT
      refine X.fn Try.func34 rfl (n := 52) rfl rfl ?_
      refine CC.seq ?_
      refine CC.region ?_
      refine LL.val (R.assign rfl rfl) rfl rfl rfl ?_
      refine LL.nilS ?_
      refine CC.seq ?_
      refine CC.region ?_
      refine LL.val (R.move rfl rfl) rfl rfl rfl ?_
      refine LL.val (R.move rfl rfl) rfl rfl rfl ?_
      (refine LL.call (R.call rfl rfl rfl) rfl rfl rfl (c1 _ q) ?_; rintro e Wb46 ⟨rfl, bb43⟩; refine ⟨_, rfl, ?_⟩)
      have zbb43 := bb43.size
      replace q := q.trans (bb43.mono q.size)
      refine LL.val (R.move rfl rfl) rfl rfl rfl ?_
      refine LL.val (R.extract rfl rfl rfl) rfl rfl rfl ?_
      refine LL.val (R.extract rfl rfl rfl) rfl rfl rfl ?_
      refine LL.val (R.assign rfl rfl) rfl rfl rfl ?_
      refine LL.val (R.assign rfl rfl) rfl rfl rfl ?_
      refine LL.nilS ?_
      refine CC.seq ?_
      refine CC.region ?_
      refine LL.val (R.move rfl rfl) rfl rfl rfl ?_
      refine LL.val (R.move rfl rfl) rfl rfl rfl ?_
      (refine LL.call (R.call rfl rfl rfl) rfl rfl rfl (c2 _ q) ?_; rintro e Wb158 ⟨rfl, bb155⟩; refine ⟨_, rfl, ?_⟩)
      have zbb155 := bb155.size
      replace bb43 := bb43.trans (bb155.mono bb43.size)
      replace q := q.trans (bb155.mono q.size)
      refine LL.val (R.move rfl rfl) rfl rfl rfl ?_
      refine LL.val (R.extract rfl rfl rfl) rfl rfl rfl ?_
      refine LL.val (R.extract rfl rfl rfl) rfl rfl rfl ?_
      refine LL.val (R.assign rfl rfl) rfl rfl rfl ?_
      refine LL.val (R.assign rfl rfl) rfl rfl rfl ?_
      refine LL.nilS ?_
      refine CC.seq ?_
      refine CC.seq ?_
      refine CC.region ?_
      refine LL.val (R.move rfl rfl) rfl rfl rfl ?_
      refine LL.val (R.not rfl rfl) rfl rfl rfl ?_
      refine LL.nilS ?_
      refine CC.no rfl ?_
      refine CC.skip ?_
      refine EE.thenN ?_
      refine CC.seq ?_
      refine CC.region ?_
      refine LL.val (R.move rfl rfl) rfl rfl rfl ?_
      refine LL.val (R.move rfl rfl) rfl rfl rfl ?_
      refine LL.val (R.move rfl rfl) rfl rfl rfl ?_
      refine LL.val (R.move rfl rfl) rfl rfl rfl ?_
      refine LL.val (R.eqT rfl rfl rfl (by omega)) rfl rfl rfl ?_
      refine LL.val (R.pick rfl rfl rfl) rfl rfl rfl ?_
      refine LL.val (R.move rfl rfl) rfl rfl rfl ?_
      refine LL.skip rfl rfl ?_
      refine LL.skip rfl rfl ?_
      refine LL.skip rfl rfl ?_
      refine LL.skip rfl rfl ?_
      refine LL.skip rfl rfl ?_
      refine LL.skip rfl rfl ?_
      refine LL.val (R.pick rfl rfl rfl) rfl rfl rfl ?_
      refine LL.val (R.assign rfl rfl) rfl rfl rfl ?_
      refine LL.nilS ?_
      refine CC.ret ?_
      refine EE.ret _ rfl rfl ?_
      exact ⟨rfl, q⟩
    obtain ⟨rfl, rfl⟩ := hT.resolve_left fun e => hA ⟨e.2, e.1⟩
    clear hT
    cases ah
    · clear hA
      refine X.fn Try.func34 rfl (n := 52) rfl rfl ?_
      refine CC.seq ?_
      refine CC.region ?_
      refine LL.val (R.assign rfl rfl) rfl rfl rfl ?_
      refine LL.nilS ?_
      refine CC.seq ?_
      refine CC.region ?_
      refine LL.val (R.move rfl rfl) rfl rfl rfl ?_
      refine LL.val (R.move rfl rfl) rfl rfl rfl ?_
      (refine LL.call (R.call rfl rfl rfl) rfl rfl rfl (c1 _ q) ?_; rintro e Wc46 ⟨rfl, bc43⟩; refine ⟨_, rfl, ?_⟩)
      have zbc43 := bc43.size
      replace q := q.trans (bc43.mono q.size)
      refine LL.val (R.move rfl rfl) rfl rfl rfl ?_
      refine LL.val (R.extract rfl rfl rfl) rfl rfl rfl ?_
      refine LL.val (R.extract rfl rfl rfl) rfl rfl rfl ?_
      refine LL.val (R.assign rfl rfl) rfl rfl rfl ?_
      refine LL.val (R.assign rfl rfl) rfl rfl rfl ?_
      refine LL.nilS ?_
      refine CC.seq ?_
      refine CC.region ?_
      refine LL.val (R.move rfl rfl) rfl rfl rfl ?_
      refine LL.val (R.move rfl rfl) rfl rfl rfl ?_
      (refine LL.call (R.call rfl rfl rfl) rfl rfl rfl (c2 _ q) ?_; rintro e Wc158 ⟨rfl, bc155⟩; refine ⟨_, rfl, ?_⟩)
      have zbc155 := bc155.size
      replace bc43 := bc43.trans (bc155.mono bc43.size)
      replace q := q.trans (bc155.mono q.size)
      refine LL.val (R.move rfl rfl) rfl rfl rfl ?_
      refine LL.val (R.extract rfl rfl rfl) rfl rfl rfl ?_
      refine LL.val (R.extract rfl rfl rfl) rfl rfl rfl ?_
      refine LL.val (R.assign rfl rfl) rfl rfl rfl ?_
      refine LL.val (R.assign rfl rfl) rfl rfl rfl ?_
      refine LL.nilS ?_
      refine CC.seq ?_
      refine CC.seq ?_
      refine CC.region ?_
      refine LL.val (R.move rfl rfl) rfl rfl rfl ?_
      refine LL.val (R.not rfl rfl) rfl rfl rfl ?_
      refine LL.nilS ?_
      refine CC.no rfl ?_
      refine CC.skip ?_
      refine EE.thenN ?_
      refine CC.seq ?_
      refine CC.region ?_
      refine LL.val (R.move rfl rfl) rfl rfl rfl ?_
      refine LL.val (R.move rfl rfl) rfl rfl rfl ?_
      refine LL.skip rfl rfl ?_
      refine LL.skip rfl rfl ?_
      refine LL.skip rfl rfl ?_
      refine LL.val (R.pick rfl rfl rfl) rfl rfl rfl ?_
      refine LL.val (R.move rfl rfl) rfl rfl rfl ?_
      refine LL.val (R.move rfl rfl) rfl rfl rfl ?_
      refine LL.val (R.move rfl rfl) rfl rfl rfl ?_
      refine LL.val (R.move rfl rfl) rfl rfl rfl ?_
      refine LL.val (R.move rfl rfl) rfl rfl rfl ?_
      refine LL.val (R.eqT rfl rfl rfl (by omega)) rfl rfl rfl ?_
      refine LL.val (R.pick rfl rfl rfl) rfl rfl rfl ?_
      refine LL.val (R.pick rfl rfl rfl) rfl rfl rfl ?_
      refine LL.val (R.assign rfl rfl) rfl rfl rfl ?_
      refine LL.nilS ?_
      refine CC.ret ?_
      refine EE.ret _ rfl rfl ?_
      exact ⟨rfl, q⟩
    · have hne : a ≠ d := fun e => hA ⟨rfl, e⟩
      clear hA
      refine X.fn Try.func34 rfl (n := 52) rfl rfl ?_
      refine CC.seq ?_
      refine CC.region ?_
      refine LL.val (R.assign rfl rfl) rfl rfl rfl ?_
      refine LL.nilS ?_
      refine CC.seq ?_
      refine CC.region ?_
      refine LL.val (R.move rfl rfl) rfl rfl rfl ?_
      refine LL.val (R.move rfl rfl) rfl rfl rfl ?_
      (refine LL.call (R.call rfl rfl rfl) rfl rfl rfl (c1 _ q) ?_; rintro e Wd46 ⟨rfl, bd43⟩; refine ⟨_, rfl, ?_⟩)
      have zbd43 := bd43.size
      replace q := q.trans (bd43.mono q.size)
      refine LL.val (R.move rfl rfl) rfl rfl rfl ?_
      refine LL.val (R.extract rfl rfl rfl) rfl rfl rfl ?_
      refine LL.val (R.extract rfl rfl rfl) rfl rfl rfl ?_
      refine LL.val (R.assign rfl rfl) rfl rfl rfl ?_
      refine LL.val (R.assign rfl rfl) rfl rfl rfl ?_
      refine LL.nilS ?_
      refine CC.seq ?_
      refine CC.region ?_
      refine LL.val (R.move rfl rfl) rfl rfl rfl ?_
      refine LL.val (R.move rfl rfl) rfl rfl rfl ?_
      (refine LL.call (R.call rfl rfl rfl) rfl rfl rfl (c2 _ q) ?_; rintro e Wd158 ⟨rfl, bd155⟩; refine ⟨_, rfl, ?_⟩)
      have zbd155 := bd155.size
      replace bd43 := bd43.trans (bd155.mono bd43.size)
      replace q := q.trans (bd155.mono q.size)
      refine LL.val (R.move rfl rfl) rfl rfl rfl ?_
      refine LL.val (R.extract rfl rfl rfl) rfl rfl rfl ?_
      refine LL.val (R.extract rfl rfl rfl) rfl rfl rfl ?_
      refine LL.val (R.assign rfl rfl) rfl rfl rfl ?_
      refine LL.val (R.assign rfl rfl) rfl rfl rfl ?_
      refine LL.nilS ?_
      refine CC.seq ?_
      refine CC.seq ?_
      refine CC.region ?_
      refine LL.val (R.move rfl rfl) rfl rfl rfl ?_
      refine LL.val (R.not rfl rfl) rfl rfl rfl ?_
      refine LL.nilS ?_
      refine CC.no rfl ?_
      refine CC.skip ?_
      refine EE.thenN ?_
      refine CC.seq ?_
      refine CC.region ?_
      refine LL.val (R.move rfl rfl) rfl rfl rfl ?_
      refine LL.val (R.move rfl rfl) rfl rfl rfl ?_
      refine LL.val (R.move rfl rfl) rfl rfl rfl ?_
      refine LL.val (R.move rfl rfl) rfl rfl rfl ?_
      refine LL.val (R.eqF rfl rfl rfl (by omega)) rfl rfl rfl ?_
      refine LL.val (R.pick rfl rfl rfl) rfl rfl rfl ?_
      refine LL.val (R.move rfl rfl) rfl rfl rfl ?_
      refine LL.val (R.move rfl rfl) rfl rfl rfl ?_
      refine LL.val (R.move rfl rfl) rfl rfl rfl ?_
      refine LL.val (R.move rfl rfl) rfl rfl rfl ?_
      refine LL.val (R.move rfl rfl) rfl rfl rfl ?_
      refine LL.val (R.eqT rfl rfl rfl (by omega)) rfl rfl rfl ?_
      refine LL.val (R.pick rfl rfl rfl) rfl rfl rfl ?_
      refine LL.val (R.pick rfl rfl rfl) rfl rfl rfl ?_
      refine LL.val (R.assign rfl rfl) rfl rfl rfl ?_
      refine LL.nilS ?_
      refine CC.ret ?_
      refine EE.ret _ rfl rfl ?_
      exact ⟨rfl, q⟩
end Go.Proofs.Ytloflmkolnediaa
