/- layout: which words are a device's: the super block, and one with another word. -/
import Derived.Test.YthdgnogpjpoklaaReadsW
import Derived.Test.YthdgnogpjpoklaaPartsM
import Derived.Test.YthdgnogpjpoklaaTurnMath
namespace Go.Proofs.Ythdgnogpjpoklaa
set_option linter.unusedVariables false
set_option linter.unusedSimpArgs false
open Go.RowKit Go.Shelf
theorem wd_set {l : List Nat} {a y j : Nat} (h : a < l.length) : wd (l.set a y) j = if a = j then y else wd l j := by
  unfold wd
  rw [List.getElem?_set]
  by_cases e : a = j
  · subst e; simp [h]
  · simp [e]
theorem wd_take {l : List Nat} {j : Nat} (h : j < 64) : wd (l.take 64) j = wd l j := by
  unfold wd
  rw [List.getElem?_take, if_pos h]
theorem wd_app {l z : List Nat} {j : Nat} (h : j < l.length) : wd (l ++ z) j = wd l j := by
  unfold wd
  rw [List.getElem?_append_left h]
theorem wd_sup0 (b i r t k1 k2 j : Nat) (h : 8 ≤ j) : wd (supL b i r t k1 k2) j = 0 := by
  unfold wd supL headL
  rw [List.getElem?_append_right (by simp; omega), List.getElem?_replicate]
  split <;> rfl
theorem xor_ne {a y : Nat} (h : a ^^^ y = a) : y = 0 := by
  have : a ^^^ (a ^^^ y) = a ^^^ a := by rw [h]
  rw [← Nat.xor_assoc, Nat.xor_self, Nat.zero_xor] at this
  exact this
/-- The word of such a list. -/
theorem wd_dev {b i r t k1 k2 n at' by' j : Nat} (hat : at' < 64) (hj : j < 64) : wd (devL b i r t k1 k2 n at' by') j = if at' = j then wd (supL b i r t k1 k2) at' ^^^ by' else wd (supL b i r t k1 k2) j := by
  have hl := supL_len b i r t k1 k2
  unfold devL
  rw [wd_set (by rw [List.length_append, hl]; omega), wd_app (by omega)]
theorem dev_same {b i r t k1 k2 n at' : Nat} (hat : at' < 64) : devL b i r t k1 k2 n at' 0 = supL b i r t k1 k2 ++ List.replicate (n - 64) 0 := by
  have hl := supL_len b i r t k1 k2
  unfold devL wd
  rw [Nat.xor_zero]
  apply List.ext_getElem?
  intro j
  rw [List.getElem?_set]
  by_cases e : at' = j
  · subst e
    rw [if_pos rfl, if_pos (by rw [List.length_append, hl]; omega), List.getElem?_append_left (by omega), List.getElem?_eq_getElem (by omega)]
    rfl
  · rw [if_neg e]
theorem dev_ok {b i r t k1 k2 : Nat} (hok : okF b i r t) : rdOk (supL b i r t k1 k2 ++ List.replicate (64 * b - 64) 0) := by
  have hl := supL_len b i r t k1 k2
  have hw : ∀ j, j < 64 → wd (supL b i r t k1 k2 ++ List.replicate (64 * b - 64) 0) j = wd (supL b i r t k1 k2) j := fun j hj => wd_app (by omega)
  refine ⟨by rw [List.length_append, hl]; omega, ?_, ?_, ?_⟩
  · rw [hw 1 (by omega), hw 2 (by omega), hw 3 (by omega), hw 4 (by omega)]
    exact hok
  · rw [hw 1 (by omega), List.length_append, hl, List.length_replicate]
    show _ = 64 * b
    omega
  · rw [hw 1 (by omega), hw 2 (by omega), hw 3 (by omega), hw 4 (by omega), hw 5 (by omega), hw 6 (by omega), List.take_left' hl]
    rfl
theorem dev_bent {b i r t k1 k2 n at' by' : Nat} (hb : b < 18446744073709551616 ∧ i < 18446744073709551616 ∧ r < 18446744073709551616 ∧ t < 18446744073709551616 ∧ k1 < 18446744073709551616 ∧ k2 < 18446744073709551616) (hy : by' < 18446744073709551616) (hat : at' < 64) (h0 : by' ≠ 0) : notR (devL b i r t k1 k2 n at' by') := by
  rintro ⟨_, _, _, h⟩
  have hj : ∀ j, j < 64 → wd (devL b i r t k1 k2 n at' by') j = wd (supL (wd (devL b i r t k1 k2 n at' by') 1) (wd (devL b i r t k1 k2 n at' by') 2) (wd (devL b i r t k1 k2 n at' by') 3) (wd (devL b i r t k1 k2 n at' by') 4) (wd (devL b i r t k1 k2 n at' by') 5) (wd (devL b i r t k1 k2 n at' by') 6)) j := fun j hj => by
    rw [← h, wd_take hj]
  simp only [wd_dev hat (show 1 < 64 by omega), wd_dev hat (show 2 < 64 by omega), wd_dev hat (show 3 < 64 by omega), wd_dev hat (show 4 < 64 by omega), wd_dev hat (show 5 < 64 by omega), wd_dev hat (show 6 < 64 by omega)] at hj
  have hx : ∀ z, z < 18446744073709551616 → z ^^^ by' < 18446744073709551616 := fun z hz => Nat.xor_lt_two_pow (n := 64) hz hy
  have h7 := hj 7 (by omega)
  rw [wd_dev hat (by omega)] at h7
  have w0 : wd (supL b i r t k1 k2) 0 = 3555397645633865032 := rfl
  have w1 : wd (supL b i r t k1 k2) 1 = b := rfl
  have w2 : wd (supL b i r t k1 k2) 2 = i := rfl
  have w3 : wd (supL b i r t k1 k2) 3 = r := rfl
  have w4 : wd (supL b i r t k1 k2) 4 = t := rfl
  have w5 : wd (supL b i r t k1 k2) 5 = k1 := rfl
  have w6 : wd (supL b i r t k1 k2) 6 = k2 := rfl
  have w7 : ∀ b i r t k1 k2, wd (supL b i r t k1 k2) 7 = wsum (headL b i r t k1 k2) := fun _ _ _ _ _ _ => rfl
  have hm : (3555397645633865032 : Nat) < 18446744073709551616 := by omega
  rcases (show at' = 0 ∨ at' = 1 ∨ at' = 2 ∨ at' = 3 ∨ at' = 4 ∨ at' = 5 ∨ at' = 6 ∨ at' = 7 ∨ 8 ≤ at' by omega) with e | e | e | e | e | e | e | e | e
  · subst e
    have h0' := hj 0 (by omega)
    rw [wd_dev hat (by omega), if_pos rfl, w0] at h0'
    exact h0 (xor_ne h0')
  · subst e
    simp only [w1, w2, w3, w4, w5, w6, w7, if_true, if_false, show ¬(1 = 2) by omega, show ¬(1 = 3) by omega, show ¬(1 = 4) by omega, show ¬(1 = 5) by omega, show ¬(1 = 6) by omega, show ¬(1 = 7) by omega] at h7
    exact h0 (xor_ne (wsum_other [3555397645633865032] [i, r, t, k1, k2] b (b ^^^ by') (by simp) (by simp; omega) (by omega) (hx _ (by omega)) h7).symm)
  · subst e
    simp only [w1, w2, w3, w4, w5, w6, w7, if_true, if_false, show ¬(2 = 1) by omega, show ¬(2 = 3) by omega, show ¬(2 = 4) by omega, show ¬(2 = 5) by omega, show ¬(2 = 6) by omega, show ¬(2 = 7) by omega] at h7
    exact h0 (xor_ne (wsum_other [3555397645633865032, b] [r, t, k1, k2] i (i ^^^ by') (by simp; omega) (by simp; omega) (by omega) (hx _ (by omega)) h7).symm)
  · subst e
    simp only [w1, w2, w3, w4, w5, w6, w7, if_true, if_false, show ¬(3 = 1) by omega, show ¬(3 = 2) by omega, show ¬(3 = 4) by omega, show ¬(3 = 5) by omega, show ¬(3 = 6) by omega, show ¬(3 = 7) by omega] at h7
    exact h0 (xor_ne (wsum_other [3555397645633865032, b, i] [t, k1, k2] r (r ^^^ by') (by simp; omega) (by simp; omega) (by omega) (hx _ (by omega)) h7).symm)
  · subst e
    simp only [w1, w2, w3, w4, w5, w6, w7, if_true, if_false, show ¬(4 = 1) by omega, show ¬(4 = 2) by omega, show ¬(4 = 3) by omega, show ¬(4 = 5) by omega, show ¬(4 = 6) by omega, show ¬(4 = 7) by omega] at h7
    exact h0 (xor_ne (wsum_other [3555397645633865032, b, i, r] [k1, k2] t (t ^^^ by') (by simp; omega) (by simp; omega) (by omega) (hx _ (by omega)) h7).symm)
  · subst e
    simp only [w1, w2, w3, w4, w5, w6, w7, if_true, if_false, show ¬(5 = 1) by omega, show ¬(5 = 2) by omega, show ¬(5 = 3) by omega, show ¬(5 = 4) by omega, show ¬(5 = 6) by omega, show ¬(5 = 7) by omega] at h7
    exact h0 (xor_ne (wsum_other [3555397645633865032, b, i, r, t] [k2] k1 (k1 ^^^ by') (by simp; omega) (by simp; omega) (by omega) (hx _ (by omega)) h7).symm)
  · subst e
    simp only [w1, w2, w3, w4, w5, w6, w7, if_true, if_false, show ¬(6 = 1) by omega, show ¬(6 = 2) by omega, show ¬(6 = 3) by omega, show ¬(6 = 4) by omega, show ¬(6 = 5) by omega, show ¬(6 = 7) by omega] at h7
    exact h0 (xor_ne (wsum_other [3555397645633865032, b, i, r, t, k1] [] k2 (k2 ^^^ by') (by simp; omega) (by simp) (by omega) (hx _ (by omega)) h7).symm)
  · subst e
    simp only [w1, w2, w3, w4, w5, w6, w7, if_true, if_false, show ¬(7 = 1) by omega, show ¬(7 = 2) by omega, show ¬(7 = 3) by omega, show ¬(7 = 4) by omega, show ¬(7 = 5) by omega, show ¬(7 = 6) by omega] at h7
    exact h0 (xor_ne h7)
  · have h8 := hj at' hat
    rw [wd_dev hat hat, if_pos rfl, wd_sup0 _ _ _ _ _ _ _ e, wd_sup0 _ _ _ _ _ _ _ e] at h8
    exact h0 (xor_ne h8)
/-- The last part whose first word is not above a word. -/
def lastP (word : Nat) (l : List Pa) (acc : Nat × Nat) : Nat × Nat := l.foldl (fun a x => if x.1 ≤ word then x.2 else a) acc
theorem lastP_none {word : Nat} : ∀ {l : List Pa} {acc : Nat × Nat}, (∀ y ∈ l, ¬y.1 ≤ word) → lastP word l acc = acc
  | [], _, _ => rfl
  | x :: l, acc, h => by
    show lastP word l (if x.1 ≤ word then x.2 else acc) = acc
    rw [if_neg (h x (List.mem_cons_self ..))]
    exact lastP_none fun y hy => h y (List.mem_cons_of_mem _ hy)
theorem lastP_scan {word : Nat} : ∀ {l : List Pa} {acc : Nat × Nat}, l.Pairwise (fun x y => x.1 < y.1) → lastP word l acc = scanP word l acc
  | [], _, _ => rfl
  | x :: l, acc, h => by
    obtain ⟨h1, h2⟩ := List.pairwise_cons.1 h
    show lastP word l (if x.1 ≤ word then x.2 else acc) = if x.1 ≤ word then scanP word l x.2 else acc
    by_cases hx : x.1 ≤ word
    · rw [if_pos hx, if_pos hx]
      exact lastP_scan h2
    · rw [if_neg hx, if_neg hx]
      exact lastP_none fun y hy => by
        have := h1 y hy
        omega
theorem lastP_snoc (word : Nat) (l : List Pa) (x : Pa) (acc : Nat × Nat) : lastP word (l ++ [x]) acc = if x.1 ≤ word then x.2 else lastP word l acc := by
  unfold lastP
  rw [List.foldl_append]
  rfl
end Go.Proofs.Ythdgnogpjpoklaa
