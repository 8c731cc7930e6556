/- Plain lists of layer 1: the bytes of words that bytes were laid into; the words of bytes of words. -/
import Derived.Test.YtaefnkccbmcllaaD
namespace Go.Proofs.Ytaefnkccbmcllaa
open Go.RowKit

theorem byteL_get (x n i : Nat) (h : i < n) : (byteL x n)[i]? = some (x / 256 ^ i % 256) := by simp [byteL, h]

theorem bytesL_get (ws : List Nat) : ∀ i, i < 8 * ws.length → (bytesL ws)[i]? = some (ws[i / 8]?.getD 0 / 256 ^ (i % 8) % 256) := by
  induction ws with
  | nil => intro i h; simp at h
  | cons x l ih =>
    intro i h
    have e : bytesL (x :: l) = byteL x 8 ++ bytesL l := by simp [bytesL]
    rw [e]
    by_cases h8 : i < 8
    · rw [List.getElem?_append_left (by rw [byteL_length]; exact h8), byteL_get x 8 i h8, show i / 8 = 0 by omega, show i % 8 = i by omega]
      rfl
    · rw [List.getElem?_append_right (by rw [byteL_length]; omega), byteL_length, ih (i - 8) (by simp at h; omega), show (i - 8) % 8 = i % 8 by omega, show i / 8 = (i - 8) / 8 + 1 by omega]
      simp

theorem valL_get (l : List Nat) (h : ∀ x ∈ l, x < 256) : ∀ k, valL l / 256 ^ k % 256 = l[k]?.getD 0 := by
  induction l with
  | nil => intro k; simp [valL]
  | cons b r ih =>
    intro k
    have hb := h b (by simp)
    have ih' := ih (fun x hx => h x (by simp [hx]))
    cases k with
    | zero => simp [valL]; omega
    | succ k =>
      have e : valL (b :: r) / 256 ^ (k + 1) = valL r / 256 ^ k := by
        rw [Nat.pow_succ, Nat.mul_comm, ← Nat.div_div_eq_div_mul]
        congr 1
        simp only [valL]
        omega
      rw [e, ih' k]
      simp

theorem bytes_lay (bs : List Nat) (h : ∀ x ∈ bs, x < 256) (n i : Nat) (hi : i < 8 * n) : (bytesL (layN bs n))[i]? = some (bs[i]?.getD 0) := by
  rw [bytesL_get _ i (by rw [layN_length]; exact hi)]
  congr 1
  have hj : i / 8 < n := by omega
  have e : (layN bs n)[i / 8]?.getD 0 = wordAt bs (i / 8) := by simp [layN, hj]
  rw [e]
  unfold wordAt
  rw [valL_get _ (fun x hx => h x (List.mem_of_mem_drop (List.mem_of_mem_take hx)))]
  rw [List.getElem?_take, if_pos (by omega), List.getElem?_drop, show 8 * (i / 8) + i % 8 = i by omega]

theorem layL_length (bs : List Nat) : (layL bs).length = (bs.length + 7) / 8 := layN_length _ _

theorem lay_take (bs : List Nat) (h : ∀ x ∈ bs, x < 256) : (bytesL (layL bs)).take bs.length = bs := by
  apply List.ext_getElem?
  intro i
  rw [List.getElem?_take]
  by_cases hi : i < bs.length
  · rw [if_pos hi]
    unfold layL
    rw [bytes_lay bs h _ i (by omega)]
    simp [hi]
  · rw [if_neg hi, List.getElem?_eq_none (by omega)]

theorem lay_drop (bs : List Nat) (h : ∀ x ∈ bs, x < 256) : zerosB ((bytesL (layL bs)).drop bs.length) = true := by
  unfold zerosB
  rw [List.all_eq_true]
  intro x hx
  obtain ⟨i, hi, rfl⟩ := List.mem_iff_getElem.1 hx
  simp only [List.length_drop, bytesL_length, layL_length] at hi
  have e := bytes_lay bs h ((bs.length + 7) / 8) (bs.length + i) (by omega)
  rw [List.getElem?_eq_none (l := bs) (by omega)] at e
  have e2 : ((bytesL (layL bs)).drop bs.length)[i]? = some 0 := by rw [List.getElem?_drop]; exact e
  rw [List.getElem?_eq_getElem (by simp [bytesL_length, layL_length]; omega)] at e2
  simpa using e2

theorem lay_small (bs : List Nat) (h : ∀ x ∈ bs, x < 256) : ∀ x ∈ layL bs, x < 18446744073709551616 := by
  intro x hx
  simp only [layL, layN, List.mem_map] at hx
  obtain ⟨j, _, rfl⟩ := hx
  unfold wordAt
  refine Nat.lt_of_lt_of_le (valL_lt _ fun x hx => h x (List.mem_of_mem_drop (List.mem_of_mem_take hx))) ?_
  have : ((bs.drop (8 * j)).take 8).length ≤ 8 := by simp; omega
  exact Nat.le_trans (Nat.pow_le_pow_right (by decide) this) (by decide)

theorem valL_byteL (x n : Nat) : valL (byteL x n) = x % 256 ^ n := by
  induction n with
  | zero => simp [byteL, valL, Nat.mod_one]
  | succ n ih =>
    rw [byteL_succ, valL_append, ih, byteL_length]
    simp only [valL, Nat.mul_zero, Nat.add_zero]
    rw [Nat.pow_succ, Nat.mod_mul]

/-- The words of the bytes of words. -/
theorem lay_bytes (ws : List Nat) (h : ∀ x ∈ ws, x < 18446744073709551616) : layL (bytesL ws) = ws := by
  apply List.ext_getElem
  · rw [layL_length, bytesL_length]; omega
  · intro j h1 h2
    simp only [layL, layN, List.getElem_map, List.getElem_range]
    have e : ((bytesL ws).drop (8 * j)).take 8 = byteL ws[j] 8 := by
      apply List.ext_getElem?
      intro i
      rw [List.getElem?_take]
      by_cases hi : i < 8
      · rw [if_pos hi, List.getElem?_drop, bytesL_get ws _ (by omega), byteL_get _ _ _ hi, show (8 * j + i) / 8 = j by omega, show (8 * j + i) % 8 = i by omega]
        simp [h2]
      · rw [if_neg hi, List.getElem?_eq_none (by rw [byteL_length]; omega)]
    unfold wordAt
    rw [e, valL_byteL]
    exact Nat.mod_eq_of_lt (Nat.lt_of_lt_of_le (h _ (List.getElem_mem h2)) (by decide))

theorem bytesL_small (ws : List Nat) : ∀ x ∈ bytesL ws, x < 256 := by
  intro x hx
  simp only [bytesL, List.mem_flatMap, byteL, List.mem_map] at hx
  obtain ⟨w, _, i, _, rfl⟩ := hx
  exact Nat.mod_lt _ (by decide)

/-- The bytes of the words of bytes that are a multiple of eight. -/
theorem bytes_of_lay (bs : List Nat) (h : ∀ x ∈ bs, x < 256) (h8 : bs.length % 8 = 0) : bytesL (layL bs) = bs := by
  have e := lay_take bs h
  rw [List.take_of_length_le (by rw [bytesL_length, layL_length]; omega)] at e
  exact e
end Go.Proofs.Ytaefnkccbmcllaa
