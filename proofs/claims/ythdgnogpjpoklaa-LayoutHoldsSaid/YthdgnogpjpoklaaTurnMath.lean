/- The check sum keeps words apart. -/
import Derived.Test.YthdgnogpjpoklaaSeal
namespace Go.Proofs.Ythdgnogpjpoklaa
set_option linter.unusedVariables false
set_option linter.unusedSimpArgs false

theorem crcN_add (m n s : Nat) : crcN (m + n) s = crcN m (crcN n s) := by
  induction m with
  | zero => simp [crcN]
  | succ m ih => rw [Nat.succ_add]; simp only [crcN]; rw [ih]

/-- what has no low bit goes through -/
theorem crcBit_xor (s y : Nat) : crcBit (s ^^^ (2 * y)) = crcBit s ^^^ y := by
  have h1 : (s ^^^ (2 * y)) % 2 = s % 2 := by
    have h := Nat.testBit_xor (x := s) (y := 2 * y) (i := 0)
    simp only [Nat.testBit_zero] at h
    rw [show 2 * y % 2 = 0 by omega, show decide (0 = 1) = false by decide, Bool.xor_false] at h
    have h2 : (s ^^^ 2 * y) % 2 = 1 ↔ s % 2 = 1 := by
      constructor
      · intro h3; rw [decide_eq_true h3] at h; exact of_decide_eq_true h.symm
      · intro h3; rw [decide_eq_true h3] at h; exact of_decide_eq_true h
    omega
  have h2 : (s ^^^ (2 * y)) / 2 = s / 2 ^^^ y := by
    apply Nat.eq_of_testBit_eq
    intro i
    rw [Nat.testBit_div_two, Nat.testBit_xor, Nat.testBit_xor, Nat.testBit_div_two]
    congr 1
    rw [← Nat.testBit_div_two]
    congr 1
    omega
  unfold crcBit
  rw [h1, h2]
  split
  · rw [Nat.xor_assoc, Nat.xor_comm y, ← Nat.xor_assoc]
  · rfl
theorem crcN_xor (n s y : Nat) : crcN n (s ^^^ (2 ^ n * y)) = crcN n s ^^^ y := by
  induction n generalizing y with
  | zero => simp [crcN]
  | succ n ih =>
    simp only [crcN]
    rw [Nat.pow_succ, Nat.mul_assoc, ih, crcBit_xor]
theorem crcBit_inj {s t : Nat} (hs : s < 18446744073709551616) (ht : t < 18446744073709551616) (h : crcBit s = crcBit t) : s = t := by
  unfold crcBit at h
  have hf : Nat.testBit 14514072000185962306 63 = true := by decide
  have top : ∀ x : Nat, x < 18446744073709551616 → Nat.testBit (x / 2) 63 = false := fun x hx =>
    Nat.testBit_lt_two_pow (by omega)
  split at h <;> split at h
  · have : s / 2 = t / 2 := by
      have := congrArg (· ^^^ 14514072000185962306) h
      simpa [Nat.xor_assoc] using this
    omega
  · have := congrArg (Nat.testBit · 63) h
    simp [Nat.testBit_xor, hf, top s hs, top t ht] at this
  · have := congrArg (Nat.testBit · 63) h
    simp [Nat.testBit_xor, hf, top s hs, top t ht] at this
  · omega
theorem crcN_inj {n s t : Nat} (hs : s < 18446744073709551616) (ht : t < 18446744073709551616) (h : crcN n s = crcN n t) : s = t := by
  induction n with
  | zero => exact h
  | succ n ih => exact ih (crcBit_inj (crcN_lt hs n) (crcN_lt ht n) h)
/-- the first k bytes of a word, taken in -/
theorem crcL_word (s x k : Nat) : crcL s (byteL x k) = crcN (8 * k) (s ^^^ x % 256 ^ k) := by
  induction k with
  | zero => simp [byteL, crcL, crcN, Nat.mod_one]
  | succ k ih =>
    have e : byteL x (k + 1) = byteL x k ++ [x / 256 ^ k % 256] := by simp [byteL, List.range_succ]
    have hp : (256 : Nat) ^ k = 2 ^ (8 * k) := by rw [show (256 : Nat) = 2 ^ 8 by rfl, ← Nat.pow_mul]
    have hx : x % 256 ^ (k + 1) = (x % 256 ^ k) ^^^ (2 ^ (8 * k) * (x / 256 ^ k % 256)) := by
      have h0 : x % 256 ^ (k + 1) = 2 ^ (8 * k) * (x / 256 ^ k % 256) + x % 256 ^ k := by rw [Nat.pow_succ, Nat.mod_mul, Nat.add_comm, ← hp]
      rw [h0]
      have hlt : x % 256 ^ k < 2 ^ (8 * k) := by rw [← hp]; exact Nat.mod_lt _ (by rw [hp]; exact Nat.two_pow_pos _)
      apply Nat.eq_of_testBit_eq
      intro i
      rw [Nat.testBit_two_pow_mul_add _ hlt, Nat.testBit_xor, Nat.testBit_two_pow_mul]
      by_cases hi : i < 8 * k
      · simp [hi, Nat.not_le.2 hi]
      · have : (x % 256 ^ k).testBit i = false := Nat.testBit_lt_two_pow (Nat.lt_of_lt_of_le hlt (Nat.pow_le_pow_right (by decide) (by omega)))
        simp [hi, this, Nat.not_lt.1 hi]
    rw [e, crcL, List.foldl_append]
    show crcByte (crcL s (byteL x k)) _ = _
    rw [ih]
    unfold crcByte
    rw [show 8 * (k + 1) = 8 + 8 * k by omega, crcN_add, hx, ← Nat.xor_assoc, crcN_xor]

def crcW (k s : Nat) (ws : List Nat) : Nat := ws.foldl (fun s x => crcN k (s ^^^ x)) s
theorem crcL_words (k s : Nat) (hk : 8 * 8 = k) (ws : List Nat) (h : ∀ x ∈ ws, x < 18446744073709551616) : crcL s (bytesL ws) = crcW k s ws := by
  induction ws generalizing s with
  | nil => rfl
  | cons x r ih =>
    have hx := h x (by simp)
    have e : bytesL (x :: r) = byteL x 8 ++ bytesL r := by simp [bytesL]
    rw [e, crcL, List.foldl_append]
    show crcL (crcL s (byteL x 8)) (bytesL r) = _
    rw [ih _ (fun y hy => h y (by simp [hy])), crcL_word, Nat.mod_eq_of_lt (show x < 256 ^ 8 from hx), hk]
    rfl
theorem crcW_lt (k s : Nat) (ws : List Nat) (hs : s < 18446744073709551616) (h : ∀ x ∈ ws, x < 18446744073709551616) : crcW k s ws < 18446744073709551616 := by
  induction ws generalizing s with
  | nil => exact hs
  | cons x r ih => exact ih _ (crcN_lt (xor_lt hs (h x (by simp))) k) (fun y hy => h y (by simp [hy]))
theorem crcW_inj (k s t : Nat) (ws : List Nat) (hs : s < 18446744073709551616) (ht : t < 18446744073709551616) (h : ∀ x ∈ ws, x < 18446744073709551616) (he : crcW k s ws = crcW k t ws) : s = t := by
  induction ws generalizing s t with
  | nil => exact he
  | cons x r ih =>
    have hx := h x (by simp)
    have h1 := ih _ _ (crcN_lt (xor_lt hs hx) k) (crcN_lt (xor_lt ht hx) k) (fun y hy => h y (by simp [hy])) he
    have h2 := crcN_inj (xor_lt hs hx) (xor_lt ht hx) h1
    have h3 := congrArg (· ^^^ x) h2
    simpa [Nat.xor_assoc] using h3
/-- One word another: another sum. -/
theorem wsum_other (l r : List Nat) (x y : Nat) (hl : ∀ z ∈ l, z < 18446744073709551616) (hr : ∀ z ∈ r, z < 18446744073709551616) (hx : x < 18446744073709551616) (hy : y < 18446744073709551616) (h : wsum (l ++ x :: r) = wsum (l ++ y :: r)) : x = y := by
  have n0 : notU 0 < 18446744073709551616 := by decide
  have ha : ∀ z, z < 18446744073709551616 → ∀ u ∈ l ++ z :: r, u < 18446744073709551616 := by
    intro z hz u hu
    rcases List.mem_append.1 hu with h | h
    · exact hl u h
    · rcases List.mem_cons.1 h with rfl | h
      · exact hz
      · exact hr u h
  obtain ⟨k, hk⟩ : ∃ k, 8 * 8 = k := ⟨_, rfl⟩
  obtain ⟨s, hs⟩ : ∃ s, notU 0 = s := ⟨_, rfl⟩
  rw [hs] at n0
  unfold wsum more at h
  rw [hs] at h
  rw [crcL_words k _ hk _ (ha x hx), crcL_words k _ hk _ (ha y hy)] at h
  have hlx := crcW_lt k _ _ n0 (ha x hx)
  have hly := crcW_lt k _ _ n0 (ha y hy)
  have h1 : crcW k s (l ++ x :: r) = crcW k s (l ++ y :: r) := by unfold notU at h; omega
  unfold crcW at h1
  rw [List.foldl_append, List.foldl_append] at h1
  have hm := crcW_lt k _ _ n0 hl
  have h2 := crcW_inj k _ _ r (crcN_lt (xor_lt hm hx) k) (crcN_lt (xor_lt hm hy) k) hr h1
  have h3 := crcN_inj (xor_lt hm hx) (xor_lt hm hy) h2
  have h4 := congrArg (crcW k s l ^^^ ·) h3
  simpa [crcW, ← Nat.xor_assoc] using h4

end Go.Proofs.Ythdgnogpjpoklaa
