/- Plain arithmetic of layer 1 (no program): masks, fields, powers of two. -/
import Derived.WalkKit
namespace Go.Proofs.YtklfopclaonggaaDoor
set_option linter.unusedVariables false
set_option linter.unusedSimpArgs false

/-- Two numbers that have no bit in common. -/
theorem or_disj (x y : Nat) (h : x &&& y = 0) : x ||| y = x + y := by
  have hx : x < 2 ^ (x + y) := Nat.lt_of_le_of_lt (Nat.le_add_right x y) Nat.lt_two_pow_self
  have hy : y < 2 ^ (x + y) := Nat.lt_of_le_of_lt (Nat.le_add_left y x) Nat.lt_two_pow_self
  have hxy : x + y < 2 ^ (x + y) := Nat.lt_two_pow_self
  have hb : BitVec.ofNat (x + y) x &&& BitVec.ofNat (x + y) y = 0#(x + y) := by
    apply BitVec.eq_of_toNat_eq
    simp [BitVec.toNat_and, Nat.mod_eq_of_lt hx, Nat.mod_eq_of_lt hy, h]
  have := congrArg BitVec.toNat (BitVec.add_eq_or_of_and_eq_zero _ _ hb)
  simp [BitVec.toNat_add, BitVec.toNat_or, Nat.mod_eq_of_lt hx, Nat.mod_eq_of_lt hy, Nat.mod_eq_of_lt hxy] at this
  exact this.symm

/-- The bits of a field as a number. -/
theorem mask_val (a k : Nat) (h2 : k + a ≤ 64) : 18446744073709551615 / 2 ^ (64 - k) * 2 ^ a % 18446744073709551616 = (2 ^ k - 1) * 2 ^ a := by
  have e1 : (18446744073709551615 : Nat) = 2 ^ 64 - 1 := by decide
  have e2 : (18446744073709551615 : Nat) / 2 ^ (64 - k) = 2 ^ k - 1 := by
    rw [e1]
    have hk : (2:Nat) ^ 64 = 2 ^ k * 2 ^ (64 - k) := by rw [← Nat.pow_add]; congr 1; omega
    have hp : 0 < (2:Nat) ^ (64 - k) := Nat.two_pow_pos _
    have hq : 1 ≤ (2:Nat) ^ k := Nat.one_le_two_pow
    rw [hk]
    apply Nat.div_eq_of_lt_le
    · have : (2 ^ k - 1) * 2 ^ (64 - k) = 2 ^ k * 2 ^ (64 - k) - 2 ^ (64 - k) := by rw [Nat.sub_mul, Nat.one_mul]
      omega
    · have : (2 ^ k - 1 + 1) * 2 ^ (64 - k) = 2 ^ k * 2 ^ (64 - k) := by rw [Nat.sub_add_cancel hq]
      have : 0 < 2 ^ k * 2 ^ (64 - k) := Nat.mul_pos (by omega) hp
      omega
  rw [e2]
  apply Nat.mod_eq_of_lt
  have : (2:Nat) ^ k * 2 ^ a ≤ 2 ^ 64 := by rw [← Nat.pow_add]; exact Nat.pow_le_pow_right (by decide) (by omega)
  have e3 : (2:Nat) ^ 64 = 18446744073709551616 := by decide
  have : (2 ^ k - 1) * 2 ^ a = 2 ^ k * 2 ^ a - 2 ^ a := by rw [Nat.sub_mul, Nat.one_mul]
  have : 0 < (2:Nat) ^ a := Nat.two_pow_pos _
  omega

theorem mask_lt (a k : Nat) (h2 : k + a ≤ 64) : (2 ^ k - 1) * 2 ^ a < 18446744073709551616 := by
  have : (2:Nat) ^ k * 2 ^ a ≤ 2 ^ 64 := by rw [← Nat.pow_add]; exact Nat.pow_le_pow_right (by decide) (by omega)
  have e3 : (2:Nat) ^ 64 = 18446744073709551616 := by decide
  have : (2 ^ k - 1) * 2 ^ a = 2 ^ k * 2 ^ a - 2 ^ a := by rw [Nat.sub_mul, Nat.one_mul]
  have : 0 < (2:Nat) ^ a := Nat.two_pow_pos _
  omega

theorem testBit_mask (a k i : Nat) : ((2 ^ k - 1) * 2 ^ a).testBit i = (decide (a ≤ i) && decide (i - a < k)) := by
  rw [Nat.mul_comm, Nat.testBit_two_pow_mul, Nat.testBit_two_pow_sub_one]

/-- What a mask leaves of a word, moved down, is the field. -/
theorem and_mask_div (x a k : Nat) : (x &&& ((2 ^ k - 1) * 2 ^ a)) / 2 ^ a = x / 2 ^ a % 2 ^ k := by
  apply Nat.eq_of_testBit_eq
  intro i
  simp only [Nat.testBit_div_two_pow, Nat.testBit_and, testBit_mask, Nat.testBit_mod_two_pow]
  rw [show i + a - a = i by omega]
  simp [Bool.and_comm]

/-- A word without a field, and the field's value put there. -/
theorem with_val (x a k v : Nat) (hx : x < 18446744073709551616) (h2 : k + a ≤ 64) (hv : v < 2 ^ k) :
    (x &&& (18446744073709551615 - (2 ^ k - 1) * 2 ^ a)) ||| (v * 2 ^ a % 18446744073709551616) = x - x / 2 ^ a % 2 ^ k * 2 ^ a + v * 2 ^ a := by
  have hm := mask_lt a k h2
  have e3 : (2:Nat) ^ 64 = 18446744073709551616 := by decide
  have hva : v * 2 ^ a < 18446744073709551616 := by
    have : v * 2 ^ a ≤ (2 ^ k - 1) * 2 ^ a := Nat.mul_le_mul_right _ (by omega)
    omega
  rw [Nat.mod_eq_of_lt hva]
  have hand : x &&& (18446744073709551615 - (2 ^ k - 1) * 2 ^ a) = x - x / 2 ^ a % 2 ^ k * 2 ^ a := by
    have hsum : (x &&& (18446744073709551615 - (2 ^ k - 1) * 2 ^ a)) + (x &&& ((2 ^ k - 1) * 2 ^ a)) = x := by
      rw [← or_disj _ _]
      · apply Nat.eq_of_testBit_eq
        intro i
        have hb : (18446744073709551615 - (2 ^ k - 1) * 2 ^ a).testBit i = (decide (i < 64) && !((2 ^ k - 1) * 2 ^ a).testBit i) := by
          have := Nat.testBit_two_pow_sub_succ (n := 64) (x := (2 ^ k - 1) * 2 ^ a) (by omega) i
          rw [show (18446744073709551615 - (2 ^ k - 1) * 2 ^ a) = 2 ^ 64 - ((2 ^ k - 1) * 2 ^ a + 1) by omega]
          exact this
        simp only [Nat.testBit_or, Nat.testBit_and, hb]
        by_cases hi : i < 64
        · cases x.testBit i <;> cases ((2 ^ k - 1) * 2 ^ a).testBit i <;> simp [hi]
        · have : x.testBit i = false := Nat.testBit_lt_two_pow (Nat.lt_of_lt_of_le (by omega : x < 2 ^ 64) (Nat.pow_le_pow_right (by decide) (by omega)))
          simp [this]
      · apply Nat.eq_of_testBit_eq
        intro i
        have hb : (18446744073709551615 - (2 ^ k - 1) * 2 ^ a).testBit i = (decide (i < 64) && !((2 ^ k - 1) * 2 ^ a).testBit i) := by
          have := Nat.testBit_two_pow_sub_succ (n := 64) (x := (2 ^ k - 1) * 2 ^ a) (by omega) i
          rw [show (18446744073709551615 - (2 ^ k - 1) * 2 ^ a) = 2 ^ 64 - ((2 ^ k - 1) * 2 ^ a + 1) by omega]
          exact this
        simp only [Nat.testBit_and, hb, Nat.zero_testBit]
        cases x.testBit i <;> cases ((2 ^ k - 1) * 2 ^ a).testBit i <;> simp
    have hf : x &&& ((2 ^ k - 1) * 2 ^ a) = x / 2 ^ a % 2 ^ k * 2 ^ a := by
      rw [← and_mask_div x a k]
      have hd : (x &&& ((2 ^ k - 1) * 2 ^ a)) % 2 ^ a = 0 := by
        apply Nat.eq_of_testBit_eq
        intro i
        simp only [Nat.testBit_mod_two_pow, Nat.testBit_and, testBit_mask, Nat.zero_testBit]
        by_cases hi : i < a
        · simp [hi, show ¬ a ≤ i by omega]
        · simp [hi]
      have := Nat.div_add_mod (x &&& ((2 ^ k - 1) * 2 ^ a)) (2 ^ a)
      rw [hd, Nat.mul_comm (2 ^ a) (_ / _)] at this
      omega
    omega
  rw [hand, ← hand]
  rw [← or_disj _ _]
  apply Nat.eq_of_testBit_eq
  intro i
  have hb : (18446744073709551615 - (2 ^ k - 1) * 2 ^ a).testBit i = (decide (i < 64) && !((2 ^ k - 1) * 2 ^ a).testBit i) := by
    have := Nat.testBit_two_pow_sub_succ (n := 64) (x := (2 ^ k - 1) * 2 ^ a) (by omega) i
    rw [show (18446744073709551615 - (2 ^ k - 1) * 2 ^ a) = 2 ^ 64 - ((2 ^ k - 1) * 2 ^ a + 1) by omega]
    exact this
  simp only [Nat.testBit_and, hb, Nat.zero_testBit, testBit_mask, Nat.mul_comm v, Nat.testBit_two_pow_mul]
  by_cases hi : a ≤ i
  · by_cases hik : i - a < k
    · simp [hi, hik]
    · have : v.testBit (i - a) = false := Nat.testBit_lt_two_pow (Nat.lt_of_lt_of_le hv (Nat.pow_le_pow_right (by decide) (by omega)))
      simp [this]
  · simp [hi]

/-- Bit by bit: a word whose field has another value. -/
theorem with_bits (x a k v : Nat) (hx : x < 18446744073709551616) (h2 : k + a ≤ 64) (hv : v < 2 ^ k) (i : Nat) :
    (x - x / 2 ^ a % 2 ^ k * 2 ^ a + v * 2 ^ a).testBit i = if a ≤ i ∧ i < a + k then v.testBit (i - a) else x.testBit i := by
  have hm := mask_lt a k h2
  rw [← with_val x a k v hx h2 hv]
  have hva : v * 2 ^ a < 18446744073709551616 := by
    have : v * 2 ^ a ≤ (2 ^ k - 1) * 2 ^ a := Nat.mul_le_mul_right _ (by omega)
    omega
  rw [Nat.mod_eq_of_lt hva]
  have hb : (18446744073709551615 - (2 ^ k - 1) * 2 ^ a).testBit i = (decide (i < 64) && !((2 ^ k - 1) * 2 ^ a).testBit i) := by
    have := Nat.testBit_two_pow_sub_succ (n := 64) (x := (2 ^ k - 1) * 2 ^ a) (by omega) i
    rw [show (18446744073709551615 - (2 ^ k - 1) * 2 ^ a) = 2 ^ 64 - ((2 ^ k - 1) * 2 ^ a + 1) by omega]
    exact this
  simp only [Nat.testBit_or, Nat.testBit_and, hb, testBit_mask, Nat.mul_comm v, Nat.testBit_two_pow_mul]
  by_cases hi : a ≤ i
  · by_cases hik : i - a < k
    · simp [hi, hik, show i < a + k by omega]
    · have hvf : v.testBit (i - a) = false := Nat.testBit_lt_two_pow (Nat.lt_of_lt_of_le hv (Nat.pow_le_pow_right (by decide) (by omega)))
      rw [if_neg (by omega)]
      simp [hvf, hik]
      by_cases h64 : i < 64
      · simp [h64]
      · have : x.testBit i = false := Nat.testBit_lt_two_pow (Nat.lt_of_lt_of_le (by omega : x < 2 ^ 64) (Nat.pow_le_pow_right (by decide) (by omega)))
        simp [this]
  · rw [if_neg (by omega)]
    simp [hi]
    by_cases h64 : i < 64
    · simp [h64]
    · have : x.testBit i = false := Nat.testBit_lt_two_pow (Nat.lt_of_lt_of_le (by omega : x < 2 ^ 64) (Nat.pow_le_pow_right (by decide) (by omega)))
      simp [this]

theorem put_here (x a k v : Nat) (hx : x < 18446744073709551616) (h2 : k + a ≤ 64) (hv : v < 2 ^ k) : (x - x / 2 ^ a % 2 ^ k * 2 ^ a + v * 2 ^ a) / 2 ^ a % 2 ^ k = v := by
  apply Nat.eq_of_testBit_eq
  intro i
  rw [Nat.testBit_mod_two_pow, Nat.testBit_div_two_pow, with_bits x a k v hx h2 hv]
  by_cases hi : i < k
  · rw [if_pos (by omega)]; simp [hi]
  · have hvf : v.testBit i = false := Nat.testBit_lt_two_pow (Nat.lt_of_lt_of_le hv (Nat.pow_le_pow_right (by decide) (by omega)))
    simp [hi, hvf]

theorem put_beside (x a k v b y : Nat) (hx : x < 18446744073709551616) (h2 : k + a ≤ 64) (hv : v < 2 ^ k) (hd : b + y ≤ a ∨ a + k ≤ b) :
    (x - x / 2 ^ a % 2 ^ k * 2 ^ a + v * 2 ^ a) / 2 ^ b % 2 ^ y = x / 2 ^ b % 2 ^ y := by
  apply Nat.eq_of_testBit_eq
  intro i
  rw [Nat.testBit_mod_two_pow, Nat.testBit_div_two_pow, with_bits x a k v hx h2 hv, Nat.testBit_mod_two_pow, Nat.testBit_div_two_pow]
  by_cases hi : i < y
  · rw [if_neg (by omega)]
  · simp [hi]
end Go.Proofs.YtklfopclaonggaaDoor
