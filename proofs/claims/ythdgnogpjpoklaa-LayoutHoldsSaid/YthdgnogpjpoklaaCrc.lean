/- The check sum as a fold over bytes; the document's More, and the program's register. -/
import Derived.Test.YthdgnogpjpoklaaStr
namespace Go.Proofs.Ythdgnogpjpoklaa
set_option linter.unusedVariables false
set_option linter.unusedSimpArgs false
open Go.RowKit

def crcBit (s : Nat) : Nat := if s % 2 = 1 then (s / 2) ^^^ 14514072000185962306 else s / 2
def crcN : Nat → Nat → Nat
  | 0, s => s
  | n + 1, s => crcBit (crcN n s)
def crcByte (s b : Nat) : Nat := crcN 8 (s ^^^ b)
def crcL (s : Nat) (bs : List Nat) : Nat := bs.foldl crcByte s
def notU (x : Nat) : Nat := 18446744073709551615 - x
def more (s : Nat) (bs : List Nat) : Nat := notU (crcL (notU s) bs)

theorem xor_lt {a b : Nat} (ha : a < 18446744073709551616) (hb : b < 18446744073709551616) : a ^^^ b < 18446744073709551616 := Nat.xor_lt_two_pow (n := 64) ha hb
theorem crcBit_lt {s : Nat} (h : s < 18446744073709551616) : crcBit s < 18446744073709551616 := by
  unfold crcBit
  split
  · exact xor_lt (by omega) (by decide)
  · omega
theorem crcN_lt {s : Nat} (h : s < 18446744073709551616) (n : Nat) : crcN n s < 18446744073709551616 := by
  induction n with
  | zero => exact h
  | succ n ih => exact crcBit_lt ih
theorem crcByte_lt {s b : Nat} (h : s < 18446744073709551616) (hb : b < 256) : crcByte s b < 18446744073709551616 := crcN_lt (xor_lt h (by omega)) 8
theorem crcL_snoc (s : Nat) (bs : List Nat) (b : Nat) : crcL s (bs ++ [b]) = crcByte (crcL s bs) b := by simp [crcL]
theorem crcL_lt {s : Nat} (h : s < 18446744073709551616) (bs : List Nat) (hb : ∀ x ∈ bs, x < 256) : crcL s bs < 18446744073709551616 := by
  induction bs generalizing s with
  | nil => exact h
  | cons b r ih => exact ih (crcByte_lt h (hb b (by simp))) (fun x hx => hb x (by simp [hx]))
theorem notU_lt (x : Nat) : notU x < 18446744073709551616 := by unfold notU; omega
theorem notU_notU {x : Nat} (h : x < 18446744073709551616) : notU (notU x) = x := by unfold notU; omega
theorem more_lt (s : Nat) (bs : List Nat) : more s bs < 18446744073709551616 := notU_lt _

theorem notU_xor {x : Nat} (h : x < 18446744073709551616) : 18446744073709551615 ^^^ x = notU x := by
  apply Nat.eq_of_testBit_eq
  intro i
  have e1 : (18446744073709551615 : Nat) = 2 ^ 64 - 1 := by decide
  have e2 : notU x = 2 ^ 64 - (x + 1) := by unfold notU; omega
  rw [e2, Nat.testBit_two_pow_sub_succ (show x < 2 ^ 64 from h), Nat.testBit_xor, e1, Nat.testBit_two_pow_sub_one]
  by_cases hi : i < 64
  · simp [hi]
  · have : x.testBit i = false := Nat.testBit_lt_two_pow (Nat.lt_of_lt_of_le (show x < 2 ^ 64 from h) (Nat.pow_le_pow_right (by decide) (by omega)))
    simp [hi, this]
theorem not_u64 {x : Nat} (h : x < 18446744073709551616) : bits .xor .u64 IntKind.u64.max (x : Int) = ((notU x : Nat) : Int) := by
  have e := u64_xor_nat 18446744073709551615 x (by decide) h
  rw [notU_xor h] at e
  exact e

theorem enter_any (s : Nat) (hs : s < 18446744073709551616) (w : World) : Calls Try.prog 54 #[.int .u64 s] w fun e w' => e = .returned (.int .u64 (notU s)) ∧ w = w' := by
  have hn := not_u64 hs
  go_enter Try.func54, Try.ntmps54
  go_wp2
  go_ret
  exact ⟨rfl, rfl⟩

theorem rmore_any (s : Nat) (v : Value) (bs : List Nat) (w : World) (hs : s < 18446744073709551616) (hv : Reads w v (ints .u8 bs)) (hb : ∀ x ∈ bs, x < 256) (hlen : bs.length ≤ 9223372036854775807) :
    Calls Try.prog 50 #[.int .u64 s, v] w fun e w' => e = .returned (.int .u64 (more s bs)) ∧ w = w' := by
  obtain ⟨a, cap, rfl, hcap, hcells⟩ := hv.ints
  have hn := not_u64 hs
  obtain ⟨n, hnl⟩ : ∃ n, bs.length = n := ⟨_, rfl⟩
  obtain ⟨s0, hs0⟩ : ∃ s0, notU s = s0 := ⟨_, rfl⟩
  have hs0l : s0 < 18446744073709551616 := by rw [← hs0]; exact notU_lt s
  have hmore : more s bs = notU (crcL s0 bs) := by rw [← hs0]; rfl
  rw [hs0] at hn
  rw [hnl] at hcells hlen hcap ⊢
  clear hs0 hv
  go_enter Try.func50, Try.ntmps50
  go_wp2
  go_loopw [5, 6] (fun y i wr => ∃ k q : Nat, k ≤ n ∧ i = .int .i64 k ∧ y = .int .u64 q ∧ q = crcL s0 (bs.take k) ∧ q < 18446744073709551616 ∧ wr = w) (fun _ i _ => n - (intOf i).toNat)
  case atStart => exact ⟨0, s0, by omega, rfl, by first | rfl | rw [hn], by simp [crcL], hs0l, rfl⟩
  case round =>
    obtain ⟨k, q, hk, rfl, rfl, hq, hql, rfl⟩ := hrel
    by_cases hlt : k < n
    · obtain ⟨b, off, rfl, hbs, hc⟩ := hcells (by omega)
      have hck := hc k hlt
      obtain ⟨c, hce⟩ : ∃ c, bs[k]?.getD 0 = c := ⟨_, rfl⟩
      rw [hce] at hck
      have hcl : c < 256 := by rw [← hce, List.getElem?_eq_getElem (by omega)]; exact hb _ (List.getElem_mem _)
      have hx := u64_xor_nat q c hql (by omega)
      have hqc : q ^^^ c < 18446744073709551616 := xor_lt hql (by omega)
      have hsn : crcL s0 (bs.take (k + 1)) = crcByte q c := by
        rw [List.take_succ_eq_append_getElem (by omega), crcL_snoc, ← hq]
        congr 1
        rw [← hce, List.getElem?_eq_getElem (by omega)]; rfl
      have HS := Lib.hid hsn
      obtain ⟨z, hz⟩ : ∃ z, q ^^^ c = z := ⟨_, rfl⟩
      have HZ : Hid (crcByte q c = crcN 8 z) := Lib.hid (by rw [← hz]; rfl)
      rw [hz] at hx hqc
      clear hsn hz hc hcells hce hq
      go_wp2
      go_loopw [5, 7] (fun y i wv => ∃ j q : Nat, j ≤ 8 ∧ i = .int .i64 j ∧ y = .int .u64 q ∧ q = crcN j z ∧ q < 18446744073709551616 ∧ wv = wr) (fun _ i _ => 8 - (intOf i).toNat)
      case atStart => exact ⟨0, z, by omega, rfl, by first | rfl | rw [hx], rfl, hqc, rfl⟩
      case round =>
        obtain ⟨j, q2, hj, rfl, rfl, hq2, hq2l, rfl⟩ := hrel
        by_cases hj8 : j < 8
        · have hst : crcN (j + 1) z = crcBit q2 := by rw [hq2]; rfl
          have hbl := crcBit_lt hq2l
          have HT := Lib.hid hst
          clear hst hq2
          have hx2 := u64_xor_nat (q2 / 2) 14514072000185962306 (by omega) (by decide)
          by_cases h1 : q2 % 2 = 1
          · have h1' : (((q2 : Int) % 2) == 1) = true := by simp; omega
            have hcb : crcBit q2 = (q2 / 2) ^^^ 14514072000185962306 := by unfold crcBit; rw [if_pos h1]
            have HC := Lib.hid hcb
            clear hcb
            go_wp2
            go_roundw
            case rel => exact ⟨j + 1, crcBit q2, by omega, by go_num, by rw [HC.out]; first | exact congrArg _ hx2 | (simp at hx2; simp [hx2]), HT.out.symm, hbl, trivial⟩
            case measure => simp [intOf]; omega
          · have h1' : (((q2 : Int) % 2) == 1) = false := by simp; omega
            have hcb : crcBit q2 = q2 / 2 := by unfold crcBit; rw [if_neg h1]
            have HC := Lib.hid hcb
            clear hcb
            go_wp2
            go_roundw
            case rel => exact ⟨j + 1, crcBit q2, by omega, by go_num, by rw [HC.out]; first | rfl | simp, HT.out.symm, hbl, trivial⟩
            case measure => simp [intOf]; omega
        · obtain rfl : j = 8 := by omega
          go_wp2
          go_roundw
          case rel => exact ⟨k + 1, q2, by omega, by go_num, rfl, by rw [HS.out, HZ.out, hq2], hq2l, trivial⟩
          case measure => simp [intOf]; omega
    · obtain rfl : k = n := by omega
      have hq' : q = crcL s0 bs := by rw [hq, ← hnl, List.take_length]
      have hn2 := not_u64 hql
      have HQ := Lib.hid hq'
      clear hq hq'
      go_wp2
      go_ret
      exact ⟨by rw [hmore, ← HQ.out]; first | rfl | simp [hn2], rfl⟩
end Go.Proofs.Ythdgnogpjpoklaa
