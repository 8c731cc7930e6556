/- words: fields in this seat. -/
import Derived.Test.YtklfopclaonggaaDoorProg
import Derived.Test.YtklfopclaonggaaDoorMath
import Derived.Test.YtklfopclaonggaaDoorKit
import Derived.WalkKit
import Derived.IntWalk
import Derived.Lib.Hide
import Derived.Deep.QuietTactic
import Derived.BigQuiet
namespace Go.Proofs.YtklfopclaonggaaDoor
set_option linter.unusedVariables false
set_option linter.unusedSimpArgs false
open Go.RowKit
theorem within_int {n lo hi : Int} {w : World} (b : Bool) (h : (decide (lo ≤ n) && decide (n ≤ hi)) = b) : Calls Tryd.prog 59 #[.int .i64 n, .int .i64 lo, .int .i64 hi] w fun e w' => e = .returned (.bool b) ∧ w = w' := by
  subst h
  by_cases h1 : lo ≤ n
  · go_enter Tryd.func59, Tryd.ntmps59
    go_wp2
    go_ret
    exact ⟨by simp [h1], rfl⟩
  · go_enter Tryd.func59, Tryd.ntmps59
    go_wp2
    go_ret
    exact ⟨by simp; omega, rfl⟩

theorem within_u64 {n lo hi : Int} {w : World} (b : Bool) (h : (decide (lo ≤ n) && decide (n ≤ hi)) = b) : Calls Tryd.prog 56 #[.int .u64 n, .int .u64 lo, .int .u64 hi] w fun e w' => e = .returned (.bool b) ∧ w = w' := by
  subst h
  by_cases h1 : lo ≤ n
  · go_enter Tryd.func56, Tryd.ntmps56
    go_wp2
    go_ret
    exact ⟨by simp [h1], rfl⟩
  · go_enter Tryd.func56, Tryd.ntmps56
    go_wp2
    go_ret
    exact ⟨by simp; omega, rfl⟩

/-- A callee that leaves the world alone, in a region that draws its order. -/
theorem quiet_same {P : Program} {f : FuncId} {args : Array Value} {w : World} {n : Nat} {v : Value}
    (h : Calls P f args (w.drewN n) fun e w' => e = .returned v ∧ w.drewN n = w') : Calls P f args (w.drewN n) fun e w'' => e = .returned v ∧ ∃ m, w'' = w.drewN m :=
  h.mono fun _ _ ⟨he, hm⟩ => ⟨he, n, hm.symm⟩

theorem mask_int (a k : Nat) (h1 : 1 ≤ k) (h2 : k + a ≤ 64) : IntKind.u64.wrap (18446744073709551615 / 2 ^ (64 - (k : Int)).toNat * 2 ^ (a : Int).toNat) = (((2 ^ k - 1) * 2 ^ a : Nat) : Int) := by
  have e := mask_val a k h2
  rw [show (64 - (k : Int)).toNat = 64 - k by omega, Int.toNat_natCast, IntKind.wrap_u64, ← e]
  simp

theorem fieldMask_ok (a k : Nat) (h1 : 1 ≤ k) (h2 : k + a ≤ 64) (w : World) : Calls Tryd.prog 55 #[.int .i64 a, .int .i64 k] w fun e w' => e = .returned (.tuple #[.int .u64 ((2 ^ k - 1) * 2 ^ a : Nat), .bool true]) ∧ w = w' := by
  have m := mask_int a k h1 h2
  rw [show (64 - (k : Int)).toNat = 64 - k by omega, Int.toNat_natCast] at m
  have M := Lib.hid m
  clear m
  go_enter Tryd.func55, Tryd.ntmps55
  go_wp2_with (first | (go_at_call 59; refine (within_int true (by simp; omega)).mono ?_; rintro e w' ⟨rfl, rfl⟩))
  go_ret2
  exact ⟨by simp only [← M.out]; rfl, rfl⟩

theorem of_any (x m : Nat) (hx : x < 18446744073709551616) (hm : m < 18446744073709551616) (w : World) : Calls Tryd.prog 58 #[.int .u64 m, .int .u64 x] w fun e w' => e = .returned (.int .u64 (x &&& m : Nat)) ∧ w = w' := by
  have e := Lib.hid (u64_and_nat x m hx hm)
  go_enter Tryd.func58, Tryd.ntmps58
  go_wp2
  go_ret
  exact ⟨ret1 (int_eq e.out), rfl⟩

theorem without_any (x m : Nat) (hx : x < 18446744073709551616) (hm : m < 18446744073709551616) (w : World) : Calls Tryd.prog 57 #[.int .u64 m, .int .u64 x] w fun e w' => e = .returned (.int .u64 (x &&& (18446744073709551615 - m) : Nat)) ∧ w = w' := by
  have e := Lib.hid (u64_andNot_nat x m hx hm)
  go_enter Tryd.func57, Tryd.ntmps57
  go_wp2
  go_ret
  exact ⟨ret1 (int_eq e.out), rfl⟩

theorem field_ok (x a k : Nat) (hx : x < 18446744073709551616) (h1 : 1 ≤ k) (h2 : k + a ≤ 64) (w : World) : Calls Tryd.prog 51 #[.int .u64 x, .int .i64 a, .int .i64 k] w fun e w' => e = .returned (.tuple #[.int .u64 (x / 2 ^ a % 2 ^ k : Nat), .int .i64 0]) ∧ w = w' := by
  have e := Lib.hid (and_mask_div x a k)
  have hm := mask_lt a k h2
  obtain ⟨M, hM⟩ : ∃ M, (2 ^ k - 1) * 2 ^ a = M := ⟨_, rfl⟩
  have f := fieldMask_ok a k h1 h2 w
  rw [hM] at f e hm
  clear hM
  have F := Lib.hid f
  clear f
  go_enter Tryd.func51, Tryd.ntmps51
  go_wp2_with (first | (go_at_call 55; refine F.out.mono ?_; rintro e w' ⟨rfl, rfl⟩) | (go_at_call 58; refine (of_any x M hx hm _).mono ?_; rintro e w' ⟨rfl, rfl⟩))
  go_ret2
  exact ⟨by simp [← e.out], rfl⟩

theorem mask_down (a k : Nat) : (2 ^ k - 1) * 2 ^ a / 2 ^ a = 2 ^ k - 1 := Nat.mul_div_cancel _ (Nat.two_pow_pos a)

theorem with_ok (x a k v : Nat) (hx : x < 18446744073709551616) (h1 : 1 ≤ k) (h2 : k + a ≤ 64) (hv : v < 2 ^ k) (w : World) : Calls Tryd.prog 50 #[.int .u64 x, .int .i64 a, .int .i64 k, .int .u64 v] w fun e w' => e = .returned (.tuple #[.int .u64 (x - x / 2 ^ a % 2 ^ k * 2 ^ a + v * 2 ^ a : Nat), .int .i64 0]) ∧ ∃ n, w' = w.drewN n := by
  have e := Lib.hid (with_val x a k v hx h2 hv)
  have hd := mask_down a k
  have hm := mask_lt a k h2
  have hq : 1 ≤ 2 ^ k := Nat.one_le_two_pow
  have f := fieldMask_ok a k h1 h2 w
  obtain ⟨M, hM⟩ : ∃ M, (2 ^ k - 1) * 2 ^ a = M := ⟨_, rfl⟩
  rw [hM] at f hm hd e
  have hf : (M : Int) / 2 ^ a = ((2 ^ k - 1 : Nat) : Int) := by
    have e : (M : Int) / 2 ^ a = ((M / 2 ^ a : Nat) : Int) := by simp
    rw [e, hd]
  clear hM hd
  have F := Lib.hid f
  have HF := Lib.hid hf
  clear f hf
  go_enter Tryd.func50, Tryd.ntmps50
  go_wp2_with (first | (go_at_call 55; refine F.out.mono ?_; rintro e w' ⟨rfl, rfl⟩) | (go_at_call 56; refine (within_u64 true (by rw [HF.out]; simp; omega)).mono ?_; rintro e w' ⟨rfl, rfl⟩))
  go_quiet ((go_at_call 57; exact quiet_same (without_any x M hx hm _)))
  go_wp2
  go_ret2
  refine ⟨ret1 (congrArg Value.tuple ?_), _, rfl⟩
  have eo := u64_or_nat (x &&& (18446744073709551615 - M)) (v * 2 ^ a % 18446744073709551616) (Nat.lt_of_le_of_lt Nat.and_le_left hx) (Nat.mod_lt _ (by decide))
  have ew : IntKind.u64.wrap (↑v * 2 ^ a) = ((v * 2 ^ a % 18446744073709551616 : Nat) : Int) := by rw [IntKind.wrap_u64]; simp
  rw [e.out] at eo
  rw [← ew] at eo
  rw [← eo]
  rfl

theorem power_any (n : Nat) (h : n ≤ 63) (p : Nat) (hp : Hid (p = 2 ^ n)) (w : World) : Calls Tryd.prog 41 #[.int .i64 n] w fun e w' => e = .returned (.int .u64 p) ∧ w = w' := by
  go_enter Tryd.func41, Tryd.ntmps41
  go_wp2
  go_loop [3, 4] (fun p i => ∃ k q : Nat, k ≤ n ∧ i = .int .i64 k ∧ p = .int .u64 q ∧ q = 2 ^ k) (fun _ i => n - (intOf i).toNat)
  case atStart => exact ⟨0, 1, Nat.zero_le _, rfl, rfl, rfl⟩
  case round =>
    obtain ⟨k, q, hk, rfl, rfl, hq⟩ := hrel
    have H := Lib.hid hq
    clear hq
    by_cases hlt : k < n
    · have hb' : 2 * (q : Int) < 18446744073709551616 := by
        have hb : 2 ^ k ≤ 2 ^ 62 := Nat.pow_le_pow_right (by decide) (by omega)
        have hq := H.out
        omega
      go_wp2
      go_round
      case rel => exact ⟨k + 1, 2 * q, by omega, by go_num, rfl, by rw [H.out, Nat.pow_succ, Nat.mul_comm]⟩
      case measure => simp [intOf]; omega
    · obtain rfl : k = n := by omega
      go_wp2
      go_ret
      exact ⟨ret1 (int_eq (by rw [hp.out, ← H.out])), rfl⟩

theorem two_le (a : Nat) (h : a ≤ 63) : 0 < 2 ^ a ∧ 2 ^ a < 18446744073709551616 :=
  ⟨Nat.two_pow_pos a, Nat.lt_of_le_of_lt (Nat.pow_le_pow_right (by decide) h) (by decide)⟩

theorem rfield_any (x a k : Nat) (ha : a ≤ 63) (hx : x < 18446744073709551616) (hk : k ≤ 64) (w : World) : Calls Tryd.prog 43 #[.int .u64 x, .int .i64 a, .int .i64 k] w fun e w' => e = .returned (.int .u64 (x / 2 ^ a % 2 ^ k : Nat)) ∧ w = w' := by
  obtain ⟨hp, hp'⟩ := two_le a ha
  have hd : x / 2 ^ a < 18446744073709551616 := Nat.lt_of_le_of_lt (Nat.div_le_self _ _) hx
  obtain ⟨A, hA⟩ : ∃ A, A = 2 ^ a := ⟨_, rfl⟩
  rw [← hA] at hp hp' hd ⊢
  have HA : Hid (A = 2 ^ a) := hA
  clear hA
  have hz : ((A : Int) == 0) = false := by simp; omega
  have hdi : 0 ≤ (x : Int) / (A : Int) ∧ (x : Int) / (A : Int) < 18446744073709551616 := by
    have e : (x : Int) / (A : Int) = ((x / A : Nat) : Int) := by simp
    rw [e]; exact ⟨Int.natCast_nonneg _, Int.ofNat_lt.2 hd⟩
  by_cases h : k = 64
  · subst h
    go_enter Tryd.func43, Tryd.ntmps43
    go_wp2_with (first | (go_at_call 41; refine (power_any a ha A HA _).mono ?_; rintro e w' ⟨rfl, rfl⟩))
    go_ret
    exact ⟨ret1 (int_eq (by rw [Nat.mod_eq_of_lt (by simpa using hd)]; simp)), rfl⟩
  · have hb : ((k : Int) == 64) = false := by simp; omega
    obtain ⟨hq, hq'⟩ := two_le k (by omega)
    obtain ⟨B, hB⟩ : ∃ B, B = 2 ^ k := ⟨_, rfl⟩
    rw [← hB] at hq hq' ⊢
    have HB : Hid (B = 2 ^ k) := hB
    clear hB
    have hzB : ((B : Int) == 0) = false := by simp; omega
    go_enter Tryd.func43, Tryd.ntmps43
    go_wp2_with fail
    refine (power_any a ha A HA _).mono ?_; rintro e w' ⟨rfl, rfl⟩
    go_wp2_with fail
    refine (power_any k (by omega) B HB _).mono ?_; rintro e w' ⟨rfl, rfl⟩
    go_wp2_with fail
    go_ret
    exact ⟨ret1 (int_eq (by simp)), rfl⟩

end Go.Proofs.YtklfopclaonggaaDoor
