/- The walk of WordsPuts. -/
import Derived.Test.YtaefnkccbmcllaaE
namespace Go.Proofs.Ytaefnkccbmcllaa
open Go.RowKit

set_option maxRecDepth 100000 in
set_option maxHeartbeats 1000000 in
theorem puts_walk (x v : Nat) (a k b y : Int) (w : World) (hx : x < 18446744073709551616) (hv : v < 18446744073709551616)
    (ha : -9223372036854775808 ≤ a ∧ a ≤ 9223372036854775807) (hk : -9223372036854775808 ≤ k ∧ k ≤ 9223372036854775807) (hb : -9223372036854775808 ≤ b ∧ b ≤ 9223372036854775807) (hy : -9223372036854775808 ≤ y ∧ y ≤ 9223372036854775807) :
    Calls Try.prog 9 #[.int .u64 x, .agg #[.int .i64 a, .int .i64 k], .int .u64 v, .agg #[.int .i64 b, .int .i64 y]] w fun e w' => e = .returned (.bool true) ∧ Below w.heap.size w w' := by
  by_cases hr1 : rightB a k = true
  · by_cases hr2 : rightB b y = true
    · obtain ⟨a, rfl⟩ : ∃ n : Nat, a = n := ⟨a.toNat, by simp [rightB] at hr1; omega⟩
      obtain ⟨k, rfl⟩ : ∃ n : Nat, k = n := ⟨k.toNat, by simp [rightB] at hr1; omega⟩
      obtain ⟨b, rfl⟩ : ∃ n : Nat, b = n := ⟨b.toNat, by simp [rightB] at hr2; omega⟩
      obtain ⟨y, rfl⟩ : ∃ n : Nat, y = n := ⟨y.toNat, by simp [rightB] at hr2; omega⟩
      have k1 : 1 ≤ k ∧ k + a ≤ 64 := by simp [rightB] at hr1; omega
      have y1 : 1 ≤ y ∧ y + b ≤ 64 := by simp [rightB] at hr2; omega
      clear ha hk hb hy
      by_cases hh : v < 2 ^ k
      · have hd : decide (v < 2 ^ k) = true := decide_eq_true hh
        have HH := Lib.hid hh
        clear hh
        by_cases ho : a < b + y ∧ b < a + k
        · obtain ⟨ho1, ho2⟩ := ho
          have i1 : (a : Int) < (b : Int) + (y : Int) := by omega
          have i2 : (b : Int) < (a : Int) + (k : Int) := by omega
          go_enter Try.func9, Try.ntmps9
          go_wp2_with fail
          go_quiet (fail)
          go_wp2_with fail
          go_quiet (fail)
          go_wp2_with (first | (go_at_call 22; refine (right_any _ _ _).mono ?_; rintro e w' ⟨rfl, rfl⟩) | (go_at_call 24; refine (holds_any k v (by omega) hv _).mono ?_; rintro e w' ⟨rfl, rfl⟩) | (go_at_call 10; refine (works_any _).mono ?_; rintro e w1 ⟨rfl, hw1⟩))
          go_ret
          exact ⟨rfl, Below.trans (by repeat (first | exact Below.refl _ _ | assumption | refine Below.drewN ?_ _ | refine Below.drew ?_ | refine Below.alloc ?_ (by first | omega | (simp; done) | (simp; omega)) _)) (hw1.mono (by first | (simp; done) | (simp; omega) | omega))⟩
        · have hdis : b + y ≤ a ∨ a + k ≤ b := by omega
          have hsum : (b : Int) + (y : Int) ≤ (a : Int) ∨ (a : Int) + (k : Int) ≤ (b : Int) := by omega
          have h1 := put_here x a k v hx k1.2 HH.out
          have h2 := put_beside x a k v b y hx k1.2 HH.out hdis
          have h3 := with_lt x a k v hx k1.2 HH.out
          have hF : x / 2 ^ a % 2 ^ k < 2 ^ k := Nat.mod_lt _ (Nat.two_pow_pos k)
          obtain ⟨u, hu⟩ : ∃ u, x - x / 2 ^ a % 2 ^ k * 2 ^ a + v * 2 ^ a = u := ⟨_, rfl⟩
          obtain ⟨F, hFe⟩ : ∃ F, x / 2 ^ a % 2 ^ k = F := ⟨_, rfl⟩
          obtain ⟨G, hGe⟩ : ∃ G, x / 2 ^ b % 2 ^ y = G := ⟨_, rfl⟩
          have W1 := fun w => with_ok x a k v hx k1.1 k1.2 HH.out w
          have hu64 : u < 18446744073709551616 := by rw [← hu]; exact h3.2.2
          have W2 := fun w => with_ok u a k F hu64 k1.1 k1.2 (by rw [← hFe]; exact hF) w
          have F1 := fun w => field_ok u a k hu64 k1.1 k1.2 w
          have F2 := fun w => field_ok u b y hu64 y1.1 y1.2 w
          have F3 := fun w => field_ok x b y hx y1.1 y1.2 w
          have F4 := fun w => field_ok x a k hx k1.1 k1.2 w
          rw [hu] at h1 h2 h3
          rw [hFe] at h3 hF hu
          have hback : u - u / 2 ^ a % 2 ^ k * 2 ^ a + F * 2 ^ a = x := by rw [h1]; omega
          simp only [hFe, hu, h1, h2, hGe] at W1 F1 F2 F3 F4
          simp only [hback] at W2
          have HW1 := Lib.hid W1
          have HW2 := Lib.hid W2
          have HF1 := Lib.hid F1
          have HF2 := Lib.hid F2
          have HF3 := Lib.hid F3
          have HF4 := Lib.hid F4
          clear W1 W2 F1 F2 F3 F4 h1 h2 h3 hF hu hFe hGe hback ho hdis
          go_enter Try.func9, Try.ntmps9
          go_wp2_with fail
          go_quiet (fail)
          go_wp2_with fail
          go_quiet (fail)
          go_wp2_with (first | (go_at_call 22; refine (right_any _ _ _).mono ?_; rintro e w' ⟨rfl, rfl⟩) | (go_at_call 24; refine (holds_any k v (by omega) hv _).mono ?_; rintro e w' ⟨rfl, rfl⟩))
          all_goals (refine (HW1.out _).mono ?_; rintro e w2 ⟨rfl, n1, rfl⟩)
          all_goals go_wp2_with fail
          all_goals (refine (HF1.out _).mono ?_; rintro e w2 ⟨rfl, rfl⟩)
          all_goals go_wp2_with fail
          all_goals (refine (HF2.out _).mono ?_; rintro e w2 ⟨rfl, rfl⟩)
          all_goals go_wp2_with fail
          all_goals (refine (HF3.out _).mono ?_; rintro e w2 ⟨rfl, rfl⟩)
          all_goals go_wp2_with fail
          all_goals (refine (HF4.out _).mono ?_; rintro e w2 ⟨rfl, rfl⟩)
          all_goals go_wp2_with fail
          all_goals (refine (HW2.out _).mono ?_; rintro e w2 ⟨rfl, n2, rfl⟩)
          all_goals go_wp2_with (first | (go_at_call 15; refine (num_any _ _).mono ?_; rintro e w' ⟨rfl, rfl⟩) | (go_at_call 10; refine (works_any _).mono ?_; rintro e w1 ⟨rfl, hw1⟩))
          all_goals go_ret
          all_goals exact ⟨rfl, Below.trans (by repeat (first | exact Below.refl _ _ | assumption | refine Below.drewN ?_ _ | refine Below.drew ?_ | refine Below.alloc ?_ (by first | omega | (simp; done) | (simp; omega)) _)) (hw1.mono (by first | (simp; done) | (simp; omega) | omega))⟩
      · have hd : decide (v < 2 ^ k) = false := decide_eq_false hh
        clear hh
        go_enter Try.func9, Try.ntmps9
        go_wp2_with fail
        go_quiet (fail)
        go_wp2_with fail
        go_quiet (fail)
        go_wp2_with (first | (go_at_call 22; refine (right_any _ _ _).mono ?_; rintro e w' ⟨rfl, rfl⟩) | (go_at_call 24; refine (holds_any k v (by omega) hv _).mono ?_; rintro e w' ⟨rfl, rfl⟩) | (go_at_call 10; refine (works_any _).mono ?_; rintro e w1 ⟨rfl, hw1⟩))
        go_ret
        exact ⟨rfl, Below.trans (by repeat (first | exact Below.refl _ _ | assumption | refine Below.drewN ?_ _ | refine Below.drew ?_ | refine Below.alloc ?_ (by first | omega | (simp; done) | (simp; omega)) _)) (hw1.mono (by first | (simp; done) | (simp; omega) | omega))⟩
    · have hr : rightB b y = false := by simpa using hr2
      clear hr2
      go_enter Try.func9, Try.ntmps9
      go_wp2_with fail
      go_quiet (fail)
      go_wp2_with fail
      go_quiet (fail)
      go_wp2_with (first | (go_at_call 22; refine (right_any _ _ _).mono ?_; rintro e w' ⟨rfl, rfl⟩) | (go_at_call 10; refine (works_any _).mono ?_; rintro e w1 ⟨rfl, hw1⟩))
      go_ret
      exact ⟨rfl, Below.trans (by repeat (first | exact Below.refl _ _ | assumption | refine Below.drewN ?_ _ | refine Below.drew ?_ | refine Below.alloc ?_ (by first | omega | (simp; done) | (simp; omega)) _)) (hw1.mono (by first | (simp; done) | (simp; omega) | omega))⟩
  · have hr : rightB a k = false := by simpa using hr1
    clear hr1
    go_enter Try.func9, Try.ntmps9
    go_wp2_with fail
    go_quiet (fail)
    go_wp2_with fail
    go_quiet (fail)
    go_wp2_with (first | (go_at_call 22; refine (right_any _ _ _).mono ?_; rintro e w' ⟨rfl, rfl⟩) | (go_at_call 10; refine (works_any _).mono ?_; rintro e w1 ⟨rfl, hw1⟩))
    go_ret
    exact ⟨rfl, Below.trans (by repeat (first | exact Below.refl _ _ | assumption | refine Below.drewN ?_ _ | refine Below.drew ?_ | refine Below.alloc ?_ (by first | omega | (simp; done) | (simp; omega)) _)) (hw1.mono (by first | (simp; done) | (simp; omega) | omega))⟩
end Go.Proofs.Ytaefnkccbmcllaa
