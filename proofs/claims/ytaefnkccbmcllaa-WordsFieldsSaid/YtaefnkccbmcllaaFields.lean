/- The walk of WordsFields. -/
import Derived.Test.YtaefnkccbmcllaaE
namespace Go.Proofs.Ytaefnkccbmcllaa
open Go.RowKit

set_option maxRecDepth 100000 in
set_option maxHeartbeats 1000000 in
theorem fields_walk (x v : Nat) (a k : Int) (w : World) (hx : x < 18446744073709551616) (hv : v < 18446744073709551616)
    (ha : -9223372036854775808 ≤ a ∧ a ≤ 9223372036854775807) (hk : -9223372036854775808 ≤ k ∧ k ≤ 9223372036854775807) :
    Calls Try.prog 7 #[.int .u64 x, .agg #[.int .i64 a, .int .i64 k], .int .u64 v] w fun e w' => e = .returned (.bool true) ∧ Below w.heap.size w w' := by
  by_cases hr1 : rightB a k = true
  · obtain ⟨a, rfl⟩ : ∃ n : Nat, a = n := ⟨a.toNat, by simp [rightB] at hr1; omega⟩
    obtain ⟨k, rfl⟩ : ∃ n : Nat, k = n := ⟨k.toNat, by simp [rightB] at hr1; omega⟩
    have k1 : 1 ≤ k ∧ k + a ≤ 64 := by simp [rightB] at hr1; omega
    clear ha hk
    have F1 := fun w => field_ok x a k hx k1.1 k1.2 w
    have F2 := fun w => rfield_any x a k (by omega) hx (by omega) w
    obtain ⟨F, hFe⟩ : ∃ F, x / 2 ^ a % 2 ^ k = F := ⟨_, rfl⟩
    simp only [hFe] at F1 F2
    by_cases hh : v < 2 ^ k
    · have hd : decide (v < 2 ^ k) = true := decide_eq_true hh
      have W1 := fun w => with_ok x a k v hx k1.1 k1.2 hh w
      have W2 := fun w => rwith_any x a k v hx k1.2 (by omega) hh w
      obtain ⟨u, hu⟩ : ∃ u, x - x / 2 ^ a % 2 ^ k * 2 ^ a + v * 2 ^ a = u := ⟨_, rfl⟩
      simp only [hu] at W1 W2
      have HF1 := Lib.hid F1
      have HF2 := Lib.hid F2
      have HW1 := Lib.hid W1
      have HW2 := Lib.hid W2
      clear F1 F2 W1 W2 hu hFe hh
      go_enter Try.func7, Try.ntmps7
      go_wp2_with (first | (go_at_call 20; refine (HF1.out _).mono ?_; rintro e w' ⟨rfl, rfl⟩) | (go_at_call 21; refine (HW1.out _).mono ?_; rintro e w' ⟨rfl, n1, rfl⟩) | (go_at_call 22; refine (right_any _ _ _).mono ?_; rintro e w' ⟨rfl, rfl⟩) | (go_at_call 23; refine (HF2.out _).mono ?_; rintro e w' ⟨rfl, rfl⟩) | (go_at_call 25; refine (HW2.out _).mono ?_; rintro e w' ⟨rfl, rfl⟩) | (go_at_call 24; refine (holds_any k v (by omega) hv _).mono ?_; rintro e w' ⟨rfl, rfl⟩) | (go_at_call 15; refine (num_any _ _).mono ?_; rintro e w' ⟨rfl, rfl⟩) | (go_at_call 10; refine (works_any _).mono ?_; rintro e w1 ⟨rfl, hw1⟩))
      go_ret
      exact ⟨rfl, Below.trans (by repeat (first | exact Below.refl _ _ | assumption | refine Below.drewN ?_ _ | refine Below.drew ?_ | refine Below.alloc ?_ (by first | omega | (simp; done) | (simp; omega)) _)) (hw1.mono (by first | (simp; done) | (simp; omega) | omega))⟩
    · have hd : decide (v < 2 ^ k) = false := decide_eq_false hh
      have W1 := fun w => with_range x a k v k1.1 k1.2 (by omega) w
      have HF1 := Lib.hid F1
      have HF2 := Lib.hid F2
      have HW1 := Lib.hid W1
      clear F1 F2 W1 hFe hh
      go_enter Try.func7, Try.ntmps7
      go_wp2_with (first | (go_at_call 20; refine (HF1.out _).mono ?_; rintro e w' ⟨rfl, rfl⟩) | (go_at_call 21; refine (HW1.out _).mono ?_; rintro e w' ⟨rfl, rfl⟩) | (go_at_call 22; refine (right_any _ _ _).mono ?_; rintro e w' ⟨rfl, rfl⟩) | (go_at_call 23; refine (HF2.out _).mono ?_; rintro e w' ⟨rfl, rfl⟩) | (go_at_call 24; refine (holds_any k v (by omega) hv _).mono ?_; rintro e w' ⟨rfl, rfl⟩) | (go_at_call 15; refine (num_any _ _).mono ?_; rintro e w' ⟨rfl, rfl⟩) | (go_at_call 10; refine (works_any _).mono ?_; rintro e w1 ⟨rfl, hw1⟩))
      go_ret
      exact ⟨rfl, Below.trans (by repeat (first | exact Below.refl _ _ | assumption | refine Below.drewN ?_ _ | refine Below.drew ?_ | refine Below.alloc ?_ (by first | omega | (simp; done) | (simp; omega)) _)) (hw1.mono (by first | (simp; done) | (simp; omega) | omega))⟩
  · have hr : rightB a k = false := by simpa using hr1
    have hb : ¬ (0 ≤ a ∧ a ≤ 63 ∧ 1 ≤ k ∧ k ≤ 64 - a) := by simpa [rightB] using hr
    have HF1 := Lib.hid (fun w => field_bad x a k hb w)
    have HW1 := Lib.hid (fun w => with_bad x a k v hb w)
    clear hr1 hb
    go_enter Try.func7, Try.ntmps7
    go_wp2_with (first | (go_at_call 20; refine (HF1.out _).mono ?_; rintro e w' ⟨rfl, rfl⟩) | (go_at_call 21; refine (HW1.out _).mono ?_; rintro e w' ⟨rfl, rfl⟩) | (go_at_call 22; refine (right_any _ _ _).mono ?_; rintro e w' ⟨rfl, rfl⟩) | (go_at_call 15; refine (num_any _ _).mono ?_; rintro e w' ⟨rfl, rfl⟩) | (go_at_call 10; refine (works_any _).mono ?_; rintro e w1 ⟨rfl, hw1⟩))
    go_ret
    exact ⟨rfl, Below.trans (by repeat (first | exact Below.refl _ _ | assumption | refine Below.drewN ?_ _ | refine Below.drew ?_ | refine Below.alloc ?_ (by first | omega | (simp; done) | (simp; omega)) _)) (hw1.mono (by first | (simp; done) | (simp; omega) | omega))⟩
end Go.Proofs.Ytaefnkccbmcllaa
