/- The chapter's rows (works). -/
import Derived.Test.YtfmeoogokgepaaaOpens
namespace Go.Proofs.Ytfmeoogokgepaaa
open Go.RowKit Go.Shelf

theorem wsum_0 : wsum [0] ≠ 0 := by decide +kernel
theorem wsum_nil : wsum [] = 0 := by decide +kernel
theorem sum_nine : more 0 [49, 50, 51, 52, 53, 54, 55, 56, 57] = 11051210869376104954 := by decide +kernel
theorem sum_none : more 0 [] = 0 := by decide +kernel

set_option maxHeartbeats 1000000 in
theorem works_any (w : World) : Calls Try.prog 8 #[] w fun e w' => e = .returned (.bool true) ∧ Below w.heap.size w w' := by
  have kc := fun (w : World) (C : Array Value) (n c : Nat) => Lib.run_convert_bytes_const (P := Try.prog) w 23 5 C n c Try.underlying23 Try.underlying5
  go_enter Try.func8, Try.ntmps8
  go_wp2_with fail
  refine (open_nil none 0 _).mono ?_
  rintro e w1 ⟨rfl, rfl⟩
  go_wp2_with fail
  refine (open_snoc _ [0] 0 _ (by simpa using reads_new w 22 (ints .u64 [0, 0]) (0, 0) 2 (by decide)) (by decide)).mono ?_
  rintro e w2 ⟨v2, no2, rfl, hb2, ⟨h0, _⟩ | ⟨_, rfl, rfl⟩⟩
  case inl => exact absurd h0 wsum_0
  go_wp2_with fail
  refine (open_snoc _ [] 0 _ (by simpa using reads_new w2 22 (ints .u64 [0]) (0, 0) 1 (by decide)) (by decide)).mono ?_
  rintro e w3 ⟨v3, no3, rfl, hb3, ⟨_, rfl, hr3⟩ | ⟨h0, _⟩⟩
  case inr => exact absurd wsum_nil h0
  obtain ⟨a3, cap3, rfl, hcap3, _⟩ := hr3.ints
  go_wp2_with fail
  refine (psum_any _ [49, 50, 51, 52, 53, 54, 55, 56, 57] _ (by simpa using reads_new w3 5 (ints .u8 [49, 50, 51, 52, 53, 54, 55, 56, 57]) (9, 10) 9 (by decide)) (by decide) (by decide)).mono ?_
  rw [sum_nine]
  rintro e w4 ⟨rfl, hb4⟩
  go_wp2_with fail
  refine (psum_any _ [] _ (Reads.nil _) (by decide) (by decide)).mono ?_
  rw [sum_none]
  rintro e w5 ⟨rfl, hb5⟩
  go_wp2_with (go_at_call 19; refine (num_any _ _).mono ?_; rintro e w' ⟨rfl, rfl⟩)
  go_ret
  have q2 : Below w.heap.size w w2 := (Below.alloc0 _ _).trans (hb2.mono (by simp))
  have q3 : Below w.heap.size w w3 := q2.trans (((Below.alloc0 w2 _).trans (hb3.mono (by simp))).mono q2.size)
  have q4 : Below w.heap.size w w4 := q3.trans (((Below.alloc0 w3 _).trans (hb4.mono (by simp))).mono q3.size)
  exact ⟨rfl, q4.trans (hb5.mono q4.size)⟩
end Go.Proofs.Ytfmeoogokgepaaa
