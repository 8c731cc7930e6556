/- The walk of WordsTakes. -/
import Derived.Test.YtaefnkccbmcllaaT
namespace Go.Proofs.Ytaefnkccbmcllaa
open Go.RowKit

set_option maxRecDepth 100000 in
set_option maxHeartbeats 1000000 in
theorem takes_walk (v : Value) (ws : List Nat) (n : Int) (w : World) (hv : Reads w v (ints .u64 ws)) (hw : ∀ x ∈ ws, x < 18446744073709551616) (hl : ws.length ≤ 9223372036854775807)
    (hn : -9223372036854775808 ≤ n ∧ n ≤ 9223372036854775807) :
    Calls Try.prog 6 #[v, .int .i64 n] w fun e w' => e = .returned (.bool true) ∧ Below w.heap.size w w' := by
  by_cases h200 : ws.length ≤ 200
  · have hlen : ws.length ≤ 1048576 := by omega
    have hvr := Lib.hid hv
    obtain ⟨a, cap, rfl, hcap, _⟩ := hv.ints
    by_cases hok : 0 ≤ n ∧ (n.toNat + 7) / 8 = ws.length
    · obtain ⟨m, rfl⟩ : ∃ m : Nat, n = m := ⟨n.toNat, by omega⟩
      have hm : (m + 7) / 8 = ws.length := by simpa using hok.2
      have HT1 := Lib.hid (fun v w hv => take_any v ws m w hv hlen hm)
      have HT2 := Lib.hid (fun v w hv => rtake_any v ws m w hv hw hlen hm)
      clear hok hm hn hw hv
      go_enter Try.func6, Try.ntmps6
      go_wp2_with (first | (at_builtin; go_must (refine list_appall El64 rfl rfl (by first | (simp [Act.eval]; done) | (simp [Act.eval]; exact ⟨rfl, rfl⟩) | (simp [Act.eval]; rfl)) (by first | (simp [Act.eval]; done) | (simp [Act.eval]; exact ⟨rfl, rfl⟩) | (simp [Act.eval]; rfl)) (owns_empty _ _ _ (Nat.le_refl _)) (hvr.out.alloc _) (ints_one _ _) (by simp [maxLen]; omega) (by simp; omega) (by first | (simp; done) | (simp; omega) | omega) ?_); intro v1 w1 hown1 hgr1; have hb1 := copy_below hgr1; have hr1 := Lib.hid (copy_reads hown1); have hv1 := Lib.hid (hvr.out.below hb1); clear hown1 hgr1))
      refine (HT1.out v1 w1 hr1.out).mono ?_
      rintro e w2 ⟨v2, no2, rfl, hb2, hc2⟩
      have hvr2 : Hid (Reads w2 (.slice a ws.length cap) (ints .u64 ws)) := hv1.out.below hb2
      have hb12 : Below w.heap.size w w2 := hb1.trans (hb2.mono hb1.size)
      clear hv1 hb1 hr1
      have HC2 := Lib.hid hc2
      clear hc2
      go_wp2_with fail
      refine (HT2.out _ w2 hvr2.out).mono ?_
      rintro e w3 ⟨v3, no3, rfl, hb3, hc3⟩
      have hb13 : Below w.heap.size w w3 := hb12.trans (hb3.mono hb12.size)
      rcases HC2.out with ⟨hz, rfl, hr2⟩ | ⟨hz, rfl, rfl⟩
      · rcases hc3 with ⟨_, rfl, hr3⟩ | ⟨hz', _, _⟩
        · have hr23 := Lib.hid (hr2.below hb3)
          have hr33 := Lib.hid hr3
          clear hr2 hr3 HC2 hz hb2 hb3
          go_wp2_with (first | (refine list_str rfl rfl rfl hr23.out ?_) | (refine list_str rfl rfl rfl hr33.out ?_) | (go_at_call 15; refine (num_any _ _).mono ?_; rintro e w' ⟨rfl, rfl⟩) | (go_at_call 10; refine (works_any _).mono ?_; rintro e w1 ⟨rfl, hw1⟩))
          go_ret
          exact ⟨rfl, hb13.trans (hw1.mono hb13.size)⟩
        · rw [hz] at hz'; cases hz'
      · rcases hc3 with ⟨hz', _, _⟩ | ⟨_, rfl, rfl⟩
        · rw [hz] at hz'; cases hz'
        · clear HC2 hz hb2 hb3
          have hn3 := Lib.hid (Reads.nil w3)
          go_wp2_with (first | (refine list_str (bs := []) rfl rfl rfl hn3.out ?_) | (go_at_call 15; refine (num_any _ _).mono ?_; rintro e w' ⟨rfl, rfl⟩) | (go_at_call 10; refine (works_any _).mono ?_; rintro e w1 ⟨rfl, hw1⟩))
          go_ret
          exact ⟨rfl, hb13.trans (hw1.mono hb13.size)⟩
    · have HT1 := Lib.hid (fun v w hv => take_wrong v ws n w hv hlen hok hn.1 hn.2)
      have HT2 := Lib.hid (fun v w hv => rtake_wrong v ws n w hv hlen hok hn.1 hn.2)
      clear hok hv
      go_enter Try.func6, Try.ntmps6
      go_wp2_with (first | (at_builtin; go_must (refine list_appall El64 rfl rfl (by first | (simp [Act.eval]; done) | (simp [Act.eval]; exact ⟨rfl, rfl⟩) | (simp [Act.eval]; rfl)) (by first | (simp [Act.eval]; done) | (simp [Act.eval]; exact ⟨rfl, rfl⟩) | (simp [Act.eval]; rfl)) (owns_empty _ _ _ (Nat.le_refl _)) (hvr.out.alloc _) (ints_one _ _) (by simp [maxLen]; omega) (by simp; omega) (by first | (simp; done) | (simp; omega) | omega) ?_); intro v1 w1 hown1 hgr1; have hb1 := copy_below hgr1; have hr1 := Lib.hid (copy_reads hown1); have hv1 := Lib.hid (hvr.out.below hb1); clear hown1 hgr1) | (go_at_call 18; refine (HT1.out v1 w1 hr1.out).mono ?_; rintro e w2 ⟨rfl, rfl⟩) | (go_at_call 19; refine (HT2.out _ w1 hv1.out).mono ?_; rintro e w2 ⟨rfl, rfl⟩) | (refine list_str (bs := []) rfl rfl rfl (Reads.nil _) ?_) | (go_at_call 15; refine (num_any _ _).mono ?_; rintro e w' ⟨rfl, rfl⟩) | (go_at_call 10; refine (works_any _).mono ?_; rintro e w2 ⟨rfl, hw2⟩))
      go_ret
      exact ⟨rfl, hb1.trans (hw2.mono hb1.size)⟩
  · have h2 : (200 : Int) < (ws.length : Int) := by omega
    obtain ⟨a, cap, rfl, hcap, _⟩ := hv.ints
    go_enter Try.func6, Try.ntmps6
    go_wp2_with (first | (go_at_call 10; refine (works_any _).mono ?_; rintro e w1 ⟨rfl, hw1⟩))
    go_ret
    exact ⟨rfl, hw1⟩
end Go.Proofs.Ytaefnkccbmcllaa
