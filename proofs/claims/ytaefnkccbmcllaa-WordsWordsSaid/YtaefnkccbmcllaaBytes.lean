/- The walk of WordsBytes. -/
import Derived.Test.YtaefnkccbmcllaaE
import Derived.Test.YtaefnkccbmcllaaM2
import Derived.Deep.RegionWith
namespace Go.Proofs.Ytaefnkccbmcllaa
open Go.RowKit

theorem str_run {w : World} {v : Value} {bs : List Nat} (h : Reads w v (ints .u8 bs)) : (convert 24 9 v).run Try.prog w = .ok (.string (strB bs)) w :=
  run_str Try.underlying24 Try.underlying5 Try.underlying9 h

set_option maxRecDepth 100000 in
set_option maxHeartbeats 1000000 in
theorem bytes_walk (v : Value) (ws : List Nat) (w : World) (hv : Reads w v (ints .u64 ws)) (hw : ∀ x ∈ ws, x < 18446744073709551616) (hl : ws.length ≤ 9223372036854775807) :
    Calls Try.prog 3 #[v] w fun e w' => e = .returned (.bool true) ∧ Below w.heap.size w w' := by
  by_cases h300 : ws.length ≤ 300
  · have hlen : ws.length ≤ 1048576 := by omega
    have hvr := Lib.hid hv
    obtain ⟨a, cap, rfl, hcap, _⟩ := hv.ints
    have HB := Lib.hid (fun v w hv => bytes_any v ws w hv hlen)
    have HR := Lib.hid (fun v w hv => rbytes_any v ws w hv hw hlen)
    have hbl := bytesL_length ws
    have hN : ((bytesL ws).length + 7) / 8 = ws.length := by omega
    have HW := Lib.hid (fun v w hv => words_ok v (bytesL ws) ws.length w hv (bytesL_small ws) (by omega) hN (by omega))
    have hls := lay_bytes ws hw
    rw [hls] at HW
    obtain ⟨bs, hbs⟩ : ∃ bs, bytesL ws = bs := ⟨_, rfl⟩
    rw [hbs] at HB HR HW
    clear hw hbl hN hls hbs hv
    go_enter Try.func3, Try.ntmps3
    go_wp2_with (first | (at_builtin; go_must (refine list_appall El64 rfl rfl (by first | (simp [Act.eval]; done) | (simp [Act.eval]; exact ⟨rfl, rfl⟩) | (simp [Act.eval]; rfl)) (by first | (simp [Act.eval]; done) | (simp [Act.eval]; exact ⟨rfl, rfl⟩) | (simp [Act.eval]; rfl)) (owns_empty _ _ _ (Nat.le_refl _)) (hvr.out.alloc _) (ints_one _ _) (by simp [maxLen]; omega) (by simp; omega) (by first | (simp; done) | (simp; omega) | omega) ?_); intro v1 w1 hown1 hgr1; have hb1 := copy_below hgr1; have hr1 := Lib.hid (copy_reads hown1); have hv1 := Lib.hid (hvr.out.below hb1); clear hown1 hgr1))
    refine (HB.out v1 w1 hr1.out).mono ?_
    rintro e w2 ⟨v2, rfl, hown2, hb2⟩
    have hr2 : Hid (Reads w2 v2 (ints .u8 bs)) := reads_of_owns hown2
    have hv2 : Hid (Reads w2 (.slice a ws.length cap) (ints .u64 ws)) := hv1.out.below hb2
    have hb12 : Below w.heap.size w w2 := hb1.trans (hb2.mono hb1.size)
    clear hv1 hb1 hr1 hb2 HB hown2
    go_wp2_with fail
    refine (HW.out _ w2 hr2.out).mono ?_
    rintro e w3 ⟨g, rfl, _, hrow, hb3⟩
    have hg3 : Hid (Reads w3 (.slice (some ⟨g, 0, none⟩) ws.length ws.length) (ints .u64 ws)) := by
      have h := hrow.reads ws.length (by rw [List.length_map]; exact Nat.le_refl _)
      rw [List.length_map] at h
      exact h
    have hr3 : Hid (Reads w3 v2 (ints .u8 bs)) := hr2.out.below hb3
    have hv3 : Hid (Reads w3 (.slice a ws.length cap) (ints .u64 ws)) := hv2.out.below hb3
    have hb13 : Below w.heap.size w w3 := hb12.trans (hb3.mono hb12.size)
    clear hr2 hv2 hb12 hrow hb3 HW
    go_wp2_with fail
    have s1 := str_run hr3.out.drew
    go_region_with (first | (go_at_call 13; refine (HR.out _ w3.drew hv3.out.drew).mono ?_; rintro e w4 ⟨v4, rfl, hown4, hb4⟩; have s2 := str_run (hr3.out.drew.below hb4); have s3 := str_run (reads_of_owns hown4); have hg4 := Lib.hid (hg3.out.drew.below hb4); have hv4 := Lib.hid (hv3.out.drew.below hb4); have hb14 := hb13.drew.trans (hb4.mono hb13.size); clear hown4 hb4) | (go_at_call 14; refine (same_any _ _ ws ws _ hg4.out hv4.out hlen hlen).mono ?_; rintro e w5 ⟨rfl, n5, rfl⟩) | (go_at_call 15; refine (num_any _ _).mono ?_; rintro e w' ⟨rfl, rfl⟩) | (go_at_call 10; refine (works_any _).mono ?_; rintro e w1 ⟨rfl, hw1⟩))
    all_goals go_wp2
    all_goals go_ret
    all_goals exact ⟨rfl, (Below.drewN hb14 n5).trans (hw1.mono hb14.size)⟩
  · have h2 : (300 : Int) < (ws.length : Int) := by omega
    obtain ⟨a, cap, rfl, hcap, _⟩ := hv.ints
    go_enter Try.func3, Try.ntmps3
    go_wp2_with (first | (go_at_call 10; refine (works_any _).mono ?_; rintro e w1 ⟨rfl, hw1⟩))
    go_ret
    exact ⟨rfl, hw1⟩
end Go.Proofs.Ytaefnkccbmcllaa
