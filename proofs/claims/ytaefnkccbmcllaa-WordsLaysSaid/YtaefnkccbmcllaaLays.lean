/- The walk of WordsLays. -/
import Derived.Test.YtaefnkccbmcllaaE
import Derived.Test.YtaefnkccbmcllaaM2
namespace Go.Proofs.Ytaefnkccbmcllaa
open Go.RowKit

set_option maxRecDepth 100000 in
set_option maxHeartbeats 1000000 in
theorem lays_walk (v : Value) (bs : List Nat) (w : World) (hv : Reads w v (ints .u8 bs)) (hb : ∀ x ∈ bs, x < 256) (hl : bs.length ≤ 9223372036854775807) :
    Calls Try.prog 5 #[v] w fun e w' => e = .returned (.bool true) ∧ Below w.heap.size w w' := by
  by_cases h2000 : bs.length ≤ 2000
  · have hlen : bs.length ≤ 1048576 := by omega
    have hvr := Lib.hid hv
    obtain ⟨a, cap, rfl, hcap, _⟩ := hv.ints
    obtain ⟨N, hN⟩ : ∃ N, (bs.length + 7) / 8 = N := ⟨_, rfl⟩
    have HL1 := Lib.hid (fun v w hv => lay_any v bs N w hv hb hlen hN)
    have HL2 := Lib.hid (fun v w hv => rlay_any v bs w hv hb hlen)
    have hlN : (layL bs).length = N := by rw [layL_length]; exact hN
    have HT := Lib.hid (fun v w hv => take_any v (layL bs) bs.length w hv (by omega) (by rw [hlN]; exact hN))
    have hz := lay_drop bs hb
    have ht := lay_take bs hb
    have hN3 : N ≤ 1048576 := by omega
    obtain ⟨ls, hls⟩ : ∃ ls, layL bs = ls := ⟨_, rfl⟩
    rw [hls] at HL1 HL2 HT hz ht hlN
    have HZ := Lib.hid hz
    have HTK := Lib.hid ht
    have HN := Lib.hid hlN
    clear hb hN hz ht hls hv hlN
    go_enter Try.func5, Try.ntmps5
    go_wp2_with (first | (at_builtin; go_must (refine list_appall El8 rfl rfl (by first | (simp [Act.eval]; done) | (simp [Act.eval]; exact ⟨rfl, rfl⟩) | (simp [Act.eval]; rfl)) (by first | (simp [Act.eval]; done) | (simp [Act.eval]; exact ⟨rfl, rfl⟩) | (simp [Act.eval]; rfl)) (owns_empty _ _ _ (Nat.le_refl _)) (hvr.out.alloc _) (ints_one _ _) (by simp [maxLen]; omega) (by simp; omega) (by first | (simp; done) | (simp; omega) | omega) ?_); intro v1 w1 hown1 hgr1; have hb1 := copy_below hgr1; have hr1 := Lib.hid (copy_reads hown1); have hv1 := Lib.hid (hvr.out.below hb1); clear hown1 hgr1))
    refine (HL1.out v1 w1 hr1.out).mono ?_
    rintro e w2 ⟨g, rfl, _, hrow, hb2⟩
    have hg2 : Hid (Reads w2 (.slice (some ⟨g, 0, none⟩) N N) (ints .u64 ls)) := by
      have h := hrow.reads N (by rw [List.length_map, HN.out]; exact Nat.le_refl _)
      rw [List.length_map, HN.out] at h
      exact h
    have hv2 : Hid (Reads w2 (.slice a bs.length cap) (ints .u8 bs)) := hv1.out.below hb2
    have hb12 : Below w.heap.size w w2 := hb1.trans (hb2.mono hb1.size)
    clear hv1 hb1 hr1 hb2 hrow HL1
    go_wp2_with fail
    refine (HT.out _ w2 hg2.out).mono ?_
    rintro e w3 ⟨v3, no3, rfl, hb3, ⟨_, rfl, hr3⟩ | ⟨hz', _, _⟩⟩
    case inr => rw [HZ.out] at hz'; cases hz'
    rw [HTK.out] at hr3
    have hr33 := Lib.hid hr3
    have hg3 : Hid (Reads w3 (.slice (some ⟨g, 0, none⟩) N N) (ints .u64 ls)) := hg2.out.below hb3
    have hv3 : Hid (Reads w3 (.slice a bs.length cap) (ints .u8 bs)) := hv2.out.below hb3
    have hb13 : Below w.heap.size w w3 := hb12.trans (hb3.mono hb12.size)
    clear hr3 hg2 hv2 hb3 HT HZ HTK hb12
    go_wp2_with fail
    refine (HL2.out _ w3 hv3.out).mono ?_
    rintro e w4 ⟨v4, rfl, hown4, hb4⟩
    have hr4 : Hid (Reads w4 v4 (ints .u64 ls)) := reads_of_owns hown4
    have hg4 : Hid (Reads w4 (.slice (some ⟨g, 0, none⟩) N N) (ints .u64 ls)) := hg3.out.below hb4
    have hv4 : Hid (Reads w4 (.slice a bs.length cap) (ints .u8 bs)) := hv3.out.below hb4
    have hr34 : Hid (Reads w4 v3 (ints .u8 bs)) := hr33.out.below hb4
    have hb14 : Below w.heap.size w w4 := hb13.trans (hb4.mono hb13.size)
    clear hr33 hg3 hv3 hb4 HL2 hown4 hb13
    go_wp2_with fail
    refine (same_any _ _ ls ls w4 hg4.out hr4.out (by rw [HN.out]; exact hN3) (by rw [HN.out]; exact hN3)).mono ?_
    rintro e w5 ⟨rfl, n5, rfl⟩
    have hv5 : Hid (Reads (w4.drewN n5) (.slice a bs.length cap) (ints .u8 bs)) := hv4.out
    have hr35 : Hid (Reads (w4.drewN n5) v3 (ints .u8 bs)) := hr34.out
    go_wp2_with (first | (refine list_str rfl rfl rfl hr35.out ?_) | (refine list_str rfl rfl rfl hv5.out ?_) | (go_at_call 15; refine (num_any _ _).mono ?_; rintro e w' ⟨rfl, rfl⟩) | (go_at_call 10; refine (works_any _).mono ?_; rintro e w1 ⟨rfl, hw1⟩))
    go_ret
    exact ⟨rfl, (Below.drewN hb14 n5).trans (hw1.mono hb14.size)⟩
  · have h2 : (2000 : Int) < (bs.length : Int) := by omega
    obtain ⟨a, cap, rfl, hcap, _⟩ := hv.ints
    go_enter Try.func5, Try.ntmps5
    go_wp2_with (first | (go_at_call 10; refine (works_any _).mono ?_; rintro e w1 ⟨rfl, hw1⟩))
    go_ret
    exact ⟨rfl, hw1⟩
end Go.Proofs.Ytaefnkccbmcllaa
