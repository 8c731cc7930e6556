/- The walk of WordsWords. -/
import Derived.Test.YtaefnkccbmcllaaBytes
namespace Go.Proofs.Ytaefnkccbmcllaa
open Go.RowKit

theorem tail_facts {w : World} {base e L g cp : Nat} {u : Value} {xs : List Value} (h : w.ownsRow base e 1 (.slice (some ⟨g, 0, none⟩) (L + 1) cp) (L + 1) (xs ++ [u])) (hl : xs.length = L) :
    L + 1 ≤ cp ∧ g < w.heap.size ∧ w.cell? ⟨g, L, none⟩ = some u ∧ Reads w (.slice (some ⟨g, 0, none⟩) L cp) xs := by
  have hc : L + 1 ≤ cp := by
    rcases h.2 with ⟨he, _⟩ | ⟨g', cap', cur, he, _, _, hnc, _⟩
    · cases he
    · cases he; exact hnc
  have hlt := (h.lt g rfl).2
  have hr := reads_of_owns h
  refine ⟨hc, hlt, ?_, ?_⟩
  · have := h.cells (g := g) rfl L u (by rw [List.getElem?_append_right (by omega), hl]; simp)
    simpa [Addr.add_lit] using this
  · have h2 := hr.take L (by omega) cp (by omega)
    rw [← hl, List.take_left] at h2
    rw [hl] at h2
    exact h2

set_option maxRecDepth 100000 in
set_option maxHeartbeats 1000000 in
theorem words_walk (v : Value) (bs : List Nat) (w : World) (hv : Reads w v (ints .u8 bs)) (hb : ∀ x ∈ bs, x < 256) (hl : bs.length ≤ 9223372036854775807) :
    Calls Try.prog 4 #[v] w fun e w' => e = .returned (.bool true) ∧ Below w.heap.size w w' := by
  by_cases h2000 : bs.length ≤ 2000
  · have hlen : bs.length ≤ 1048576 := by omega
    have hvr := Lib.hid hv
    obtain ⟨a, cap, rfl, hcap, _⟩ := hv.ints
    clear hv
    obtain ⟨L, hL⟩ : ∃ L, bs.length = L := ⟨_, rfl⟩
    have HL := Lib.hid hL
    have hbL : bs.length ≤ 2000 := by omega
    have tok1 : True := trivial
    rw [hL] at hlen hcap h2000 hvr ⊢
    clear hL hl
    by_cases h8 : L % 8 = 0
    · have hb8 : ((L : Int) % 8 != 0) = false := by simp; omega
      obtain ⟨N, hN⟩ : ∃ N, (bs.length + 7) / 8 = N := ⟨_, rfl⟩
      have HW := Lib.hid (fun v w hv => words_ok v bs N w hv hb (by omega) hN (by rw [HL.out]; exact h8))
      have HR := Lib.hid (fun v w hv => rlay_any v bs w hv hb (by omega))
      have hlN : (layL bs).length = N := by rw [layL_length]; exact hN
      have hN3 : N ≤ 1048576 := by omega
      have HB := Lib.hid (fun v w hv => bytes_any v (layL bs) w hv (by omega))
      have hbl := bytes_of_lay bs hb (by rw [HL.out]; exact h8)
      obtain ⟨ls, hls⟩ : ∃ ls, layL bs = ls := ⟨_, rfl⟩
      rw [hls] at HW HR HB hlN hbl
      rw [hbl] at HB
      have HN := Lib.hid hlN
      clear hb hN hlN hls hbl h8
      go_enter Try.func4, Try.ntmps4
      go_wp2_with (first | ((at_builtin; have _t := tok1; go_must (refine list_appall El8 rfl rfl (by first | (simp [Act.eval]; done) | (simp [Act.eval]; exact ⟨rfl, rfl⟩) | (simp [Act.eval]; rfl)) (by first | (simp [Act.eval]; done) | (simp [Act.eval]; exact ⟨rfl, rfl⟩) | (simp [Act.eval]; rfl)) (owns_empty _ _ _ (Nat.le_refl _)) (hvr.out.alloc _) (ints_one _ _) (by simp [maxLen]; omega) (by simp; omega) (by first | (simp; done) | (simp; omega) | omega) ?_); intro v1 w1 hown1 hgr1; clear tok1 _t; have hb1 := copy_below hgr1; have hv1 := Lib.hid (hvr.out.below hb1); clear hgr1); have hown0 : w1.ownsRow w.heap.size 5 1 v1 L (ints .u8 bs) := (by have h := hown1; rw [List.length_map, HL.out, Nat.zero_add, List.nil_append] at h; exact h); clear hown1) | (at_builtin; go_must (refine list_app El8 rfl rfl (by first | (simp [Act.eval]; done) | (simp [Act.eval]; exact ⟨rfl, rfl⟩) | (simp [Act.eval]; rfl)) (by first | (simp [Act.eval]; done) | (simp [Act.eval]; exact ⟨rfl, rfl⟩) | (simp [Act.eval]; rfl)) (hown0.alloc _) (by first | exact cell_new _ _ _ | exact cell_new_d _ _ _) rfl (by omega) (by simp [maxLen]; omega) (by have := hb1.size; simp; omega) ?_); intro g cp w2 hown2 hgr2 _ _; have hb2 := below_app hown0 hb1.size hgr2; obtain ⟨hcp, hglt, hc77, hrc⟩ := tail_facts hown2 (by simp [HL.out]); have hrc2 := Lib.hid hrc; have hv2 := Lib.hid (hvr.out.below (hb1.trans hb2)); clear hrc hown2 hgr2))
      refine (HW.out _ w2 hrc2.out).mono ?_
      rintro e w3 ⟨gl, rfl, _, hrow, hb3⟩
      have hg3 : Hid (Reads w3 (.slice (some ⟨gl, 0, none⟩) N N) (ints .u64 ls)) := by
        have h := hrow.reads N (by rw [List.length_map, HN.out]; exact Nat.le_refl _)
        rw [List.length_map, HN.out] at h
        exact h
      have hc3 : w3.cell? ⟨g, L, none⟩ = some (.int .u8 77) := (hb3.cell (p := ⟨g, L, none⟩) hglt).trans hc77
      have hrc3 := Lib.hid (hrc2.out.below hb3)
      have hv3 := Lib.hid (hv2.out.below hb3)
      have hb13 : Below w.heap.size w w3 := (hb1.trans hb2).trans (hb3.mono (hb1.trans hb2).size)
      have hU := run_upto El8 (some ⟨g, 0, none⟩) L cp (L + 1) (by omega)
      have e1 : ((L + 1 : Nat) : Int) = (L : Int) + 1 := by omega
      simp only [e1] at hU
      clear e1 hrow hv1 hv2 hrc2 hb1 hb2 hb3 hc77 hown0 HW
      go_wp2_with (first | (refine list_str rfl rfl rfl hrc3.out ?_) | (refine list_str rfl rfl rfl hv3.out ?_))
      have s1 := str_run hv3.out.drew
      go_region_with (first | (go_at_call 16; refine (HR.out _ w3.drew hv3.out.drew).mono ?_; rintro e w4 ⟨v4, rfl, hown4, hb4⟩; have hr4 := Lib.hid (reads_of_owns hown4); have hg4 := Lib.hid (hg3.out.drew.below hb4); have hv4 := Lib.hid (hv3.out.drew.below hb4); have hb14 := hb13.drew.trans (hb4.mono hb13.size); have s4 := str_run hv4.out; clear hown4 hb4) | (go_at_call 14; refine (same_any _ _ ls ls _ hg4.out hr4.out (by rw [HN.out]; exact hN3) (by rw [HN.out]; exact hN3)).mono ?_; rintro e w5 ⟨rfl, n5, rfl⟩; have s5 := str_run (w := w4.drewN n5) hv4.out) | (go_at_call 15; refine (num_any _ _).mono ?_; rintro e w' ⟨rfl, rfl⟩) | (go_at_call 11; refine (HB.out _ (w4.drewN n5) hg4.out).mono ?_; rintro e w6 ⟨v6, rfl, hown6, hb6⟩; have s6 := str_run (reads_of_owns hown6); have s7 := str_run (Reads.below (w := w4.drewN n5) hv4.out hb6); have hb16 := (Below.drewN hb14 n5).trans (hb6.mono hb14.size); clear hown6 hb6) | (go_at_call 10; refine (works_any _).mono ?_; rintro e w1 ⟨rfl, hw1⟩))
      all_goals go_wp2
      all_goals go_ret
      all_goals exact ⟨rfl, hb16.trans (hw1.mono hb16.size)⟩
    · have hb8 : ((L : Int) % 8 != 0) = true := by simp; omega
      have HW := Lib.hid (fun v w hv => words_bad v bs w hv (by omega) (by rw [HL.out]; exact h8))
      go_enter Try.func4, Try.ntmps4
      go_wp2_with (first | ((at_builtin; have _t := tok1; go_must (refine list_appall El8 rfl rfl (by first | (simp [Act.eval]; done) | (simp [Act.eval]; exact ⟨rfl, rfl⟩) | (simp [Act.eval]; rfl)) (by first | (simp [Act.eval]; done) | (simp [Act.eval]; exact ⟨rfl, rfl⟩) | (simp [Act.eval]; rfl)) (owns_empty _ _ _ (Nat.le_refl _)) (hvr.out.alloc _) (ints_one _ _) (by simp [maxLen]; omega) (by simp; omega) (by first | (simp; done) | (simp; omega) | omega) ?_); intro v1 w1 hown1 hgr1; clear tok1 _t; have hb1 := copy_below hgr1; have hv1 := Lib.hid (hvr.out.below hb1); clear hgr1); have hown0 : w1.ownsRow w.heap.size 5 1 v1 L (ints .u8 bs) := (by have h := hown1; rw [List.length_map, HL.out, Nat.zero_add, List.nil_append] at h; exact h); clear hown1) | (at_builtin; go_must (refine list_app El8 rfl rfl (by first | (simp [Act.eval]; done) | (simp [Act.eval]; exact ⟨rfl, rfl⟩) | (simp [Act.eval]; rfl)) (by first | (simp [Act.eval]; done) | (simp [Act.eval]; exact ⟨rfl, rfl⟩) | (simp [Act.eval]; rfl)) (hown0.alloc _) (by first | exact cell_new _ _ _ | exact cell_new_d _ _ _) rfl (by omega) (by simp [maxLen]; omega) (by have := hb1.size; simp; omega) ?_); intro g cp w2 hown2 hgr2 _ _; have hb2 := below_app hown0 hb1.size hgr2; obtain ⟨hcp, hglt, hc77, hrc⟩ := tail_facts hown2 (by simp [HL.out]); have hrc2 := Lib.hid hrc; have hv2 := Lib.hid (hvr.out.below (hb1.trans hb2)); clear hrc hown2 hgr2))
      refine (HW.out _ w2 hrc2.out).mono ?_
      rintro e w3 ⟨rfl, rfl⟩
      have hU := run_upto El8 (some ⟨g, 0, none⟩) L cp (L + 1) (by omega)
      have e1 : ((L + 1 : Nat) : Int) = (L : Int) + 1 := by omega
      simp only [e1] at hU
      clear e1
      go_wp2_with (first | (refine list_str rfl rfl rfl hrc2.out ?_) | (refine list_str rfl rfl rfl hv2.out ?_) | (go_at_call 15; refine (num_any _ _).mono ?_; rintro e w' ⟨rfl, rfl⟩) | (go_at_call 10; refine (works_any _).mono ?_; rintro e w4 ⟨rfl, hw4⟩))
      go_ret
      exact ⟨rfl, (hb1.trans hb2).trans (hw4.mono (hb1.trans hb2).size)⟩
  · have h2 : (2000 : Int) < (bs.length : Int) := by omega
    obtain ⟨a, cap, rfl, hcap, _⟩ := hv.ints
    go_enter Try.func4, Try.ntmps4
    go_wp2_with (first | (go_at_call 10; refine (works_any _).mono ?_; rintro e w1 ⟨rfl, hw1⟩))
    go_ret
    exact ⟨rfl, hw1⟩
end Go.Proofs.Ytaefnkccbmcllaa
