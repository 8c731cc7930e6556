/- The walk of SumSums. -/
import Derived.Test.YtfmeoogokgepaaaWorks
namespace Go.Proofs.Ytfmeoogokgepaaa
open Go.RowKit Go.Shelf

theorem tail_facts {w : World} {base e L g cp : Nat} {u : Value} {xs : List Value} (h : w.ownsRow base e 1 (.slice (some ⟨g, 0, none⟩) (L + 1) cp) (L + 1) (xs ++ [u])) (hl : xs.length = L) :
    L + 1 ≤ cp ∧ g < w.heap.size ∧ w.cell? ⟨g, L, none⟩ = some u ∧ Reads w (.slice (some ⟨g, 0, none⟩) L cp) xs := by
  have hc : L + 1 ≤ cp := by
    rcases h.2 with ⟨he, _⟩ | ⟨g', cap', cur, he, _, _, hnc, _⟩
    · cases he
    · cases he; exact hnc
  have hlt := (h.lt g rfl).2
  have hr := reads_of_owns h
  refine ⟨hc, hlt, ?_, ?_⟩
  · have := h.cells (g := g) rfl L u (by rw [List.getElem?_append_right (by omega), hl]; simp)
    simpa [Addr.add_lit] using this
  · have h2 := hr.take L (by omega) cp (by omega)
    rw [← hl, List.take_left] at h2
    rw [hl] at h2
    exact h2

set_option maxRecDepth 100000 in
set_option maxHeartbeats 1000000 in
theorem sums_walk (s : Nat) (v : Value) (bs : List Nat) (w : World) (hs : s < 18446744073709551616) (hv : Reads w v (ints .u8 bs)) (hb : ∀ x ∈ bs, x < 256) (hl : bs.length ≤ 9223372036854775807) :
    Calls Try.prog 3 #[.int .u64 s, v] w fun e w' => e = .returned (.bool true) ∧ Below w.heap.size w w' := by
  by_cases h2000 : bs.length ≤ 2000
  · have hvr := Lib.hid hv
    obtain ⟨a, cap, rfl, hcap, _⟩ := hv.ints
    clear hv
    obtain ⟨L, hL⟩ : ∃ L, bs.length = L := ⟨_, rfl⟩
    have HL := Lib.hid hL
    have hbL : bs.length ≤ 2000 := by omega
    have tok1 : True := trivial
    have HS := Lib.hid fun (w' : World) (v' : Value) (h : Reads w' v' (ints .u8 bs)) => psum_any v' bs w' h hb hl
    have HM := Lib.hid fun (w' : World) (v' : Value) (h : Reads w' v' (ints .u8 bs)) => more_any s v' bs w' hs h hb hl
    have HR0 := Lib.hid fun (w' : World) (v' : Value) (h : Reads w' v' (ints .u8 bs)) => rmore_any 0 v' bs w' (by decide) h hb hl
    have HRS := Lib.hid fun (w' : World) (v' : Value) (h : Reads w' v' (ints .u8 bs)) => rmore_any s v' bs w' hs h hb hl
    obtain ⟨S, hS⟩ : ∃ S, more 0 bs = S := ⟨_, rfl⟩
    obtain ⟨T, hT⟩ : ∃ T, more s bs = T := ⟨_, rfl⟩
    rw [hS] at HS HR0
    rw [hT] at HM HRS
    rw [hL] at hcap h2000 hvr ⊢
    clear hL hl hb hS hT
    go_enter Try.func3, Try.ntmps3
    go_wp2_with (first | ((at_builtin; have _t := tok1; go_must (refine list_appall El8 rfl rfl (by first | (simp [Act.eval]; done) | (simp [Act.eval]; exact ⟨rfl, rfl⟩) | (simp [Act.eval]; rfl)) (by first | (simp [Act.eval]; done) | (simp [Act.eval]; exact ⟨rfl, rfl⟩) | (simp [Act.eval]; rfl)) (owns_empty _ _ _ (Nat.le_refl _)) (hvr.out.alloc _) (ints_one _ _) (by simp [maxLen]; omega) (by simp; omega) (by first | (simp; done) | (simp; omega) | omega) ?_); intro v1 w1 hown1 hgr1; clear tok1 _t; have hb1 := copy_below hgr1; have hv1 := Lib.hid (hvr.out.below hb1); clear hgr1); have hown0 : w1.ownsRow w.heap.size 5 1 v1 L (ints .u8 bs) := (by have h := hown1; rw [List.length_map, HL.out, Nat.zero_add, List.nil_append] at h; exact h); clear hown1) | (at_builtin; go_must (refine list_app El8 rfl rfl (by first | (simp [Act.eval]; done) | (simp [Act.eval]; exact ⟨rfl, rfl⟩) | (simp [Act.eval]; rfl)) (by first | (simp [Act.eval]; done) | (simp [Act.eval]; exact ⟨rfl, rfl⟩) | (simp [Act.eval]; rfl)) (hown0.alloc _) (by first | exact cell_new _ _ _ | exact cell_new_d _ _ _) rfl (by omega) (by simp [maxLen]; omega) (by have := hb1.size; simp; omega) ?_); intro g cp w2 hown2 hgr2 _ _; have hb2 := below_app hown0 hb1.size hgr2; obtain ⟨hcp, hglt, hc77, hrc⟩ := tail_facts hown2 (by simp [HL.out]); have hrc2 := Lib.hid hrc; have hv2 := Lib.hid (hvr.out.below (hb1.trans hb2)); clear hrc hown2 hgr2))
    refine (HS.out w2 _ hrc2.out).mono ?_
    rintro e w3 ⟨rfl, hb3⟩
    have hc3 : w3.cell? ⟨g, L, none⟩ = some (.int .u8 77) := (hb3.cell (p := ⟨g, L, none⟩) hglt).trans hc77
    have hrc3 := Lib.hid (hrc2.out.below hb3)
    have hv3 := Lib.hid (hv2.out.below hb3)
    have hb13 : Below w.heap.size w w3 := (hb1.trans hb2).trans (hb3.mono (hb1.trans hb2).size)
    have hg3 : g < w3.heap.size := Nat.lt_of_lt_of_le hglt hb3.size
    clear hv1 hv2 hrc2 hb1 hb2 hb3 hc77 hown0 HS hglt
    go_wp2_with (first | (go_at_call 10; refine (HR0.out w3 _ hv3.out).mono ?_; rintro e w' ⟨rfl, rfl⟩))
    refine (HM.out w3 _ hrc3.out).mono ?_
    rintro e w4 ⟨rfl, hb4⟩
    have hc4 : w4.cell? ⟨g, L, none⟩ = some (.int .u8 77) := (hb4.cell (p := ⟨g, L, none⟩) hg3).trans hc3
    have hrc4 := Lib.hid (hrc3.out.below hb4)
    have hv4 := Lib.hid (hv3.out.below hb4)
    have hb14 : Below w.heap.size w w4 := hb13.trans (hb4.mono hb13.size)
    have hU := run_upto El8 (some ⟨g, 0, none⟩) L cp (L + 1) (by omega)
    have e1 : ((L + 1 : Nat) : Int) = (L : Int) + 1 := by omega
    simp only [e1] at hU
    clear e1 hv3 hrc3 hb13 hb4 hc3 HM hg3 HR0
    go_wp2_with (first | (go_at_call 10; refine (HRS.out w4 _ hv4.out).mono ?_; rintro e w' ⟨rfl, rfl⟩) | (refine list_str rfl rfl rfl hrc4.out ?_) | (refine list_str rfl rfl rfl hv4.out ?_) | (go_at_call 8; refine (works_any _).mono ?_; rintro e w5 ⟨rfl, hw5⟩))
    go_ret
    exact ⟨rfl, hb14.trans (hw5.mono hb14.size)⟩
  · have h2 : (2000 : Int) < (bs.length : Int) := by omega
    obtain ⟨a, cap, rfl, hcap, _⟩ := hv.ints
    go_enter Try.func3, Try.ntmps3
    go_wp2_with (go_at_call 8; refine (works_any _).mono ?_; rintro e w6 ⟨rfl, hb6⟩)
    go_ret
    exact ⟨rfl, hb6⟩
end Go.Proofs.Ytfmeoogokgepaaa
