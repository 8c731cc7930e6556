/- The walk of SumWords. -/
import Derived.Test.YtfmeoogokgepaaaSums
namespace Go.Proofs.Ytfmeoogokgepaaa
open Go.RowKit Go.Shelf

theorem Reads.drewN {w : World} {v : Value} {xs : List Value} (h : Reads w v xs) (n : Nat) : Reads (w.drewN n) v xs := h.below (Below.drewN (Below.refl _ _) n)

set_option maxRecDepth 100000 in
set_option maxHeartbeats 1000000 in
theorem sumw_walk (v : Value) (ws : List Nat) (w : World) (hv : Reads w v (ints .u64 ws)) (hb : ∀ x ∈ ws, x < 18446744073709551616) (hl : ws.length ≤ 9223372036854775807) :
    Calls Try.prog 4 #[v] w fun e w' => e = .returned (.bool true) ∧ Below w.heap.size w w' := by
  by_cases h200 : ws.length ≤ 200
  · have hvr := Lib.hid hv
    obtain ⟨a, cap, rfl, hcap, _⟩ := hv.ints
    clear hv
    obtain ⟨L, hL⟩ : ∃ L, ws.length = L := ⟨_, rfl⟩
    have HL := Lib.hid hL
    have hbL : ws.length ≤ 200 := by omega
    have tok1 : True := trivial
    have HS := Lib.hid fun (w' : World) (v' : Value) (h : Reads w' v' (ints .u64 ws)) => pseal_any v' ws w' h (by omega)
    have HP := Lib.hid fun (w' : World) (v' : Value) (h : Reads w' v' (ints .u64 ws)) => pwords_any v' ws w' h (by omega)
    have HR := Lib.hid fun (w' : World) (v' : Value) (h : Reads w' v' (ints .u64 ws)) => rwords_any v' ws w' h hb (by omega)
    have HT := Lib.hid fun (w' : World) (v' : Value) (h : Reads w' v' (ints .u64 ws)) => rseal_any v' ws w' h hb (by omega)
    have hsl : (ws ++ [wsum ws]).length ≤ 1048576 := by simp; omega
    obtain ⟨S, hS⟩ : ∃ S, wsum ws = S := ⟨_, rfl⟩
    rw [hS] at HS HP HR HT hsl
    have h220 : ws.length ≤ 1048576 := by omega
    obtain ⟨ts, hts⟩ : ∃ ts, ws ++ [S] = ts := ⟨_, rfl⟩
    rw [hts] at HS HT hsl
    have HSL := Lib.hid hsl
    have HWL := Lib.hid h220
    rw [hL] at hcap h200 hvr ⊢
    clear hL hl hb hS hts hsl h220
    go_enter Try.func4, Try.ntmps4
    go_wp2_with (first | ((at_builtin; have _t := tok1; go_must (refine list_appall El64 rfl rfl (by first | (simp [Act.eval]; done) | (simp [Act.eval]; exact ⟨rfl, rfl⟩) | (simp [Act.eval]; rfl)) (by first | (simp [Act.eval]; done) | (simp [Act.eval]; exact ⟨rfl, rfl⟩) | (simp [Act.eval]; rfl)) (owns_empty _ _ _ (Nat.le_refl _)) (hvr.out.alloc _) (ints_one _ _) (by simp [maxLen]; omega) (by simp; omega) (by first | (simp; done) | (simp; omega) | omega) ?_); intro v1 w1 hown1 hgr1; clear tok1 _t; have hb1 := copy_below hgr1; have hv1 := Lib.hid (hvr.out.below hb1); clear hgr1); have hown0 : w1.ownsRow w.heap.size 22 1 v1 L (ints .u64 ws) := (by have h := hown1; rw [List.length_map, HL.out, Nat.zero_add, List.nil_append] at h; exact h); clear hown1) | (at_builtin; go_must (refine list_app El64 rfl rfl (by first | (simp [Act.eval]; done) | (simp [Act.eval]; exact ⟨rfl, rfl⟩) | (simp [Act.eval]; rfl)) (by first | (simp [Act.eval]; done) | (simp [Act.eval]; exact ⟨rfl, rfl⟩) | (simp [Act.eval]; rfl)) (hown0.alloc _) (by first | exact cell_new _ _ _ | exact cell_new_d _ _ _) rfl (by omega) (by simp [maxLen]; omega) (by have := hb1.size; simp; omega) ?_); intro g cp w2 hown2 hgr2 _ _; have hb2 := below_app hown0 hb1.size hgr2; obtain ⟨hcp, hglt, hc77, hrc⟩ := tail_facts hown2 (by simp [HL.out]); have hrc2 := Lib.hid hrc; have hv2 := Lib.hid (hvr.out.below (hb1.trans hb2)); clear hrc hown2 hgr2))
    refine (HS.out w2 _ hrc2.out).mono ?_
    rintro e w3 ⟨v3, rfl, hr3, hb3⟩
    have hs3 := Lib.hid hr3
    have hc3 : w3.cell? ⟨g, L, none⟩ = some (.int .u64 77) := (hb3.cell (p := ⟨g, L, none⟩) hglt).trans hc77
    have hrc3 := Lib.hid (hrc2.out.below hb3)
    have hv3 := Lib.hid (hv2.out.below hb3)
    have hb13 : Below w.heap.size w w3 := (hb1.trans hb2).trans (hb3.mono (hb1.trans hb2).size)
    have hg3 : g < w3.heap.size := Nat.lt_of_lt_of_le hglt hb3.size
    clear hr3 hv1 hv2 hrc2 hb1 hb2 hb3 hc77 hown0 HS hglt
    go_wp2_with fail
    refine (HP.out w3 _ hrc3.out).mono ?_
    rintro e w4 ⟨rfl, hb4⟩
    have hs4 := Lib.hid (hs3.out.below hb4)
    have hc4 : w4.cell? ⟨g, L, none⟩ = some (.int .u64 77) := (hb4.cell (p := ⟨g, L, none⟩) hg3).trans hc3
    have hrc4 := Lib.hid (hrc3.out.below hb4)
    have hv4 := Lib.hid (hv3.out.below hb4)
    have hb14 : Below w.heap.size w w4 := hb13.trans (hb4.mono hb13.size)
    have hg4 : g < w4.heap.size := Nat.lt_of_lt_of_le hg3 hb4.size
    clear hs3 hc3 hrc3 hv3 hb13 hb4 hg3 HP
    go_wp2_with fail
    refine (HR.out w4 _ hv4.out).mono ?_
    rintro e w5 ⟨rfl, hb5⟩
    have hs5 := Lib.hid (hs4.out.below hb5)
    have hc5 : w5.cell? ⟨g, L, none⟩ = some (.int .u64 77) := (hb5.cell (p := ⟨g, L, none⟩) hg4).trans hc4
    have hrc5 := Lib.hid (hrc4.out.below hb5)
    have hv5 := Lib.hid (hv4.out.below hb5)
    have hb15 : Below w.heap.size w w5 := hb14.trans (hb5.mono hb14.size)
    have hg5 : g < w5.heap.size := Nat.lt_of_lt_of_le hg4 hb5.size
    clear hs4 hc4 hrc4 hv4 hb14 hb5 hg4 HR
    go_wp2_with fail
    refine (HT.out w5 _ hv5.out).mono ?_
    rintro e w6 ⟨v6, rfl, hr6, hb6⟩
    have hs6 := Lib.hid (hs5.out.below hb6)
    have ht6 := Lib.hid hr6
    have hc6 : w6.cell? ⟨g, L, none⟩ = some (.int .u64 77) := (hb6.cell (p := ⟨g, L, none⟩) hg5).trans hc5
    have hrc6 := Lib.hid (hrc5.out.below hb6)
    have hv6 := Lib.hid (hv5.out.below hb6)
    have hb16 : Below w.heap.size w w6 := hb15.trans (hb6.mono hb15.size)
    clear hr6 hs5 hc5 hrc5 hv5 hb15 hb6 hg5 HT
    go_wp2_with fail
    refine (same_any _ _ ts ts _ hs6.out ht6.out HSL.out HSL.out).mono ?_
    rintro e w7 ⟨rfl, n7, rfl⟩
    go_wp2_with fail
    refine (same_any _ _ ws ws _ (Reads.drewN hrc6.out n7) (Reads.drewN hv6.out n7) HWL.out HWL.out).mono ?_
    rintro e w8 ⟨rfl, n8, rfl⟩
    have hc8 : ((w6.drewN n7).drewN n8).cell? ⟨g, L, none⟩ = some (.int .u64 77) := hc6
    have hb18 : Below w.heap.size w ((w6.drewN n7).drewN n8) := Below.drewN (Below.drewN hb16 n7) n8
    obtain ⟨w8, hw8⟩ : ∃ w8, (w6.drewN n7).drewN n8 = w8 := ⟨_, rfl⟩
    rw [hw8] at hc8 hb18 ⊢
    have hU := run_upto El64 (some ⟨g, 0, none⟩) L cp (L + 1) (by omega)
    have e1 : ((L + 1 : Nat) : Int) = (L : Int) + 1 := by omega
    simp only [e1] at hU
    clear e1 hw8
    go_wp2_with (go_at_call 8; refine (works_any _).mono ?_; rintro e w9 ⟨rfl, hw9⟩)
    go_ret
    exact ⟨rfl, hb18.trans (hw9.mono hb18.size)⟩
  · have h2 : (200 : Int) < (ws.length : Int) := by omega
    obtain ⟨a, cap, rfl, hcap, _⟩ := hv.ints
    go_enter Try.func4, Try.ntmps4
    go_wp2_with (go_at_call 8; refine (works_any _).mono ?_; rintro e w6 ⟨rfl, hb6⟩)
    go_ret
    exact ⟨rfl, hb6⟩
end Go.Proofs.Ytfmeoogokgepaaa
