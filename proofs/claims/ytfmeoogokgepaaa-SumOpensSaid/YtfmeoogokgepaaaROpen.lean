/- The document's Open. -/
import Derived.Test.YtfmeoogokgepaaaOpens
import Derived.Deep.RegionHeld3
namespace Go.Proofs.Ytfmeoogokgepaaa
open Go.RowKit Go.Shelf

set_option maxHeartbeats 1000000 in
theorem ropen_snoc (v : Value) (ws : List Nat) (x : Nat) (w : World) (hv : Reads w v (ints .u64 (ws ++ [x]))) (hw : ∀ y ∈ ws, y < 18446744073709551616) (hlen : ws.length ≤ 1048575) :
    Calls Try.prog 18 #[v] w fun e w' => ∃ v' no, e = .returned (.tuple #[v', .int .i64 no]) ∧ Below w.heap.size w w' ∧
      ((wsum ws = x ∧ no = 0 ∧ Reads w' v' (ints .u64 ws)) ∨ (wsum ws ≠ x ∧ no = 130 ∧ v' = .slice none 0 0)) := by
  obtain ⟨n, hn⟩ : ∃ n, ws.length = n := ⟨_, rfl⟩
  obtain ⟨a, cap, rfl, hcap, hcells⟩ := hv.intsN (n := n + 1) (by simp [hn])
  obtain ⟨b, off, rfl, hbs, hc⟩ := hcells (by omega)
  have hcx := hc n (by omega)
  rw [List.getElem?_append_right (by omega), hn] at hcx
  simp only [Nat.sub_self, List.getElem?_cons_zero, Option.getD_some] at hcx
  have hT : ∀ w', Reads w' (.slice (some ⟨b, off, none⟩) (n + 1) cap) (ints .u64 (ws ++ [x])) → Reads w' (.slice (some ⟨b, off, none⟩) n cap) (ints .u64 ws) := fun w' h => by
    have := h.take n (by omega) cap (by omega)
    rwa [ints_app, List.take_left' (by simp [hn])] at this
  have hU := run_upto El64 (some ⟨b, off, none⟩) (n + 1) cap n (by omega)
  have hw1 : IntKind.i64.wrap (((n + 1 : Nat) : Int) - 1) = (n : Int) := by rw [IntWalk.i64_in _ (by omega)]; omega
  have hvr := Lib.hid hv
  have hpw := Lib.hid fun (w' : World) (h : Reads w' (.slice (some ⟨b, off, none⟩) n cap) (ints .u64 ws)) => rwords_any _ ws w' h hw (by omega)
  have HT := Lib.hid hT
  have hcd : w.drew.cell? ⟨b, off + n, none⟩ = some (.int .u64 x) := hcx
  have hr1 := Lib.hid (hT _ hv)
  obtain ⟨S, hS⟩ : ∃ S, wsum ws = S := ⟨_, rfl⟩
  rw [hS] at hpw ⊢
  clear hT hv hc hcells hS hw
  have hnb : (n : Int) < (n : Int) + 1 := by omega
  have hn0 : (0 : Int) ≤ (n : Int) := by omega
  go_enter Try.func18, Try.ntmps18
  have hg0 : decide ((n : Int) < 0) = false := by simp
  by_cases hSx : S = x
  · have hne : ((S : Int) != (x : Int)) = false := by simp [hSx]
    go_wp2
    go_region_held3 (fun w' => w'.cell? ⟨b, off + n, none⟩ = some (.int .u64 x)) (first | exact hc1 | exact hcd) (first | (go_at_call 14; refine (hpw.out _ (hr1.out.drew)).mono ?_; rintro e w1 ⟨rfl, hb1⟩; have hc1 := (hb1.cell (p := ⟨b, off + n, none⟩) hbs).trans hcd))
    all_goals
      have hv1 := Lib.hid (HT.out _ (hvr.out.drew.below hb1))
    all_goals go_wp2
    all_goals go_ret2
    all_goals exact ⟨_, _, rfl, (Below.refl _ w).drew.trans hb1, .inl ⟨hSx, rfl, hv1.out⟩⟩
  · have hne : ((S : Int) != (x : Int)) = true := by simp; omega
    go_wp2
    go_region_held3 (fun w' => w'.cell? ⟨b, off + n, none⟩ = some (.int .u64 x)) (first | exact hc1 | exact hcd) (first | (go_at_call 14; refine (hpw.out _ (hr1.out.drew)).mono ?_; rintro e w1 ⟨rfl, hb1⟩; have hc1 := (hb1.cell (p := ⟨b, off + n, none⟩) hbs).trans hcd))
    all_goals go_wp2
    all_goals go_ret2
    all_goals exact ⟨_, _, rfl, (Below.refl _ w).drew.trans hb1, .inr ⟨hSx, rfl, rfl⟩⟩

end Go.Proofs.Ytfmeoogokgepaaa
