/- Clone, Open: of the program and of the document; num. -/
import Derived.Test.YtfmeoogokgepaaaSeal
namespace Go.Proofs.Ytfmeoogokgepaaa
open Go.RowKit Go.Shelf

theorem num_any (n : Int) (w : World) : Calls Try.prog 19 #[.int .i64 n] w fun e w' => e = .returned (.int .i64 n) ∧ w = w' := by
  go_enter Try.func19, Try.ntmps19
  go_wp2
  go_ret
  exact ⟨rfl, rfl⟩

theorem clone_any (v : Value) (ws : List Nat) (w : World) (hv : Reads w v (ints .u64 ws)) (hlen : ws.length ≤ 1048576) :
    Calls Try.prog 26 #[v] w fun e w' => ∃ v', e = .returned v' ∧ Reads w' v' (ints .u64 ws) ∧ Below w.heap.size w w' := by
  have hvr := Lib.hid hv
  obtain ⟨n, hn⟩ : ∃ n, ws.length = n := ⟨_, rfl⟩
  obtain ⟨a, cap, rfl, hcap, hcells⟩ := hv.intsN hn
  cases a with
  | none =>
    have h0 : n = 0 := by
      rcases Nat.eq_zero_or_pos n with h | h
      · exact h
      · obtain ⟨b, off, h2, _⟩ := hcells h; cases h2
    subst h0
    obtain rfl := List.eq_nil_of_length_eq_zero hn
    have kn : ∀ w, (binOp .eql 28 (.slice none 0 cap) (.slice none 0 0)).run Try.prog w = .ok (.bool true) w := fun _ => rfl
    clear hcells hv
    go_enter Try.func26, Try.ntmps26
    go_wp2
    go_ret
    exact ⟨_, rfl, Reads.nil _, Below.refl _ _⟩
  | some p =>
    have hlen' := hlen
    have kn : ∀ w, (binOp .eql 28 (.slice (some p) n cap) (.slice none 0 0)).run Try.prog w = .ok (.bool false) w := fun _ => rfl
    clear hcells hv
    go_enter Try.func26, Try.ntmps26
    go_wp2_with (first | (at_builtin; go_must (refine list_appall El64 rfl rfl (by first | (simp [Act.eval]; done) | (simp [Act.eval]; exact ⟨rfl, rfl⟩) | (simp [Act.eval]; rfl)) (by first | (simp [Act.eval]; done) | (simp [Act.eval]; exact ⟨rfl, rfl⟩) | (simp [Act.eval]; rfl)) (owns_empty _ _ _ (Nat.le_refl _)) (hvr.out.alloc _) (ints_one _ _) (by simp [maxLen]; omega) (by simp; omega) (by first | (simp; done) | (simp; omega) | omega) ?_); intro v1 w1 hown1 hgr1; have hb1 := copy_below hgr1; have hr1 := Lib.hid (copy_reads hown1); have hv1 := Lib.hid (hvr.out.below hb1); clear hown1 hgr1))
    go_ret
    exact ⟨_, rfl, hr1.out, hb1⟩

def openOk (ws : List Nat) : Bool := match ws.getLast? with
  | none => false
  | some x => wsum ws.dropLast == x

theorem open_nil (a : Option Addr) (cap : Nat) (w : World) : Calls Try.prog 17 #[.slice a 0 cap] w fun e w' => e = .returned (.tuple #[.slice none 0 0, .int .i64 130]) ∧ w = w' := by
  go_enter Try.func17, Try.ntmps17
  go_wp2
  go_ret2
  exact ⟨rfl, rfl⟩

theorem ropen_nil (a : Option Addr) (cap : Nat) (w : World) : Calls Try.prog 18 #[.slice a 0 cap] w fun e w' => e = .returned (.tuple #[.slice none 0 0, .int .i64 130]) ∧ Below w.heap.size w w' := by
  go_enter Try.func18, Try.ntmps18
  go_wp2
  go_quiet (fail)
  go_wp2
  go_ret2
  exact ⟨rfl, (by repeat (first | exact Below.refl _ _ | assumption | refine Below.drewN ?_ _ | refine Below.drew ?_ | refine Below.alloc ?_ (by first | omega | (simp; done) | (simp; omega)) _))⟩

set_option maxHeartbeats 1000000 in
theorem open_snoc (v : Value) (ws : List Nat) (x : Nat) (w : World) (hv : Reads w v (ints .u64 (ws ++ [x]))) (hlen : ws.length ≤ 1048575) :
    Calls Try.prog 17 #[v] w fun e w' => ∃ v' no, e = .returned (.tuple #[v', .int .i64 no]) ∧ Below w.heap.size w w' ∧
      ((wsum ws = x ∧ no = 0 ∧ Reads w' v' (ints .u64 ws)) ∨ (wsum ws ≠ x ∧ no = 130 ∧ v' = .slice none 0 0)) := by
  obtain ⟨n, hn⟩ : ∃ n, ws.length = n := ⟨_, rfl⟩
  obtain ⟨a, cap, rfl, hcap, hcells⟩ := hv.intsN (n := n + 1) (by simp [hn])
  obtain ⟨b, off, rfl, hbs, hc⟩ := hcells (by omega)
  have hcx := hc n (by omega)
  rw [List.getElem?_append_right (by omega), hn] at hcx
  simp only [Nat.sub_self, List.getElem?_cons_zero, Option.getD_some] at hcx
  have hT : ∀ w', Reads w' (.slice (some ⟨b, off, none⟩) (n + 1) cap) (ints .u64 (ws ++ [x])) → Reads w' (.slice (some ⟨b, off, none⟩) n n) (ints .u64 ws) := fun w' h => by
    have := h.take n (by omega) n (Nat.le_refl _)
    rwa [ints_app, List.take_left' (by simp [hn])] at this
  have hU := run_upto3 El64 (some ⟨b, off, none⟩) (n + 1) cap n (by omega)
  have hw1 : IntKind.i64.wrap (((n + 1 : Nat) : Int) - 1) = (n : Int) := by rw [IntWalk.i64_in _ (by omega)]; omega
  have hvr := Lib.hid hv
  have hpw := Lib.hid fun (w' : World) (h : Reads w' (.slice (some ⟨b, off, none⟩) n n) (ints .u64 ws)) => pwords_any _ ws w' h (by omega)
  have hcl := Lib.hid fun (w' : World) (h : Reads w' (.slice (some ⟨b, off, none⟩) n n) (ints .u64 ws)) => clone_any _ ws w' h (by omega)
  have HT := Lib.hid hT
  have hcd : w.drew.cell? ⟨b, off + n, none⟩ = some (.int .u64 x) := hcx
  have hr1 := Lib.hid (hT _ hv)
  obtain ⟨S, hS⟩ : ∃ S, wsum ws = S := ⟨_, rfl⟩
  rw [hS] at hpw ⊢
  clear hT hv hc hcells hS
  go_enter Try.func17, Try.ntmps17
  by_cases hSx : S = x
  · have hne : ((S : Int) != (x : Int)) = false := by simp [hSx]
    go_wp2
    go_region_with (go_at_call 13; refine (hpw.out _ (hr1.out.drew)).mono ?_; rintro e w1 ⟨rfl, hb1⟩; have hc1 := (hb1.cell (p := ⟨b, off + n, none⟩) hbs).trans hcd)
    all_goals
      have hv1 := Lib.hid (HT.out _ (hvr.out.drew.below hb1))
    all_goals go_wp2_with (go_at_call 26; refine (hcl.out _ hv1.out).mono ?_; rintro e w2 ⟨v', rfl, hr2, hb2⟩)
    all_goals go_ret2
    all_goals exact ⟨_, _, rfl, (Below.refl _ w).drew.trans (hb1.trans (hb2.mono hb1.size)), .inl ⟨hSx, rfl, hr2⟩⟩
  · have hne : ((S : Int) != (x : Int)) = true := by simp; omega
    go_wp2
    go_region_with (go_at_call 13; refine (hpw.out _ (hr1.out.drew)).mono ?_; rintro e w1 ⟨rfl, hb1⟩; have hc1 := (hb1.cell (p := ⟨b, off + n, none⟩) hbs).trans hcd)
    all_goals go_wp2
    all_goals go_ret2
    all_goals exact ⟨_, _, rfl, (Below.refl _ w).drew.trans hb1, .inr ⟨hSx, rfl, rfl⟩⟩
end Go.Proofs.Ytfmeoogokgepaaa
