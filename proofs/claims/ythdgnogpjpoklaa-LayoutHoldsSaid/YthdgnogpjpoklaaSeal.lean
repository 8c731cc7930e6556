/- Sum, Words, Seal, Open: of the program and of the document; Clone. -/
import Derived.Test.YthdgnogpjpoklaaMore
import Derived.Test.YthdgnogpjpoklaaC
import Derived.Test.YthdgnogpjpoklaaGrow
namespace Go.Proofs.Ythdgnogpjpoklaa
set_option linter.unusedVariables false
set_option linter.unusedSimpArgs false
open Go.RowKit Go.Shelf

theorem bytesL_lt (ws : List Nat) : ∀ x ∈ bytesL ws, x < 256 := by
  intro x hx
  simp only [bytesL, List.mem_flatMap] at hx
  obtain ⟨y, _, hy⟩ := hx
  simp only [byteL, List.mem_map] at hy
  obtain ⟨i, _, rfl⟩ := hy
  omega
def wsum (ws : List Nat) : Nat := more 0 (bytesL ws)
theorem wsum_lt (ws : List Nat) : wsum ws < 18446744073709551616 := more_lt _ _

theorem psum_any (v : Value) (bs : List Nat) (w : World) (hv : Reads w v (ints .u8 bs)) (hb : ∀ x ∈ bs, x < 256) (hlen : bs.length ≤ 9223372036854775807) :
    Calls Try.prog 48 #[v] w fun e w' => e = .returned (.int .u64 (more 0 bs)) ∧ Below w.heap.size w w' := by
  obtain ⟨a, cap, rfl, hcap, hcells⟩ := hv.ints
  have hm := more_any 0 _ bs w (by decide) hv hb hlen
  obtain ⟨n, hn⟩ : ∃ n, bs.length = n := ⟨_, rfl⟩
  rw [hn] at hm ⊢
  go_enter Try.func48, Try.ntmps48
  go_wp2_with (go_at_call 52; refine hm.mono ?_; rintro e w1 ⟨rfl, hb1⟩)
  go_ret
  exact ⟨rfl, hb1⟩

theorem pwords_any (v : Value) (ws : List Nat) (w : World) (hv : Reads w v (ints .u64 ws)) (hlen : ws.length ≤ 1048576) :
    Calls Try.prog 39 #[v] w fun e w' => e = .returned (.int .u64 (wsum ws)) ∧ Below w.heap.size w w' := by
  have hby := bytes_any v ws w hv hlen
  obtain ⟨a, cap, rfl, hcap, hcells⟩ := hv.ints
  obtain ⟨n, hn⟩ : ∃ n, ws.length = n := ⟨_, rfl⟩
  have hbl := bytesL_length ws
  obtain ⟨W, hW⟩ : ∃ W, wsum ws = W := ⟨_, rfl⟩
  have hW' : more 0 (bytesL ws) = W := hW
  rw [hn] at hby hlen hbl ⊢
  rw [hW]
  have HB := Lib.hid hbl
  have HY := Lib.hid hby
  have HW := Lib.hid hW'
  clear hby hbl hW hW' hcells
  go_enter Try.func39, Try.ntmps39
  go_wp2_with (first
    | (go_at_call 49; refine HY.out.mono ?_; rintro e w1 ⟨v', rfl, hown, hb1⟩; have hrd := reads_of_owns hown; clear hown)
    | (go_at_call 48; refine (psum_any _ _ _ hrd (bytesL_lt _) (by rw [HB.out]; omega)).mono ?_; rw [HW.out]; rintro e w2 ⟨rfl, hb2⟩))
  go_ret
  exact ⟨rfl, hb1.trans (hb2.mono hb1.size)⟩

theorem rwords_any (v : Value) (ws : List Nat) (w : World) (hv : Reads w v (ints .u64 ws)) (hw : ∀ x ∈ ws, x < 18446744073709551616) (hlen : ws.length ≤ 1048576) :
    Calls Try.prog 40 #[v] w fun e w' => e = .returned (.int .u64 (wsum ws)) ∧ Below w.heap.size w w' := by
  have hby := rbytes_any v ws w hv hw hlen
  obtain ⟨a, cap, rfl, hcap, hcells⟩ := hv.ints
  obtain ⟨n, hn⟩ : ∃ n, ws.length = n := ⟨_, rfl⟩
  have hbl := bytesL_length ws
  obtain ⟨W, hW⟩ : ∃ W, wsum ws = W := ⟨_, rfl⟩
  have hW' : more 0 (bytesL ws) = W := hW
  rw [hn] at hby hlen hbl ⊢
  rw [hW]
  have HB := Lib.hid hbl
  have HY := Lib.hid hby
  have HW := Lib.hid hW'
  clear hby hbl hW hW' hcells
  go_enter Try.func40, Try.ntmps40
  go_wp2_with (first
    | (go_at_call 51; refine HY.out.mono ?_; rintro e w1 ⟨v', rfl, hown, hb1⟩; have hrd := reads_of_owns hown; clear hown)
    | (go_at_call 50; refine (rmore_any 0 _ _ _ (by decide) hrd (bytesL_lt _) (by rw [HB.out]; omega)).mono ?_; rw [HW.out]; rintro e w2 ⟨rfl, rfl⟩))
  go_ret
  exact ⟨rfl, hb1⟩

theorem owns_low {w : World} {base base' e n : Nat} {v : Value} {xs : List Value} (h : w.ownsRow base' e 1 v n xs) (hb : base ≤ base') : w.ownsRow base e 1 v n xs := by
  refine ⟨h.1, ?_⟩
  rcases h.2 with h2 | ⟨g, cap, cur, rfl, hbg, hg, h3⟩
  · exact .inl h2
  · exact .inr ⟨g, cap, cur, rfl, Nat.le_trans hb hbg, hg, h3⟩
theorem pseal_own (v : Value) (ws : List Nat) (w : World) (hv : Reads w v (ints .u64 ws)) (hlen : ws.length ≤ 1048576) :
    Calls Try.prog 33 #[v] w fun e w' => ∃ v', e = .returned v' ∧ w'.ownsRow w.heap.size 24 1 v' (ws.length + 1) (ints .u64 (ws ++ [wsum ws])) ∧ Below w.heap.size w w' := by
  have hvr := Lib.hid hv
  obtain ⟨n, hn⟩ : ∃ n, ws.length = n := ⟨_, rfl⟩
  obtain ⟨a, cap, rfl, hcap, hcells⟩ := hv.intsN hn
  have hpw := Lib.hid fun (w' : World) (h : Reads w' (.slice a n cap) (ints .u64 ws)) => pwords_any _ ws w' h hlen
  obtain ⟨S, hS⟩ : ∃ S, wsum ws = S := ⟨_, rfl⟩
  rw [hS] at hpw ⊢
  rw [hn]
  rw [hn] at hlen
  have hU := run_upto3 El64 a n cap n hcap
  have hi : ints .u64 (ws ++ [S]) = ints .u64 ws ++ [.int .u64 S] := by simp
  have HI := Lib.hid hi
  have HT : ∀ w', Reads w' (.slice a n cap) (ints .u64 ws) → Reads w' (.slice a n n) (ints .u64 ws) := fun w' h => by
    have := h.take n (Nat.le_refl _) n (Nat.le_refl _)
    rwa [List.take_of_length_le (by simp; omega)] at this
  have HTH := Lib.hid HT
  clear hv hS hi HT hcells
  go_enter Try.func33, Try.ntmps33
  go_wp2
  go_region_law (first
    | (refine step_call1 rfl rfl (by first | (simp [Act.eval]; done) | (simp [Act.eval]; exact ⟨rfl, rfl⟩) | (simp [Act.eval]; rfl)) (enters_of Try.func39 (by kernel_rfl) rfl) (hpw.out _ (hvr.out.drew)) ?_; rintro e w1 ⟨rfl, hb1⟩; have hv1 := Lib.hid (HTH.out _ (hvr.out.drew.below hb1)); refine ⟨_, rfl, ?_⟩)
    | (refine step_full El64 rfl rfl (by first | (simp [Act.eval]; done) | (simp [Act.eval]; exact ⟨rfl, rfl⟩) | (simp [Act.eval]; rfl)) (by first | (simp [Act.eval]; done) | (simp [Act.eval]; exact ⟨rfl, rfl⟩) | (simp [Act.eval]; rfl)) (hv1.out.alloc _) (by first | exact cell_new _ _ _ | exact cell_new_d _ _ _) rfl (by omega) (by simp [maxLen]; omega) ?_; intro g cp w2 hown hgr))
  all_goals go_wp2
  all_goals go_ret
  all_goals
    have hb2 : Below w1.heap.size w1 w2 := ((Below.refl _ w1).alloc (Nat.le_refl _) _).grown hgr (by simp) (fun k e => by cases e)
    exact ⟨_, rfl, by rw [HI.out]; exact owns_low hown (by have h := hb1.size; have h2 : w.drew.heap.size = w.heap.size := rfl; simp; omega), (Below.refl _ w).drew.trans (hb1.trans (hb2.mono hb1.size))⟩
theorem pseal_any (v : Value) (ws : List Nat) (w : World) (hv : Reads w v (ints .u64 ws)) (hlen : ws.length ≤ 1048576) :
    Calls Try.prog 33 #[v] w fun e w' => ∃ v', e = .returned v' ∧ Reads w' v' (ints .u64 (ws ++ [wsum ws])) ∧ Below w.heap.size w w' := by
  refine (pseal_own v ws w hv hlen).mono ?_
  rintro e w' ⟨v', rfl, h, hb⟩
  exact ⟨v', rfl, reads_of_owns h, hb⟩

theorem owns_below {w1 w2 : World} {base e n : Nat} {v : Value} {xs : List Value} (h : w1.ownsRow base e 1 v n xs) (hb : Below w1.heap.size w1 w2) : w2.ownsRow base e 1 v n xs := by
  refine ⟨h.1, ?_⟩
  rcases h.2 with h2 | ⟨g, cap, cur, rfl, hbg, hg, h3⟩
  · exact .inl h2
  · exact .inr ⟨g, cap, cur, rfl, hbg, (hb.block g (Array.getElem?_eq_some_iff.1 hg).1).trans hg, h3⟩

theorem rseal_own (v : Value) (ws : List Nat) (w : World) (hv : Reads w v (ints .u64 ws)) (hw : ∀ x ∈ ws, x < 18446744073709551616) (hlen : ws.length ≤ 1048576) :
    Calls Try.prog 34 #[v] w fun e w' => ∃ v', e = .returned v' ∧ w'.ownsRow w.heap.size 24 1 v' (ws.length + 1) (ints .u64 (ws ++ [wsum ws])) ∧ Below w.heap.size w w' := by
  have hvr := Lib.hid hv
  obtain ⟨n, hn⟩ : ∃ n, ws.length = n := ⟨_, rfl⟩
  obtain ⟨a, cap, rfl, hcap, hcells⟩ := hv.intsN hn
  have hpw := Lib.hid fun (w' : World) (h : Reads w' (.slice a n cap) (ints .u64 ws)) => rwords_any _ ws w' h hw hlen
  obtain ⟨S, hS⟩ : ∃ S, wsum ws = S := ⟨_, rfl⟩
  rw [hS] at hpw ⊢
  rw [hn]
  have hlen' := hlen
  rw [hn] at hlen
  have HL := Lib.hid hn
  have hi : ints .u64 (ws ++ [S]) = ints .u64 ws ++ [.int .u64 S] := by simp
  have HI := Lib.hid hi
  have tok1 : True := trivial
  clear hv hS hi hcells hn
  go_enter Try.func34, Try.ntmps34
  go_wp2_with (first
    | ((at_builtin; have _t := tok1; go_must (refine list_appall El64 rfl rfl (by first | (simp [Act.eval]; done) | (simp [Act.eval]; exact ⟨rfl, rfl⟩) | (simp [Act.eval]; rfl)) (by first | (simp [Act.eval]; done) | (simp [Act.eval]; exact ⟨rfl, rfl⟩) | (simp [Act.eval]; rfl)) (owns_empty _ _ _ (Nat.le_refl _)) (hvr.out.alloc _) (ints_one _ _) (by simp [maxLen]; omega) (by simp; omega) (by first | (simp; done) | (simp; omega) | omega) ?_); intro v1 w1 hown1 hgr1; clear tok1 _t; have hb1 := copy_below hgr1; have hv1 := Lib.hid (hvr.out.below hb1); clear hgr1); have hown0 : w1.ownsRow w.heap.size 24 1 v1 n (ints .u64 ws) := (by have h := hown1; rw [List.length_map, HL.out, Nat.zero_add, List.nil_append] at h; exact h); clear hown1)
    | (go_at_call 40; refine (hpw.out _ hv1.out).mono ?_; rintro e w2 ⟨rfl, hb2⟩; have hown2 := owns_below hown0 hb2)
    | (at_builtin; go_must (refine list_app El64 rfl rfl (by first | (simp [Act.eval]; done) | (simp [Act.eval]; exact ⟨rfl, rfl⟩) | (simp [Act.eval]; rfl)) (by first | (simp [Act.eval]; done) | (simp [Act.eval]; exact ⟨rfl, rfl⟩) | (simp [Act.eval]; rfl)) (hown2.alloc _) (by first | exact cell_new _ _ _ | exact cell_new_d _ _ _) rfl (by omega) (by simp [maxLen]; omega) (by have := hb1.size; have := hb2.size; simp; omega) ?_); intro g cp w3 hown3 hgr3 _ _; have hb3 := below_app hown2 (by have := hb1.size; have := hb2.size; omega) hgr3))
  go_ret
  exact ⟨_, rfl, by rw [HI.out]; exact hown3, hb1.trans ((hb2.mono hb1.size).trans hb3)⟩
theorem rseal_any (v : Value) (ws : List Nat) (w : World) (hv : Reads w v (ints .u64 ws)) (hw : ∀ x ∈ ws, x < 18446744073709551616) (hlen : ws.length ≤ 1048576) :
    Calls Try.prog 34 #[v] w fun e w' => ∃ v', e = .returned v' ∧ Reads w' v' (ints .u64 (ws ++ [wsum ws])) ∧ Below w.heap.size w w' := by
  refine (rseal_own v ws w hv hw hlen).mono ?_
  rintro e w' ⟨v', rfl, h, hb⟩
  exact ⟨v', rfl, reads_of_owns h, hb⟩

end Go.Proofs.Ythdgnogpjpoklaa
