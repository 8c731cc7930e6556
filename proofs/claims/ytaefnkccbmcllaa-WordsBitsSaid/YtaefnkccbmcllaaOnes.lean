/- Bits as a list, Bits as an iterator's value, Ones. -/
import Derived.Test.YtaefnkccbmcllaaIter
namespace Go.Proofs.Ytaefnkccbmcllaa
open Go.RowKit Go.Shelf
attribute [local go_sem] Oper.semAt_some

theorem onesTo_len (x k : Nat) : (onesTo x k).length ≤ k := by
  have := List.length_filter_le (fun i => x >>> i % 2 == 1) (List.range k)
  unfold onesTo
  exact Nat.le_trans this (by simp)

theorem Try.infoi64 : (Try.prog.info? 3).map (fun i => (i.zero, i.size, i.bytes)) = some (some (.int .i64 0), 1, 8) := by kernel_rfl
theorem ElI : El Try.prog 50 3 (Value.int .i64 0) 8 := ⟨Try.underlying50, info_parts Try.infoi64, rfl⟩

theorem ref_bits (x : Nat) (hx : x < 18446744073709551616) (w : World) :
    Calls Try.prog 26 #[.int .u64 x] w fun e w' => ∃ v', e = .returned v' ∧ w'.ownsRow w.heap.size 3 1 v' (ones x).length (ints .i64 (ones x)) ∧ Below w.heap.size w w' := by
  go_enter Try.func26, Try.ntmps26
  go_wp2
  go_loopw [0, 3, 4] (fun y v i wr => ∃ k q m : Nat, k ≤ 64 ∧ i = .int .i64 k ∧ y = .int .u64 q ∧ q = x >>> k ∧ m = (onesTo x k).length ∧ wr.ownsRow w.heap.size 3 1 v m (ints .i64 (onesTo x k)) ∧ Below w.heap.size w wr) (fun _ _ i _ => 64 - (intOf i).toNat)
  case atStart => exact ⟨0, x, 0, by omega, rfl, rfl, rfl, rfl, World.ownsRow_nil _ _ _ _, Below.refl _ _⟩
  case round =>
    obtain ⟨k, q, m, hk, rfl, rfl, hq, hm, hr, hbl⟩ := hrel
    have hq2 : q < 18446744073709551616 := by rw [hq, Nat.shiftRight_eq_div_pow]; exact Nat.lt_of_le_of_lt (Nat.div_le_self _ _) hx
    have hmk : m ≤ k := by rw [hm]; exact onesTo_len x k
    have hsz := hbl.size
    have hn : q / 2 = x >>> (k + 1) := by rw [hq, Nat.shiftRight_add]; rfl
    have hs := onesTo_snoc x k
    rw [← hq] at hs
    have HQ := Lib.hid hq
    have HM := Lib.hid hm
    have HN := Lib.hid hn
    have HS := Lib.hid hs
    clear hq hm hn hs
    by_cases hlt : k < 64
    · by_cases h1 : q % 2 = 1
      · have hb1 : (((q : Int) % 2) == 1) = true := by simp; omega
        go_wp2_with (first | (at_builtin; go_must (refine list_app ElI rfl rfl (by first | (simp [Act.eval]; done) | (simp [Act.eval]; exact ⟨rfl, rfl⟩) | (simp [Act.eval]; rfl)) (by first | (simp [Act.eval]; done) | (simp [Act.eval]; exact ⟨rfl, rfl⟩) | (simp [Act.eval]; rfl)) (hr.alloc _) (by first | exact cell_new _ _ _ | exact cell_new_d _ _ _) rfl (by first | omega | (simp; omega)) (by simp [maxLen]; omega) (by first | omega | (simp; omega)) ?_); intro g cp w1 hown hgrow _ _; have hb1 := below_app hr (by omega) hgrow; clear hgrow))
        go_roundw
        case rel => exact ⟨k + 1, q / 2, m + 1, by omega, by go_num, by first | rfl | simp, HN.out, by rw [HS.out, if_pos h1, List.length_append, ← HM.out]; rfl, by rw [HS.out, if_pos h1, ints_app]; simpa using hown, hbl.trans ‹Below w.heap.size wr w1›⟩
        case measure => simp [intOf]; omega
      · have hb1 : (((q : Int) % 2) == 1) = false := by simp; omega
        go_wp2
        go_roundw
        case rel => exact ⟨k + 1, q / 2, m, by omega, by go_num, by first | rfl | simp, HN.out, by rw [HS.out, if_neg h1, List.append_nil, ← HM.out], by rw [HS.out, if_neg h1, List.append_nil]; exact hr, hbl⟩
        case measure => simp [intOf]; omega
    · obtain rfl : k = 64 := by omega
      go_wp2
      go_ret
      exact ⟨_, rfl, by rw [HM.out] at hr; exact hr, hbl⟩

/-- What comes at a round. -/
theorem part_at {x k L j : Nat} {pre : List Nat} (h : Part (fun xs => xs = ones x) (pre ++ [k])) (hL : (ones x).length = L) (hj : pre.length = j) : j < L ∧ (ones x)[j]?.getD 0 = k := by
  obtain ⟨_, rfl, t, ht⟩ := h
  subst hj
  refine ⟨by rw [← hL, ← ht]; simp, ?_⟩
  rw [← ht]; simp

theorem run_bits (x : Nat) (w : World) : Calls Try.prog 27 #[.int .u64 x] w fun e w' => e = .returned (.func (.func 38) #[] #[.pointer (some ⟨w.heap.size, 0, none⟩)]) ∧ w' = w.alloc (.cells #[.int .u64 x] 40) := by
  go_enter Try.func27, Try.ntmps27
  go_wp2
  go_ret
  exact ⟨rfl, rfl⟩

theorem words_ones (x : Nat) (hx : x < 18446744073709551616) (w : World) :
    Calls Try.prog 28 #[.int .u64 x] w fun e w' => e = .returned (.int .i64 (ones x).length) ∧ Below w.heap.size w w' := by
  refine (callsIn_wide (n := 3)).1 (callsIn_of_wp_marks Try.func28 rfl trivial ?_ rfl)
  simp only [Try.ntmps28, List.size_toArray, List.length_cons, List.length_nil, Nat.reduceAdd, Nat.reduceSub, Array.replicate_succ, Array.replicate_zero, List.push_toArray, List.append_toArray, List.nil_append, List.cons_append, List.append_nil]
  refine wpIn_wide.2 ?_
  go_wp2_with (go_at_call 27; refine (run_bits x _).mono ?_; rintro e w' ⟨rfl, rfl⟩)
  refine (wpIn_wide (n := 3)).1 ?_
  obtain ⟨W0, hW0⟩ : ∃ W0, (w.alloc (.cells #[.int .i64 0] 3)).alloc (.cells #[.int .u64 x] 40) = W0 := ⟨_, rfl⟩
  have hsz : W0.heap.size = w.heap.size + 2 := by rw [← hW0]; simp
  have hbW : Below w.heap.size w W0 := by rw [← hW0]; exact (by repeat (first | exact Below.refl _ _ | assumption | refine Below.drewN ?_ _ | refine Below.drew ?_ | refine Below.alloc ?_ (by first | omega | (simp; done) | (simp; omega)) _))
  have hn0 : W0.cell? ⟨w.heap.size, 0, none⟩ = some (.int .i64 0) ∧ W0.frozen? ⟨w.heap.size, 0, none⟩ = false := by rw [← hW0]; exact box_alloc (box_new _ _ _) _
  have hx0 : W0.cell? ⟨w.heap.size + 1, 0, none⟩ = some (.int .u64 x) := by
    have := (box_new (w.alloc (.cells #[.int .i64 0] 3)) (.int .u64 x) 40).1
    rw [World.size_alloc, hW0] at this; exact this
  rw [hW0]
  refine range_out (gf := 38) (lb := #[.pointer (some ⟨w.heap.size + 1, 0, none⟩)]) rfl (enters_of Try.func38 (by kernel_rfl) rfl) (bits_gives (w.heap.size + 1) x hx W0 (by omega) hx0) (Below.refl _ _) (fun k e => by omega) (fun _ => rfl)
    (fun m pre W' => (W'.cell? ⟨w.heap.size, 0, none⟩ = some (.int .i64 (pre.length : Nat)) ∧ W'.frozen? ⟨w.heap.size, 0, none⟩ = false) ∧ Below w.heap.size w W')
    (fun _ _ _ _ => False)
    (fun m => Abides.and (Abides.cell (b := ⟨w.heap.size, 0, none⟩) (show w.heap.size < W0.heap.size by omega) (fun (pre : List Nat) => .int .i64 ((pre.length : Nat) : Int))) (Abides.below (by omega) (Nat.le_refl _)))
    (fun _ _ _ _ _ h _ => h)
    (fun m => ⟨hn0, hbW⟩)
    (fun k a' _ => a' = { tmps := #[.int .u64 x, undef, .int .i64 0, .pointer (some ⟨w.heap.size, 0, none⟩), .int .u64 x, .func (.func 38) #[] #[.pointer (some ⟨w.heap.size + 1, 0, none⟩)], .int .i64 (k : Int), undef, undef, undef], defers := [] })
    (fun _ _ _ _ _ _ hs _ _ => hs) ?assign ?body ?done ?stop
  case assign =>
    intro l' m pre k Wr K _ hi hK
    gi_wp2
    exact hK _ _ (.refl _ _ _) (.refl _ _) hi (by simp [encI])
  case body =>
    rintro l' m pre k a' Wr hm _ _ ⟨⟨hc, hf⟩, hB⟩ rfl hpart
    have hlt : pre.length < 64 := by
      obtain ⟨_, rfl, t, ht⟩ := hpart
      have := congrArg List.length ht
      have := onesTo_len x 64
      simp [ones, onesTo] at *
      omega
    have hw1 : IntKind.i64.wrap ((pre.length : Int) + 1) = (pre.length : Int) + 1 := IntWalk.i64_in _ (by omega)
    gi_wp2
    refine ⟨(Stays.refl _ _ _).setCell hc (.inl (by simp; omega)) _, (Keeps.refl _ _).setCell (by simp) _, ⟨?_, ?_⟩, hB.setCell (p := ⟨w.heap.size, 0, none⟩) (Nat.le_refl _) _⟩
    · rw [World.cell?_setCell_same' _ _ _ (by rw [hc]; rfl)]; simp
    · rw [World.frozen?_setCell]; exact hf
  case done =>
    rintro E m xs Wd hE rfl ⟨⟨hc, hf⟩, hB⟩ hK
    go_wp2
    refine ⟨by simp, .inl ⟨_, _, rfl, run_takeDeferred hK, ?_⟩⟩
    exact ⟨_, results_tmp rfl _ _ _, rfl, taken_below hB (by omega)⟩
  case stop =>
    rintro E c m pre Wd _ _ h _
    exact h.elim
end Go.Proofs.Ytaefnkccbmcllaa
