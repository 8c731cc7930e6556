/- The iterators of layer 1: places, Bits; Ones. -/
import Derived.Test.YtaefnkccbmcllaaPipe
import Derived.Test.YtaefnkccbmcllaaE
import Derived.WalkMore
namespace Go.Proofs.Ytaefnkccbmcllaa
open Go.RowKit Go.Shelf
attribute [local go_sem] Oper.semAt_some

theorem range_snoc (k : Nat) : List.range k ++ [k] = List.range (k + 1) := List.range_succ.symm
theorem part_range {n k : Nat} (h : k < n) : Part (fun xs => xs = List.range n) (List.range k ++ [k]) := by
  refine ⟨_, rfl, ?_⟩
  rw [range_snoc]
  obtain ⟨d, rfl⟩ := Nat.exists_eq_add_of_lt h
  exact ⟨(List.range d).map (k + 1 + ·), by rw [show k + d + 1 = (k + 1) + d by omega]; exact List.range_add.symm⟩

theorem round_any {n n' : Nat} {P : Program} {l : Nat} {f : FuncId} {tmps : Array Value} {assign body : Code} {w : World} {R : Ending → World → Prop}
    (h : RoundIn Fence.wide n P l f tmps assign body w R) : RoundIn Fence.wide n' P l f tmps assign body w R := ⟨trivial, fun c cs _ => h.2 c cs (room_wide _)⟩
theorem round_in {n n' l' : Nat} {P : Program} {l : Nat} {f : FuncId} {tmps : Array Value} {assign body : Code} {w : World} {R : Ending → World → Prop}
    (h : RoundIn Fence.wide n P l f tmps assign body w R) : RoundIn (Fence.wide.inRound l') n' P l f tmps assign body w R := ⟨trivial, fun c cs _ => h.2 c cs (room_wide _)⟩

abbrev encI (k : Nat) : Array Value := #[.int .i64 (k : Int)]

theorem places_gives (D : Nat → Prop) (w : World) : Gives Try.prog 41 #[] encI D (fun xs => xs = List.range 64) w := by
  intro l J Jx W hW hJ hJx hY h0
  refine (callsIn_wide (n := 3)).1 (callsIn_of_wp Try.func41 rfl trivial ?_ rfl)
  simp only [Try.ntmps41, List.size_toArray, List.length_cons, List.length_nil, Nat.reduceAdd, Nat.reduceSub, Array.replicate_succ, Array.replicate_zero, List.push_toArray, List.append_toArray, List.nil_append, List.cons_append, List.append_nil]
  gi_wp2
  gi_loopw [3] (fun v wr => ∃ k : Nat, v = .int .i64 (k : Int) ∧ k ≤ 64 ∧ J W.heap.size (List.range k) wr) (fun v _ => 64 - (intOf v).toNat)
  case atStart =>
    exact ⟨0, rfl, by omega, h0 _⟩
  case round =>
    obtain ⟨k, rfl, hk, hJk⟩ := hrel
    by_cases hlt : k < 64
    · have h1 : ((k : Int) < 64) := by omega
      have hw1 : IntKind.i64.wrap ((k : Int) + 1) = ((k + 1 : Nat) : Int) := by rw [IntWalk.i64_in _ (by omega)]; omega
      obtain ⟨fn, tmps, assign, body, hy, hR⟩ := hY _ _ k wr (Nat.le_refl _) hJk (part_range hlt)
      gi_wp2
      refine (round_any hR).mono ?_
      rintro e W3 ⟨hs3, (⟨rfl, hJ3, hb3⟩ | ⟨rfl, hJx3⟩)⟩
      · gi_wp2
        go_roundw
        case rel => exact ⟨k + 1, by first | rfl | simp only [hw1] | simp, by omega, by rw [← range_snoc]; exact hJ3⟩
        case measure => simp [intOf, hw1]; omega
      · gi_wp2
        refine bodyPost_ret (results_none rfl _ _ _) rfl ?_
        exact ⟨⟨_, rfl⟩, .inr ⟨_, _, part_range hlt, hJx3⟩⟩
    · obtain rfl : k = 64 := by omega
      gi_wp2
      go_end0
      exact ⟨⟨_, rfl⟩, .inl ⟨_, _, rfl, hJk⟩⟩

theorem run_places (w : World) : Calls Try.prog 39 #[] w fun e w' => e = .returned (.func (.func 41) #[] #[]) ∧ w = w' := by
  go_enter Try.func39, Try.ntmps39
  go_wp2
  go_ret
  exact ⟨rfl, rfl⟩

/-- The bits that are set, rising. -/
def ones (x : Nat) : List Nat := (List.range 64).filter fun i => x >>> i % 2 == 1
def onesTo (x k : Nat) : List Nat := (List.range k).filter fun i => x >>> i % 2 == 1
theorem onesTo_snoc (x k : Nat) : onesTo x (k + 1) = onesTo x k ++ (if x >>> k % 2 = 1 then [k] else []) := by
  unfold onesTo
  rw [List.range_succ, List.filter_append]
  by_cases h : x >>> k % 2 = 1 <;> simp [h]
theorem ones_done {x k : Nat} (hk : k ≤ 64) (h : x >>> k = 0) : onesTo x k = ones x := by
  unfold onesTo ones
  obtain ⟨d, hd⟩ := Nat.exists_eq_add_of_le hk
  rw [hd, List.range_add, List.filter_append]
  have : List.filter (fun i => x >>> i % 2 == 1) (List.map (k + ·) (List.range d)) = [] := by
    rw [List.filter_eq_nil_iff]
    intro i hi
    obtain ⟨j, _, rfl⟩ := List.mem_map.1 hi
    simp [Nat.shiftRight_add, h]
  rw [this]; simp
theorem part_ones {x k : Nat} (hk : k < 64) (h : x >>> k % 2 = 1) : Part (fun xs => xs = ones x) (onesTo x k ++ [k]) := by
  refine ⟨_, rfl, ?_⟩
  have := onesTo_snoc x k
  rw [if_pos h] at this
  rw [← this]
  unfold onesTo ones
  obtain ⟨d, hd⟩ := Nat.exists_eq_add_of_le (show k + 1 ≤ 64 from hk)
  rw [hd, show List.range (k + 1 + d) = _ from List.range_add, List.filter_append]
  exact ⟨_, rfl⟩
theorem range_of_part {k : Nat} {pre : List Nat} (h : Part (fun xs => xs = List.range 64) (pre ++ [k])) : pre = List.range k ∧ k < 64 := by
  obtain ⟨_, rfl, t, ht⟩ := h
  have hl : pre.length < 64 := by have := congrArg List.length ht; simp at this; omega
  have hk : k = pre.length := by
    have := congrArg (·[pre.length]?) ht
    simp [hl] at this
    omega
  refine ⟨?_, by omega⟩
  have h1 : pre = (List.range 64).take pre.length := by rw [← ht]; simp
  rw [h1, hk, List.take_range]
  congr 1
  omega

theorem bit_and (x k : Nat) (hx : x < 18446744073709551616) : bits .and .u64 ((x : Int) / 2 ^ k) 1 = ((x >>> k % 2 : Nat) : Int) := by
  have h : x >>> k < 2 ^ 64 := by rw [Nat.shiftRight_eq_div_pow]; exact Nat.lt_of_le_of_lt (Nat.div_le_self _ _) hx
  rw [show ((x : Int) / 2 ^ k) = ((x >>> k : Nat) : Int) by rw [Nat.shiftRight_eq_div_pow]; simp]
  exact (u64_and_nat (x >>> k) 1 h (by decide)).trans (by rw [Nat.and_one_is_mod])

theorem shift_int (x k : Nat) : ((x : Int) / 2 ^ k) = ((x >>> k : Nat) : Int) := by rw [Nat.shiftRight_eq_div_pow]; simp

/-- Bits: over any word, whose box lies below n₀. -/
theorem bits_gives (b x : Nat) (hx : x < 18446744073709551616) (w : World) (hb : b < w.heap.size) (hc : w.cell? ⟨b, 0, none⟩ = some (.int .u64 x)) :
    Gives Try.prog 38 #[.pointer (some ⟨b, 0, none⟩)] encI (· = b) (fun xs => xs = ones x) w := by
  intro l J Jx W hW hJ hJx hY h0
  refine (callsIn_wide (n := 3)).1 (callsIn_of_wp_marks Try.func38 rfl trivial ?_ rfl)
  simp only [Try.ntmps38, List.size_toArray, List.length_cons, List.length_nil, Nat.reduceAdd, Nat.reduceSub, Array.replicate_succ, Array.replicate_zero, List.push_toArray, List.append_toArray, List.nil_append, List.cons_append, List.append_nil]
  have hbW0 : b < W.heap.size := Nat.lt_of_lt_of_le hb hW.size
  have hcW : W.cell? ⟨b, 0, none⟩ = some (.int .u64 x) := (hW.cell (p := ⟨b, 0, none⟩) hb).trans hc
  gi_wp2_with (gi_at_call 39; refine (callsIn_wide.2 (run_places _)).mono ?_; rintro e w' ⟨rfl, rfl⟩)
  refine wpIn_wide.2 ?_
  go_step3
  go_wp2
  go_step3
  go_wp2_with (go_at_call 39; refine (run_places _).mono ?_; rintro e w' ⟨rfl, rfl⟩)
  refine (wpIn_wide (n := 3)).1 ?_
  obtain ⟨W0, hW0⟩ : ∃ W0, W.alloc (.cells #[.func (.yield l) #[] #[]] 68) = W0 := ⟨_, rfl⟩
  have hsz : W0.heap.size = W.heap.size + 1 := by rw [← hW0]; simp
  have hbW : Below W.heap.size W W0 := by rw [← hW0]; exact Below.alloc0 _ _
  have hbox := box_new W (.func (.yield l) #[] #[]) 68
  rw [hW0] at hbox ⊢
  refine range_out (gf := 41) (lb := #[]) rfl (enters_of Try.func41 (by kernel_rfl) rfl) (places_gives (· = b) W0) (Below.refl _ _) (fun k e => by omega) (fun _ => rfl)
    (fun m pre W' => J m (onesTo x pre.length) W' ∧ (W'.cell? ⟨W.heap.size, 0, none⟩ = some (.func (.yield l) #[] #[]) ∧ W'.frozen? ⟨W.heap.size, 0, none⟩ = false) ∧ W'.cell? ⟨b, 0, none⟩ = some (.int .u64 x))
    (fun c m pre W' => c = .exit 0 ∧ (J m (ones x) W' ∨ ∃ q, Part (fun xs => xs = ones x) q ∧ Jx m q W'))
    (fun m s X Y hs ht => ⟨hJ m _ X Y hs.1 (ht.mono (by omega)), ⟨ht.cell hs.2.1.1 (.inl (by simp; omega)), (ht.frozen hs.2.1.1 (.inl (by simp; omega))).trans hs.2.1.2⟩, ht.cell hs.2.2 (.inl (by simp; omega))⟩)
    (fun c m s X Y hs ht => ⟨hs.1, hs.2.imp (fun h => hJ m _ X Y h (ht.mono (by omega))) (fun ⟨q, hq, h⟩ => ⟨q, hq, hJx m _ X Y h (ht.mono (by omega))⟩)⟩)
    (fun m => ⟨hJ m _ _ _ (h0 m) (.of_below hbW), hbox, (hbW.cell (p := ⟨b, 0, none⟩) hbW0).trans hcW⟩)
    (fun k a' _ => a' = { tmps := #[.func (.yield l) #[] #[], .pointer (some ⟨b, 0, none⟩), .pointer (some ⟨W.heap.size, 0, none⟩), .int .i64 (k : Int), undef, .func (.func 41) #[] #[], .int .i64 (k : Int), undef, undef, undef, undef, undef, undef, undef, undef, undef, undef, undef, undef, undef, undef, undef], defers := [] })
    (fun _ _ _ _ _ _ hs _ _ => hs) ?assign ?body ?done ?stop
  case assign =>
    intro l' m pre k Wr K _ hi hK
    gi_wp2
    exact hK _ _ (.refl _ _ _) (.refl _ _) hi rfl
  case body =>
    rintro l' m pre k a' Wr hm _ _ ⟨hJr, ⟨hbx, hfx⟩, hcr⟩ rfl hpart
    obtain ⟨rfl, hk⟩ := range_of_part hpart
    rw [List.length_range] at hJr
    by_cases hz : x >>> k = 0
    · have h0 : ((x : Int) / 2 ^ k == 0) = true := by rw [shift_int, hz]; rfl
      gi_wp2
      exact ⟨.refl _ _ _, rfl, .inl (by rw [← ones_done (Nat.le_of_lt hk) hz]; exact hJr)⟩
    · have h0 : ((x : Int) / 2 ^ k == 0) = false := by rw [shift_int]; exact beq_false_of_ne (fun h => hz (Int.ofNat.inj h))
      by_cases h1 : x >>> k % 2 = 1
      · have h2 : (bits .and .u64 ((x : Int) / 2 ^ k) 1 == 0) = false := by rw [bit_and x k hx, h1]; rfl
        obtain ⟨fn, tmps, assign, body, hy, hR⟩ := hY m _ k Wr (by omega) hJr (part_ones hk h1)
        have he : onesTo x (k + 1) = onesTo x k ++ [k] := by rw [onesTo_snoc, if_pos h1]
        gi_wp2
        refine (round_in hR).mono ?_
        rintro e W3 ⟨hs3, (⟨rfl, hJ3, hb3⟩ | ⟨rfl, hJx3⟩)⟩
        · gi_wp2
          refine ⟨hs3.mono (by omega), hb3, by simpa [he] using hJ3, ⟨?_, ?_⟩, (hb3.cell (p := ⟨b, 0, none⟩) rfl).trans hcr⟩
          · exact hs3.cell hbx (by simp) (by simp; omega)
          · exact (hs3.frozen hbx (by simp) (by simp; omega)).trans hfx
        · gi_wp2
          exact ⟨hs3.mono (by omega), rfl, .inr ⟨_, part_ones hk h1, hJx3⟩⟩
      · have h2 : (bits .and .u64 ((x : Int) / 2 ^ k) 1 == 0) = true := by rw [bit_and x k hx, show x >>> k % 2 = 0 by omega]; rfl
        have he : onesTo x (k + 1) = onesTo x k := by rw [onesTo_snoc, if_neg h1]; simp
        gi_wp2
        exact ⟨.refl _ _ _, .refl _ _, by simpa [he] using hJr, ⟨hbx, hfx⟩, hcr⟩
  case done =>
    rintro D m xs Wd hD rfl ⟨hJd, _, hBd⟩ hK
    gi_wp2
    rw [Exit.noGoto_normal]
    refine ⟨by simp, .inl ⟨_, _, rfl, run_takeDeferred hK, ?_⟩⟩
    refine ⟨_, results_none rfl _ _ _, ⟨_, rfl⟩, .inl ⟨m, _, rfl, (hJ m).putObj _ ?_ (by omega) hK rfl⟩⟩
    simpa [onesTo, ones] using hJd
  case stop =>
    rintro D c m pre Wd hD _ ⟨rfl, hor⟩ hK
    gi_wp2
    rw [Exit.noGoto_normal]
    refine ⟨by simp, .inl ⟨_, _, rfl, run_takeDeferred hK, ?_⟩⟩
    refine ⟨_, results_none rfl _ _ _, ⟨_, rfl⟩, ?_⟩
    rcases hor with h | ⟨q, hq, h⟩
    · exact .inl ⟨m, _, rfl, (hJ m).putObj _ h (by omega) hK rfl⟩
    · exact .inr ⟨m, q, hq, (hJx m).putObj _ h (by omega) hK rfl⟩
end Go.Proofs.Ytaefnkccbmcllaa
