/- The walk of SumOpens. -/
import Derived.Test.YtfmeoogokgepaaaSumW
import Derived.Test.YtfmeoogokgepaaaROpen
namespace Go.Proofs.Ytfmeoogokgepaaa
open Go.RowKit Go.Shelf

def openR (ms : List Nat) : List Nat × Int := if ms = [] then ([], 130) else if wsum ms.dropLast = ms.getLast?.getD 0 then (ms.dropLast, 0) else ([], 130)
theorem openR_nil : openR [] = ([], 130) := rfl
theorem openR_snoc (us : List Nat) (x : Nat) : openR (us ++ [x]) = if wsum us = x then (us, 0) else ([], 130) := by
  unfold openR
  rw [if_neg (by simp)]
  simp

theorem popen_all (v : Value) (ms : List Nat) (w : World) (hv : Reads w v (ints .u64 ms)) (hlen : ms.length ≤ 1000) :
    Calls Try.prog 17 #[v] w fun e w' => ∃ v', e = .returned (.tuple #[v', .int .i64 (openR ms).2]) ∧ Reads w' v' (ints .u64 (openR ms).1) ∧ Below w.heap.size w w' := by
  rcases List.eq_nil_or_concat ms with rfl | ⟨us, x, rfl⟩
  · obtain ⟨a, cap, rfl, hcap, _⟩ := hv.ints
    refine (open_nil a cap w).mono ?_
    rintro e w' ⟨rfl, rfl⟩
    exact ⟨_, rfl, Reads.nil _, Below.refl _ _⟩
  · rw [List.concat_eq_append] at hv hlen ⊢
    refine (open_snoc v us x w hv (by simp at hlen; omega)).mono ?_
    rintro e w' ⟨v', no, rfl, hb, ⟨h, rfl, hr⟩ | ⟨h, rfl, rfl⟩⟩
    · rw [openR_snoc, if_pos h]; exact ⟨_, rfl, hr, hb⟩
    · rw [openR_snoc, if_neg h]; exact ⟨_, rfl, Reads.nil _, hb⟩

theorem ropen_all (v : Value) (ms : List Nat) (w : World) (hv : Reads w v (ints .u64 ms)) (hw : ∀ y ∈ ms, y < 18446744073709551616) (hlen : ms.length ≤ 1000) :
    Calls Try.prog 18 #[v] w fun e w' => ∃ v', e = .returned (.tuple #[v', .int .i64 (openR ms).2]) ∧ Reads w' v' (ints .u64 (openR ms).1) ∧ Below w.heap.size w w' := by
  rcases List.eq_nil_or_concat ms with rfl | ⟨us, x, rfl⟩
  · obtain ⟨a, cap, rfl, hcap, _⟩ := hv.ints
    refine (ropen_nil a cap w).mono ?_
    rintro e w' ⟨rfl, hb⟩
    exact ⟨_, rfl, Reads.nil _, hb⟩
  · rw [List.concat_eq_append] at hv hlen hw ⊢
    refine (ropen_snoc v us x w hv (fun y hy => hw y (by simp [hy])) (by simp at hlen; omega)).mono ?_
    rintro e w' ⟨v', no, rfl, hb, ⟨h, rfl, hr⟩ | ⟨h, rfl, rfl⟩⟩
    · rw [openR_snoc, if_pos h]; exact ⟨_, rfl, hr, hb⟩
    · rw [openR_snoc, if_neg h]; exact ⟨_, rfl, Reads.nil _, hb⟩

theorem openR_len (ms : List Nat) (h : ms.length ≤ 1000) : (openR ms).1.length ≤ 1048576 := by
  unfold openR
  split
  · simp
  · split
    · simp; omega
    · simp

set_option maxRecDepth 100000 in
set_option maxHeartbeats 1000000 in
theorem opens_walk (v : Value) (ws : List Nat) (r : Bool) (w : World) (hv : Reads w v (ints .u64 ws)) (hw : ∀ x ∈ ws, x < 18446744073709551616) (hl : ws.length ≤ 9223372036854775807) :
    Calls Try.prog 5 #[v, .bool r] w fun e w' => e = .returned (.bool true) ∧ Below w.heap.size w w' := by
  by_cases h200 : ws.length ≤ 200
  · have hvr := Lib.hid hv
    obtain ⟨a, cap, rfl, hcap, _⟩ := hv.ints
    obtain ⟨ms, hms⟩ : ∃ ms, (if r = true then ws ++ [wsum ws] else ws) = ms := ⟨_, rfl⟩
    have hml : ms.length ≤ 1000 := by
      rw [← hms]
      split
      · simp; omega
      · omega
    have hmw : ∀ y ∈ ms, y < 18446744073709551616 := by
      intro y hy
      rw [← hms] at hy
      split at hy
      · rcases List.mem_append.1 hy with h | h
        · exact hw y h
        · simp at h; rw [h]; exact wsum_lt ws
      · exact hw y hy
    have HT := Lib.hid fun (w' : World) (v' : Value) (h : Reads w' v' (ints .u64 ws)) => rseal_any v' ws w' h hw (by omega)
    have HP := Lib.hid fun (w' : World) (v' : Value) (h : Reads w' v' (ints .u64 ms)) => popen_all v' ms w' h hml
    have HQ := Lib.hid fun (w' : World) (v' : Value) (h : Reads w' v' (ints .u64 ms)) => ropen_all v' ms w' h hmw hml
    have HRL := Lib.hid (openR_len ms hml)
    obtain ⟨rs, hrs⟩ : ∃ rs, (openR ms).1 = rs := ⟨_, rfl⟩
    obtain ⟨no, hno⟩ : ∃ no, (openR ms).2 = no := ⟨_, rfl⟩
    rw [hrs, hno] at HP HQ
    rw [hrs] at HRL
    have h201 : (ws.length : Int) ≤ 200 := by omega
    have tok1 : True := trivial
    obtain ⟨L, hL⟩ : ∃ L, ws.length = L := ⟨_, rfl⟩
    have h202 : ws.length ≤ 200 := h200
    rw [hL] at hcap h200 h201 hvr ⊢
    clear hv hl hw hmw hml hrs hno hL
    cases r with
    | true =>
      rw [if_pos rfl] at hms
      rw [hms] at HT
      go_enter Try.func5, Try.ntmps5
      go_wp2_with (first | (at_builtin; have _t := tok1; go_must (refine list_appall El64 rfl rfl (by first | (simp [Act.eval]; done) | (simp [Act.eval]; exact ⟨rfl, rfl⟩) | (simp [Act.eval]; rfl)) (by first | (simp [Act.eval]; done) | (simp [Act.eval]; exact ⟨rfl, rfl⟩) | (simp [Act.eval]; rfl)) (owns_empty _ _ _ (Nat.le_refl _)) (hvr.out.alloc _) (ints_one _ _) (by simp [maxLen]; omega) (by simp; omega) (by first | (simp; done) | (simp; omega) | omega) ?_); intro v1 w1 hown1 hgr1; clear tok1 _t; have hb1 := copy_below hgr1; have hv1 := Lib.hid (hvr.out.below hb1); clear hgr1))
      refine (HT.out w1 _ hv1.out).mono ?_
      rintro e w2 ⟨v2, rfl, hr2, hb2⟩
      have q2 : Below w.heap.size w w2 := hb1.trans (hb2.mono hb1.size)
      clear hown1 hb1 hb2
      go_wp2_with fail
      refine (HP.out w2 _ hr2).mono ?_
      rintro e w3 ⟨v3, rfl, hr3, hb3⟩
      have hr23 := Reads.below hr2 hb3
      have q3 := q2.trans (hb3.mono q2.size)
      go_wp2_with fail
      refine (HQ.out w3 _ hr23).mono ?_
      rintro e w4 ⟨v4, rfl, hr4, hb4⟩
      have hr34 := Reads.below hr3 hb4
      have q4 := q3.trans (hb4.mono q3.size)
      go_wp2_with fail
      refine (same_any _ _ rs rs _ hr34 hr4 HRL.out HRL.out).mono ?_
      rintro e w5 ⟨rfl, n5, rfl⟩
      have q5 := Below.drewN q4 n5
      go_wp2_with (first | (go_at_call 19; refine (num_any _ _).mono ?_; rintro e w' ⟨rfl, rfl⟩) | (go_at_call 8; refine (works_any _).mono ?_; rintro e w7 ⟨rfl, hb7⟩))
      go_ret
      exact ⟨rfl, q5.trans (hb7.mono q5.size)⟩
    | false =>
      rw [if_neg (by decide)] at hms
      subst hms
      go_enter Try.func5, Try.ntmps5
      go_wp2_with (first | (at_builtin; go_must (refine list_appall El64 rfl rfl (by first | (simp [Act.eval]; done) | (simp [Act.eval]; exact ⟨rfl, rfl⟩) | (simp [Act.eval]; rfl)) (by first | (simp [Act.eval]; done) | (simp [Act.eval]; exact ⟨rfl, rfl⟩) | (simp [Act.eval]; rfl)) (owns_empty _ _ _ (Nat.le_refl _)) (hvr.out.alloc _) (ints_one _ _) (by simp [maxLen]; omega) (by simp; omega) (by first | (simp; done) | (simp; omega) | omega) ?_); intro v1 w1 hown1 hgr1; have hb1 := copy_below hgr1; have hr1 := Lib.hid (copy_reads hown1); have hv1 := Lib.hid (hvr.out.below hb1); clear hown1 hgr1))
      refine (HP.out w1 _ hr1.out).mono ?_
      rintro e w3 ⟨v3, rfl, hr3, hb3⟩
      have hr23 := Reads.below hr1.out hb3
      have q3 := hb1.trans (hb3.mono hb1.size)
      go_wp2_with fail
      refine (HQ.out w3 _ hr23).mono ?_
      rintro e w4 ⟨v4, rfl, hr4, hb4⟩
      have hr34 := Reads.below hr3 hb4
      have q4 := q3.trans (hb4.mono q3.size)
      go_wp2_with fail
      refine (same_any _ _ rs rs _ hr34 hr4 HRL.out HRL.out).mono ?_
      rintro e w5 ⟨rfl, n5, rfl⟩
      have q5 := Below.drewN q4 n5
      go_wp2_with (first | (go_at_call 19; refine (num_any _ _).mono ?_; rintro e w' ⟨rfl, rfl⟩) | (go_at_call 8; refine (works_any _).mono ?_; rintro e w7 ⟨rfl, hb7⟩))
      go_ret
      exact ⟨rfl, q5.trans (hb7.mono q5.size)⟩
  · have h2 : (200 : Int) < (ws.length : Int) := by omega
    obtain ⟨a, cap, rfl, hcap, _⟩ := hv.ints
    clear hv
    go_enter Try.func5, Try.ntmps5
    go_wp2_with (go_at_call 8; refine (works_any _).mono ?_; rintro e w6 ⟨rfl, hb6⟩)
    go_ret
    exact ⟨rfl, hb6⟩
end Go.Proofs.Ytfmeoogokgepaaa
