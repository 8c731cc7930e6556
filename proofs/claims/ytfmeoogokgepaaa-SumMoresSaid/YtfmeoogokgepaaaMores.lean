/- The walk of SumMores. -/
import Derived.Test.YtfmeoogokgepaaaWorks
namespace Go.Proofs.Ytfmeoogokgepaaa
open Go.RowKit Go.Shelf

theorem more_more (l r : List Nat) (hl : ∀ x ∈ l, x < 256) : more (more 0 l) r = more 0 (l ++ r) := by
  unfold more
  rw [notU_notU (crcL_lt (notU_lt _) l hl), crcL, crcL, crcL, List.foldl_append]
theorem below_app0 {w w1 : World} {n0 e : Nat} {v : Value} {k : Nat} {xs : List Value} (hrow : w.ownsRow n0 e 1 v k xs) (hn : n0 ≤ w.heap.size) (hg : w.grownBy w1 v.ownBlock) : Below n0 w w1 :=
  (Below.refl n0 w).grown hg hn fun j ej => by
    rcases hrow.2 with ⟨rfl, _⟩ | ⟨g, cap, cur, rfl, hb, _, _⟩
    · simp [Value.ownBlock] at ej
    · obtain rfl : g = j := by simpa [Value.ownBlock] using ej
      exact hb

set_option maxRecDepth 100000 in
set_option maxHeartbeats 1000000 in
theorem mores_walk (va vb : Value) (l r : List Nat) (w : World) (ha : Reads w va (ints .u8 l)) (hb : Reads w vb (ints .u8 r)) (hl : ∀ x ∈ l, x < 256) (hr : ∀ x ∈ r, x < 256) (hnl : l.length ≤ 9223372036854775807) (hnr : r.length ≤ 9223372036854775807) :
    Calls Try.prog 6 #[va, vb] w fun e w' => e = .returned (.bool true) ∧ Below w.heap.size w w' := by
  have hra := Lib.hid ha
  have hrb := Lib.hid hb
  obtain ⟨n, hn⟩ : ∃ n, l.length = n := ⟨_, rfl⟩
  obtain ⟨m, hm⟩ : ∃ m, r.length = m := ⟨_, rfl⟩
  obtain ⟨a, cap, rfl, hcap, _⟩ := ha.intsN hn
  obtain ⟨b, cap', rfl, hcap', _⟩ := hb.intsN hm
  have hnl' := hnl
  have hnr' := hnr
  rw [hn] at hnl'
  rw [hm] at hnr'
  have HN := Lib.hid hn
  have HM := Lib.hid hm
  by_cases h1 : n ≤ 1000
  · by_cases h2 : m ≤ 1000
    · have g1 : decide ((n : Int) > 1000) = false := by simp; omega
      have g2 : decide ((m : Int) > 1000) = false := by simp; omega
      have hps := Lib.hid fun (w' : World) (h : Reads w' (.slice a n cap) (ints .u8 l)) => psum_any _ l w' h hl hnl
      have hmo := Lib.hid fun (w' : World) (h : Reads w' (.slice b m cap') (ints .u8 r)) => more_any (more 0 l) _ r w' (more_lt _ _) h hr hnr
      have hpe := Lib.hid fun (w' : World) (v : Value) (h : Reads w' v (ints .u8 (l ++ r))) => psum_any v (l ++ r) w' h (by intro x hx; rcases List.mem_append.1 hx with h | h; exact hl x h; exact hr x h) (by rw [List.length_append]; have := HN.out; have := HM.out; omega)
      have hmm := more_more l r hl
      obtain ⟨S, hS⟩ : ∃ S, more 0 (l ++ r) = S := ⟨_, rfl⟩
      obtain ⟨T, hT⟩ : ∃ T, more 0 l = T := ⟨_, rfl⟩
      rw [hT] at hmm hps hmo
      rw [hmm] at hmo
      rw [hS] at hpe hmo
      have h20 : l.length ≤ 1000 := by omega
      have h21 : r.length ≤ 1000 := by omega
      have tok1 : True := trivial
      clear hmm hS hT ha hb hn hm hnl hnr hl hr
      go_enter Try.func6, Try.ntmps6
      go_wp2_with fail
      refine (hps.out _ hra.out).mono ?_
      rintro e w1 ⟨rfl, hb1⟩
      have hrb1 := Lib.hid (hrb.out.below hb1)
      have hra1 := Lib.hid (hra.out.below hb1)
      go_wp2_with fail
      refine (hmo.out _ hrb1.out).mono ?_
      rintro e w2 ⟨rfl, hb2⟩
      have hrb2 := Lib.hid (hrb1.out.below hb2)
      have hra2 := Lib.hid (hra1.out.below hb2)
      have q2 := hb1.trans (hb2.mono hb1.size)
      clear hrb1 hra1 hb1 hb2
      go_wp2_with (first
        | (at_builtin; have _t := tok1; go_must (refine list_appall El8 rfl rfl (by first | (simp [Act.eval]; done) | (simp [Act.eval]; exact ⟨rfl, rfl⟩) | (simp [Act.eval]; rfl)) (by first | (simp [Act.eval]; done) | (simp [Act.eval]; exact ⟨rfl, rfl⟩) | (simp [Act.eval]; rfl)) (owns_empty _ _ _ (Nat.le_refl _)) (hra2.out.alloc _) (ints_one _ _) (by simp [maxLen]; omega) (by simp; omega) (by first | (simp; done) | (simp; omega) | omega) ?_); intro v3 w3 hown3 hgr3; clear tok1 _t; have hb3 := copy_below hgr3; have hrb3 := Lib.hid (hrb2.out.below hb3); clear hgr3)
        | (at_builtin; go_must (refine list_appall El8 rfl rfl (by first | (simp [Act.eval]; done) | (simp [Act.eval]; exact ⟨rfl, rfl⟩) | (simp [Act.eval]; rfl)) (by first | (simp [Act.eval]; done) | (simp [Act.eval]; exact ⟨rfl, rfl⟩) | (simp [Act.eval]; rfl)) hown3 hrb3.out (ints_one _ _) (by simp [maxLen]; omega) (by simp; omega) (by have := hb3.size; simp; omega) ?_); intro v4 w4 hown4 hgr4; have hb4 := below_app0 hown3 (by have := hb3.size; simp; omega) hgr4; have hr4 : Reads w4 v4 (ints .u8 (l ++ r)) := (by have h := reads_of_owns hown4; rwa [List.nil_append, ← ints_app] at h); clear hgr4)
        | (go_at_call 9; refine (hpe.out _ _ hr4).mono ?_; rintro e w5 ⟨rfl, hb5⟩)
        | (go_at_call 8; refine (works_any _).mono ?_; rintro e w6 ⟨rfl, hb6⟩))
      go_ret
      have q4 := q2.trans ((hb3.mono (by have := q2.size; omega)).trans (hb4.mono q2.size))
      exact ⟨rfl, q4.trans ((hb5.mono q4.size).trans (hb6.mono (Nat.le_trans q4.size hb5.size)))⟩
    · have g1 : decide ((n : Int) > 1000) = false := by simp; omega
      have g2 : decide ((m : Int) > 1000) = true := by simp; omega
      clear ha hb
      go_enter Try.func6, Try.ntmps6
      go_wp2_with (go_at_call 8; refine (works_any _).mono ?_; rintro e w6 ⟨rfl, hb6⟩)
      go_ret
      exact ⟨rfl, hb6⟩
  · have g1 : decide ((n : Int) > 1000) = true := by simp; omega
    clear ha hb
    go_enter Try.func6, Try.ntmps6
    go_wp2_with (go_at_call 8; refine (works_any _).mono ?_; rintro e w6 ⟨rfl, hb6⟩)
    go_ret
    exact ⟨rfl, hb6⟩
end Go.Proofs.Ytfmeoogokgepaaa
