/- The walk of WordsBits. -/
import Derived.Test.YtaefnkccbmcllaaOnes
namespace Go.Proofs.Ytaefnkccbmcllaa
open Go.RowKit Go.Shelf
attribute [local go_sem] Oper.semAt_some

set_option pp.deepTerms true in
set_option pp.maxSteps 100000 in
set_option maxRecDepth 100000 in
set_option maxHeartbeats 1000000 in
theorem bits_walk (x : Nat) (M : Int) (hx : x < 18446744073709551616) (hM : -9223372036854775808 ≤ M ∧ M ≤ 9223372036854775807) (w : World) :
    Calls Try.prog 8 #[.int .u64 x, .int .i64 M] w fun e w' => e = .returned (.bool true) ∧ Below w.heap.size w w' := by
  refine calls_marks Try.func8 rfl ?_
  simp only [Try.ntmps8, List.size_toArray, List.length_cons, List.length_nil, Nat.reduceAdd, Nat.reduceSub, Array.replicate_succ, Array.replicate_zero, List.push_toArray, List.append_toArray, List.nil_append, List.cons_append, List.append_nil]
  have kn : ∀ (f : Fn) (a b : Array Value) (w : World), (binOp .eql 53 (.func f a b) .nilFunc).run Try.prog w = .ok (.bool false) w := fun _ _ _ _ => rfl
  obtain ⟨L, hL⟩ : ∃ L, (ones x).length = L := ⟨_, rfl⟩
  have hL64 : L ≤ 64 := by rw [← hL]; exact onesTo_len x 64
  go_wp2_with (first
    | (go_at_call 26; refine (ref_bits x hx _).mono ?_; rintro e w1 ⟨v1, rfl, hown, hb1⟩; have hrd := reads_of_owns hown; obtain ⟨a1, cap1, rfl, hcap1, hcells⟩ := hrd.intsN hL; have HRD := Lib.hid hrd; have HC := Lib.hid hcells; clear hown hrd hcells)
    | (go_at_call 27; refine (run_bits x _).mono ?_; rintro e w2 ⟨rfl, rfl⟩))
  have hs1 : w.heap.size + 2 ≤ w1.heap.size := by have := hb1.size; simp at this; omega
  have hA : Below w.heap.size w ((w.alloc (.cells #[.int .i64 M] 3)).alloc (.cells #[.bool false] 4)) := (by repeat (first | exact Below.refl _ _ | assumption | refine Below.drewN ?_ _ | refine Below.drew ?_ | refine Below.alloc ?_ (by first | omega | (simp; done) | (simp; omega)) _))
  have hB1 : Below w.heap.size w w1 := hA.trans (hb1.mono (by simp; omega))
  have hm0 := box_alloc (box_new w (.int .i64 M) 3) (.cells #[.bool false] 4)
  have hr0 := box_new (w.alloc (.cells #[.int .i64 M] 3)) (.bool false) 4
  rw [World.size_alloc] at hr0
  replace hm0 := box_kept hm0 hb1 (by simp; omega)
  replace hr0 := box_kept hr0 hb1 (by simp)
  clear hA hb1
  refine wp_loop_rounds 3 ?_
  rw [rounds_succ]
  go_wp2
  refine (wpIn_wide (n := 3)).1 ?_
  obtain ⟨W0, hW0⟩ : ∃ W0, (((w1.alloc (.cells #[.slice a1 L cap1] 50)).alloc (.cells #[.int .u64 x] 40)).alloc (.cells #[.int .i64 0] 3)).alloc (.cells #[.int .i64 0] 3) = W0 := ⟨_, rfl⟩
  have hsz : W0.heap.size = w1.heap.size + 4 := by rw [← hW0]; simp
  have h10 : Below w1.heap.size w1 W0 := by rw [← hW0]; exact (by repeat (first | exact Below.refl _ _ | assumption | refine Below.drewN ?_ _ | refine Below.drew ?_ | refine Below.alloc ?_ (by first | omega | (simp; done) | (simp; omega)) _))
  have hB0 : Below w.heap.size w W0 := hB1.trans (h10.mono hB1.size)
  have hc5 := box_alloc (box_alloc (box_alloc (box_new w1 (.slice a1 L cap1) 50) (.cells #[.int .u64 x] 40)) (.cells #[.int .i64 0] 3)) (.cells #[.int .i64 0] 3)
  have hcx := box_alloc (box_alloc (box_new (w1.alloc (.cells #[.slice a1 L cap1] 50)) (.int .u64 x) 40) (.cells #[.int .i64 0] 3)) (.cells #[.int .i64 0] 3)
  have hc7 := box_alloc (box_new ((w1.alloc (.cells #[.slice a1 L cap1] 50)).alloc (.cells #[.int .u64 x] 40)) (.int .i64 0) 3) (.cells #[.int .i64 0] 3)
  have hc8 := box_new (((w1.alloc (.cells #[.slice a1 L cap1] 50)).alloc (.cells #[.int .u64 x] 40)).alloc (.cells #[.int .i64 0] 3)) (.int .i64 0) 3
  simp only [World.size_alloc] at hcx hc7 hc8
  rw [hW0] at hc5 hcx hc7 hc8 ⊢
  have hc3 := box_kept hm0 h10 (by simp; omega)
  have hc4 := box_kept hr0 h10 (by simp; omega)
  have hcw : Hid (0 < L → ∃ b off, a1 = some ⟨b, off, none⟩ ∧ b < w1.heap.size ∧ ∀ j, j < L → W0.cell? ⟨b, off + j, none⟩ = some (.int .i64 (((ones x)[j]?.getD 0 : Nat) : Int))) := Lib.hid fun h => by
    obtain ⟨b, off, h1, h2, h3⟩ := HC.out h
    exact ⟨b, off, h1, h2, fun j hj => (h10.cell (p := ⟨b, off + j, none⟩) h2).trans (h3 j hj)⟩
  clear hW0 HC hm0 hr0 h10
  obtain ⟨B8, hB8⟩ : ∃ B8, w1.heap.size + 1 + 1 + 1 = B8 := ⟨_, rfl⟩
  rw [hB8] at hc8 ⊢
  refine range_break (id := 2) (gf := 38) (lb := #[.pointer (some ⟨w1.heap.size + 1, 0, none⟩)]) rfl (enters_of Try.func38 (by kernel_rfl) rfl) (bits_gives (w1.heap.size + 1) x hx W0 (by omega) hcx.1) (Below.refl _ _) (fun k e => by omega) (fun _ => rfl)
    (fun m pre W' => (W0.grownBy W' (some B8) ∧ W'.cell? ⟨B8, 0, none⟩ = some (.int .i64 (pre.length : Nat)) ∧ W'.frozen? ⟨B8, 0, none⟩ = false) ∧ (pre.length = 0 ∨ (pre.length : Int) < M))
    (fun m pre W' => (W0.grownBy W' (some B8) ∧ W'.cell? ⟨B8, 0, none⟩ = some (.int .i64 (pre.length : Nat)) ∧ W'.frozen? ⟨B8, 0, none⟩ = false) ∧ ((pre.length : Int) = max 1 M ∧ pre.length ≤ L))
    (fun W' => ∃ p : Nat, W0.grownBy W' (some B8) ∧ W'.cell? ⟨B8, 0, none⟩ = some (.int .i64 (p : Int)) ∧ (p : Int) = min (L : Int) (max 1 M))
    (fun m => (counted (by omega)).and (Abides.pure _)) (fun m => (counted (by omega)).and (Abides.pure _))
    (fun m => ⟨⟨World.grownBy_refl _ _, hc8⟩, .inl rfl⟩)
    (fun k a' _ => a' = { tmps := #[.int .u64 x, .int .i64 M, undef, .pointer (some ⟨w.heap.size, 0, none⟩), .pointer (some ⟨w.heap.size + 1, 0, none⟩), .pointer (some ⟨w1.heap.size, 0, none⟩), .func (.func 38) #[] #[.pointer (some ⟨w1.heap.size + 1, 0, none⟩)], .pointer (some ⟨w1.heap.size + 1 + 1, 0, none⟩), .pointer (some ⟨w1.heap.size + 1 + 1 + 1, 0, none⟩), .int .i64 (k : Int), .int .u64 x, .slice a1 L cap1, .int .u64 x, .func (.func 38) #[] #[.pointer (some ⟨w1.heap.size + 1, 0, none⟩)], .func (.func 38) #[] #[.pointer (some ⟨w1.heap.size + 1, 0, none⟩)], .bool false, .int .i64 0, .bool true, undef, undef, .func (.func 38) #[] #[.pointer (some ⟨w1.heap.size + 1, 0, none⟩)], .int .i64 (k : Int), undef, undef, undef, undef, undef, undef, undef, undef, undef, undef, undef, undef, undef, undef, undef, undef, undef, undef, undef, undef, undef, undef, undef, undef, undef, undef, undef, undef, undef, undef, undef, undef, undef, undef, undef, undef, undef, undef, undef, undef, undef, undef, undef, undef, undef, undef, undef, undef, undef, undef, undef], defers := [] })
    (fun _ _ _ _ _ _ hs _ _ => hs)
    (fun m xs W' hS hi => ⟨L, hi.1.1, by have := hi.1.2.1; rw [hS, hL] at this; exact this, by have := hi.2; rw [hS, hL] at this; omega⟩)
    (fun m pre W' hp hi => ⟨pre.length, hi.1.1, hi.1.2.1, by have := hi.2; omega⟩) ?assign ?body ?after
  case assign =>
    intro l' m pre k Wr K _ hi hK
    gi_wp2
    exact hK _ _ (.refl _ _ _) (.refl _ _) hi (by simp [encI])
  case body =>
    rintro l' m pre k a' Wr hm _ _ ⟨⟨hg, hn8, hf8⟩, hor⟩ rfl hpart
    obtain ⟨j, hj⟩ : ∃ j, pre.length = j := ⟨_, rfl⟩
    obtain ⟨hjL, hjk⟩ := part_at hpart hL hj
    obtain ⟨b, off, rfl, hbs, hcells⟩ := hcw.out (by omega)
    have hck := hcells j hjL
    rw [hjk] at hck
    clear hcells
    have hw1 : IntKind.i64.wrap ((j : Int) + 1) = (j : Int) + 1 := IntWalk.i64_in _ (by omega)
    have e3 := grown_cell hc3.1 hg (by simp; omega)
    have e5 := grown_cell hc5.1 hg (by simp; omega)
    have e7 := grown_cell hc7.1 hg (by simp; omega)
    have ek := grown_cell hck hg (by simp; omega)
    rw [hj] at hn8 hor
    have hge : decide ((j : Int) ≥ (L : Int)) = false := by simp; omega
    have h80 : B8 ≠ w.heap.size := by omega
    have h81 : B8 ≠ w1.heap.size + 1 + 1 := by omega
    have hst : Stays W0.heap.size m Wr (Wr.setCell ⟨B8, 0, none⟩ (.int .i64 ((j : Int) + 1))) := (Stays.refl _ _ _).setCell hn8 (.inl (by simp; omega)) _
    have hkp : Keeps (· = w1.heap.size + 1) Wr (Wr.setCell ⟨B8, 0, none⟩ (.int .i64 ((j : Int) + 1))) := (Keeps.refl _ _).setCell (by simp; omega) _
    have hcn : (W0.grownBy (Wr.setCell ⟨B8, 0, none⟩ (.int .i64 ((j : Int) + 1))) (some B8) ∧ (Wr.setCell ⟨B8, 0, none⟩ (.int .i64 ((j : Int) + 1))).cell? ⟨B8, 0, none⟩ = some (.int .i64 ((pre ++ [k]).length : Nat)) ∧ (Wr.setCell ⟨B8, 0, none⟩ (.int .i64 ((j : Int) + 1))).frozen? ⟨B8, 0, none⟩ = false) := by
      refine ⟨grown_trans hg (grownBy_setCell' _ _ _), ?_, by rw [World.frozen?_setCell]; exact hf8⟩
      rw [World.cell?_setCell_same' _ _ _ (by rw [hn8]; rfl), List.length_append, hj]; rfl
    have hlen : ((pre ++ [k]).length : Int) = (j : Int) + 1 := by simp [hj]
    have HST := Lib.hid hst
    have HKP := Lib.hid hkp
    have HCN := Lib.hid hcn
    clear hst hkp hcn
    gi_wp2
    · exact ⟨HST.out, rfl, HCN.out, by rw [hlen]; omega, by simp [hj]; omega⟩
    · exact ⟨HST.out, HKP.out, HCN.out, .inr (by rw [hlen]; omega)⟩
  case after =>
    rintro E1 Wd hE ⟨p, hg, hn8, hp⟩ hK
    have e3 := grown_cell hc3.1 hg (by simp; omega)
    have e5 := grown_cell hc5.1 hg (by simp; omega)
    have e7 := grown_cell hc7.1 hg (by simp; omega)
    obtain ⟨X, hX⟩ : ∃ X : Int, (if 1 < M then M else 1) = X := ⟨_, rfl⟩
    have hXL : (if X < (L : Int) then X else (L : Int)) = (p : Int) := by
      rw [hp, ← hX]
      split <;> split <;> omega
    clear hp
    go_wp2
    rw [rounds_succ]
    go_wp2
    refine (wpIn_wide (n := 3)).1 ?_
    obtain ⟨W2, hW2⟩ : ∃ W2, (Wd.alloc (.cells #[.int .i64 1] 3)).alloc (.cells #[.int .i64 0] 3) = W2 := ⟨_, rfl⟩
    have hsd := hg.size
    have hs2 : W2.heap.size = Wd.heap.size + 2 := by rw [← hW2]; simp
    have hd2 : Below Wd.heap.size Wd W2 := by rw [← hW2]; exact (by repeat (first | exact Below.refl _ _ | assumption | refine Below.drewN ?_ _ | refine Below.drew ?_ | refine Below.alloc ?_ (by first | omega | (simp; done) | (simp; omega)) _))
    have hBd : Below w.heap.size w Wd := hB0.grown hg (by omega) (fun k e => by cases e; omega)
    have hB2 : Below w.heap.size w W2 := hBd.trans (hd2.mono hBd.size)
    have hd7 := box_alloc (box_new Wd (.int .i64 1) 3) (.cells #[.int .i64 0] 3)
    have hd8 := box_new (Wd.alloc (.cells #[.int .i64 1] 3)) (.int .i64 0) 3
    simp only [World.size_alloc] at hd8
    rw [hW2] at hd7 hd8 ⊢
    have hd3 := (hd2.cell (p := ⟨w.heap.size, 0, none⟩) (by simp; omega)).trans e3
    have hd5 := (hd2.cell (p := ⟨w1.heap.size, 0, none⟩) (by simp; omega)).trans e5
    have hdx := (hd2.cell (p := ⟨w1.heap.size + 1, 0, none⟩) (by simp; omega)).trans (grown_cell hcx.1 hg (by simp; omega))
    have hd4 : W2.cell? ⟨w.heap.size + 1, 0, none⟩ = some (.bool false) ∧ W2.frozen? ⟨w.heap.size + 1, 0, none⟩ = false :=
      box_kept ⟨grown_cell hc4.1 hg (by simp; omega), (World.frozen?_of_block (hg.block _ (by simp; omega) (by simp; omega))).trans hc4.2⟩ hd2 (by simp; omega)
    have hdK : W2.heap[E1]? = some (.deferred (some [])) := (hd2.block _ (Array.getElem?_eq_some_iff.1 hK).1).trans hK
    have hE1 : E1 < Wd.heap.size := (Array.getElem?_eq_some_iff.1 hK).1
    have hdw : Hid (0 < L → ∃ b off, a1 = some ⟨b, off, none⟩ ∧ b < w1.heap.size ∧ ∀ j, j < L → W2.cell? ⟨b, off + j, none⟩ = some (.int .i64 (((ones x)[j]?.getD 0 : Nat) : Int))) := Lib.hid fun h => by
      obtain ⟨b, off, h1, h2, h3⟩ := hcw.out h
      exact ⟨b, off, h1, h2, fun j hj => (hd2.cell (p := ⟨b, off + j, none⟩) (by simp; omega)).trans (grown_cell (h3 j hj) hg (by simp; omega))⟩
    obtain ⟨B9, hB9⟩ : ∃ B9, Wd.heap.size + 1 = B9 := ⟨_, rfl⟩
    rw [hB9] at hd8 ⊢
    clear hW2 hd2 hcw hc3 hc4 hc5 hcx hc7 hc8 hK hg hn8 e3 e5 e7 hBd hB0 HRD
    refine range_break (id := 2) (gf := 38) (lb := #[.pointer (some ⟨w1.heap.size + 1, 0, none⟩)]) rfl (enters_of Try.func38 (by kernel_rfl) rfl) (bits_gives (w1.heap.size + 1) x hx W2 (by omega) hdx) (Below.refl _ _) (fun k e => by omega) (fun _ => rfl)
      (fun m pre W' => W2.grownBy W' (some B9) ∧ W'.cell? ⟨B9, 0, none⟩ = some (.int .i64 (pre.length : Nat)) ∧ W'.frozen? ⟨B9, 0, none⟩ = false)
      (fun _ _ _ => False)
      (fun W' => W2.grownBy W' (some B9) ∧ W'.cell? ⟨B9, 0, none⟩ = some (.int .i64 (L : Int)))
      (fun m => counted (by omega)) (fun m _ _ _ h _ => h)
      (fun m => ⟨World.grownBy_refl _ _, hd8⟩)
      (fun k a' _ => a' = { tmps := #[.int .u64 (x : Int), .int .i64 M, undef, .pointer (some ⟨w.heap.size, 0, none⟩), .pointer (some ⟨w.heap.size + 1, 0, none⟩), .pointer (some ⟨w1.heap.size, 0, none⟩), .func (.func 38) #[] #[.pointer (some ⟨w1.heap.size + 1, 0, none⟩)], .pointer (some ⟨Wd.heap.size, 0, none⟩), .pointer (some ⟨B9, 0, none⟩), .int .i64 (k : Int), .int .u64 (x : Int), .slice a1 L cap1, .int .u64 (x : Int), .func (.func 38) #[] #[.pointer (some ⟨w1.heap.size + 1, 0, none⟩)], .func (.func 38) #[] #[.pointer (some ⟨w1.heap.size + 1, 0, none⟩)], .bool false, .int .i64 1, .bool true, .int .i64 0, .int .i64 1, .func (.func 38) #[] #[.pointer (some ⟨w1.heap.size + 1, 0, none⟩)], .int .i64 (k : Int), undef, undef, undef, undef, undef, undef, undef, undef, undef, undef, undef, undef, undef, undef, undef, undef, undef, undef, undef, undef, undef, .int .i64 0, .bool true, .bool true, .int .i64 (p : Int), .slice a1 L cap1, .int .i64 (L : Int), .int .i64 M, .int .i64 X, .int .i64 (p : Int), .bool false, .bool false, .bool false, .int .i64 0, .bool false, .bool false, undef, undef, undef, undef, .bool false, .bool false, .int .i64 0, undef, undef, undef, undef, undef, undef, undef, undef], defers := [] })
      (fun _ _ _ _ _ _ hs _ _ => hs)
      (fun m xs W' hS hi => ⟨hi.1, by have := hi.2.1; rw [hS, hL] at this; exact this⟩)
      (fun m pre W' hp hi => hi.elim) ?assign2 ?body2 ?after2
    case assign2 =>
      intro l' m pre k Wr K _ hi hK
      gi_wp2
      exact hK _ _ (.refl _ _ _) (.refl _ _) hi (by simp [encI])
    case body2 =>
      rintro l' m pre k a' Wr hm _ _ ⟨hg, hn8, hf8⟩ rfl hpart
      obtain ⟨j, hj⟩ : ∃ j, pre.length = j := ⟨_, rfl⟩
      obtain ⟨hjL, hjk⟩ := part_at hpart hL hj
      obtain ⟨b, off, rfl, hbs, hcells⟩ := hdw.out (by omega)
      have hck := hcells j hjL
      rw [hjk] at hck
      clear hcells
      have hw1 : IntKind.i64.wrap ((j : Int) + 1) = (j : Int) + 1 := IntWalk.i64_in _ (by omega)
      have e3 := grown_cell hd3 hg (by simp; omega)
      have e5 := grown_cell hd5 hg (by simp; omega)
      have e7 := grown_cell hd7.1 hg (by simp; omega)
      have ek := grown_cell hck hg (by simp; omega)
      rw [hj] at hn8
      have hge : decide ((j : Int) ≥ (L : Int)) = false := by simp; omega
      have h81 : B9 ≠ Wd.heap.size := by omega
      have hst : Stays W2.heap.size m Wr (Wr.setCell ⟨B9, 0, none⟩ (.int .i64 ((j : Int) + 1))) := (Stays.refl _ _ _).setCell hn8 (.inl (by simp; omega)) _
      have hkp : Keeps (· = w1.heap.size + 1) Wr (Wr.setCell ⟨B9, 0, none⟩ (.int .i64 ((j : Int) + 1))) := (Keeps.refl _ _).setCell (by simp; omega) _
      have hcn : (W2.grownBy (Wr.setCell ⟨B9, 0, none⟩ (.int .i64 ((j : Int) + 1))) (some B9) ∧ (Wr.setCell ⟨B9, 0, none⟩ (.int .i64 ((j : Int) + 1))).cell? ⟨B9, 0, none⟩ = some (.int .i64 ((pre ++ [k]).length : Nat)) ∧ (Wr.setCell ⟨B9, 0, none⟩ (.int .i64 ((j : Int) + 1))).frozen? ⟨B9, 0, none⟩ = false) := by
        refine ⟨grown_trans hg (grownBy_setCell' _ _ _), ?_, by rw [World.frozen?_setCell]; exact hf8⟩
        rw [World.cell?_setCell_same' _ _ _ (by rw [hn8]; rfl), List.length_append, hj]; rfl
      have HST := Lib.hid hst
      have HKP := Lib.hid hkp
      have HCN := Lib.hid hcn
      clear hst hkp hcn
      gi_wp2
      exact ⟨HST.out, HKP.out, HCN.out⟩
    case after2 =>
      rintro E2 We hE2 ⟨hg, hn8⟩ hK2
      have hse := hg.size
      have e3 := grown_cell hd3 hg (by simp; omega)
      have e5 := grown_cell hd5 hg (by simp; omega)
      have e7 := grown_cell hd7.1 hg (by simp; omega)
      have hBe : Below w.heap.size w We := hB2.grown hg (by omega) (fun k e => by cases e; omega)
      have e4 : We.cell? ⟨w.heap.size + 1, 0, none⟩ = some (.bool false) ∧ We.frozen? ⟨w.heap.size + 1, 0, none⟩ = false :=
        ⟨grown_cell hd4.1 hg (by simp; omega), (World.frozen?_of_block (hg.block _ (by simp; omega) (by simp; omega))).trans hd4.2⟩
      have hK1 : We.heap[E1]? = some (.deferred (some [])) := (hg.block _ (by omega) (by simp; omega)).trans hdK
      go_wp2
      rw [rounds_succ]
      go_wp2
      obtain ⟨Wf, hWf⟩ : ∃ Wf, We.alloc (.cells #[.int .i64 2] 3) = Wf := ⟨_, rfl⟩
      have hsf : Wf.heap.size = We.heap.size + 1 := by rw [← hWf]; simp
      have hef : Below We.heap.size We Wf := by rw [← hWf]; exact Below.alloc0 _ _
      have hBf : Below w.heap.size w Wf := hBe.trans (hef.mono hBe.size)
      have f5 := (hef.cell (p := ⟨w1.heap.size, 0, none⟩) (by simp; omega)).trans e5
      have f4 := box_kept e4 hef (by simp; omega)
      have fK1 := (hef.block _ (Array.getElem?_eq_some_iff.1 hK1).1).trans hK1
      have fK2 := (hef.block _ (Array.getElem?_eq_some_iff.1 hK2).1).trans hK2
      have hE2f : E2 < Wf.heap.size := (Array.getElem?_eq_some_iff.1 fK2).1
      have hE1f : E1 < Wf.heap.size := (Array.getElem?_eq_some_iff.1 fK1).1
      rw [hWf]
      clear hWf hef e3 e4 e5 e7 hK1 hK2 hg hn8 hd8 hdw hdK hd4 hdx hd5 hd3 hd7 hB2 hBe
      have f5d : Wf.drew.cell? ⟨w1.heap.size, 0, none⟩ = some (.slice a1 L cap1) := f5
      have f4d : Wf.drew.cell? ⟨w.heap.size + 1, 0, none⟩ = some (.bool false) ∧ Wf.drew.frozen? ⟨w.heap.size + 1, 0, none⟩ = false := f4
      have HO := Lib.hid (words_ones x hx)
      rw [hL] at HO
      go_region_with (first | (go_at_call 28; refine (HO.out _).mono ?_; rintro e w5 ⟨rfl, hb5⟩; have g5 := (hb5.cell (p := ⟨w1.heap.size, 0, none⟩) (by simp; omega)).trans f5) | (go_at_call 10; refine (works_any _).mono ?_; rintro e w6 ⟨rfl, hw6⟩; have g4 := box_kept (box_kept f4d hb5 (by simp; omega)) hw6 (by have := hb5.size; simp at this; simp; omega)))
      all_goals go_wp2
      all_goals
        have hs6 := hw6.size
        have hs5 := hb5.size
        simp only [World.size_drew] at hs5
        have q1 : (w6.setCell ⟨w.heap.size + 1, 0, none⟩ (.bool true)).heap[E2]? = some (.deferred (some [])) := (Below.heap_setCell _ _ _ _ (by simp; omega)).trans ((hw6.block _ (by omega)).trans ((hb5.block _ (by simp; omega)).trans fK2))
        have q2 : (w6.setCell ⟨w.heap.size + 1, 0, none⟩ (.bool true)).heap[E1]? = some (.deferred (some [])) := (Below.heap_setCell _ _ _ _ (by simp; omega)).trans ((hw6.block _ (by omega)).trans ((hb5.block _ (by simp; omega)).trans fK1))
        have q3 : (w6.setCell ⟨w.heap.size + 1, 0, none⟩ (.bool true)).cell? ⟨w.heap.size + 1, 0, none⟩ = some (.bool true) := World.cell?_setCell_same' _ _ _ (by rw [g4.1]; rfl)
        have q4 : Below w.heap.size w (w6.setCell ⟨w.heap.size + 1, 0, none⟩ (.bool true)) := ((hBf.drew.trans (hb5.mono (by simp; omega))).trans (hw6.mono (by omega))).setCell (by simp) _
        refine ⟨by simp, .inl ⟨_, _, rfl, run_takeDeferred q1, ?_⟩⟩
        refine ⟨by simp, .inl ⟨_, _, rfl, run_takeDeferred ((World.putObj_heap_other (by omega)).trans q2), ?_⟩⟩
        have q5 := cell_kept (cell_kept q3 (grownBy_putObj' _ E2 (.deferred none)) (fun r e => by cases e; exact ⟨_, q1, rfl⟩)) (grownBy_putObj' _ E1 (.deferred none)) (fun r e => by cases e; exact ⟨_, (World.putObj_heap_other (by omega)).trans q2, rfl⟩)
        refine ⟨.bool true, ?_, rfl, taken_below (taken_below q4 (by omega)) (by omega)⟩
        simp [results, Try.f8, go_sem, q5]
end Go.Proofs.Ytaefnkccbmcllaa
