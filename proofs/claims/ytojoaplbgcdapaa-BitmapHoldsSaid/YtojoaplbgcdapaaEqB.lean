/- bitmap: equal words; Same. -/
import Derived.Test.YtojoaplbgcdapaaMore
namespace Go.Proofs.Ytojoaplbgcdapaa
set_option linter.unusedVariables false
set_option linter.unusedSimpArgs false
open Go.RowKit Go.Shelf

set_option maxRecDepth 100000 in
set_option maxHeartbeats 2000000 in
theorem uequal_any (va vb : Value) (xs ys : List Nat) (w : World) (ha : ReadsT uE 1 w va xs) (hb : ReadsT uE 1 w vb ys) (hlx : xs.length ≤ 1048576) (hly : ys.length ≤ 1048576) :
    Calls Try.prog 33 #[va, vb] w fun e w' => e = .returned (.bool (decide (xs = ys))) ∧ Below w.heap.size w w' := by
  obtain ⟨N, hN⟩ : ∃ N, xs.length = N := ⟨_, rfl⟩
  obtain ⟨N2, hN2⟩ : ∃ N2, ys.length = N2 := ⟨_, rfl⟩
  obtain ⟨a, cap, rfl, hc⟩ := ha.form hN
  obtain ⟨a2, cap2, rfl, hc2⟩ := hb.form hN2
  rw [hN] at hlx
  rw [hN2] at hly
  refine X.fn Try.func33 rfl (n := 26) rfl rfl ?_
  by_cases hne : N = N2
  · subst hne
    (refine CC.seq ?_; refine CC.region ?_; refine LL.val (R.assign rfl rfl) rfl rfl rfl ?_; refine LL.nilS ?_; refine CC.seq ?_; refine CC.seq ?_; refine CC.region ?_; refine LL.val (R.move rfl rfl) rfl rfl rfl ?_; refine LL.val (R.len rfl rfl rfl rfl) rfl rfl rfl ?_; refine LL.val (R.move rfl rfl) rfl rfl rfl ?_; refine LL.val (R.len rfl rfl rfl rfl) rfl rfl rfl ?_; refine LL.val (R.neF rfl rfl rfl (by omega)) rfl rfl rfl ?_; refine LL.nilS ?_; refine CC.no rfl ?_; refine CC.skip ?_; refine EE.thenN ?_; refine CC.seq ?_; refine CC.seq ?_; refine CC.region ?_; refine LL.val (R.move rfl rfl) rfl rfl rfl ?_; refine LL.val (R.len rfl rfl rfl rfl) rfl rfl rfl ?_; refine LL.val (R.move rfl rfl) rfl rfl rfl ?_; refine LL.nilS ?_; refine CC.block ?_)
    refine CC.loop (α := Nat) (fun i => [(0, .slice a N cap), (1, .slice a2 N cap2), (4, .bool false), (12, .int .i64 (N : Int)), (13, .int .i64 (i : Int))]) (fun i wr => Below w.heap.size w wr ∧ i ≤ N ∧ xs.take i = ys.take i) (fun i => N - i) 0 ⟨rfl, rfl, rfl, rfl, rfl, trivial⟩ ⟨Below.refl _ _, by omega, by simp⟩ ?_
    intro i wr ⟨hbw, hi, ht⟩
    by_cases h1 : i < N
    · obtain ⟨s, hs⟩ : ∃ s, xs[i]? = some s := ⟨_, List.getElem?_eq_getElem (by omega)⟩
      obtain ⟨t, ht2⟩ : ∃ t, ys[i]? = some t := ⟨_, List.getElem?_eq_getElem (by omega)⟩
      obtain ⟨b, off, rfl, hbl, hcs⟩ := ha.get uEnc hs
      obtain ⟨b2, off2, rfl, hbl2, hcs2⟩ := hb.get uEnc ht2
      have hc1 : wr.drew.cell? ⟨b, off + i, none⟩ = some (.int .u64 (s : Int)) := by simpa using (hcs.below hbw.drew hbl).at (j := 0) (u := .int .u64 (s : Int)) rfl
      have hc3 : wr.drew.cell? ⟨b2, off2 + i, none⟩ = some (.int .u64 (t : Int)) := by simpa using (hcs2.below hbw.drew hbl2).at (j := 0) (u := .int .u64 (t : Int)) rfl
      by_cases hst : s = t
      · (refine CC.seq ?_; refine CC.region ?_; refine LL.val (R.ltT rfl rfl rfl (by omega)) rfl rfl rfl ?_; refine LL.nilS ?_; refine CC.seq ?_; refine CC.yes rfl ?_; refine CC.skip ?_; refine EE.thenN ?_; refine CC.seq ?_; refine CC.block ?_; refine CC.seq ?_; refine CC.region ?_; refine LL.val (R.move rfl rfl) rfl rfl rfl ?_; refine LL.val (R.assign rfl rfl) rfl rfl rfl ?_; refine LL.nilS ?_; refine CC.seq ?_)
        refine CC.quiet (by kernel_rfl) (by kernel_rfl) ?_
        (refine SS.val (R.move rfl rfl) rfl rfl ?_; refine SS.val (R.move rfl rfl) rfl rfl ?_; refine SS.val (R.index rfl rfl rfl (I.ixS1 rfl (by omega))) rfl rfl ?_; refine SS.val (R.load rfl rfl (I.ld1 rfl (by assumption))) rfl rfl ?_; refine SS.val (R.move rfl rfl) rfl rfl ?_; refine SS.val (R.move rfl rfl) rfl rfl ?_; refine SS.val (R.index rfl rfl rfl (I.ixS1 rfl (by omega))) rfl rfl ?_; refine SS.val (R.load rfl rfl (I.ld1 rfl (by assumption))) rfl rfl ?_; refine SS.val (R.neF rfl rfl rfl (by omega)) rfl rfl ?_; refine SS.nilQ ?_)
        (refine EE.thenN ?_; refine CC.no rfl ?_; refine CC.skip ?_; refine EE.inN ?_; refine EE.thenN ?_; refine CC.region ?_; refine LL.val (R.addNc rfl rfl rfl rfl (by omega)) rfl rfl rfl ?_; refine LL.val (R.move rfl rfl) rfl rfl rfl ?_; refine LL.nil ?_)
        exact EE.round (i + 1) ⟨rfl, rfl, rfl, rfl, rfl, trivial⟩ ⟨hbw.drew, by omega, by rw [List.take_add_one, List.take_add_one, ht, hs, ht2, hst]⟩ (by omega)
      · (refine CC.seq ?_; refine CC.region ?_; refine LL.val (R.ltT rfl rfl rfl (by omega)) rfl rfl rfl ?_; refine LL.nilS ?_; refine CC.seq ?_; refine CC.yes rfl ?_; refine CC.skip ?_; refine EE.thenN ?_; refine CC.seq ?_; refine CC.block ?_; refine CC.seq ?_; refine CC.region ?_; refine LL.val (R.move rfl rfl) rfl rfl rfl ?_; refine LL.val (R.assign rfl rfl) rfl rfl rfl ?_; refine LL.nilS ?_; refine CC.seq ?_)
        refine CC.quiet (by kernel_rfl) (by kernel_rfl) ?_
        (refine SS.val (R.move rfl rfl) rfl rfl ?_; refine SS.val (R.move rfl rfl) rfl rfl ?_; refine SS.val (R.index rfl rfl rfl (I.ixS1 rfl (by omega))) rfl rfl ?_; refine SS.val (R.load rfl rfl (I.ld1 rfl (by assumption))) rfl rfl ?_; refine SS.val (R.move rfl rfl) rfl rfl ?_; refine SS.val (R.move rfl rfl) rfl rfl ?_; refine SS.val (R.index rfl rfl rfl (I.ixS1 rfl (by omega))) rfl rfl ?_; refine SS.val (R.load rfl rfl (I.ld1 rfl (by assumption))) rfl rfl ?_; refine SS.val (R.neT rfl rfl rfl (by omega)) rfl rfl ?_; refine SS.nilQ ?_)
        (refine EE.thenN ?_; refine CC.yes rfl ?_; refine CC.seq ?_; refine CC.region ?_; refine LL.val (R.assign rfl rfl) rfl rfl rfl ?_; refine LL.nilS ?_; refine CC.ret ?_; refine EE.inR ?_; refine EE.thenR ?_; refine EE.thenR ?_; refine EE.inR ?_; refine EE.thenR ?_)
        refine EE.ret _ rfl rfl ?_
        refine ⟨?_, hbw.drew⟩
        have : xs ≠ ys := fun e => hst (by rw [e, ht2] at hs; exact (Option.some.inj hs).symm)
        simp [resV, this]
    · obtain rfl : i = N := by omega
      rw [List.take_of_length_le (by omega), List.take_of_length_le (by omega)] at ht
      (refine CC.seq ?_; refine CC.region ?_; refine LL.val (R.ltF rfl rfl rfl (by omega)) rfl rfl rfl ?_; refine LL.nilS ?_; refine CC.seq ?_; refine CC.no rfl ?_; refine CC.exit ?_; refine EE.thenX ?_; refine EE.thenX ?_; refine EE.inX ?_; refine EE.thenN ?_; refine CC.seq ?_; refine CC.region ?_; refine LL.val (R.assign rfl rfl) rfl rfl rfl ?_; refine LL.nilS ?_; refine CC.ret ?_)
      refine EE.ret _ rfl rfl ?_
      exact ⟨by simp [resV, ht], hbw⟩
  · (refine CC.seq ?_; refine CC.region ?_; refine LL.val (R.assign rfl rfl) rfl rfl rfl ?_; refine LL.nilS ?_; refine CC.seq ?_; refine CC.seq ?_; refine CC.region ?_; refine LL.val (R.move rfl rfl) rfl rfl rfl ?_; refine LL.val (R.len rfl rfl rfl rfl) rfl rfl rfl ?_; refine LL.val (R.move rfl rfl) rfl rfl rfl ?_; refine LL.val (R.len rfl rfl rfl rfl) rfl rfl rfl ?_; refine LL.val (R.neT rfl rfl rfl (by omega)) rfl rfl rfl ?_; refine LL.nilS ?_; refine CC.yes rfl ?_; refine CC.seq ?_; refine CC.region ?_; refine LL.val (R.assign rfl rfl) rfl rfl rfl ?_; refine LL.nilS ?_; refine CC.ret ?_; refine EE.thenR ?_)
    refine EE.ret _ rfl rfl ?_
    have : xs ≠ ys := fun e => hne (by rw [← hN, ← hN2, e])
    exact ⟨by simp [resV, this], Below.refl _ _⟩

set_option maxRecDepth 100000 in
set_option maxHeartbeats 2000000 in
theorem wsame_any (va vb : Value) (xs ys : List Nat) (w : World) (ha : ReadsT uE 1 w va xs) (hb : ReadsT uE 1 w vb ys) (hlx : xs.length ≤ 1048576) (hly : ys.length ≤ 1048576) :
    Calls Try.prog 14 #[va, vb] w fun e w' => e = .returned (.bool (decide (xs = ys))) ∧ Below w.heap.size w w' := by
  obtain ⟨N, hN⟩ : ∃ N, xs.length = N := ⟨_, rfl⟩
  obtain ⟨N2, hN2⟩ : ∃ N2, ys.length = N2 := ⟨_, rfl⟩
  obtain ⟨a, cap, rfl, hc⟩ := ha.form hN
  obtain ⟨a2, cap2, rfl, hc2⟩ := hb.form hN2
  rw [hN] at hlx
  rw [hN2] at hly
  refine X.fn Try.func14 rfl (n := 26) rfl rfl ?_
  by_cases hne : N = N2
  · subst hne
    (refine CC.seq ?_; refine CC.region ?_; refine LL.val (R.assign rfl rfl) rfl rfl rfl ?_; refine LL.nilS ?_; refine CC.seq ?_; refine CC.seq ?_; refine CC.region ?_; refine LL.val (R.move rfl rfl) rfl rfl rfl ?_; refine LL.val (R.len rfl rfl rfl rfl) rfl rfl rfl ?_; refine LL.val (R.move rfl rfl) rfl rfl rfl ?_; refine LL.val (R.len rfl rfl rfl rfl) rfl rfl rfl ?_; refine LL.val (R.neF rfl rfl rfl (by omega)) rfl rfl rfl ?_; refine LL.nilS ?_; refine CC.no rfl ?_; refine CC.skip ?_; refine EE.thenN ?_; refine CC.seq ?_; refine CC.seq ?_; refine CC.region ?_; refine LL.val (R.assign rfl rfl) rfl rfl rfl ?_; refine LL.nilS ?_; refine CC.block ?_)
    refine CC.loop (α := Nat) (fun i => [(0, .slice a N cap), (1, .slice a2 N cap2), (4, .bool false), (5, .int .i64 (i : Int))]) (fun i wr => Below w.heap.size w wr ∧ i ≤ N ∧ xs.take i = ys.take i) (fun i => N - i) 0 ⟨rfl, rfl, rfl, rfl, trivial⟩ ⟨Below.refl _ _, by omega, by simp⟩ ?_
    intro i wr ⟨hbw, hi, ht⟩
    by_cases h1 : i < N
    · obtain ⟨s, hs⟩ : ∃ s, xs[i]? = some s := ⟨_, List.getElem?_eq_getElem (by omega)⟩
      obtain ⟨t, ht2⟩ : ∃ t, ys[i]? = some t := ⟨_, List.getElem?_eq_getElem (by omega)⟩
      obtain ⟨b, off, rfl, hbl, hcs⟩ := ha.get uEnc hs
      obtain ⟨b2, off2, rfl, hbl2, hcs2⟩ := hb.get uEnc ht2
      have hc1 : wr.drew.cell? ⟨b, off + i, none⟩ = some (.int .u64 (s : Int)) := by simpa using (hcs.below hbw.drew hbl).at (j := 0) (u := .int .u64 (s : Int)) rfl
      have hc3 : wr.drew.cell? ⟨b2, off2 + i, none⟩ = some (.int .u64 (t : Int)) := by simpa using (hcs2.below hbw.drew hbl2).at (j := 0) (u := .int .u64 (t : Int)) rfl
      by_cases hst : s = t
      · (refine CC.seq ?_; refine CC.seq ?_; refine CC.region ?_; refine LL.val (R.move rfl rfl) rfl rfl rfl ?_; refine LL.val (R.move rfl rfl) rfl rfl rfl ?_; refine LL.val (R.len rfl rfl rfl rfl) rfl rfl rfl ?_; refine LL.val (R.ltT rfl rfl rfl (by omega)) rfl rfl rfl ?_; refine LL.nilS ?_; refine CC.yes rfl ?_; refine CC.skip ?_; refine EE.thenN ?_; refine CC.seq ?_; refine CC.block ?_; refine CC.seq ?_)
        refine CC.quiet (by kernel_rfl) (by kernel_rfl) ?_
        (refine SS.val (R.move rfl rfl) rfl rfl ?_; refine SS.val (R.move rfl rfl) rfl rfl ?_; refine SS.val (R.index rfl rfl rfl (I.ixS1 rfl (by omega))) rfl rfl ?_; refine SS.val (R.load rfl rfl (I.ld1 rfl (by assumption))) rfl rfl ?_; refine SS.val (R.move rfl rfl) rfl rfl ?_; refine SS.val (R.move rfl rfl) rfl rfl ?_; refine SS.val (R.index rfl rfl rfl (I.ixS1 rfl (by omega))) rfl rfl ?_; refine SS.val (R.load rfl rfl (I.ld1 rfl (by assumption))) rfl rfl ?_; refine SS.val (R.neF rfl rfl rfl (by omega)) rfl rfl ?_; refine SS.nilQ ?_)
        (refine EE.thenN ?_; refine CC.no rfl ?_; refine CC.skip ?_; refine EE.inN ?_; refine EE.thenN ?_; refine CC.region ?_; refine LL.val (R.move rfl rfl) rfl rfl rfl ?_; refine LL.val (R.addNc rfl rfl rfl rfl (by omega)) rfl rfl rfl ?_; refine LL.val (R.assign rfl rfl) rfl rfl rfl ?_; refine LL.nil ?_)
        exact EE.round (i + 1) ⟨rfl, rfl, rfl, rfl, trivial⟩ ⟨hbw.drew, by omega, by rw [List.take_add_one, List.take_add_one, ht, hs, ht2, hst]⟩ (by omega)
      · (refine CC.seq ?_; refine CC.seq ?_; refine CC.region ?_; refine LL.val (R.move rfl rfl) rfl rfl rfl ?_; refine LL.val (R.move rfl rfl) rfl rfl rfl ?_; refine LL.val (R.len rfl rfl rfl rfl) rfl rfl rfl ?_; refine LL.val (R.ltT rfl rfl rfl (by omega)) rfl rfl rfl ?_; refine LL.nilS ?_; refine CC.yes rfl ?_; refine CC.skip ?_; refine EE.thenN ?_; refine CC.seq ?_; refine CC.block ?_; refine CC.seq ?_)
        refine CC.quiet (by kernel_rfl) (by kernel_rfl) ?_
        (refine SS.val (R.move rfl rfl) rfl rfl ?_; refine SS.val (R.move rfl rfl) rfl rfl ?_; refine SS.val (R.index rfl rfl rfl (I.ixS1 rfl (by omega))) rfl rfl ?_; refine SS.val (R.load rfl rfl (I.ld1 rfl (by assumption))) rfl rfl ?_; refine SS.val (R.move rfl rfl) rfl rfl ?_; refine SS.val (R.move rfl rfl) rfl rfl ?_; refine SS.val (R.index rfl rfl rfl (I.ixS1 rfl (by omega))) rfl rfl ?_; refine SS.val (R.load rfl rfl (I.ld1 rfl (by assumption))) rfl rfl ?_; refine SS.val (R.neT rfl rfl rfl (by omega)) rfl rfl ?_; refine SS.nilQ ?_)
        (refine EE.thenN ?_; refine CC.yes rfl ?_; refine CC.seq ?_; refine CC.region ?_; refine LL.val (R.assign rfl rfl) rfl rfl rfl ?_; refine LL.nilS ?_; refine CC.ret ?_; refine EE.inR ?_; refine EE.thenR ?_; refine EE.thenR ?_; refine EE.inR ?_; refine EE.thenR ?_)
        refine EE.ret _ rfl rfl ?_
        refine ⟨?_, hbw.drew⟩
        have : xs ≠ ys := fun e => hst (by rw [e, ht2] at hs; exact (Option.some.inj hs).symm)
        simp [resV, this]
    · obtain rfl : i = N := by omega
      rw [List.take_of_length_le (by omega), List.take_of_length_le (by omega)] at ht
      (refine CC.seq ?_; refine CC.seq ?_; refine CC.region ?_; refine LL.val (R.move rfl rfl) rfl rfl rfl ?_; refine LL.val (R.move rfl rfl) rfl rfl rfl ?_; refine LL.val (R.len rfl rfl rfl rfl) rfl rfl rfl ?_; refine LL.val (R.ltF rfl rfl rfl (by omega)) rfl rfl rfl ?_; refine LL.nilS ?_; refine CC.no rfl ?_; refine CC.exit ?_; refine EE.thenX ?_; refine EE.thenX ?_; refine EE.inX ?_; refine EE.thenN ?_; refine CC.seq ?_; refine CC.region ?_; refine LL.val (R.assign rfl rfl) rfl rfl rfl ?_; refine LL.nilS ?_; refine CC.ret ?_)
      refine EE.ret _ rfl rfl ?_
      exact ⟨by simp [resV, ht], hbw⟩
  · (refine CC.seq ?_; refine CC.region ?_; refine LL.val (R.assign rfl rfl) rfl rfl rfl ?_; refine LL.nilS ?_; refine CC.seq ?_; refine CC.seq ?_; refine CC.region ?_; refine LL.val (R.move rfl rfl) rfl rfl rfl ?_; refine LL.val (R.len rfl rfl rfl rfl) rfl rfl rfl ?_; refine LL.val (R.move rfl rfl) rfl rfl rfl ?_; refine LL.val (R.len rfl rfl rfl rfl) rfl rfl rfl ?_; refine LL.val (R.neT rfl rfl rfl (by omega)) rfl rfl rfl ?_; refine LL.nilS ?_; refine CC.yes rfl ?_; refine CC.seq ?_; refine CC.region ?_; refine LL.val (R.assign rfl rfl) rfl rfl rfl ?_; refine LL.nilS ?_; refine CC.ret ?_; refine EE.thenR ?_)
    refine EE.ret _ rfl rfl ?_
    have : xs ≠ ys := fun e => hne (by rw [← hN, ← hN2, e])
    exact ⟨by simp [resV, this], Below.refl _ _⟩

theorem bsame_nil (w : World) (p q : Option Addr) (h : Calls Try.prog 29 #[.pointer p] w fun e w' => e = .returned (.bool true) ∧ w = w') (h' : Calls Try.prog 29 #[.pointer q] w fun e w' => e = .returned (.bool true) ∧ w = w') : Calls Try.prog 15 #[.pointer p, .pointer q] w fun e w' => e = .returned (.bool true) ∧ w = w' := by
  refine X.fn Try.func15 rfl (n := 39) rfl rfl ?_
  (refine CC.seq ?_; refine CC.region ?_; refine LL.val (R.assign rfl rfl) rfl rfl rfl ?_; refine LL.nilS ?_; refine CC.seq ?_; refine CC.seq ?_; refine CC.region ?_; refine LL.val (R.move rfl rfl) rfl rfl rfl ?_)
  refine LL.call (R.call rfl rfl rfl) rfl rfl rfl h ?_
  rintro e w1 ⟨rfl, rfl⟩
  refine ⟨_, rfl, ?_⟩
  (refine LL.val (R.move rfl rfl) rfl rfl rfl ?_; refine LL.skip rfl rfl ?_; refine LL.skip rfl rfl ?_; refine LL.val (R.pick rfl rfl rfl) rfl rfl rfl ?_; refine LL.nilS ?_; refine CC.yes rfl ?_; refine CC.seq ?_; refine CC.region ?_; refine LL.val (R.move rfl rfl) rfl rfl rfl ?_)
  refine LL.call (R.call rfl rfl rfl) rfl rfl rfl h ?_
  rintro e w1 ⟨rfl, rfl⟩
  refine ⟨_, rfl, ?_⟩
  (refine LL.val (R.move rfl rfl) rfl rfl rfl ?_; refine LL.val (R.move rfl rfl) rfl rfl rfl ?_)
  refine LL.call (R.call rfl rfl rfl) rfl rfl rfl h' ?_
  rintro e w1 ⟨rfl, rfl⟩
  refine ⟨_, rfl, ?_⟩
  (refine LL.val (R.pick rfl rfl rfl) rfl rfl rfl ?_; refine LL.val (R.assign rfl rfl) rfl rfl rfl ?_; refine LL.nilS ?_; refine CC.ret ?_; refine EE.thenR ?_)
  refine EE.ret _ rfl rfl ?_
  exact ⟨rfl, rfl⟩
theorem bsame_right (w : World) (p q : Option Addr) (h : Calls Try.prog 29 #[.pointer p] w fun e w' => e = .returned (.bool false) ∧ w = w') (h' : Calls Try.prog 29 #[.pointer q] w fun e w' => e = .returned (.bool true) ∧ w = w') : Calls Try.prog 15 #[.pointer p, .pointer q] w fun e w' => e = .returned (.bool false) ∧ w = w' := by
  refine X.fn Try.func15 rfl (n := 39) rfl rfl ?_
  (refine CC.seq ?_; refine CC.region ?_; refine LL.val (R.assign rfl rfl) rfl rfl rfl ?_; refine LL.nilS ?_; refine CC.seq ?_; refine CC.seq ?_; refine CC.region ?_; refine LL.val (R.move rfl rfl) rfl rfl rfl ?_)
  refine LL.call (R.call rfl rfl rfl) rfl rfl rfl h ?_
  rintro e w1 ⟨rfl, rfl⟩
  refine ⟨_, rfl, ?_⟩
  (refine LL.val (R.move rfl rfl) rfl rfl rfl ?_; refine LL.val (R.move rfl rfl) rfl rfl rfl ?_)
  refine LL.call (R.call rfl rfl rfl) rfl rfl rfl h' ?_
  rintro e w1 ⟨rfl, rfl⟩
  refine ⟨_, rfl, ?_⟩
  (refine LL.val (R.pick rfl rfl rfl) rfl rfl rfl ?_; refine LL.nilS ?_; refine CC.yes rfl ?_; refine CC.seq ?_; refine CC.region ?_; refine LL.val (R.move rfl rfl) rfl rfl rfl ?_)
  refine LL.call (R.call rfl rfl rfl) rfl rfl rfl h ?_
  rintro e w1 ⟨rfl, rfl⟩
  refine ⟨_, rfl, ?_⟩
  (refine LL.val (R.move rfl rfl) rfl rfl rfl ?_; refine LL.skip rfl rfl ?_; refine LL.skip rfl rfl ?_; refine LL.val (R.pick rfl rfl rfl) rfl rfl rfl ?_; refine LL.val (R.assign rfl rfl) rfl rfl rfl ?_; refine LL.nilS ?_; refine CC.ret ?_; refine EE.thenR ?_)
  refine EE.ret _ rfl rfl ?_
  exact ⟨rfl, rfl⟩
theorem bsame_left (w : World) (p q : Option Addr) (h : Calls Try.prog 29 #[.pointer p] w fun e w' => e = .returned (.bool true) ∧ w = w') (h' : Calls Try.prog 29 #[.pointer q] w fun e w' => e = .returned (.bool false) ∧ w = w') : Calls Try.prog 15 #[.pointer p, .pointer q] w fun e w' => e = .returned (.bool false) ∧ w = w' := by
  refine X.fn Try.func15 rfl (n := 39) rfl rfl ?_
  (refine CC.seq ?_; refine CC.region ?_; refine LL.val (R.assign rfl rfl) rfl rfl rfl ?_; refine LL.nilS ?_; refine CC.seq ?_; refine CC.seq ?_; refine CC.region ?_; refine LL.val (R.move rfl rfl) rfl rfl rfl ?_)
  refine LL.call (R.call rfl rfl rfl) rfl rfl rfl h ?_
  rintro e w1 ⟨rfl, rfl⟩
  refine ⟨_, rfl, ?_⟩
  (refine LL.val (R.move rfl rfl) rfl rfl rfl ?_; refine LL.skip rfl rfl ?_; refine LL.skip rfl rfl ?_; refine LL.val (R.pick rfl rfl rfl) rfl rfl rfl ?_; refine LL.nilS ?_; refine CC.yes rfl ?_; refine CC.seq ?_; refine CC.region ?_; refine LL.val (R.move rfl rfl) rfl rfl rfl ?_)
  refine LL.call (R.call rfl rfl rfl) rfl rfl rfl h ?_
  rintro e w1 ⟨rfl, rfl⟩
  refine ⟨_, rfl, ?_⟩
  (refine LL.val (R.move rfl rfl) rfl rfl rfl ?_; refine LL.val (R.move rfl rfl) rfl rfl rfl ?_)
  refine LL.call (R.call rfl rfl rfl) rfl rfl rfl h' ?_
  rintro e w1 ⟨rfl, rfl⟩
  refine ⟨_, rfl, ?_⟩
  (refine LL.val (R.pick rfl rfl rfl) rfl rfl rfl ?_; refine LL.val (R.assign rfl rfl) rfl rfl rfl ?_; refine LL.nilS ?_; refine CC.ret ?_; refine EE.thenR ?_)
  refine EE.ret _ rfl rfl ?_
  exact ⟨rfl, rfl⟩
set_option maxRecDepth 100000 in
set_option maxHeartbeats 4000000 in
theorem bsame_any {K K' : Nat → Prop} {g g' bits bits' : Nat} {v v' : Value} {ws ws' : List Nat} (w : World) (h : BmAt w K g v bits ws) (h' : BmAt w K' g' v' bits' ws') :
    Calls Try.prog 15 #[.pointer (some ⟨g, 0, none⟩), .pointer (some ⟨g', 0, none⟩)] w fun e w' => e = .returned (.bool (decide (bits = bits' ∧ ws = ws'))) ∧ Below w.heap.size w w' := by
  have hgl := h.row.lt
  have hgl' := h'.row.lt
  have hlen := h.len
  have hhi := h.hi
  have hlen' := h'.len
  have hhi' := h'.hi
  refine X.fn Try.func15 rfl (n := 39) rfl rfl ?_
  (refine CC.seq ?_; refine CC.region ?_; refine LL.val (R.assign rfl rfl) rfl rfl rfl ?_; refine LL.nilS ?_; refine CC.seq ?_; refine CC.seq ?_; refine CC.region ?_; refine LL.val (R.move rfl rfl) rfl rfl rfl ?_)
  refine LL.call (R.call rfl rfl rfl) rfl rfl rfl (bnone_made _ h) ?_
  rintro e w1 ⟨rfl, rfl⟩
  refine ⟨_, rfl, ?_⟩
  (refine LL.val (R.move rfl rfl) rfl rfl rfl ?_; refine LL.val (R.move rfl rfl) rfl rfl rfl ?_)
  refine LL.call (R.call rfl rfl rfl) rfl rfl rfl (bnone_made _ h') ?_
  rintro e w1 ⟨rfl, rfl⟩
  refine ⟨_, rfl, ?_⟩
  (refine LL.val (R.pick rfl rfl rfl) rfl rfl rfl ?_; refine LL.nilS ?_; refine CC.no rfl ?_; refine CC.skip ?_; refine EE.thenN ?_; refine CC.seq ?_)
  have ok0 : Below w.heap.size w w.drew := below_drew
  have c0 : ∀ w', Below w.heap.size w w' → w'.cell? ⟨g, 0, none⟩ = some v := fun w' hw' => (h.row.below hw' hgl).cell rfl
  have c1 : ∀ w', Below w.heap.size w w' → w'.cell? ⟨g, 1, none⟩ = some (.int .i64 (bits : Int)) := fun w' hw' => (h.row.below hw' hgl).cell rfl
  have d0 : ∀ w', Below w.heap.size w w' → w'.cell? ⟨g', 0, none⟩ = some v' := fun w' hw' => (h'.row.below hw' hgl').cell rfl
  have d1 : ∀ w', Below w.heap.size w w' → w'.cell? ⟨g', 1, none⟩ = some (.int .i64 (bits' : Int)) := fun w' hw' => (h'.row.below hw' hgl').cell rfl
  refine CC.free (Below w.heap.size w) (by kernel_rfl) rfl ?_
  (refine AA.pure 0 rfl (by assumption) (by kernel_rfl) (fun w' hw' => R.move rfl rfl) rfl rfl ?_)
  (refine AA.pure 1 rfl (by assumption) (by kernel_rfl) (fun w' hw' => R.nil rfl rfl) rfl rfl ?_)
  (refine AA.pure 2 rfl (by assumption) (by kernel_rfl) (fun w' hw' => R.field rfl rfl (I.fld rfl)) rfl rfl ?_)
  refine AA.pure 3 rfl (by assumption) (by kernel_rfl) (fun w' hw' => R.load rfl rfl (I.ld1 rfl (c1 w' hw'))) rfl rfl ?_
  (refine AA.pure 4 rfl (by assumption) (by kernel_rfl) (fun w' hw' => R.move rfl rfl) rfl rfl ?_)
  (refine AA.pure 5 rfl (by assumption) (by kernel_rfl) (fun w' hw' => R.nil rfl rfl) rfl rfl ?_)
  (refine AA.pure 6 rfl (by assumption) (by kernel_rfl) (fun w' hw' => R.field rfl rfl (I.fld rfl)) rfl rfl ?_)
  refine AA.pure 7 rfl (by assumption) (by kernel_rfl) (fun w' hw' => R.load rfl rfl (I.ld1 rfl (d1 w' hw'))) rfl rfl ?_
  by_cases hb : bits = bits'
  · refine AA.pure 8 rfl (by assumption) (by kernel_rfl) (fun w' hw' => R.eqT rfl rfl rfl (by omega)) rfl rfl ?_
    (refine AA.pure 9 rfl (by assumption) (by kernel_rfl) (fun w' hw' => R.move rfl rfl) rfl rfl ?_)
    (refine AA.pure 10 rfl (by assumption) (by kernel_rfl) (fun w' hw' => R.move rfl rfl) rfl rfl ?_)
    (refine AA.pure 11 rfl (by assumption) (by kernel_rfl) (fun w' hw' => R.nil rfl rfl) rfl rfl ?_)
    (refine AA.pure 12 rfl (by assumption) (by kernel_rfl) (fun w' hw' => R.field rfl rfl (I.fld rfl)) rfl rfl ?_)
    (refine AA.pure 13 rfl (by assumption) (by kernel_rfl) (fun w' hw' => R.field rfl rfl (I.fld rfl)) rfl rfl ?_)
    refine AA.pure 14 rfl (by assumption) (by kernel_rfl) (fun w' hw' => R.load rfl rfl (I.ld1 rfl (c0 w' hw'))) rfl rfl ?_
    (refine AA.pure 15 rfl (by assumption) (by kernel_rfl) (fun w' hw' => R.move rfl rfl) rfl rfl ?_)
    (refine AA.pure 16 rfl (by assumption) (by kernel_rfl) (fun w' hw' => R.nil rfl rfl) rfl rfl ?_)
    (refine AA.pure 17 rfl (by assumption) (by kernel_rfl) (fun w' hw' => R.field rfl rfl (I.fld rfl)) rfl rfl ?_)
    (refine AA.pure 18 rfl (by assumption) (by kernel_rfl) (fun w' hw' => R.field rfl rfl (I.fld rfl)) rfl rfl ?_)
    refine AA.pure 19 rfl (by assumption) (by kernel_rfl) (fun w' hw' => R.load rfl rfl (I.ld1 rfl (d0 w' hw'))) rfl rfl ?_
    refine AA.one 20 (by kernel_rfl) ?_
    refine SR.call rfl (R.call rfl rfl rfl) rfl rfl (uequal_any v v' ws ws' w.drew ((h.list.reads uEnc).below ok0) ((h'.list.reads uEnc).below ok0) (by omega) (by omega)) ?_
    rintro e w3 ⟨rfl, b3⟩
    have q3 : Below w.heap.size w w3 := ok0.trans (b3.mono (Nat.le_refl _))
    refine ⟨_, rfl, q3, ?_⟩
    (refine AA.pure 21 rfl (by assumption) (by kernel_rfl) (fun w' hw' => R.pick rfl rfl rfl) rfl rfl ?_)
    (refine AA.pure 22 rfl (by assumption) (by kernel_rfl) (fun w' hw' => R.assign rfl rfl) rfl rfl ?_)
    refine AA.done (by kernel_rfl) ?_
    (refine EE.thenN ?_; refine CC.ret ?_)
    refine EE.ret _ rfl rfl ?_
    refine ⟨?_, q3⟩
    have : decide (bits = bits' ∧ ws = ws') = decide (ws = ws') := by
      rw [Bool.eq_iff_iff, decide_eq_true_eq, decide_eq_true_eq]
      exact ⟨fun h => h.2, fun h => ⟨hb, h⟩⟩
    rw [this]
    rfl
  · refine AA.pure 8 rfl (by assumption) (by kernel_rfl) (fun w' hw' => R.eqF rfl rfl rfl (by omega)) rfl rfl ?_
    (refine AA.pure 9 rfl (by assumption) (by kernel_rfl) (fun w' hw' => R.move rfl rfl) rfl rfl ?_)
    refine AA.off 10 rfl (by assumption) (by kernel_rfl) rfl rfl ?_
    refine AA.off 11 rfl (by assumption) (by kernel_rfl) rfl rfl ?_
    refine AA.off 12 rfl (by assumption) (by kernel_rfl) rfl rfl ?_
    refine AA.off 13 rfl (by assumption) (by kernel_rfl) rfl rfl ?_
    refine AA.off 14 rfl (by assumption) (by kernel_rfl) rfl rfl ?_
    refine AA.off 15 rfl (by assumption) (by kernel_rfl) rfl rfl ?_
    refine AA.off 16 rfl (by assumption) (by kernel_rfl) rfl rfl ?_
    refine AA.off 17 rfl (by assumption) (by kernel_rfl) rfl rfl ?_
    refine AA.off 18 rfl (by assumption) (by kernel_rfl) rfl rfl ?_
    refine AA.off 19 rfl (by assumption) (by kernel_rfl) rfl rfl ?_
    refine AA.off 20 rfl (by assumption) (by kernel_rfl) rfl rfl ?_
    (refine AA.pure 21 rfl (by assumption) (by kernel_rfl) (fun w' hw' => R.pick rfl rfl rfl) rfl rfl ?_)
    (refine AA.pure 22 rfl (by assumption) (by kernel_rfl) (fun w' hw' => R.assign rfl rfl) rfl rfl ?_)
    refine AA.done (by kernel_rfl) ?_
    (refine EE.thenN ?_; refine CC.ret ?_)
    refine EE.ret _ rfl rfl ?_
    exact ⟨by rw [decide_eq_false (fun e : bits = bits' ∧ ws = ws' => hb e.1)]; rfl, ok0⟩
end Go.Proofs.Ytojoaplbgcdapaa
