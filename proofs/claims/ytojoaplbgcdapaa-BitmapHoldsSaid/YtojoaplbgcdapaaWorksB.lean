/- The statements' num and works. -/
import Derived.Test.YtojoaplbgcdapaaOf
namespace Go.Proofs.Ytojoaplbgcdapaa
set_option linter.unusedVariables false
set_option linter.unusedSimpArgs false
open Go.RowKit Go.Shelf

theorem num_any (e : Int) (w : World) : Calls Try.prog 11 #[.int .i64 e] w fun r w' => r = .returned (.int .i64 e) ∧ w = w' := by
  refine X.fn Try.func11 rfl (n := 4) rfl rfl ?_
  (refine CC.seq ?_; refine CC.region ?_; refine LL.val (R.assign rfl rfl) rfl rfl rfl ?_; refine LL.nilS ?_; refine CC.seq ?_; refine CC.region ?_; refine LL.val (R.move rfl rfl) rfl rfl rfl ?_; refine LL.val (R.assign rfl rfl) rfl rfl rfl ?_; refine LL.nilS ?_; refine CC.ret ?_)
  refine EE.ret _ rfl rfl ?_
  exact ⟨rfl, rfl⟩
theorem bk1 : spanP 10 2 3 = 0 := by decide
theorem bk2 : runP (List.replicate ((10 + 63) / 64) 0) 10 2 3 true = [28] := by kernel_rfl
theorem bk3 : findP (fun i => wb [28] i == false) 10 2 1 = (5, 0) := by kernel_rfl
theorem bk4 : findP (fun i => wb [28] i == false) 10 3 1 = (5, 0) := by kernel_rfl
theorem bk5 : findP (fun i => wb [28] i == false) 10 6 0 = (0, 5) := by kernel_rfl
theorem bk6 : spanP 10 9 2 = 4 := by decide
theorem bk7 : runP [28] 10 9 2 true = [28] := by kernel_rfl
theorem bk8 : onesW [28] = 3 := by kernel_rfl

set_option maxRecDepth 100000 in
set_option maxHeartbeats 8000000 in
theorem works_any (w : World) : Calls Try.prog 8 #[] w fun e w' => e = .returned (.bool true) ∧ Below w.heap.size w w' := by
  refine X.fn Try.func8 rfl (n := 73) rfl rfl ?_
  (refine CC.seq ?_; refine CC.region ?_; refine LL.val (R.assign rfl rfl) rfl rfl rfl ?_; refine LL.nilS ?_; refine CC.seq ?_; refine CC.region ?_)
  refine LL.call (R.call rfl rfl rfl) rfl rfl rfl (bnew_any 10 w (by omega)) ?_
  rintro e w1 ⟨g, v, rfl, h1, hg, b1⟩
  refine ⟨_, rfl, ?_⟩
  have H2 := mset_made 2 3 w1 h1 (by decide)
  rw [bk1, bk2] at H2
  (refine LL.val (R.move rfl rfl) rfl rfl rfl ?_; refine LL.val (R.extract rfl rfl rfl) rfl rfl rfl ?_; refine LL.val (R.extract rfl rfl rfl) rfl rfl rfl ?_; refine LL.val (R.assign rfl rfl) rfl rfl rfl ?_; refine LL.val (R.assign rfl rfl) rfl rfl rfl ?_; refine LL.nilS ?_; refine CC.seq ?_; refine CC.region ?_; refine LL.val (R.move rfl rfl) rfl rfl rfl ?_)
  refine LL.call (R.call rfl rfl rfl) rfl rfl rfl H2 ?_
  rintro e w2 ⟨rfl, h2, k2⟩
  refine ⟨_, rfl, ?_⟩
  have q2 : Below w.heap.size w w2 := b1.trans k2.bel
  have H3 := find_made 2 1 w2 h2
  rw [bk3] at H3
  (refine LL.val (R.assign rfl rfl) rfl rfl rfl ?_; refine LL.nilS ?_; refine CC.seq ?_; refine CC.region ?_; refine LL.val (R.move rfl rfl) rfl rfl rfl ?_)
  refine LL.call (R.call rfl rfl rfl) rfl rfl rfl H3 ?_
  rintro e w3 ⟨rfl, b3⟩
  refine ⟨_, rfl, ?_⟩
  have h3 := h2.below b3
  have q3 := q2.trans (b3.mono q2.size)
  have H4 := find_made 3 1 w3 h3
  rw [bk4] at H4
  (refine LL.val (R.move rfl rfl) rfl rfl rfl ?_; refine LL.val (R.extract rfl rfl rfl) rfl rfl rfl ?_; refine LL.val (R.extract rfl rfl rfl) rfl rfl rfl ?_; refine LL.val (R.assign rfl rfl) rfl rfl rfl ?_; refine LL.val (R.assign rfl rfl) rfl rfl rfl ?_; refine LL.nilS ?_; refine CC.seq ?_; refine CC.region ?_; refine LL.val (R.move rfl rfl) rfl rfl rfl ?_)
  refine LL.call (R.call rfl rfl rfl) rfl rfl rfl H4 ?_
  rintro e w4 ⟨rfl, b4⟩
  refine ⟨_, rfl, ?_⟩
  have h4 := h3.below b4
  have q4 := q3.trans (b4.mono q3.size)
  have H5 := find_made 6 0 w4 h4
  rw [bk5] at H5
  (refine LL.val (R.move rfl rfl) rfl rfl rfl ?_; refine LL.val (R.extract rfl rfl rfl) rfl rfl rfl ?_; refine LL.val (R.extract rfl rfl rfl) rfl rfl rfl ?_; refine LL.val (R.assign rfl rfl) rfl rfl rfl ?_; refine LL.val (R.assign rfl rfl) rfl rfl rfl ?_; refine LL.nilS ?_; refine CC.seq ?_; refine CC.region ?_; refine LL.val (R.move rfl rfl) rfl rfl rfl ?_)
  refine LL.call (R.call rfl rfl rfl) rfl rfl rfl H5 ?_
  rintro e w5 ⟨rfl, b5⟩
  refine ⟨_, rfl, ?_⟩
  have h5 := h4.below b5
  have q5 := q4.trans (b5.mono q4.size)
  (refine LL.val (R.move rfl rfl) rfl rfl rfl ?_; refine LL.val (R.extract rfl rfl rfl) rfl rfl rfl ?_; refine LL.val (R.extract rfl rfl rfl) rfl rfl rfl ?_; refine LL.val (R.assign rfl rfl) rfl rfl rfl ?_; refine LL.val (R.assign rfl rfl) rfl rfl rfl ?_; refine LL.nilS ?_; refine CC.seq ?_; refine CC.region ?_; refine LL.val (R.move rfl rfl) rfl rfl rfl ?_)
  refine LL.call (R.call rfl rfl rfl) rfl rfl rfl (num_any _ _) ?_
  rintro e w' ⟨rfl, rfl⟩
  refine ⟨_, rfl, ?_⟩
  (refine LL.val (R.move rfl rfl) rfl rfl rfl ?_)
  refine LL.call (R.call rfl rfl rfl) rfl rfl rfl (num_any _ _) ?_
  rintro e w' ⟨rfl, rfl⟩
  refine ⟨_, rfl, ?_⟩
  (refine LL.val (R.addI rfl rfl rfl (by omega)) rfl rfl rfl ?_; refine LL.val (R.move rfl rfl) rfl rfl rfl ?_)
  refine LL.call (R.call rfl rfl rfl) rfl rfl rfl (num_any _ _) ?_
  rintro e w' ⟨rfl, rfl⟩
  refine ⟨_, rfl, ?_⟩
  (refine LL.val (R.addI rfl rfl rfl (by omega)) rfl rfl rfl ?_; refine LL.val (R.move rfl rfl) rfl rfl rfl ?_)
  refine LL.call (R.call rfl rfl rfl) rfl rfl rfl (num_any _ _) ?_
  rintro e w' ⟨rfl, rfl⟩
  refine ⟨_, rfl, ?_⟩
  (refine LL.val (R.addI rfl rfl rfl (by omega)) rfl rfl rfl ?_; refine LL.val (R.eqT rfl rfl rfl (by omega)) rfl rfl rfl ?_; refine LL.val (R.move rfl rfl) rfl rfl rfl ?_; refine LL.val (R.move rfl rfl) rfl rfl rfl ?_; refine LL.val (R.eqT rfl rfl rfl (by omega)) rfl rfl rfl ?_; refine LL.val (R.pick rfl rfl rfl) rfl rfl rfl ?_; refine LL.val (R.move rfl rfl) rfl rfl rfl ?_; refine LL.val (R.move rfl rfl) rfl rfl rfl ?_; refine LL.val (R.eqT rfl rfl rfl (by omega)) rfl rfl rfl ?_; refine LL.val (R.pick rfl rfl rfl) rfl rfl rfl ?_; refine LL.val (R.move rfl rfl) rfl rfl rfl ?_; refine LL.val (R.move rfl rfl) rfl rfl rfl ?_)
  refine LL.call (R.call rfl rfl rfl) rfl rfl rfl (num_any _ _) ?_
  rintro e w' ⟨rfl, rfl⟩
  refine ⟨_, rfl, ?_⟩
  (refine LL.val (R.eqT rfl rfl rfl (by omega)) rfl rfl rfl ?_; refine LL.val (R.pick rfl rfl rfl) rfl rfl rfl ?_; refine LL.val (R.move rfl rfl) rfl rfl rfl ?_; refine LL.val (R.move rfl rfl) rfl rfl rfl ?_)
  have H6 := mset_made 9 2 w5 h5 (by decide)
  rw [bk6, bk7] at H6
  refine LL.call (R.call rfl rfl rfl) rfl rfl rfl H6 ?_
  rintro e w6 ⟨rfl, h6, k6⟩
  refine ⟨_, rfl, ?_⟩
  have q6 : Below w.heap.size w w6 := q5.trans k6.bel
  refine LL.call (R.call rfl rfl rfl) rfl rfl rfl (num_any _ _) ?_
  rintro e w' ⟨rfl, rfl⟩
  refine ⟨_, rfl, ?_⟩
  (refine LL.val (R.eqT rfl rfl rfl (by omega)) rfl rfl rfl ?_; refine LL.val (R.pick rfl rfl rfl) rfl rfl rfl ?_; refine LL.val (R.move rfl rfl) rfl rfl rfl ?_; refine LL.val (R.move rfl rfl) rfl rfl rfl ?_)
  have H7 := bleft_made w6 h6
  rw [bk8] at H7
  refine LL.call (R.call rfl rfl rfl) rfl rfl rfl H7 ?_
  rintro e w7 ⟨rfl, b7⟩
  refine ⟨_, rfl, ?_⟩
  have h7 := h6.below b7
  have q7 := q6.trans (b7.mono q6.size)
  (refine LL.val (R.eqT rfl rfl rfl (by omega)) rfl rfl rfl ?_; refine LL.val (R.pick rfl rfl rfl) rfl rfl rfl ?_; refine LL.val (R.move rfl rfl) rfl rfl rfl ?_; refine LL.val (R.move rfl rfl) rfl rfl rfl ?_)
  refine LL.call (R.call rfl rfl rfl) rfl rfl rfl (bwords_made w7 h7) ?_
  rintro e w8 ⟨v8, rfl, o8, b8⟩
  refine ⟨_, rfl, ?_⟩
  have q8 := q7.trans (b8.mono q7.size)
  refine LL.lit (e := 61) (uE 28) 1 rfl rfl (fun _ => by kernel_rfl) rfl rfl ?_
  intro w9 g9 e9 r9 z9 b9
  have rd9 : ReadsT uE 1 w9 (.slice (some ⟨g9, 0, none⟩) 1 1) [28] := RowL.readsT (ts := [28]) uEnc (by simpa using r9) 1 (by simp)
  have q9 := q8.trans (b9.mono q8.size)
  refine LL.call (R.call rfl rfl rfl) rfl rfl rfl (wsame_any _ _ _ _ w9 ((o8.below b9).reads uEnc) rd9 (by simp) (by simp)) ?_
  rintro e w10 ⟨rfl, b10⟩
  refine ⟨_, rfl, ?_⟩
  rw [decide_eq_true rfl]
  (refine LL.val (R.pick rfl rfl rfl) rfl rfl rfl ?_; refine LL.val (R.assign rfl rfl) rfl rfl rfl ?_; refine LL.nilS ?_; refine CC.ret ?_)
  refine EE.ret _ rfl rfl ?_
  exact ⟨rfl, q9.trans (b10.mono q9.size)⟩
end Go.Proofs.Ytojoaplbgcdapaa
