/- The statements' works. -/
import Derived.Test.YtcmgpfahpmkeoaaSto
namespace Go.Proofs.Ytcmgpfahpmkeoaa
set_option linter.unusedVariables false
set_option linter.unusedSimpArgs false
open Go.RowKit Go.Shelf

set_option maxRecDepth 100000 in
set_option maxHeartbeats 8000000 in
theorem works_any (w : World) : Calls Try.prog 6 #[] w fun e w' => e = .returned (.bool true) ∧ Below w.heap.size w w' := by
  have q := Below.refl w.heap.size w
  have e1 : orderP [(3, 7), (4, 8), (9, 1)] = [(1, 3, 7), (1, 4, 8), (2, 0, 0), (3, 0, 0), (1, 9, 1), (2, 1, 0), (3, 0, 0)] := by decide
  have e2 : orderN [(3, 7), (4, 8), (9, 1)] = 0 := by decide
  have e3 : ordP [(1, 3, 0), (3, 0, 0)] = false := by decide
  have e4 : ordP [(2, 0, 0)] = true := by decide
  have e5 : chkN [(3, 1, 0)] = 2 := by decide
  refine X.fn Try.func6 rfl (n := 47) rfl rfl ?_
  (refine CC.seq ?_; refine CC.region ?_; refine LL.val (R.assign rfl rfl) rfl rfl rfl ?_; refine LL.nilS ?_; refine CC.seq ?_; refine CC.region ?_)
  refine LL.val (R.buildV rfl rfl (v := .agg (pE (3, 7)).toArray) (fun _ => by kernel_rfl)) rfl rfl rfl ?_
  refine LL.val (R.buildV rfl rfl (v := .agg (pE (4, 8)).toArray) (fun _ => by kernel_rfl)) rfl rfl rfl ?_
  refine LL.val (R.buildV rfl rfl (v := .agg (pE (9, 1)).toArray) (fun _ => by kernel_rfl)) rfl rfl rfl ?_
  refine LL.lit (e := 56) (pE (3, 7) ++ (pE (4, 8) ++ pE (9, 1))) 3 rfl rfl (fun _ => by kernel_rfl) rfl rfl ?_
  intro W g eg r zg b
  have hsz_ := b.size
  replace q := q.trans (b.mono q.size)
  have rd : ReadsT pE 2 W (.slice (some ⟨g, 0, none⟩) 3 3) [(3, 7), (4, 8), (9, 1)] := RowL.readsT (ts := [(3, 7), (4, 8), (9, 1)]) pEnc (by simpa using r) 3 (by simp)
  clear r
  have H := order_any _ _ W rd (by decide) (by intro p hp; simp at hp; rcases hp with rfl | rfl | rfl <;> decide)
  rw [e1, e2] at H
  skip
  refine LL.call (R.call rfl rfl rfl) rfl rfl rfl (H) ?_
  rintro e W ⟨v, rfl, o, b⟩
  refine ⟨_, rfl, ?_⟩
  have hsz_ := b.size
  replace q := q.trans (b.mono q.size)
  have rd1 := o.reads aEnc
  obtain ⟨a1, cp1, rfl, _⟩ := rd1.form rfl
  clear o
  (refine LL.val (R.move rfl rfl) rfl rfl rfl ?_; refine LL.val (R.extract rfl rfl rfl) rfl rfl rfl ?_; refine LL.val (R.extract rfl rfl rfl) rfl rfl rfl ?_; refine LL.val (R.assign rfl rfl) rfl rfl rfl ?_; refine LL.val (R.assign rfl rfl) rfl rfl rfl ?_; refine LL.nilS ?_; refine CC.seq ?_; refine CC.region ?_)
  refine LL.val (R.buildV rfl rfl (v := .agg (aE (1, 3, 7)).toArray) (fun _ => by kernel_rfl)) rfl rfl rfl ?_
  refine LL.val (R.buildV rfl rfl (v := .agg (aE (1, 4, 8)).toArray) (fun _ => by kernel_rfl)) rfl rfl rfl ?_
  refine LL.val (R.buildV rfl rfl (v := .agg (aE (2, 0, 0)).toArray) (fun _ => by kernel_rfl)) rfl rfl rfl ?_
  refine LL.val (R.buildV rfl rfl (v := .agg (aE (3, 0, 0)).toArray) (fun _ => by kernel_rfl)) rfl rfl rfl ?_
  refine LL.val (R.buildV rfl rfl (v := .agg (aE (1, 9, 1)).toArray) (fun _ => by kernel_rfl)) rfl rfl rfl ?_
  refine LL.val (R.buildV rfl rfl (v := .agg (aE (2, 1, 0)).toArray) (fun _ => by kernel_rfl)) rfl rfl rfl ?_
  refine LL.val (R.buildV rfl rfl (v := .agg (aE (3, 0, 0)).toArray) (fun _ => by kernel_rfl)) rfl rfl rfl ?_
  refine LL.lit (e := 38) (aE (1, 3, 7) ++ (aE (1, 4, 8) ++ (aE (2, 0, 0) ++ (aE (3, 0, 0) ++ (aE (1, 9, 1) ++ (aE (2, 1, 0) ++ aE (3, 0, 0))))))) 7 rfl rfl (fun _ => by kernel_rfl) rfl rfl ?_
  intro W g2 eg2 r2 zg2 b
  have hsz_ := b.size
  replace q := q.trans (b.mono q.size)
  replace rd1 := rd1.up b
  have rd2 : ReadsT aE 3 W (.slice (some ⟨g2, 0, none⟩) 7 7) [(1, 3, 7), (1, 4, 8), (2, 0, 0), (3, 0, 0), (1, 9, 1), (2, 1, 0), (3, 0, 0)] := RowL.readsT (ts := [(1, 3, 7), (1, 4, 8), (2, 0, 0), (3, 0, 0), (1, 9, 1), (2, 1, 0), (3, 0, 0)]) aEnc (by simpa using r2) 7 (by simp)
  clear r2
  (refine LL.val (R.assign rfl rfl) rfl rfl rfl ?_; refine LL.nilS ?_; refine CC.seq ?_; refine CC.region ?_; refine LL.val (R.move rfl rfl) rfl rfl rfl ?_)
  refine LL.call (R.call rfl rfl rfl) rfl rfl rfl (num_any _ _) ?_
  rintro e W ⟨rfl, rfl⟩
  refine ⟨_, rfl, ?_⟩
  (refine LL.val (R.eqT rfl rfl rfl (by omega)) rfl rfl rfl ?_; refine LL.val (R.move rfl rfl) rfl rfl rfl ?_; refine LL.val (R.move rfl rfl) rfl rfl rfl ?_; refine LL.val (R.move rfl rfl) rfl rfl rfl ?_)
  refine LL.call (R.call rfl rfl rfl) rfl rfl rfl (asame_any _ _ _ _ _ rd1 rd2 (by decide) (by decide)) ?_
  rintro e W ⟨rfl, b⟩
  refine ⟨_, rfl, ?_⟩
  have hsz_ := b.size
  replace q := q.trans (b.mono q.size)
  rw [decide_eq_true rfl]
  (refine LL.val (R.pick rfl rfl rfl) rfl rfl rfl ?_; refine LL.val (R.move rfl rfl) rfl rfl rfl ?_)
  refine LL.val (R.buildV rfl rfl (v := .agg (aE (1, 3, 0)).toArray) (fun _ => by kernel_rfl)) rfl rfl rfl ?_
  refine LL.val (R.buildV rfl rfl (v := .agg (aE (3, 0, 0)).toArray) (fun _ => by kernel_rfl)) rfl rfl rfl ?_
  refine LL.lit (e := 38) (aE (1, 3, 0) ++ aE (3, 0, 0)) 2 rfl rfl (fun _ => by kernel_rfl) rfl rfl ?_
  intro W g3 eg3 r3 zg3 b
  have hsz_ := b.size
  replace q := q.trans (b.mono q.size)
  have H3 := ordered_any _ _ W (RowL.readsT (ts := [(1, 3, 0), (3, 0, 0)]) aEnc (by simpa using r3) 2 (by simp)) (by decide) (by intro p hp; simp at hp; rcases hp with rfl | rfl <;> decide)
  rw [e3] at H3
  clear r3
  skip
  refine LL.call (R.call rfl rfl rfl) rfl rfl rfl (H3) ?_
  rintro e W ⟨rfl, b⟩
  refine ⟨_, rfl, ?_⟩
  have hsz_ := b.size
  replace q := q.trans (b.mono q.size)
  (refine LL.val (R.not rfl rfl) rfl rfl rfl ?_; refine LL.val (R.pick rfl rfl rfl) rfl rfl rfl ?_; refine LL.val (R.move rfl rfl) rfl rfl rfl ?_)
  refine LL.val (R.buildV rfl rfl (v := .agg (aE (2, 0, 0)).toArray) (fun _ => by kernel_rfl)) rfl rfl rfl ?_
  refine LL.lit (e := 38) (aE (2, 0, 0)) 1 rfl rfl (fun _ => by kernel_rfl) rfl rfl ?_
  intro W g4 eg4 r4 zg4 b
  have hsz_ := b.size
  replace q := q.trans (b.mono q.size)
  have H4 := ordered_any _ _ W (RowL.readsT (ts := [(2, 0, 0)]) aEnc (by simpa using r4) 1 (by simp)) (by decide) (by intro p hp; simp at hp; rcases hp with rfl; decide)
  rw [e4] at H4
  clear r4
  skip
  refine LL.call (R.call rfl rfl rfl) rfl rfl rfl (H4) ?_
  rintro e W ⟨rfl, b⟩
  refine ⟨_, rfl, ?_⟩
  have hsz_ := b.size
  replace q := q.trans (b.mono q.size)
  (refine LL.val (R.pick rfl rfl rfl) rfl rfl rfl ?_; refine LL.val (R.move rfl rfl) rfl rfl rfl ?_)
  refine LL.val (R.buildV rfl rfl (v := .agg (aE (3, 1, 0)).toArray) (fun _ => by kernel_rfl)) rfl rfl rfl ?_
  refine LL.lit (e := 38) (aE (3, 1, 0)) 1 rfl rfl (fun _ => by kernel_rfl) rfl rfl ?_
  intro W g5 eg5 r5 zg5 b
  have hsz_ := b.size
  replace q := q.trans (b.mono q.size)
  have H5 := check_any _ _ W (RowL.readsT (ts := [(3, 1, 0)]) aEnc (by simpa using r5) 1 (by simp)) (by decide)
  rw [e5] at H5
  clear r5
  skip
  refine LL.call (R.call rfl rfl rfl) rfl rfl rfl (H5) ?_
  rintro e W ⟨rfl, b⟩
  refine ⟨_, rfl, ?_⟩
  have hsz_ := b.size
  replace q := q.trans (b.mono q.size)
  skip
  refine LL.call (R.call rfl rfl rfl) rfl rfl rfl (num_any _ _) ?_
  rintro e W ⟨rfl, rfl⟩
  refine ⟨_, rfl, ?_⟩
  (refine LL.val (R.eqT rfl rfl rfl (by omega)) rfl rfl rfl ?_; refine LL.val (R.pick rfl rfl rfl) rfl rfl rfl ?_; refine LL.val (R.assign rfl rfl) rfl rfl rfl ?_; refine LL.nilS ?_; refine CC.ret ?_)
  refine EE.ret _ rfl rfl ?_
  exact ⟨rfl, q⟩
end Go.Proofs.Ytcmgpfahpmkeoaa
