/- The statements' works. -/
import Derived.Test.YtcchffdnbamkoaaPlayed
namespace Go.Proofs.Ytcchffdnbamkoaa
set_option linter.unusedVariables false
set_option linter.unusedSimpArgs false
open Go.RowKit Go.Shelf

section
variable {K : Nat → Prop} {g n : Nat} {vh vw : Value} {S S' : LS}
theorem ask_to (c : Int) (wr : Bool) (w : World) (he : askP S c wr = (S', n)) (h : LatchAt w K g vh vw (clP S) S.1 S.2) (hS : Good S) :
    Calls Try.prog 18 #[.pointer (some ⟨g, 0, none⟩), .int .i64 c, .bool wr] w fun e w' => e = .returned (.int .i64 (n : Int)) ∧ ∃ vh' vw', LatchAt w' K g vh' vw' (clP S') S'.1 S'.2 ∧ Kept K w w' := by
  have h1 := ask_any c wr w h hS
  rw [he] at h1
  exact h1
theorem free_to (c : Int) (w : World) (he : freeP S c = (S', n)) (h : LatchAt w K g vh vw (clP S) S.1 S.2) (hS : Good S) :
    Calls Try.prog 19 #[.pointer (some ⟨g, 0, none⟩), .int .i64 c] w fun e w' => e = .returned (.int .i64 (n : Int)) ∧ ∃ vh' vw', LatchAt w' K g vh' vw' (clP S') S'.1 S'.2 ∧ Kept K w w' := by
  have h1 := free_any c w h hS
  rw [he] at h1
  exact h1
theorem good_ask {c : Int} {wr : Bool} (he : askP S c wr = (S', n)) (hS : Good S) : Good S' := by have := hS.ask c wr; rwa [he] at this
theorem good_free {c : Int} (he : freeP S c = (S', n)) (hS : Good S) : Good S' := by have := hS.free c; rwa [he] at this
end
theorem wk1 : askP ([], []) 1 false = (([(1, false)], []), 0) := by decide
theorem wk2 : askP ([(1, false)], []) 2 true = (([(1, false)], [(2, true)]), 0) := by decide
theorem wk3 : askP ([(1, false)], [(2, true)]) 3 false = (([(1, false)], [(2, true), (3, false)]), 0) := by decide
theorem wk4 : freeP ([(1, false)], [(2, true), (3, false)]) 1 = (([(2, true)], [(3, false)]), 0) := by decide
theorem wk5 : freeP ([(2, true)], [(3, false)]) 2 = (([(3, false)], []), 0) := by decide
theorem wk6 : askP ([(3, false)], []) 3 false = (([(3, false)], []), 191) := by decide
theorem wk7 : freeP ([(3, false)], []) 5 = (([(3, false)], []), 5) := by decide
theorem wk8 : askP ([(3, false)], []) 8 false = (([(3, false)], []), 2) := by decide

set_option maxRecDepth 100000 in
set_option maxHeartbeats 8000000 in
theorem works_any (w : World) : Calls Try.prog 7 #[] w fun e w' => e = .returned (.bool true) ∧ Below w.heap.size w w' := by
  refine X.fn Try.func7 rfl (n := 68) rfl rfl ?_
  (refine CC.seq ?_; refine CC.region ?_; refine LL.val (R.assign rfl rfl) rfl rfl rfl ?_; refine LL.nilS ?_; refine CC.seq ?_; refine CC.region ?_)
  refine LL.call (R.call rfl rfl rfl) rfl rfl rfl (lnew_any w) ?_
  rintro e w1 ⟨g, rfl, e1, r1, b1⟩
  refine ⟨_, rfl, ?_⟩
  have hL1 := latch_new e1 r1 b1
  have s1 := good_ask wk1 good_none
  have s2 := good_ask wk2 s1
  have s3 := good_ask wk3 s2
  have s4 := good_free wk4 s3
  have s5 := good_free wk5 s4
  (refine LL.val (R.assign rfl rfl) rfl rfl rfl ?_; refine LL.nilS ?_; refine CC.seq ?_; refine CC.seq ?_; refine CC.region ?_; refine LL.val (R.move rfl rfl) rfl rfl rfl ?_)
  refine LL.call (R.call rfl rfl rfl) rfl rfl rfl (ask_to 1 false w1 wk1 hL1 good_none) ?_
  rintro e w2 ⟨rfl, vh2, vw2, hL2, k2⟩
  refine ⟨_, rfl, ?_⟩
  have b2 := b1.trans k2.bel
  refine LL.call (R.call rfl rfl rfl) rfl rfl rfl (num_any _ _ (by decide) (by decide)) ?_
  rintro e w' ⟨rfl, rfl⟩
  refine ⟨_, rfl, ?_⟩
  (refine LL.val (R.move rfl rfl) rfl rfl rfl ?_)
  refine LL.call (R.call rfl rfl rfl) rfl rfl rfl (ask_to 2 true w2 wk2 hL2 s1) ?_
  rintro e w3 ⟨rfl, vh3, vw3, hL3, k3⟩
  refine ⟨_, rfl, ?_⟩
  have b3 := b2.trans k3.bel
  refine LL.call (R.call rfl rfl rfl) rfl rfl rfl (num_any _ _ (by decide) (by decide)) ?_
  rintro e w' ⟨rfl, rfl⟩
  refine ⟨_, rfl, ?_⟩
  (refine LL.val (R.addN rfl rfl rfl (by omega)) rfl rfl rfl ?_; refine LL.val (R.move rfl rfl) rfl rfl rfl ?_)
  refine LL.call (R.call rfl rfl rfl) rfl rfl rfl (ask_to 3 false w3 wk3 hL3 s2) ?_
  rintro e w4 ⟨rfl, vh4, vw4, hL4, k4⟩
  refine ⟨_, rfl, ?_⟩
  have b4 := b3.trans k4.bel
  refine LL.call (R.call rfl rfl rfl) rfl rfl rfl (num_any _ _ (by decide) (by decide)) ?_
  rintro e w' ⟨rfl, rfl⟩
  refine ⟨_, rfl, ?_⟩
  (refine LL.val (R.addN rfl rfl rfl (by omega)) rfl rfl rfl ?_; refine LL.val (R.neF rfl rfl rfl (by omega)) rfl rfl rfl ?_; refine LL.val (R.move rfl rfl) rfl rfl rfl ?_; refine LL.val (R.move rfl rfl) rfl rfl rfl ?_)
  refine LL.val (R.buildV rfl rfl (v := .agg (tE (1, false)).toArray) (fun _ => by kernel_rfl)) rfl rfl rfl ?_
  refine LL.lit (e := 51) (tE (1, false)) 1 rfl rfl (fun _ => by kernel_rfl) rfl rfl ?_
  intro w5 g5 e5 r5 z5 b5
  have rd5 : ReadsTn w5 (.slice (some ⟨g5, 0, none⟩) 1 1) [(1, false)] := RowL.readsT (ts := [(1, false)]) tEnc (by simpa using r5) 1 (by simp)
  refine LL.val (R.buildV rfl rfl (v := .agg (tE (2, true)).toArray) (fun _ => by kernel_rfl)) rfl rfl rfl ?_
  refine LL.val (R.buildV rfl rfl (v := .agg (tE (3, false)).toArray) (fun _ => by kernel_rfl)) rfl rfl rfl ?_
  refine LL.lit (e := 51) (tE (2, true) ++ tE (3, false)) 2 rfl rfl (fun _ => by kernel_rfl) rfl rfl ?_
  intro w6 g6 e6 r6 z6 b6
  have rd6 : ReadsTn w6 (.slice (some ⟨g6, 0, none⟩) 2 2) [(2, true), (3, false)] := RowL.readsT (ts := [(2, true), (3, false)]) tEnc (by simpa using r6) 2 (by simp)
  refine LL.val (R.buildV rfl rfl (v := .agg #[.slice (some ⟨g5, 0, none⟩) 1 1, .slice (some ⟨g6, 0, none⟩) 2 2]) (fun _ => by kernel_rfl)) rfl rfl rfl ?_
  have hL6 := (hL4.below b5).below b6
  have q6 : Below w.heap.size w w6 := (b4.trans (b5.mono b4.size)).trans (b6.mono (Nat.le_trans b4.size b5.size))
  refine LL.call (R.call rfl rfl rfl) rfl rfl rfl (is_any w6 hL6 s3 (rd5.below b6) rd6) ?_
  rintro e w7 ⟨rfl, b7⟩
  refine ⟨_, rfl, ?_⟩
  have hL7 := hL6.below b7
  have q7 := q6.trans (b7.mono q6.size)
  (refine LL.val (R.not rfl rfl) rfl rfl rfl ?_; refine LL.val (R.pick rfl rfl rfl) rfl rfl rfl ?_; refine LL.nilS ?_; refine CC.no rfl ?_; refine CC.skip ?_; refine EE.thenN ?_; refine CC.seq ?_; refine CC.seq ?_; refine CC.region ?_; refine LL.val (R.move rfl rfl) rfl rfl rfl ?_)
  refine LL.call (R.call rfl rfl rfl) rfl rfl rfl (free_to 1 w7 wk4 hL7 s3) ?_
  rintro e w8 ⟨rfl, vh8, vw8, hL8, k8⟩
  refine ⟨_, rfl, ?_⟩
  have q8 := q7.trans k8.bel
  refine LL.call (R.call rfl rfl rfl) rfl rfl rfl (num_any _ _ (by decide) (by decide)) ?_
  rintro e w' ⟨rfl, rfl⟩
  refine ⟨_, rfl, ?_⟩
  (refine LL.val (R.neF rfl rfl rfl (by omega)) rfl rfl rfl ?_; refine LL.val (R.move rfl rfl) rfl rfl rfl ?_; refine LL.val (R.move rfl rfl) rfl rfl rfl ?_)
  refine LL.call (R.call rfl rfl rfl) rfl rfl rfl (held_is w8 hL8 s4) ?_
  rintro e w9 ⟨v9, rfl, o9, b9⟩
  refine ⟨_, rfl, ?_⟩
  have hL9 := hL8.below b9
  have q9 := q8.trans (b9.mono q8.size)
  refine LL.val (R.buildV rfl rfl (v := .agg (tE (2, true)).toArray) (fun _ => by kernel_rfl)) rfl rfl rfl ?_
  refine LL.lit (e := 51) (tE (2, true)) 1 rfl rfl (fun _ => by kernel_rfl) rfl rfl ?_
  intro w10 g10 e10 r10 z10 b10
  have rd10 : ReadsTn w10 (.slice (some ⟨g10, 0, none⟩) 1 1) [(2, true)] := RowL.readsT (ts := [(2, true)]) tEnc (by simpa using r10) 1 (by simp)
  have q10 := q9.trans (b10.mono q9.size)
  refine LL.call (R.call rfl rfl rfl) rfl rfl rfl (rsame_any _ _ _ _ w10 ((o9.reads tEnc).below b10) rd10 (by simp) (by simp)) ?_
  rintro e w11 ⟨rfl, b11⟩
  refine ⟨_, rfl, ?_⟩
  have hL11 := (hL9.below b10).below b11
  have q11 := q10.trans (b11.mono q10.size)
  rw [decide_eq_true rfl]
  (refine LL.val (R.not rfl rfl) rfl rfl rfl ?_; refine LL.val (R.pick rfl rfl rfl) rfl rfl rfl ?_; refine LL.val (R.move rfl rfl) rfl rfl rfl ?_; refine LL.val (R.move rfl rfl) rfl rfl rfl ?_)
  refine LL.call (R.call rfl rfl rfl) rfl rfl rfl (free_to 2 w11 wk5 hL11 s4) ?_
  rintro e w12 ⟨rfl, vh12, vw12, hL12, k12⟩
  refine ⟨_, rfl, ?_⟩
  have q12 := q11.trans k12.bel
  refine LL.call (R.call rfl rfl rfl) rfl rfl rfl (num_any _ _ (by decide) (by decide)) ?_
  rintro e w' ⟨rfl, rfl⟩
  refine ⟨_, rfl, ?_⟩
  (refine LL.val (R.neF rfl rfl rfl (by omega)) rfl rfl rfl ?_; refine LL.val (R.pick rfl rfl rfl) rfl rfl rfl ?_; refine LL.val (R.move rfl rfl) rfl rfl rfl ?_; refine LL.val (R.move rfl rfl) rfl rfl rfl ?_)
  refine LL.call (R.call rfl rfl rfl) rfl rfl rfl (held_is w12 hL12 s5) ?_
  rintro e w13 ⟨v13, rfl, o13, b13⟩
  refine ⟨_, rfl, ?_⟩
  have hL13 := hL12.below b13
  have q13 := q12.trans (b13.mono q12.size)
  refine LL.val (R.buildV rfl rfl (v := .agg (tE (3, false)).toArray) (fun _ => by kernel_rfl)) rfl rfl rfl ?_
  refine LL.lit (e := 51) (tE (3, false)) 1 rfl rfl (fun _ => by kernel_rfl) rfl rfl ?_
  intro w14 g14 e14 r14 z14 b14
  have rd14 : ReadsTn w14 (.slice (some ⟨g14, 0, none⟩) 1 1) [(3, false)] := RowL.readsT (ts := [(3, false)]) tEnc (by simpa using r14) 1 (by simp)
  have q14 := q13.trans (b14.mono q13.size)
  refine LL.call (R.call rfl rfl rfl) rfl rfl rfl (rsame_any _ _ _ _ w14 ((o13.reads tEnc).below b14) rd14 (by simp) (by simp)) ?_
  rintro e w15 ⟨rfl, b15⟩
  refine ⟨_, rfl, ?_⟩
  have hL15 := (hL13.below b14).below b15
  have q15 := q14.trans (b15.mono q14.size)
  rw [decide_eq_true rfl]
  (refine LL.val (R.not rfl rfl) rfl rfl rfl ?_; refine LL.val (R.pick rfl rfl rfl) rfl rfl rfl ?_; refine LL.nilS ?_; refine CC.no rfl ?_; refine CC.skip ?_; refine EE.thenN ?_; refine CC.seq ?_; refine CC.region ?_; refine LL.val (R.move rfl rfl) rfl rfl rfl ?_)
  refine LL.call (R.call rfl rfl rfl) rfl rfl rfl (ask_to 3 false w15 wk6 hL15 s5) ?_
  rintro e w16 ⟨rfl, vh16, vw16, hL16, k16⟩
  refine ⟨_, rfl, ?_⟩
  have q16 := q15.trans k16.bel
  refine LL.call (R.call rfl rfl rfl) rfl rfl rfl (num_any _ _ (by decide) (by decide)) ?_
  rintro e w' ⟨rfl, rfl⟩
  refine ⟨_, rfl, ?_⟩
  (refine LL.val (R.eqT rfl rfl rfl (by omega)) rfl rfl rfl ?_; refine LL.val (R.move rfl rfl) rfl rfl rfl ?_; refine LL.val (R.move rfl rfl) rfl rfl rfl ?_)
  refine LL.call (R.call rfl rfl rfl) rfl rfl rfl (free_to 5 w16 wk7 hL16 s5) ?_
  rintro e w17 ⟨rfl, vh17, vw17, hL17, k17⟩
  refine ⟨_, rfl, ?_⟩
  have q17 := q16.trans k17.bel
  refine LL.call (R.call rfl rfl rfl) rfl rfl rfl (num_any _ _ (by decide) (by decide)) ?_
  rintro e w' ⟨rfl, rfl⟩
  refine ⟨_, rfl, ?_⟩
  (refine LL.val (R.eqT rfl rfl rfl (by omega)) rfl rfl rfl ?_; refine LL.val (R.pick rfl rfl rfl) rfl rfl rfl ?_; refine LL.val (R.move rfl rfl) rfl rfl rfl ?_; refine LL.val (R.move rfl rfl) rfl rfl rfl ?_)
  refine LL.call (R.call rfl rfl rfl) rfl rfl rfl (ask_to 8 false w17 wk8 hL17 s5) ?_
  rintro e w18 ⟨rfl, vh18, vw18, hL18, k18⟩
  refine ⟨_, rfl, ?_⟩
  have q18 := q17.trans k18.bel
  refine LL.call (R.call rfl rfl rfl) rfl rfl rfl (num_any _ _ (by decide) (by decide)) ?_
  rintro e w' ⟨rfl, rfl⟩
  refine ⟨_, rfl, ?_⟩
  (refine LL.val (R.eqT rfl rfl rfl (by omega)) rfl rfl rfl ?_; refine LL.val (R.pick rfl rfl rfl) rfl rfl rfl ?_; refine LL.val (R.assign rfl rfl) rfl rfl rfl ?_; refine LL.nilS ?_; refine CC.ret ?_)
  refine EE.ret _ rfl rfl ?_
  exact ⟨rfl, q18⟩
end Go.Proofs.Ytcchffdnbamkoaa
