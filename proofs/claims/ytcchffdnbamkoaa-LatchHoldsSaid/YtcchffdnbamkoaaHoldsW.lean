/- The walk of LatchHolds. -/
import Derived.Test.YtcchffdnbamkoaaFair
namespace Go.Proofs.Ytcchffdnbamkoaa
set_option linter.unusedVariables false
set_option linter.unusedSimpArgs false
open Go.RowKit Go.Shelf

set_option maxRecDepth 100000 in
set_option maxHeartbeats 8000000 in
theorem holds_walk (v0 v3 : Value) (xs ys : List Ac) (c : Int) (wr : Bool) (w : World) (ha : ReadsA w v0 xs) (hb : ReadsA w v3 ys) (hlx : xs.length ≤ 9223372036854775807) (hly : ys.length ≤ 9223372036854775807) :
    Calls Try.prog 6 #[v0, .int .i64 c, .bool wr, v3] w fun e w' => e = .returned (.bool true) ∧ Below w.heap.size w w' := by
  obtain ⟨N, hN⟩ : ∃ N, xs.length = N := ⟨_, rfl⟩
  obtain ⟨N2, hN2⟩ : ∃ N2, ys.length = N2 := ⟨_, rfl⟩
  have har := ha
  have hbr := hb
  obtain ⟨a, cap, rfl, hc⟩ := ha.form hN
  obtain ⟨a2, cap2, rfl, hc2⟩ := hb.form hN2
  rw [hN] at hlx
  rw [hN2] at hly
  refine X.fn Try.func6 rfl (n := 171) rfl rfl ?_
  (refine CC.seq ?_; refine CC.region ?_; refine LL.val (R.assign rfl rfl) rfl rfl rfl ?_; refine LL.nilS ?_; refine CC.seq ?_; refine CC.seq ?_; refine CC.region ?_; refine LL.val (R.move rfl rfl) rfl rfl rfl ?_; refine LL.val (R.len rfl rfl rfl rfl) rfl rfl rfl ?_)
  by_cases h1 : 60 < N
  · (refine LL.val (R.gtT rfl rfl rfl (by omega)) rfl rfl rfl ?_; refine LL.val (R.move rfl rfl) rfl rfl rfl ?_; refine LL.skip rfl rfl ?_; refine LL.skip rfl rfl ?_; refine LL.skip rfl rfl ?_; refine LL.val (R.pick rfl rfl rfl) rfl rfl rfl ?_; refine LL.val (R.move rfl rfl) rfl rfl rfl ?_; refine LL.skip rfl rfl ?_; refine LL.skip rfl rfl ?_; refine LL.val (R.pick rfl rfl rfl) rfl rfl rfl ?_; refine LL.val (R.move rfl rfl) rfl rfl rfl ?_; refine LL.skip rfl rfl ?_; refine LL.skip rfl rfl ?_; refine LL.val (R.pick rfl rfl rfl) rfl rfl rfl ?_; refine LL.nilS ?_; refine CC.yes rfl ?_; refine CC.seq ?_; refine CC.region ?_)
    refine LL.call (R.call rfl rfl rfl) rfl rfl rfl (works_any _) ?_
    rintro e w2 ⟨rfl, b2⟩
    refine ⟨_, rfl, ?_⟩
    (refine LL.val (R.assign rfl rfl) rfl rfl rfl ?_; refine LL.nilS ?_; refine CC.ret ?_; refine EE.thenR ?_)
    refine EE.ret _ rfl rfl ?_
    exact ⟨rfl, b2⟩
  by_cases h2 : 60 < N2
  · (refine LL.val (R.gtF rfl rfl rfl (by omega)) rfl rfl rfl ?_; refine LL.val (R.move rfl rfl) rfl rfl rfl ?_; refine LL.val (R.move rfl rfl) rfl rfl rfl ?_; refine LL.val (R.len rfl rfl rfl rfl) rfl rfl rfl ?_; refine LL.val (R.gtT rfl rfl rfl (by omega)) rfl rfl rfl ?_; refine LL.val (R.pick rfl rfl rfl) rfl rfl rfl ?_; refine LL.val (R.move rfl rfl) rfl rfl rfl ?_; refine LL.skip rfl rfl ?_; refine LL.skip rfl rfl ?_; refine LL.val (R.pick rfl rfl rfl) rfl rfl rfl ?_; refine LL.val (R.move rfl rfl) rfl rfl rfl ?_; refine LL.skip rfl rfl ?_; refine LL.skip rfl rfl ?_; refine LL.val (R.pick rfl rfl rfl) rfl rfl rfl ?_; refine LL.nilS ?_; refine CC.yes rfl ?_; refine CC.seq ?_; refine CC.region ?_)
    refine LL.call (R.call rfl rfl rfl) rfl rfl rfl (works_any _) ?_
    rintro e w2 ⟨rfl, b2⟩
    refine ⟨_, rfl, ?_⟩
    (refine LL.val (R.assign rfl rfl) rfl rfl rfl ?_; refine LL.nilS ?_; refine CC.ret ?_; refine EE.thenR ?_)
    refine EE.ret _ rfl rfl ?_
    exact ⟨rfl, b2⟩
  by_cases h3 : c < 0
  · (refine LL.val (R.gtF rfl rfl rfl (by omega)) rfl rfl rfl ?_; refine LL.val (R.move rfl rfl) rfl rfl rfl ?_; refine LL.val (R.move rfl rfl) rfl rfl rfl ?_; refine LL.val (R.len rfl rfl rfl rfl) rfl rfl rfl ?_; refine LL.val (R.gtF rfl rfl rfl (by omega)) rfl rfl rfl ?_; refine LL.val (R.pick rfl rfl rfl) rfl rfl rfl ?_; refine LL.val (R.move rfl rfl) rfl rfl rfl ?_; refine LL.val (R.move rfl rfl) rfl rfl rfl ?_; refine LL.val (R.ltT rfl rfl rfl (by omega)) rfl rfl rfl ?_; refine LL.val (R.pick rfl rfl rfl) rfl rfl rfl ?_; refine LL.val (R.move rfl rfl) rfl rfl rfl ?_; refine LL.skip rfl rfl ?_; refine LL.skip rfl rfl ?_; refine LL.val (R.pick rfl rfl rfl) rfl rfl rfl ?_; refine LL.nilS ?_; refine CC.yes rfl ?_; refine CC.seq ?_; refine CC.region ?_)
    refine LL.call (R.call rfl rfl rfl) rfl rfl rfl (works_any _) ?_
    rintro e w2 ⟨rfl, b2⟩
    refine ⟨_, rfl, ?_⟩
    (refine LL.val (R.assign rfl rfl) rfl rfl rfl ?_; refine LL.nilS ?_; refine CC.ret ?_; refine EE.thenR ?_)
    refine EE.ret _ rfl rfl ?_
    exact ⟨rfl, b2⟩
  by_cases h4 : 7 < c
  · (refine LL.val (R.gtF rfl rfl rfl (by omega)) rfl rfl rfl ?_; refine LL.val (R.move rfl rfl) rfl rfl rfl ?_; refine LL.val (R.move rfl rfl) rfl rfl rfl ?_; refine LL.val (R.len rfl rfl rfl rfl) rfl rfl rfl ?_; refine LL.val (R.gtF rfl rfl rfl (by omega)) rfl rfl rfl ?_; refine LL.val (R.pick rfl rfl rfl) rfl rfl rfl ?_; refine LL.val (R.move rfl rfl) rfl rfl rfl ?_; refine LL.val (R.move rfl rfl) rfl rfl rfl ?_; refine LL.val (R.ltF rfl rfl rfl (by omega)) rfl rfl rfl ?_; refine LL.val (R.pick rfl rfl rfl) rfl rfl rfl ?_; refine LL.val (R.move rfl rfl) rfl rfl rfl ?_; refine LL.val (R.move rfl rfl) rfl rfl rfl ?_; refine LL.val (R.gtT rfl rfl rfl (by omega)) rfl rfl rfl ?_; refine LL.val (R.pick rfl rfl rfl) rfl rfl rfl ?_; refine LL.nilS ?_; refine CC.yes rfl ?_; refine CC.seq ?_; refine CC.region ?_)
    refine LL.call (R.call rfl rfl rfl) rfl rfl rfl (works_any _) ?_
    rintro e w2 ⟨rfl, b2⟩
    refine ⟨_, rfl, ?_⟩
    (refine LL.val (R.assign rfl rfl) rfl rfl rfl ?_; refine LL.nilS ?_; refine CC.ret ?_; refine EE.thenR ?_)
    refine EE.ret _ rfl rfl ?_
    exact ⟨rfl, b2⟩
  obtain ⟨n, rfl⟩ : ∃ n : Nat, c = n := ⟨c.toNat, by omega⟩
  have hn8 : n < 8 := by omega
  (refine LL.val (R.gtF rfl rfl rfl (by omega)) rfl rfl rfl ?_; refine LL.val (R.move rfl rfl) rfl rfl rfl ?_; refine LL.val (R.move rfl rfl) rfl rfl rfl ?_; refine LL.val (R.len rfl rfl rfl rfl) rfl rfl rfl ?_; refine LL.val (R.gtF rfl rfl rfl (by omega)) rfl rfl rfl ?_; refine LL.val (R.pick rfl rfl rfl) rfl rfl rfl ?_; refine LL.val (R.move rfl rfl) rfl rfl rfl ?_; refine LL.val (R.move rfl rfl) rfl rfl rfl ?_; refine LL.val (R.ltF rfl rfl rfl (by omega)) rfl rfl rfl ?_; refine LL.val (R.pick rfl rfl rfl) rfl rfl rfl ?_; refine LL.val (R.move rfl rfl) rfl rfl rfl ?_; refine LL.val (R.move rfl rfl) rfl rfl rfl ?_; refine LL.val (R.gtF rfl rfl rfl (by omega)) rfl rfl rfl ?_; refine LL.val (R.pick rfl rfl rfl) rfl rfl rfl ?_; refine LL.nilS ?_; refine CC.no rfl ?_; refine CC.skip ?_; refine EE.thenN ?_; refine CC.seq ?_; refine CC.region ?_; refine LL.val (R.move rfl rfl) rfl rfl rfl ?_)
  refine LL.call (R.call rfl rfl rfl) rfl rfl rfl (played_any _ xs w har (by omega)) ?_
  rintro e w1 ⟨g, vh, vw, rfl, hg, hL1, b1⟩
  refine ⟨_, rfl, ?_⟩
  have hF := playP_fine xs
  obtain ⟨S, hSe⟩ : ∃ S, playP xs = S := ⟨_, rfl⟩
  rw [hSe] at hL1 hF
  have hl8 := hF.good.len
  have y1 := b1.size
  (refine LL.val (R.assign rfl rfl) rfl rfl rfl ?_; refine LL.nilS ?_; refine CC.seq ?_; refine CC.region ?_; refine LL.val (R.move rfl rfl) rfl rfl rfl ?_)
  refine LL.call (R.call rfl rfl rfl) rfl rfl rfl (waits_is w1 hL1 hF.good) ?_
  rintro e w2 ⟨v2, rfl, o2, b2⟩
  refine ⟨_, rfl, ?_⟩
  have y2 := b2.size
  (refine LL.val (R.move rfl rfl) rfl rfl rfl ?_; refine LL.val (R.extract rfl rfl rfl) rfl rfl rfl ?_; refine LL.val (R.extract rfl rfl rfl) rfl rfl rfl ?_; refine LL.val (R.assign rfl rfl) rfl rfl rfl ?_; refine LL.val (R.assign rfl rfl) rfl rfl rfl ?_; refine LL.nilS ?_; refine CC.seq ?_; refine CC.region ?_)
  refine LL.lit (e := 51) [] 0 rfl rfl (fun _ => by kernel_rfl) rfl rfl ?_
  intro w3 g3 e3 r3 z3 b3
  have y3 := b3.size
  have o3 : OwnsT tE 2 w3 w2.heap.size 51 (.slice (some ⟨g3, 0, none⟩) 0 0) [] := RowL.ownsT (ts := []) tEnc r3 (by omega) (by simp [maxLen])
  (refine LL.val (R.move rfl rfl) rfl rfl rfl ?_)
  refine LL.call (R.call rfl rfl rfl) rfl rfl rfl (held_is w3 ((hL1.below b2).below b3) hF.good) ?_
  rintro e w4 ⟨v4, rfl, o4, b4⟩
  refine ⟨_, rfl, ?_⟩
  have y4 := b4.size
  refine LL.append0 rfl rfl tEnc ElTurn (o3.below b4) (o4.reads tEnc) (by simp only [maxLen]; omega) (by omega) (by omega) rfl rfl ?_
  intro v5 w5 o5 b5
  have y5 := b5.size
  have b25 : Below w2.heap.size w2 w5 := (b3.trans (b4.mono y3)).trans (b5.mono (by omega))
  (refine LL.val (R.move rfl rfl) rfl rfl rfl ?_)
  refine LL.appendT rfl rfl tEnc ElTurn o5 ((o2.below b25).reads tEnc) (by simp only [maxLen]; omega) (by omega) (by omega) rfl rfl ?_
  intro v6 w6 o6 g6
  have b26 : Below w2.heap.size w2 w6 := b25.trans (o5.bel g6 (by omega))
  have y6 := b26.size
  have b16 : Below w1.heap.size w1 w6 := b2.trans (b26.mono y2)
  have q6 : Below w.heap.size w w6 := b1.trans (b16.mono y1)
  have hA8 : (S.1 ++ S.2).length ≤ 8 := by rw [List.length_append]; exact hl8
  have hL6 := hL1.newer (K' := fun j => j < w.heap.size ∨ (w1.heap.size ≤ j ∧ j < w6.heap.size)) b16 fun j hj => by
    rcases hj with h | ⟨h, h'⟩
    · exact ⟨by have := q6.size; omega, .inl h⟩
    · exact ⟨h', .inr h⟩
  have hat6 := o6.at
  have hA6 := o6.reads tEnc
  obtain ⟨a6, cp6, rfl, _⟩ := hA6.form (n := (S.1 ++ S.2).length) rfl
  (refine LL.val (R.assign rfl rfl) rfl rfl rfl ?_; refine LL.nilS ?_; refine CC.seq ?_; refine CC.seq ?_; refine CC.region ?_; refine LL.val (R.move rfl rfl) rfl rfl rfl ?_; refine LL.val (R.not rfl rfl) rfl rfl rfl ?_; refine LL.val (R.move rfl rfl) rfl rfl rfl ?_; refine LL.val (R.move rfl rfl) rfl rfl rfl ?_; refine LL.val (R.len rfl rfl rfl rfl) rfl rfl rfl ?_; refine LL.val (R.gtF rfl rfl rfl (by omega)) rfl rfl rfl ?_; refine LL.val (R.pick rfl rfl rfl) rfl rfl rfl ?_; refine LL.nilS ?_; refine CC.no rfl ?_; refine CC.skip ?_; refine EE.thenN ?_; refine CC.seq ?_; refine CC.seq ?_; refine CC.region ?_; refine LL.val (R.move rfl rfl) rfl rfl rfl ?_; refine LL.val (R.move rfl rfl) rfl rfl rfl ?_; refine LL.val (R.move rfl rfl) rfl rfl rfl ?_)
  refine LL.call (R.call rfl rfl rfl) rfl rfl rfl (ask_any n wr w6 hL6 hF.good) ?_
  rintro e w7 ⟨rfl, vh7, vw7, hL7, k7⟩
  refine ⟨_, rfl, ?_⟩
  have hcd := code_ask S n wr
  refine LL.call (R.call rfl rfl rfl) rfl rfl rfl (num_any _ _ (by omega) (by omega)) ?_
  rintro e w' ⟨rfl, rfl⟩
  refine ⟨_, rfl, ?_⟩
  have hatK : At (fun j => j < w.heap.size ∨ (w1.heap.size ≤ j ∧ j < w6.heap.size)) (.slice a6 (S.1 ++ S.2).length cp6) := hat6.less fun j hj => .inr ⟨by omega, hj.2⟩
  have hA7 := hA6.kept k7 hatK
  have q7 : Below w.heap.size w w7 := q6.trans (k7.less fun j (hj : j < w.heap.size) => .inl hj).bel
  by_cases hh : hasP (S.1 ++ S.2) n
  · have ec : (askP S n wr).2 = 191 := by unfold askP; rw [if_neg (by omega), if_pos hh]
    rw [ec]
    (refine LL.val (R.neT rfl rfl rfl (by omega)) rfl rfl rfl ?_; refine LL.nilS ?_; refine CC.yes rfl ?_; refine CC.seq ?_; refine CC.region ?_; refine LL.val (R.move rfl rfl) rfl rfl rfl ?_; refine LL.val (R.move rfl rfl) rfl rfl rfl ?_)
    refine LL.call (R.call rfl rfl rfl) rfl rfl rfl (rhas_any _ (S.1 ++ S.2) n w7 hA7 (by omega)) ?_
    rintro e w8 ⟨rfl, rfl⟩
    refine ⟨_, rfl, ?_⟩
    have hh' : ∃ t ∈ S.1 ++ S.2, (t.1 : Int) = n := hh
    rw [decide_eq_true hh']
    (refine LL.val (R.move rfl rfl) rfl rfl rfl ?_)
    refine LL.call (R.call rfl rfl rfl) rfl rfl rfl (works_any _) ?_
    rintro e w9 ⟨rfl, b9⟩
    refine ⟨_, rfl, ?_⟩
    (refine LL.val (R.pick rfl rfl rfl) rfl rfl rfl ?_; refine LL.val (R.assign rfl rfl) rfl rfl rfl ?_; refine LL.nilS ?_; refine CC.ret ?_; refine EE.thenR ?_)
    refine EE.ret _ rfl rfl ?_
    exact ⟨rfl, q7.trans (b9.mono q7.size)⟩
  have ec : (askP S n wr).2 = 0 := by unfold askP; rw [if_neg (by omega), if_neg hh]
  rw [ec]
  have hF7 := hF.ask n wr
  have hQ7 := queued_new (S := S) wr hn8 hh
  obtain ⟨S1, hS1⟩ : ∃ S1, (askP S n wr).1 = S1 := ⟨_, rfl⟩
  rw [hS1] at hF7 hQ7 hL7
  (refine LL.val (R.neF rfl rfl rfl (by omega)) rfl rfl rfl ?_; refine LL.nilS ?_; refine CC.no rfl ?_; refine CC.skip ?_; refine EE.thenN ?_; refine CC.seq ?_; refine CC.seq ?_; refine CC.region ?_; refine LL.val (R.assign rfl rfl) rfl rfl rfl ?_; refine LL.nilS ?_; refine CC.block ?_)
  refine CC.loop (α := Nat × Value) (fun q => [(1, .int .i64 (n : Int)), (3, .slice a2 N2 cap2), (9, .pointer (some ⟨g, 0, none⟩)), (12, q.2), (13, .int .i64 (q.1 : Int))]) (fun q wr => q.1 ≤ N2 + 1 ∧ Below w.heap.size w wr ∧ ∃ S A vh vw K, Fine S ∧ Queued S n A ∧ LatchAt wr K g vh vw (clP S) S.1 S.2 ∧ ReadsTn wr q.2 A ∧ At K q.2 ∧ A.length ≤ 8 ∧ ∀ j, j < w.heap.size → K j) (fun q => N2 + 1 - q.1) (0, .slice a6 (S.1 ++ S.2).length cp6) ⟨rfl, rfl, rfl, rfl, rfl, trivial⟩ ⟨by simp, q7, S1, S.1 ++ S.2, vh7, vw7, _, hF7, hQ7, hL7, hA7, hatK, hA8, fun j hj => .inl hj⟩ ?_
  clear hF7 hQ7 hL7 hA7 hatK hA8 q7 hS1 hF hSe hL1 hL6 hA6 hat6 o6 o5 o4 o3 o2 k7 hcd ec hh
  rintro ⟨i, va⟩ wr ⟨hi, hbw, S, A, vh, vw, K, hF, hQ, hL, hA, hat, hA8, hKw⟩
  simp only at hi hA hat
  have hl8 := hF.good.len
  obtain ⟨aa, cpa, rfl, _⟩ := hA.form (n := A.length) rfl
  by_cases hlt : i ≤ N2
  · (refine CC.seq ?_; refine CC.seq ?_; refine CC.region ?_; refine LL.val (R.move rfl rfl) rfl rfl rfl ?_; refine LL.val (R.move rfl rfl) rfl rfl rfl ?_; refine LL.val (R.len rfl rfl rfl rfl) rfl rfl rfl ?_; refine LL.val (R.leT rfl rfl rfl (by omega)) rfl rfl rfl ?_; refine LL.nilS ?_; refine CC.yes rfl ?_; refine CC.skip ?_; refine EE.thenN ?_; refine CC.seq ?_; refine CC.block ?_; refine CC.seq ?_; refine CC.region ?_; refine LL.val (R.move rfl rfl) rfl rfl rfl ?_)
    refine LL.call (R.call rfl rfl rfl) rfl rfl rfl (held_is wr hL hF.good) ?_
    rintro e w1 ⟨v1, rfl, o1, b1⟩
    refine ⟨_, rfl, ?_⟩
    have y1 := b1.size
    (refine LL.val (R.assign rfl rfl) rfl rfl rfl ?_; refine LL.nilS ?_; refine CC.seq ?_; refine CC.region ?_; refine LL.val (R.move rfl rfl) rfl rfl rfl ?_)
    refine LL.call (R.call rfl rfl rfl) rfl rfl rfl (waits_is w1 (hL.below b1) hF.good) ?_
    rintro e w2 ⟨v2, rfl, o2, b2⟩
    refine ⟨_, rfl, ?_⟩
    have y2 := b2.size
    have o12 := o1.below b2
    have hH := o12.reads tEnc
    have b02 : Below wr.heap.size wr w2 := b1.trans (b2.mono y1)
    have q2 : Below w.heap.size w w2 := hbw.trans (b02.mono hbw.size)
    have hL2 := hL.below b02
    have hA2 := hA.below b02
    obtain ⟨ah, cph, rfl, _⟩ := hH.form (n := S.1.length) rfl
    obtain ⟨aw, cpw, rfl, _⟩ := (o2.reads tEnc).form (n := S.2.length) rfl
    apply twice (S.1.length = 0)
    case f =>
      intro h0 k
      have h00 : S.2.length = 0 := by
        have := hF.busy (List.eq_nil_of_length_eq_zero h0)
        rw [this]; rfl
      (refine LL.val (R.move rfl rfl) rfl rfl rfl ?_; refine LL.val (R.extract rfl rfl rfl) rfl rfl rfl ?_; refine LL.val (R.extract rfl rfl rfl) rfl rfl rfl ?_; refine LL.val (R.assign rfl rfl) rfl rfl rfl ?_; refine LL.val (R.assign rfl rfl) rfl rfl rfl ?_; refine LL.nilS ?_; refine CC.seq ?_; refine CC.seq ?_; refine CC.region ?_; refine LL.val (R.move rfl rfl) rfl rfl rfl ?_; refine LL.val (R.not rfl rfl) rfl rfl rfl ?_; refine LL.val (R.move rfl rfl) rfl rfl rfl ?_; refine LL.val (R.move rfl rfl) rfl rfl rfl ?_; refine LL.val (R.len rfl rfl rfl rfl) rfl rfl rfl ?_; refine LL.val (R.eqT rfl rfl rfl (by omega)) rfl rfl rfl ?_; refine LL.val (R.move rfl rfl) rfl rfl rfl ?_; refine LL.val (R.move rfl rfl) rfl rfl rfl ?_; refine LL.val (R.len rfl rfl rfl rfl) rfl rfl rfl ?_; refine LL.val (R.gtF rfl rfl rfl (by omega)) rfl rfl rfl ?_; refine LL.val (R.pick rfl rfl rfl) rfl rfl rfl ?_; refine LL.val (R.pick rfl rfl rfl) rfl rfl rfl ?_; refine LL.nilS ?_; refine CC.no rfl ?_; refine CC.skip ?_; refine EE.thenN ?_; refine CC.seq ?_; refine CC.seq ?_; refine CC.region ?_; refine LL.val (R.assign rfl rfl) rfl rfl rfl ?_; refine LL.nilS ?_; refine CC.block ?_)
      refine CC.keep [(1, .int .i64 (n : Int)), (3, .slice a2 N2 cap2), (9, .pointer (some ⟨g, 0, none⟩)), (12, .slice aa A.length cpa), (13, .int .i64 (i : Int)), (14, .slice ah S.1.length cph), (17, .int .i64 0)] ⟨rfl, rfl, rfl, rfl, rfl, rfl, rfl, trivial⟩ ?_
      exact k.out
    case g =>
      intro h0 k
      (refine LL.val (R.move rfl rfl) rfl rfl rfl ?_; refine LL.val (R.extract rfl rfl rfl) rfl rfl rfl ?_; refine LL.val (R.extract rfl rfl rfl) rfl rfl rfl ?_; refine LL.val (R.assign rfl rfl) rfl rfl rfl ?_; refine LL.val (R.assign rfl rfl) rfl rfl rfl ?_; refine LL.nilS ?_; refine CC.seq ?_; refine CC.seq ?_; refine CC.region ?_; refine LL.val (R.move rfl rfl) rfl rfl rfl ?_; refine LL.val (R.not rfl rfl) rfl rfl rfl ?_; refine LL.val (R.move rfl rfl) rfl rfl rfl ?_; refine LL.val (R.move rfl rfl) rfl rfl rfl ?_; refine LL.val (R.len rfl rfl rfl rfl) rfl rfl rfl ?_; refine LL.val (R.eqF rfl rfl rfl (by omega)) rfl rfl rfl ?_; refine LL.val (R.move rfl rfl) rfl rfl rfl ?_; refine LL.skip rfl rfl ?_; refine LL.skip rfl rfl ?_; refine LL.skip rfl rfl ?_; refine LL.val (R.pick rfl rfl rfl) rfl rfl rfl ?_; refine LL.val (R.pick rfl rfl rfl) rfl rfl rfl ?_; refine LL.nilS ?_; refine CC.no rfl ?_; refine CC.skip ?_; refine EE.thenN ?_; refine CC.seq ?_; refine CC.seq ?_; refine CC.region ?_; refine LL.val (R.assign rfl rfl) rfl rfl rfl ?_; refine LL.nilS ?_; refine CC.block ?_)
      refine CC.keep [(1, .int .i64 (n : Int)), (3, .slice a2 N2 cap2), (9, .pointer (some ⟨g, 0, none⟩)), (12, .slice aa A.length cpa), (13, .int .i64 (i : Int)), (14, .slice ah S.1.length cph), (17, .int .i64 0)] ⟨rfl, rfl, rfl, rfl, rfl, rfl, rfl, trivial⟩ ?_
      exact k.out
    case k =>
      refine CC.loop (α := Nat) (fun k => [(1, .int .i64 (n : Int)), (3, .slice a2 N2 cap2), (9, .pointer (some ⟨g, 0, none⟩)), (12, .slice aa A.length cpa), (13, .int .i64 (i : Int)), (14, .slice ah S.1.length cph), (17, .int .i64 (k : Int))]) (fun k wr' => w2 = wr' ∧ k ≤ S.1.length) (fun k => S.1.length - k) 0 ⟨rfl, rfl, rfl, rfl, rfl, rfl, rfl, trivial⟩ ⟨rfl, by omega⟩ ?_
      rintro k wr2 ⟨rfl, hk⟩
      by_cases hkl : k < S.1.length
      · obtain ⟨t, ht⟩ : ∃ t, S.1[k]? = some t := ⟨_, List.getElem?_eq_getElem hkl⟩
        obtain ⟨b, off, rfl, hbl, hcs⟩ := hH.get tEnc ht
        have hc1 := hcs.at (j := 1) (u := .bool t.2) rfl
        cases htw : t.2 with
        | true =>
          rw [htw] at hc1
          have hal := hF.alone t (List.mem_of_getElem? ht) htw
          (refine CC.seq ?_; refine CC.seq ?_; refine CC.region ?_; refine LL.val (R.move rfl rfl) rfl rfl rfl ?_; refine LL.val (R.move rfl rfl) rfl rfl rfl ?_; refine LL.val (R.len rfl rfl rfl rfl) rfl rfl rfl ?_; refine LL.val (R.ltT rfl rfl rfl (by omega)) rfl rfl rfl ?_; refine LL.nilS ?_; refine CC.yes rfl ?_; refine CC.skip ?_; refine EE.thenN ?_; refine CC.seq ?_; refine CC.block ?_; refine CC.seq ?_; refine CC.region ?_; refine LL.val (R.move rfl rfl) rfl rfl rfl ?_; refine LL.val (R.move rfl rfl) rfl rfl rfl ?_; refine LL.val (R.index rfl rfl rfl (I.ixS rfl (by omega))) rfl rfl rfl ?_; refine LL.val (R.field rfl rfl (I.fld rfl)) rfl rfl rfl ?_; refine LL.val (R.load rfl rfl (I.ld1 rfl (by assumption))) rfl rfl rfl ?_; refine LL.val (R.move rfl rfl) rfl rfl rfl ?_; refine LL.val (R.move rfl rfl) rfl rfl rfl ?_; refine LL.val (R.len rfl rfl rfl rfl) rfl rfl rfl ?_; refine LL.val (R.gtF rfl rfl rfl (by omega)) rfl rfl rfl ?_; refine LL.val (R.pick rfl rfl rfl) rfl rfl rfl ?_; refine LL.nilS ?_; refine CC.no rfl ?_; refine CC.skip ?_; refine EE.inN ?_; refine EE.thenN ?_; refine CC.region ?_; refine LL.val (R.move rfl rfl) rfl rfl rfl ?_; refine LL.val (R.addNc rfl rfl rfl rfl (by omega)) rfl rfl rfl ?_; refine LL.val (R.assign rfl rfl) rfl rfl rfl ?_; refine LL.nil ?_)
          exact EE.round (k + 1) ⟨rfl, rfl, rfl, rfl, rfl, rfl, rfl, trivial⟩ ⟨rfl, by omega⟩ (by omega)
        | false =>
          rw [htw] at hc1
          (refine CC.seq ?_; refine CC.seq ?_; refine CC.region ?_; refine LL.val (R.move rfl rfl) rfl rfl rfl ?_; refine LL.val (R.move rfl rfl) rfl rfl rfl ?_; refine LL.val (R.len rfl rfl rfl rfl) rfl rfl rfl ?_; refine LL.val (R.ltT rfl rfl rfl (by omega)) rfl rfl rfl ?_; refine LL.nilS ?_; refine CC.yes rfl ?_; refine CC.skip ?_; refine EE.thenN ?_; refine CC.seq ?_; refine CC.block ?_; refine CC.seq ?_; refine CC.region ?_; refine LL.val (R.move rfl rfl) rfl rfl rfl ?_; refine LL.val (R.move rfl rfl) rfl rfl rfl ?_; refine LL.val (R.index rfl rfl rfl (I.ixS rfl (by omega))) rfl rfl rfl ?_; refine LL.val (R.field rfl rfl (I.fld rfl)) rfl rfl rfl ?_; refine LL.val (R.load rfl rfl (I.ld1 rfl (by assumption))) rfl rfl rfl ?_; refine LL.val (R.move rfl rfl) rfl rfl rfl ?_; refine LL.skip rfl rfl ?_; refine LL.skip rfl rfl ?_; refine LL.skip rfl rfl ?_; refine LL.val (R.pick rfl rfl rfl) rfl rfl rfl ?_; refine LL.nilS ?_; refine CC.no rfl ?_; refine CC.skip ?_; refine EE.inN ?_; refine EE.thenN ?_; refine CC.region ?_; refine LL.val (R.move rfl rfl) rfl rfl rfl ?_; refine LL.val (R.addNc rfl rfl rfl rfl (by omega)) rfl rfl rfl ?_; refine LL.val (R.assign rfl rfl) rfl rfl rfl ?_; refine LL.nil ?_)
          exact EE.round (k + 1) ⟨rfl, rfl, rfl, rfl, rfl, rfl, rfl, trivial⟩ ⟨rfl, by omega⟩ (by omega)
      have hke : k = S.1.length := by omega
      subst hke
      apply twice (A.length = 0)
      case f =>
        intro h0
        have hA0 : A = [] := List.eq_nil_of_length_eq_zero h0
        have hQ0 : Queued S n [] := hA0 ▸ hQ
        have hh : hasP S.1 n := Queued.holds hF hQ0
        intro kk
        (refine CC.seq ?_; refine CC.seq ?_; refine CC.region ?_; refine LL.val (R.move rfl rfl) rfl rfl rfl ?_; refine LL.val (R.move rfl rfl) rfl rfl rfl ?_; refine LL.val (R.len rfl rfl rfl rfl) rfl rfl rfl ?_; refine LL.val (R.ltF rfl rfl rfl (by omega)) rfl rfl rfl ?_; refine LL.nilS ?_; refine CC.no rfl ?_; refine CC.exit ?_; refine EE.thenX ?_; refine EE.thenX ?_; refine EE.inX ?_; refine EE.thenN ?_; refine CC.seq ?_; refine CC.seq ?_; refine CC.region ?_; refine LL.val (R.move rfl rfl) rfl rfl rfl ?_; refine LL.val (R.len rfl rfl rfl rfl) rfl rfl rfl ?_; refine LL.val (R.eqT rfl rfl rfl (by omega)) rfl rfl rfl ?_; refine LL.val (R.move rfl rfl) rfl rfl rfl ?_; refine LL.val (R.move rfl rfl) rfl rfl rfl ?_; refine LL.val (R.move rfl rfl) rfl rfl rfl ?_)
        refine LL.call (R.call rfl rfl rfl) rfl rfl rfl (holds_is n w2 hL2 hF.good) ?_
        rintro e w' ⟨rfl, rfl⟩
        refine ⟨_, rfl, ?_⟩
        rw [decide_eq_true hh]
        (refine LL.val (R.not rfl rfl) rfl rfl rfl ?_; refine LL.val (R.pick rfl rfl rfl) rfl rfl rfl ?_; refine LL.nilS ?_; refine CC.no rfl ?_; refine CC.skip ?_; refine EE.thenN ?_; refine CC.seq ?_; refine CC.seq ?_; refine CC.region ?_; refine LL.val (R.move rfl rfl) rfl rfl rfl ?_; refine LL.val (R.move rfl rfl) rfl rfl rfl ?_; refine LL.val (R.len rfl rfl rfl rfl) rfl rfl rfl ?_)
        refine LL.keep [(1, .int .i64 (n : Int)), (3, .slice a2 N2 cap2), (9, .pointer (some ⟨g, 0, none⟩)), (12, .slice aa A.length cpa), (13, .int .i64 (i : Int)), (119, .int .i64 (i : Int)), (121, .int .i64 (N2 : Int))] ⟨rfl, rfl, rfl, rfl, rfl, rfl, rfl, trivial⟩ ?_
        exact kk.out
      case g =>
        intro h0 kk
        (refine CC.seq ?_; refine CC.seq ?_; refine CC.region ?_; refine LL.val (R.move rfl rfl) rfl rfl rfl ?_; refine LL.val (R.move rfl rfl) rfl rfl rfl ?_; refine LL.val (R.len rfl rfl rfl rfl) rfl rfl rfl ?_; refine LL.val (R.ltF rfl rfl rfl (by omega)) rfl rfl rfl ?_; refine LL.nilS ?_; refine CC.no rfl ?_; refine CC.exit ?_; refine EE.thenX ?_; refine EE.thenX ?_; refine EE.inX ?_; refine EE.thenN ?_; refine CC.seq ?_; refine CC.seq ?_; refine CC.region ?_; refine LL.val (R.move rfl rfl) rfl rfl rfl ?_; refine LL.val (R.len rfl rfl rfl rfl) rfl rfl rfl ?_; refine LL.val (R.eqF rfl rfl rfl (by omega)) rfl rfl rfl ?_; refine LL.val (R.move rfl rfl) rfl rfl rfl ?_; refine LL.skip rfl rfl ?_; refine LL.skip rfl rfl ?_; refine LL.skip rfl rfl ?_; refine LL.skip rfl rfl ?_; refine LL.val (R.pick rfl rfl rfl) rfl rfl rfl ?_; refine LL.nilS ?_; refine CC.no rfl ?_; refine CC.skip ?_; refine EE.thenN ?_; refine CC.seq ?_; refine CC.seq ?_; refine CC.region ?_; refine LL.val (R.move rfl rfl) rfl rfl rfl ?_; refine LL.val (R.move rfl rfl) rfl rfl rfl ?_; refine LL.val (R.len rfl rfl rfl rfl) rfl rfl rfl ?_)
        refine LL.keep [(1, .int .i64 (n : Int)), (3, .slice a2 N2 cap2), (9, .pointer (some ⟨g, 0, none⟩)), (12, .slice aa A.length cpa), (13, .int .i64 (i : Int)), (119, .int .i64 (i : Int)), (121, .int .i64 (N2 : Int))] ⟨rfl, rfl, rfl, rfl, rfl, rfl, rfl, trivial⟩ ?_
        exact kk.out
      case k =>
        by_cases hiN : i = N2
        · (refine LL.val (R.eqT rfl rfl rfl (by omega)) rfl rfl rfl ?_; refine LL.val (R.move rfl rfl) rfl rfl rfl ?_; refine LL.skip rfl rfl ?_; refine LL.skip rfl rfl ?_; refine LL.skip rfl rfl ?_; refine LL.skip rfl rfl ?_; refine LL.skip rfl rfl ?_; refine LL.skip rfl rfl ?_; refine LL.skip rfl rfl ?_; refine LL.val (R.pick rfl rfl rfl) rfl rfl rfl ?_; refine LL.nilS ?_; refine CC.yes rfl ?_; refine CC.exit ?_; refine EE.thenX ?_; refine EE.inX ?_; refine EE.thenN ?_; refine CC.region ?_; refine LL.val (R.move rfl rfl) rfl rfl rfl ?_; refine LL.val (R.addNc rfl rfl rfl rfl (by omega)) rfl rfl rfl ?_; refine LL.val (R.assign rfl rfl) rfl rfl rfl ?_; refine LL.nil ?_)
          exact EE.round (p := (i, .slice aa A.length cpa)) (i + 1, .slice aa A.length cpa) ⟨rfl, rfl, rfl, rfl, rfl, trivial⟩ ⟨by simp only; omega, q2, S, A, vh, vw, K, hF, hQ, hL2, hA2, hat, hA8, hKw⟩ (by simp only; omega)
        obtain ⟨s, hs⟩ : ∃ s, ys[i]? = some s := ⟨_, List.getElem?_eq_getElem (by omega)⟩
        obtain ⟨b3, off3, rfl, hbl3, hcs3⟩ := hbr.get aEnc hs
        have hcs2 := hcs3.below (B := w.heap.size) q2 hbl3
        have hc1 := hcs2.at (j := 1) (u := .int .i64 s.2) rfl
        by_cases hcl : s.2 = n
        · (refine LL.val (R.eqF rfl rfl rfl (by omega)) rfl rfl rfl ?_; refine LL.val (R.move rfl rfl) rfl rfl rfl ?_; refine LL.val (R.move rfl rfl) rfl rfl rfl ?_; refine LL.val (R.move rfl rfl) rfl rfl rfl ?_; refine LL.val (R.index rfl rfl rfl (I.ixS rfl (by omega))) rfl rfl rfl ?_; refine LL.val (R.field rfl rfl (I.fld rfl)) rfl rfl rfl ?_; refine LL.val (R.load rfl rfl (I.ld1 rfl (by assumption))) rfl rfl rfl ?_; refine LL.val (R.move rfl rfl) rfl rfl rfl ?_; refine LL.val (R.eqT rfl rfl rfl (by omega)) rfl rfl rfl ?_; refine LL.val (R.pick rfl rfl rfl) rfl rfl rfl ?_; refine LL.nilS ?_; refine CC.yes rfl ?_; refine CC.exit ?_; refine EE.thenX ?_; refine EE.inX ?_; refine EE.thenN ?_; refine CC.region ?_; refine LL.val (R.move rfl rfl) rfl rfl rfl ?_; refine LL.val (R.addNc rfl rfl rfl rfl (by omega)) rfl rfl rfl ?_; refine LL.val (R.assign rfl rfl) rfl rfl rfl ?_; refine LL.nil ?_)
          exact EE.round (p := (i, .slice aa A.length cpa)) (i + 1, .slice aa A.length cpa) ⟨rfl, rfl, rfl, rfl, rfl, trivial⟩ ⟨by simp only; omega, q2, S, A, vh, vw, K, hF, hQ, hL2, hA2, hat, hA8, hKw⟩ (by simp only; omega)
        (refine LL.val (R.eqF rfl rfl rfl (by omega)) rfl rfl rfl ?_; refine LL.val (R.move rfl rfl) rfl rfl rfl ?_; refine LL.val (R.move rfl rfl) rfl rfl rfl ?_; refine LL.val (R.move rfl rfl) rfl rfl rfl ?_; refine LL.val (R.index rfl rfl rfl (I.ixS rfl (by omega))) rfl rfl rfl ?_; refine LL.val (R.field rfl rfl (I.fld rfl)) rfl rfl rfl ?_; refine LL.val (R.load rfl rfl (I.ld1 rfl (by assumption))) rfl rfl rfl ?_; refine LL.val (R.move rfl rfl) rfl rfl rfl ?_; refine LL.val (R.eqF rfl rfl rfl (by omega)) rfl rfl rfl ?_; refine LL.val (R.pick rfl rfl rfl) rfl rfl rfl ?_; refine LL.nilS ?_; refine CC.no rfl ?_; refine CC.skip ?_; refine EE.thenN ?_; refine CC.seq ?_; refine CC.region ?_; refine LL.val (R.move rfl rfl) rfl rfl rfl ?_)
        refine LL.val (R.buildV rfl rfl (v := .agg #[.slice none 0 0, .slice none 0 0]) (fun _ => by kernel_rfl)) rfl rfl rfl ?_
        (refine LL.val (R.move rfl rfl) rfl rfl rfl ?_; refine LL.val (R.move rfl rfl) rfl rfl rfl ?_; refine LL.val (R.index rfl rfl rfl (I.ixS rfl (by omega))) rfl rfl rfl ?_)
        refine LL.val (R.load rfl rfl (I.ldN (vs := aE s) rfl rfl hcs2)) rfl rfl rfl ?_
        refine LL.call (R.call rfl rfl rfl) rfl rfl rfl (act_any s.1 s.2 w2 hL2 hF.good DocAt.none (by simp)) ?_
        rintro e w3 ⟨uh', uw', vh', vw', K', rfl, hKK, hL3, _, k3⟩
        refine ⟨_, rfl, ?_⟩
        have hA3 := hA2.kept k3 hat
        have hF3 := hF.act s.1 s.2
        have hQ3 := hQ.act hF.good s.1 s.2 hcl
        have q3 : Below w.heap.size w w3 := q2.trans (k3.less fun j (hj : j < w.heap.size) => hKw j hj).bel
        have y3 := k3.size
        have hc0 := (hcs3.below (B := w.heap.size) q3 hbl3).at (j := 0) (u := .int .i64 s.1) rfl
        by_cases h2' : s.1 = 2
        · have hlp : leftP A s.1 s.2 = outP A s.2 := by unfold leftP; rw [if_pos h2']
          rw [hlp] at hQ3
          (refine LL.nilS ?_; refine CC.seq ?_; refine CC.region ?_; refine LL.val (R.move rfl rfl) rfl rfl rfl ?_; refine LL.val (R.move rfl rfl) rfl rfl rfl ?_; refine LL.val (R.index rfl rfl rfl (I.ixS rfl (by omega))) rfl rfl rfl ?_; refine LL.val (R.field rfl rfl (I.fld rfl)) rfl rfl rfl ?_; refine LL.val (R.load rfl rfl (I.ld1 rfl (by assumption))) rfl rfl rfl ?_; refine LL.val (R.eqT rfl rfl rfl (by omega)) rfl rfl rfl ?_; refine LL.nilS ?_; refine CC.yes rfl ?_; refine CC.seq ?_; refine CC.region ?_; refine LL.val (R.assign rfl rfl) rfl rfl rfl ?_; refine LL.nilS ?_; refine CC.seq ?_; refine CC.seq ?_; refine CC.region ?_; refine LL.val (R.assign rfl rfl) rfl rfl rfl ?_; refine LL.nilS ?_; refine CC.block ?_)
          refine CC.loop (α := Nat × Value) (fun q => [(1, .int .i64 (n : Int)), (3, .slice (some ⟨b3, off3, none⟩) N2 cap2), (9, .pointer (some ⟨g, 0, none⟩)), (12, .slice aa A.length cpa), (13, .int .i64 (i : Int)), (18, q.2), (19, .int .i64 (q.1 : Int))]) (fun q wr' => q.1 ≤ A.length ∧ Below w3.heap.size w3 wr' ∧ OwnsT tE 2 wr' w3.heap.size 51 q.2 (outP (A.take q.1) s.2)) (fun q => A.length - q.1) (0, .slice none 0 0) ⟨rfl, rfl, rfl, rfl, rfl, rfl, rfl, trivial⟩ ⟨by simp, Below.refl _ _, by simpa [outP] using OwnsT.none _ _ _⟩ ?_
          rintro ⟨k, vl⟩ wr3 ⟨hk3, hb3, ho⟩
          simp only at hk3 ho
          have y33 := hb3.size
          by_cases hkl3 : k < A.length
          · obtain ⟨t, ht⟩ : ∃ t, A[k]? = some t := ⟨_, List.getElem?_eq_getElem hkl3⟩
            obtain ⟨b, off, rfl, hbl, hcs⟩ := hA3.get tEnc ht
            have hcd := hcs.below hb3.drew hbl
            have hcA := hcd.at (j := 0) (u := .int .i64 (t.1 : Int)) rfl
            have hcB := (hcs3.below (B := w.heap.size) (q3.trans (hb3.drew.mono q3.size)) hbl3).at (j := 1) (u := .int .i64 s.2) rfl
            have hstep : A.take (k + 1) = A.take k ++ [t] := by rw [List.take_add_one, ht]; rfl
            by_cases hst : (t.1 : Int) = s.2
            · (refine CC.seq ?_; refine CC.seq ?_; refine CC.region ?_; refine LL.val (R.move rfl rfl) rfl rfl rfl ?_; refine LL.val (R.move rfl rfl) rfl rfl rfl ?_; refine LL.val (R.len rfl rfl rfl rfl) rfl rfl rfl ?_; refine LL.val (R.ltT rfl rfl rfl (by omega)) rfl rfl rfl ?_; refine LL.nilS ?_; refine CC.yes rfl ?_; refine CC.skip ?_; refine EE.thenN ?_; refine CC.seq ?_; refine CC.block ?_; refine CC.seq ?_)
              refine CC.quiet (by kernel_rfl) (by kernel_rfl) ?_
              (refine SS.val (R.move rfl rfl) rfl rfl ?_; refine SS.val (R.move rfl rfl) rfl rfl ?_; refine SS.val (R.index rfl rfl rfl (I.ixS rfl (by omega))) rfl rfl ?_; refine SS.val (R.field rfl rfl (I.fld rfl)) rfl rfl ?_; refine SS.val (R.load rfl rfl (I.ld1 rfl (by assumption))) rfl rfl ?_; refine SS.val (R.move rfl rfl) rfl rfl ?_; refine SS.val (R.move rfl rfl) rfl rfl ?_; refine SS.val (R.index rfl rfl rfl (I.ixS rfl (by omega))) rfl rfl ?_; refine SS.val (R.field rfl rfl (I.fld rfl)) rfl rfl ?_; refine SS.val (R.load rfl rfl (I.ld1 rfl (by assumption))) rfl rfl ?_; refine SS.val (R.neF rfl rfl rfl (by omega)) rfl rfl ?_; refine SS.nilQ ?_)
              (refine EE.thenN ?_; refine CC.no rfl ?_; refine CC.skip ?_; refine EE.inN ?_; refine EE.thenN ?_; refine CC.region ?_; refine LL.val (R.move rfl rfl) rfl rfl rfl ?_; refine LL.val (R.addNc rfl rfl rfl rfl (by omega)) rfl rfl rfl ?_; refine LL.val (R.assign rfl rfl) rfl rfl rfl ?_; refine LL.nil ?_)
              refine EE.round (p := (k, vl)) (k + 1, vl) ⟨rfl, rfl, rfl, rfl, rfl, rfl, rfl, trivial⟩ ⟨by simp only; omega, hb3.drew, ?_⟩ (by simp only; omega)
              simp only
              rw [hstep, outP_app]
              have : outP [t] s.2 = [] := by simp [outP, hst]
              rw [this, List.append_nil]
              exact ho.below below_drew
            · (refine CC.seq ?_; refine CC.seq ?_; refine CC.region ?_; refine LL.val (R.move rfl rfl) rfl rfl rfl ?_; refine LL.val (R.move rfl rfl) rfl rfl rfl ?_; refine LL.val (R.len rfl rfl rfl rfl) rfl rfl rfl ?_; refine LL.val (R.ltT rfl rfl rfl (by omega)) rfl rfl rfl ?_; refine LL.nilS ?_; refine CC.yes rfl ?_; refine CC.skip ?_; refine EE.thenN ?_; refine CC.seq ?_; refine CC.block ?_; refine CC.seq ?_)
              refine CC.quiet (by kernel_rfl) (by kernel_rfl) ?_
              (refine SS.val (R.move rfl rfl) rfl rfl ?_; refine SS.val (R.move rfl rfl) rfl rfl ?_; refine SS.val (R.index rfl rfl rfl (I.ixS rfl (by omega))) rfl rfl ?_; refine SS.val (R.field rfl rfl (I.fld rfl)) rfl rfl ?_; refine SS.val (R.load rfl rfl (I.ld1 rfl (by assumption))) rfl rfl ?_; refine SS.val (R.move rfl rfl) rfl rfl ?_; refine SS.val (R.move rfl rfl) rfl rfl ?_; refine SS.val (R.index rfl rfl rfl (I.ixS rfl (by omega))) rfl rfl ?_; refine SS.val (R.field rfl rfl (I.fld rfl)) rfl rfl ?_; refine SS.val (R.load rfl rfl (I.ld1 rfl (by assumption))) rfl rfl ?_; refine SS.val (R.neT rfl rfl rfl (by omega)) rfl rfl ?_; refine SS.nilQ ?_)
              (refine EE.thenN ?_; refine CC.yes rfl ?_; refine CC.region ?_; refine LL.val (R.move rfl rfl) rfl rfl rfl ?_; refine LL.val (R.move rfl rfl) rfl rfl rfl ?_; refine LL.val (R.move rfl rfl) rfl rfl rfl ?_; refine LL.val (R.index rfl rfl rfl (I.ixS rfl (by omega))) rfl rfl rfl ?_)
              refine LL.val (R.load rfl rfl (I.ldN (vs := tE t) rfl rfl hcd)) rfl rfl rfl ?_
              refine LL.lit (e := 51) (tE t) 1 rfl rfl (fun _ => by kernel_rfl) rfl rfl ?_
              intro w4 g4 e4 r4 z4 b4
              have rd : ReadsTn w4 (.slice (some ⟨g4, 0, none⟩) 1 1) [t] := RowL.readsT (ts := [t]) tEnc (by simpa using r4) 1 (by simp)
              have y4 := b4.size
              have hyd : wr3.drew.heap.size = wr3.heap.size := rfl
              have hlen : (outP (A.take k) s.2).length ≤ 8 := Nat.le_trans (List.length_filter_le _ _) (by rw [List.length_take]; omega)
              have ho4 := (ho.below below_drew).below b4
              refine LL.appendT rfl rfl tEnc ElTurn ho4 rd (by simp only [List.length_singleton, maxLen]; omega) (by simp only [List.length_singleton]; omega) (by omega) rfl rfl ?_
              intro v5 w5 o5 g5
              have b35 : Below w3.heap.size w3 w5 := (hb3.drew.trans (b4.mono (by omega))).trans (ho4.bel g5 (by omega))
              (refine LL.val (R.assign rfl rfl) rfl rfl rfl ?_; refine LL.nil ?_; refine EE.inN ?_; refine EE.thenN ?_; refine CC.region ?_; refine LL.val (R.move rfl rfl) rfl rfl rfl ?_; refine LL.val (R.addNc rfl rfl rfl rfl (by omega)) rfl rfl rfl ?_; refine LL.val (R.assign rfl rfl) rfl rfl rfl ?_; refine LL.nil ?_)
              refine EE.round (p := (k, vl)) (k + 1, v5) ⟨rfl, rfl, rfl, rfl, rfl, rfl, rfl, trivial⟩ ⟨by simp only; omega, b35, ?_⟩ (by simp only; omega)
              simp only
              rw [hstep, outP_app]
              have : outP [t] s.2 = [t] := by simp [outP, hst]
              rw [this]
              exact o5
          · have hke3 : k = A.length := by omega
            subst hke3
            rw [List.take_of_length_le (Nat.le_refl _)] at ho
            have hlen : (outP A s.2).length ≤ 8 := Nat.le_trans (List.length_filter_le _ _) hA8
            have q4 : Below w.heap.size w wr3 := q3.trans (hb3.mono q3.size)
            (refine CC.seq ?_; refine CC.seq ?_; refine CC.region ?_; refine LL.val (R.move rfl rfl) rfl rfl rfl ?_; refine LL.val (R.move rfl rfl) rfl rfl rfl ?_; refine LL.val (R.len rfl rfl rfl rfl) rfl rfl rfl ?_; refine LL.val (R.ltF rfl rfl rfl (by omega)) rfl rfl rfl ?_; refine LL.nilS ?_; refine CC.no rfl ?_; refine CC.exit ?_; refine EE.thenX ?_; refine EE.thenX ?_; refine EE.inX ?_; refine EE.thenN ?_; refine CC.region ?_; refine LL.val (R.move rfl rfl) rfl rfl rfl ?_; refine LL.val (R.assign rfl rfl) rfl rfl rfl ?_; refine LL.nil ?_; refine EE.inN ?_; refine EE.thenN ?_; refine CC.region ?_; refine LL.val (R.move rfl rfl) rfl rfl rfl ?_; refine LL.val (R.addNc rfl rfl rfl rfl (by omega)) rfl rfl rfl ?_; refine LL.val (R.assign rfl rfl) rfl rfl rfl ?_; refine LL.nil ?_)
            exact EE.round (p := (i, .slice aa A.length cpa)) (i + 1, vl) ⟨rfl, rfl, rfl, rfl, rfl, trivial⟩ ⟨by simp only; omega, q4, _, outP A s.2, vh', vw', newer K' w3 wr3, hF3, hQ3, hL3.newer hb3 (fun j hj => by
              rcases hj with h | ⟨h, h'⟩
              · exact ⟨by have := hL3.kl j h; omega, .inl h⟩
              · exact ⟨h', .inr h⟩), ho.reads tEnc, ho.at.less fun j hj => .inr hj, hlen, fun j hj => .inl (hKK j (hKw j hj))⟩ (by simp only; omega)
        · have hlp : leftP A s.1 s.2 = A := by unfold leftP; rw [if_neg h2']
          rw [hlp] at hQ3
          (refine LL.nilS ?_; refine CC.seq ?_; refine CC.region ?_; refine LL.val (R.move rfl rfl) rfl rfl rfl ?_; refine LL.val (R.move rfl rfl) rfl rfl rfl ?_; refine LL.val (R.index rfl rfl rfl (I.ixS rfl (by omega))) rfl rfl rfl ?_; refine LL.val (R.field rfl rfl (I.fld rfl)) rfl rfl rfl ?_; refine LL.val (R.load rfl rfl (I.ld1 rfl (by assumption))) rfl rfl rfl ?_; refine LL.val (R.eqF rfl rfl rfl (by omega)) rfl rfl rfl ?_; refine LL.nilS ?_; refine CC.no rfl ?_; refine CC.skip ?_; refine EE.inN ?_; refine EE.thenN ?_; refine CC.region ?_; refine LL.val (R.move rfl rfl) rfl rfl rfl ?_; refine LL.val (R.addNc rfl rfl rfl rfl (by omega)) rfl rfl rfl ?_; refine LL.val (R.assign rfl rfl) rfl rfl rfl ?_; refine LL.nil ?_)
          exact EE.round (p := (i, .slice aa A.length cpa)) (i + 1, .slice aa A.length cpa) ⟨rfl, rfl, rfl, rfl, rfl, trivial⟩ ⟨by simp only; omega, q3, _, A, vh', vw', K', hF3, hQ3, hL3, hA3, hat.less hKK, hA8, fun j hj => hKK j (hKw j hj)⟩ (by simp only; omega)
  · obtain rfl : i = N2 + 1 := by omega
    (refine CC.seq ?_; refine CC.seq ?_; refine CC.region ?_; refine LL.val (R.move rfl rfl) rfl rfl rfl ?_; refine LL.val (R.move rfl rfl) rfl rfl rfl ?_; refine LL.val (R.len rfl rfl rfl rfl) rfl rfl rfl ?_; refine LL.val (R.leF rfl rfl rfl (by omega)) rfl rfl rfl ?_; refine LL.nilS ?_; refine CC.no rfl ?_; refine CC.exit ?_; refine EE.thenX ?_; refine EE.thenX ?_; refine EE.inX ?_; refine EE.thenN ?_; refine CC.seq ?_; refine CC.region ?_)
    refine LL.call (R.call rfl rfl rfl) rfl rfl rfl (works_any _) ?_
    rintro e w9 ⟨rfl, b9⟩
    refine ⟨_, rfl, ?_⟩
    (refine LL.val (R.assign rfl rfl) rfl rfl rfl ?_; refine LL.nilS ?_; refine CC.ret ?_)
    refine EE.ret _ rfl rfl ?_
    exact ⟨rfl, hbw.trans (b9.mono hbw.size)⟩
end Go.Proofs.Ytcchffdnbamkoaa
