/- The statements' is: a latch stands as the document's. -/
import Derived.Test.YtcchffdnbamkoaaAct
import Derived.Test.YtcchffdnbamkoaaWaitsL
namespace Go.Proofs.Ytcchffdnbamkoaa
set_option linter.unusedVariables false
set_option linter.unusedSimpArgs false
open Go.RowKit Go.Shelf

theorem holds_is {K : Nat → Prop} {g : Nat} {vh vw : Value} {S : LS} (c : Int) (w : World) (h : LatchAt w K g vh vw (clP S) S.1 S.2) (hS : Good S) :
    Calls Try.prog 20 #[.pointer (some ⟨g, 0, none⟩), .int .i64 c] w fun e w' => e = .returned (.bool (decide (hasP S.1 c))) ∧ w = w' := by
  by_cases hc : c < 0 ∨ 8 ≤ c
  · refine (holds_bad c w h hc).mono ?_
    rintro e w' ⟨rfl, rfl⟩
    have : ¬ hasP S.1 c := fun ⟨t, ht, e⟩ => by
      have := hS.lt t (List.mem_append.2 (.inl ht))
      omega
    rw [decide_eq_false this]
    exact ⟨rfl, rfl⟩
  · obtain ⟨n, rfl⟩ : ∃ n : Nat, c = n := ⟨c.toNat, by omega⟩
    refine (holds_any n _ w h (clP_get S (by omega))).mono ?_
    rintro e w' ⟨rfl, rfl⟩
    have : decide (stP S n = 1) = decide (hasP S.1 n) := by rw [Bool.eq_iff_iff, decide_eq_true_eq, decide_eq_true_eq, stP_one]
    rw [this]
    exact ⟨rfl, rfl⟩
theorem held_is {K : Nat → Prop} {g : Nat} {vh vw : Value} {S : LS} (w : World) (h : LatchAt w K g vh vw (clP S) S.1 S.2) (hS : Good S) :
    Calls Try.prog 14 #[.pointer (some ⟨g, 0, none⟩)] w fun e w' => ∃ v', e = .returned v' ∧ OwnsT tE 2 w' w.heap.size 51 v' S.1 ∧ Below w.heap.size w w' := held_any w h (by have := hS.len; omega)
theorem waits_is {K : Nat → Prop} {g : Nat} {vh vw : Value} {S : LS} (w : World) (h : LatchAt w K g vh vw (clP S) S.1 S.2) (hS : Good S) :
    Calls Try.prog 13 #[.pointer (some ⟨g, 0, none⟩)] w fun e w' => ∃ v, e = .returned (.tuple #[v, .bool true]) ∧ OwnsT tE 2 w' w.heap.size 51 v S.2 ∧ Below w.heap.size w w' :=
  waits_of _ S.2 w (by have := hS.len; omega) fun w2 b2 => lwaits_any w2 (h.below b2) (by have := hS.len; omega)
theorem waits_nil (w : World) :
    Calls Try.prog 13 #[.pointer none] w fun e w' => ∃ v, e = .returned (.tuple #[v, .bool true]) ∧ OwnsT tE 2 w' w.heap.size 51 v [] ∧ Below w.heap.size w w' :=
  waits_of _ [] w (by simp) fun w2 _ => lwaits_nil w2

set_option maxRecDepth 100000 in
set_option maxHeartbeats 4000000 in
theorem is_any {K : Nat → Prop} {g : Nat} {vh vw uh uw : Value} {S : LS} (w : World) (hL : LatchAt w K g vh vw (clP S) S.1 S.2) (hS : Good S) (hh : ReadsTn w uh S.1) (hw : ReadsTn w uw S.2) :
    Calls Try.prog 10 #[.pointer (some ⟨g, 0, none⟩), .agg #[uh, uw]] w fun e w' => e = .returned (.bool true) ∧ Below w.heap.size w w' := by
  obtain ⟨a1, cp1, rfl, _⟩ := hh.form rfl
  obtain ⟨a2, cp2, rfl, _⟩ := hw.form rfl
  have hl8 := hS.len
  refine X.fn Try.func10 rfl (n := 42) rfl rfl ?_
  (refine CC.seq ?_; refine CC.region ?_)
  refine LL.box [.slice a1 S.1.length cp1, .slice a2 S.2.length cp2] rfl rfl rfl rfl rfl ?_
  intro w1 g1 e1 r1 z1 b1
  have y1 := b1.size
  (refine LL.val (R.assign rfl rfl) rfl rfl rfl ?_; refine LL.nilS ?_; refine CC.seq ?_; refine CC.region ?_; refine LL.val (R.move rfl rfl) rfl rfl rfl ?_)
  refine LL.call (R.call rfl rfl rfl) rfl rfl rfl (waits_is w1 (hL.below b1) hS) ?_
  rintro e w2 ⟨v2, rfl, o2, b2⟩
  refine ⟨_, rfl, ?_⟩
  have y2 := b2.size
  have r12 := r1.below b2 r1.lt
  have q2 : Below w.heap.size w w2 := b1.trans (b2.mono y1)
  have hg1l := r12.lt
  (refine LL.val (R.move rfl rfl) rfl rfl rfl ?_; refine LL.val (R.extract rfl rfl rfl) rfl rfl rfl ?_; refine LL.val (R.extract rfl rfl rfl) rfl rfl rfl ?_; refine LL.val (R.assign rfl rfl) rfl rfl rfl ?_; refine LL.val (R.assign rfl rfl) rfl rfl rfl ?_; refine LL.nilS ?_; refine CC.seq ?_; refine CC.seq ?_)
  have ok0 : Below w2.heap.size w2 w2.drew := below_drew
  have c1 : ∀ w', Below w2.heap.size w2 w' → w'.cell? ⟨g1, 0, none⟩ = some (.slice a1 S.1.length cp1) := fun w' hw' => (r12.below hw' hg1l).cell rfl
  have c2 : ∀ w', Below w2.heap.size w2 w' → w'.cell? ⟨g1, 1, none⟩ = some (.slice a2 S.2.length cp2) := fun w' hw' => (r12.below hw' hg1l).cell rfl
  refine CC.free (Below w2.heap.size w2) (by kernel_rfl) rfl ?_
  (refine AA.pure 0 rfl (by assumption) (by kernel_rfl) (fun w' hw' => R.move rfl rfl) rfl rfl ?_)
  (refine AA.pure 1 rfl (by assumption) (by kernel_rfl) (fun w' hw' => R.not rfl rfl) rfl rfl ?_)
  (refine AA.pure 2 rfl (by assumption) (by kernel_rfl) (fun w' hw' => R.move rfl rfl) rfl rfl ?_)
  (refine AA.pure 3 rfl (by assumption) (by kernel_rfl) (fun w' hw' => R.move rfl rfl) rfl rfl ?_)
  (refine AA.pure 4 rfl (by assumption) (by kernel_rfl) (fun w' hw' => R.field rfl rfl (I.fld rfl)) rfl rfl ?_)
  refine AA.pure 5 rfl (by assumption) (by kernel_rfl) (fun w' hw' => R.load rfl rfl (I.ld1 rfl (c2 w' hw'))) rfl rfl ?_
  refine AA.one 6 (by kernel_rfl) ?_
  refine SR.call rfl (R.call rfl rfl rfl) rfl rfl (rsame_any _ _ S.2 S.2 w2.drew ((o2.reads tEnc).below ok0) ((hw.below q2).below ok0) (by omega) (by omega)) ?_
  rintro e w3 ⟨rfl, b3⟩
  have q3 : Below w2.heap.size w2 w3 := ok0.trans (b3.mono (Nat.le_refl _))
  rw [decide_eq_true rfl]
  refine ⟨_, rfl, q3, ?_⟩
  (refine AA.pure 7 rfl (by assumption) (by kernel_rfl) (fun w' hw' => R.not rfl rfl) rfl rfl ?_)
  (refine AA.pure 8 rfl (by assumption) (by kernel_rfl) (fun w' hw' => R.pick rfl rfl rfl) rfl rfl ?_)
  (refine AA.pure 9 rfl (by assumption) (by kernel_rfl) (fun w' hw' => R.move rfl rfl) rfl rfl ?_)
  (refine AA.pure 10 rfl (by assumption) (by kernel_rfl) (fun w' hw' => R.move rfl rfl) rfl rfl ?_)
  (refine AA.pure 12 rfl (by assumption) (by kernel_rfl) (fun w' hw' => R.field rfl rfl (I.fld rfl)) rfl rfl ?_)
  refine AA.pure 13 rfl (by assumption) (by kernel_rfl) (fun w' hw' => R.load rfl rfl (I.ld1 rfl (c1 w' hw'))) rfl rfl ?_
  refine AA.one 11 (by kernel_rfl) ?_
  refine SR.call rfl (R.call rfl rfl rfl) rfl rfl (held_is w3 ((hL.below q2).below q3) hS) ?_
  rintro e w4 ⟨v4, rfl, o4, b4⟩
  have q4 : Below w2.heap.size w2 w4 := q3.trans (b4.mono q3.size)
  refine ⟨_, rfl, q4, ?_⟩
  refine AA.one 14 (by kernel_rfl) ?_
  refine SR.call rfl (R.call rfl rfl rfl) rfl rfl (rsame_any _ _ S.1 S.1 w4 (o4.reads tEnc) ((hh.below q2).below q4) (by omega) (by omega)) ?_
  rintro e w5 ⟨rfl, b5⟩
  have q5 : Below w2.heap.size w2 w5 := q4.trans (b5.mono q4.size)
  rw [decide_eq_true rfl]
  refine ⟨_, rfl, q5, ?_⟩
  (refine AA.pure 15 rfl (by assumption) (by kernel_rfl) (fun w' hw' => R.not rfl rfl) rfl rfl ?_)
  (refine AA.pure 16 rfl (by assumption) (by kernel_rfl) (fun w' hw' => R.pick rfl rfl rfl) rfl rfl ?_)
  refine AA.done (by kernel_rfl) ?_
  have q05 : Below w.heap.size w w5 := q2.trans (q5.mono q2.size)
  (refine EE.thenN ?_; refine CC.no rfl ?_; refine CC.skip ?_; refine EE.thenN ?_; refine CC.seq ?_; refine CC.seq ?_; refine CC.region ?_; refine LL.val (R.assign rfl rfl) rfl rfl rfl ?_; refine LL.nilS ?_; refine CC.block ?_)
  refine CC.loop (α := Int) (fun c => [(0, .pointer (some ⟨g, 0, none⟩)), (3, .pointer (some ⟨g1, 0, none⟩)), (7, .int .i64 c)]) (fun c wr => Below w5.heap.size w5 wr ∧ -1 ≤ c ∧ c ≤ 9) (fun c => (9 - c).toNat) (-1) ⟨rfl, rfl, rfl, trivial⟩ ⟨Below.refl _ _, by omega, by omega⟩ ?_
  rintro c wr ⟨hbw, hc1, hc2⟩
  have q6 : Below w.heap.size w wr := q05.trans (hbw.mono q05.size)
  by_cases hlt : c ≤ 8
  · have hLr := (hL.below q6).below below_drew
    have hhr := (hh.below q6).below below_drew
    have c0 : wr.drew.cell? ⟨g1, 0, none⟩ = some (.slice a1 S.1.length cp1) := ((r12.below q5 hg1l).below hbw (by have := q5.size; omega)).drew.cell rfl
    (refine CC.seq ?_; refine CC.seq ?_; refine CC.region ?_; refine LL.val (R.move rfl rfl) rfl rfl rfl ?_; refine LL.val (R.leT rfl rfl rfl (by omega)) rfl rfl rfl ?_; refine LL.nilS ?_; refine CC.yes rfl ?_; refine CC.skip ?_; refine EE.thenN ?_; refine CC.seq ?_; refine CC.block ?_; refine CC.seq ?_)
    refine CC.quiet (by kernel_rfl) (by kernel_rfl) ?_
    (refine SS.val (R.move rfl rfl) rfl rfl ?_; refine SS.val (R.move rfl rfl) rfl rfl ?_)
    refine SS.call (R.call rfl rfl rfl) rfl rfl (holds_is c wr.drew hLr hS) ?_
    (refine SS.val (R.field rfl rfl (I.fld rfl)) rfl rfl ?_; refine SS.val (R.load rfl rfl (I.ld1 rfl (by assumption))) rfl rfl ?_; refine SS.val (R.move rfl rfl) rfl rfl ?_)
    refine SS.call (R.call rfl rfl rfl) rfl rfl (rhas_any _ S.1 c wr.drew hhr (by omega)) ?_
    refine SS.val (R.neBool rfl rfl rfl rfl (b := false) (by
      have : decide (hasP S.1 c) = decide (∃ t ∈ S.1, (t.1 : Int) = c) := rfl
      rw [this]; simp)) rfl rfl ?_
    (refine SS.nilQ ?_)
    (refine EE.thenN ?_; refine CC.no rfl ?_; refine CC.skip ?_; refine EE.inN ?_; refine EE.thenN ?_; refine CC.region ?_; refine LL.val (R.move rfl rfl) rfl rfl rfl ?_; refine LL.val (R.addI rfl rfl rfl (by omega)) rfl rfl rfl ?_; refine LL.val (R.assign rfl rfl) rfl rfl rfl ?_; refine LL.nil ?_)
    exact EE.round (c + 1) ⟨rfl, rfl, rfl, trivial⟩ ⟨hbw.drew, by omega, by omega⟩ (by omega)
  · (refine CC.seq ?_; refine CC.seq ?_; refine CC.region ?_; refine LL.val (R.move rfl rfl) rfl rfl rfl ?_; refine LL.val (R.leF rfl rfl rfl (by omega)) rfl rfl rfl ?_; refine LL.nilS ?_; refine CC.no rfl ?_; refine CC.exit ?_; refine EE.thenX ?_; refine EE.thenX ?_; refine EE.inX ?_; refine EE.thenN ?_; refine CC.seq ?_; refine CC.region ?_; refine LL.val (R.assign rfl rfl) rfl rfl rfl ?_; refine LL.nilS ?_; refine CC.ret ?_)
    refine EE.ret _ rfl rfl ?_
    exact ⟨rfl, q6⟩
end Go.Proofs.Ytcchffdnbamkoaa
