/- The statements' act: a call by both. -/
import Derived.Test.YtcchffdnbamkoaaDocAsk
namespace Go.Proofs.Ytcchffdnbamkoaa
set_option linter.unusedVariables false
set_option linter.unusedSimpArgs false
open Go.RowKit Go.Shelf

theorem num_any (e : Int) (w : World) (h1 : -9223372036854775808 ≤ e) (h2 : e ≤ 9223372036854775807) : Calls Try.prog 17 #[.int .i64 e] w fun r w' => r = .returned (.int .i64 e) ∧ w = w' := by
  refine X.fn Try.func17 rfl (n := 4) rfl rfl ?_
  (refine CC.seq ?_; refine CC.region ?_; refine LL.val (R.assign rfl rfl) rfl rfl rfl ?_; refine LL.nilS ?_; refine CC.seq ?_; refine CC.region ?_; refine LL.val (R.move rfl rfl) rfl rfl rfl ?_; refine LL.val (R.assign rfl rfl) rfl rfl rfl ?_; refine LL.nilS ?_; refine CC.ret ?_)
  refine EE.ret _ rfl rfl ?_
  exact ⟨rfl, rfl⟩

section
variable {P : Program} {ops : Array Oper} {ok : World → Prop} {n i : Nat} {D : List Deferred} {M : Slots} {w : World} {o : Oper} {K : Slots → World → Prop} {t : TypeId}
/-- A store of a whole value into a row that is known, as a step of a drawn region. -/
theorem SR.storeN {x y : Operand} {vs : List Value} {g off e : Nat} {xs : List Value} (hi : ops[i]? = some o) (ho : o.op = .store t x y) (hx : evM M x = some (.pointer (some ⟨g, off, none⟩))) (hy : evM M y = some (.agg vs.toArray)) (hz : szB P t = some vs.length) (hr : RowL w g e xs) (hl : off + vs.length ≤ xs.length) (h1 : ∀ u ∈ vs, u.oneCell' = true) (hd : o.dst = none) (hg : wantB ops M o.guard = some true)
    (c : ∀ w1, RowL w1 g e (xs.take off ++ vs ++ xs.drop (off + vs.length)) → w.grownBy w1 (some g) → w1.heap.size = w.heap.size → ok w1 ∧ K M w1) : SR P ops ok i K n D M w := SR.mk fun K' hK a F => by
  obtain ⟨w1, h2, h3, h4, h5⟩ := I.stN (t := t) hz hr hl h1
  have h := c _ h3 h4 h5
  unfold stepR
  simp only [hi]
  rw [if_pos (F.want hg)]
  refine .inr (.inl ⟨_, R.store ho hx hy h2 a F, h.1, ?_⟩)
  rw [hd]
  exact hK _ _ h.2 _ F
end
theorem LL.keep {P : Program} {ops : Array Oper} {Q : Exit → Act → World → Prop} {n : Nat} {D : List Deferred} {M : Slots} {w : World} {r : Option Nat} {l : List Oper} (L : List (Nat × Value)) (hL : Fits M L) (h : LL r P ops Q n D (sl L) l w) : LL r P ops Q n D M l w := LL.mk fun a F => h.h a (F.keep L hL)
theorem beqI (a b : Nat) : (((a : Nat) : Int) == ((b : Nat) : Int)) = decide (b = a) := by
  rw [Bool.eq_iff_iff]
  simp only [beq_iff_eq, decide_eq_true_eq]
  omega
section
variable {w w' : World} {K : Nat → Prop} {g b : Nat} {vh vw : Value} {cl : List Nat} {hs ws : List Tn}
/-- A row that is not its. -/
theorem LatchAt.other (h : LatchAt w K g vh vw cl hs ws) (hg : w.grownBy w' (some b)) (hb : K b) : LatchAt w' K g vh vw cl hs ws :=
  ⟨h.row.same (hg.block g h.row.lt (by simp; intro e; subst e; exact h.kg hb)), h.len, h.held.grown hg (h.kh b hb), h.waits.grown hg (h.kw b hb), h.gh, h.gw, h.hw, fun j hj => Nat.lt_of_lt_of_le (h.kl j hj) hg.size, h.kg, h.kh, h.kw⟩
end
/-- What an act makes of a latch. -/
def actP (S : LS) (what c : Int) : LS := if what = 0 then (askP S c false).1 else if what = 1 then (askP S c true).1 else if what = 2 then (freeP S c).1 else S
/-- What it tells. -/
def codeP (S : LS) (what c : Int) : Nat := if what = 0 then (askP S c false).2 else if what = 1 then (askP S c true).2 else if what = 2 then (freeP S c).2 else 0
theorem Good.act {S : LS} (h : Good S) (what c : Int) : Good (actP S what c) := by
  unfold actP
  split
  · exact h.ask _ _
  · split
    · exact h.ask _ _
    · split
      · exact h.free _
      · exact h
theorem code_ask (S : LS) (c : Int) (wr : Bool) : (askP S c wr).2 ≤ 191 := by
  unfold askP
  split
  · exact Nat.le_of_ble_eq_true rfl
  · split <;> exact Nat.le_of_ble_eq_true rfl
theorem code_free (S : LS) (c : Int) : (freeP S c).2 ≤ 191 := by
  unfold freeP
  split
  · exact Nat.le_of_ble_eq_true rfl
  · split <;> exact Nat.le_of_ble_eq_true rfl

set_option maxRecDepth 100000 in
set_option maxHeartbeats 4000000 in
theorem act_any {K : Nat → Prop} {g : Nat} {vh vw uh uw : Value} {S T : LS} (what c : Int) (w : World) (hL : LatchAt w K g vh vw (clP S) S.1 S.2) (hS : Good S) (hD : DocAt w K uh uw T) (hT : T.1.length + T.2.length ≤ 80) :
    Calls Try.prog 9 #[.pointer (some ⟨g, 0, none⟩), .agg #[uh, uw], .agg #[.int .i64 what, .int .i64 c]] w fun e w' => ∃ uh' uw' vh' vw' K', e = .returned (.tuple #[.agg #[uh', uw'], .bool (decide (codeP T what c = codeP S what c))]) ∧ (∀ j, K j → K' j) ∧ LatchAt w' K' g vh' vw' (clP (actP S what c)) (actP S what c).1 (actP S what c).2 ∧ DocAt w' K' uh' uw' (actP T what c) ∧ Kept K w w' := by
  obtain ⟨a1, cp1, rfl, _⟩ := hD.held.form rfl
  obtain ⟨a2, cp2, rfl, _⟩ := hD.waits.form rfl
  have hl8 := hS.len
  refine X.fn Try.func9 rfl (n := 56) rfl rfl ?_
  (refine CC.seq ?_; refine CC.region ?_)
  refine LL.box [.slice a1 T.1.length cp1, .slice a2 T.2.length cp2] rfl rfl rfl rfl rfl ?_
  intro w1 g4 e1 r1 z1 b1
  refine LL.box [.int .i64 what, .int .i64 c] rfl rfl rfl rfl rfl ?_
  intro w2 g5 e2 r2 z2 b2
  refine LL.alloc [.slice none 0 0, .slice none 0 0] rfl rfl rfl rfl rfl ?_
  intro w3 g6 e3 r3 z3 b3
  have y1 := b1.size
  have y2 := b2.size
  have y3 := b3.size
  have q3 : Below w.heap.size w w3 := (b1.trans (b2.mono y1)).trans (b3.mono (by omega))
  have r13 : RowL w3 g4 28 [.slice a1 T.1.length cp1, .slice a2 T.2.length cp2] := (r1.below b2 r1.lt).below b3 (by have := r1.lt; omega)
  have r23 := r2.below b3 r2.lt
  have hL3 := hL.below q3
  have hD3 := hD.below q3
  have k3 : Kept K w w3 := bkept q3 hL.kl
  have hg4 : w.heap.size ≤ g4 := by omega
  have hg5 : w.heap.size ≤ g5 := by omega
  have hg6 : w.heap.size ≤ g6 := by omega
  have hg4l := r13.lt
  have hg5l := r23.lt
  have hg6l := r3.lt
  (refine LL.val (R.assign rfl rfl) rfl rfl rfl ?_; refine LL.nilS ?_; refine CC.seq ?_; refine CC.seq ?_; refine CC.region ?_; refine LL.val (R.field rfl rfl (I.fld rfl)) rfl rfl rfl ?_; refine LL.val (R.load rfl rfl (I.ld1 rfl (RowL.cell (by assumption) rfl))) rfl rfl rfl ?_; refine LL.nilS ?_; refine CC.block ?_; refine CC.seq ?_; refine CC.seq ?_; refine CC.region ?_)
  by_cases h0 : what = 0 ∨ what = 1
  · have hac : ∀ X : LS, actP X what c = (askP X c (what == 1)).1 ∧ codeP X what c = (askP X c (what == 1)).2 := fun X => by
      rcases h0 with rfl | rfl
      · exact ⟨rfl, rfl⟩
      · exact ⟨rfl, rfl⟩
    rw [(hac S).1, (hac T).1, (hac S).2, (hac T).2]
    apply twice (what = 0)
    case f =>
      intro h a
      (refine LL.val (R.eqT rfl rfl rfl (by omega)) rfl rfl rfl ?_; refine LL.val (R.assign rfl rfl) rfl rfl rfl ?_; refine LL.nilS ?_; refine CC.yes rfl ?_; refine CC.skip ?_; refine EE.thenN ?_; refine CC.yes rfl ?_; refine CC.seq ?_; refine CC.region ?_)
      refine LL.keep [(0, .pointer (some ⟨g, 0, none⟩)), (4, .pointer (some ⟨g4, 0, none⟩)), (5, .pointer (some ⟨g5, 0, none⟩)), (6, .pointer (some ⟨g6, 0, none⟩))] ⟨rfl, rfl, rfl, rfl, trivial⟩ ?_
      exact a.out
    case g =>
      intro h a
      (refine LL.val (R.eqF rfl rfl rfl (by omega)) rfl rfl rfl ?_; refine LL.val (R.assign rfl rfl) rfl rfl rfl ?_; refine LL.nilS ?_; refine CC.no rfl ?_; refine CC.region ?_; refine LL.val (R.eqT rfl rfl rfl (by omega)) rfl rfl rfl ?_; refine LL.val (R.assign rfl rfl) rfl rfl rfl ?_; refine LL.nilS ?_; refine CC.yes rfl ?_; refine CC.seq ?_; refine CC.region ?_)
      refine LL.keep [(0, .pointer (some ⟨g, 0, none⟩)), (4, .pointer (some ⟨g4, 0, none⟩)), (5, .pointer (some ⟨g5, 0, none⟩)), (6, .pointer (some ⟨g6, 0, none⟩))] ⟨rfl, rfl, rfl, rfl, trivial⟩ ?_
      exact a.out
    case k =>
      refine LL.val (R.load rfl rfl (I.ldN rfl rfl (r13.cells (vs := [.slice a1 T.1.length cp1, .slice a2 T.2.length cp2]) rfl))) rfl rfl rfl ?_
      (refine LL.val (R.field rfl rfl (I.fld rfl)) rfl rfl rfl ?_; refine LL.val (R.load rfl rfl (I.ld1 rfl (RowL.cell (by assumption) rfl))) rfl rfl rfl ?_; refine LL.val (R.field rfl rfl (I.fld rfl)) rfl rfl rfl ?_; refine LL.val (R.load rfl rfl (I.ld1 rfl (RowL.cell (by assumption) rfl))) rfl rfl rfl ?_)
      refine LL.val (R.eqB rfl rfl rfl) rfl rfl rfl ?_
      refine LL.call (R.call rfl rfl rfl) rfl rfl rfl (rask_any c (what == 1) w3 hD3 hL3.kl (by omega)) ?_
      rintro e w4 ⟨xh, xw, rfl, hD4, b4⟩
      refine ⟨_, rfl, ?_⟩
      have y4 := b4.size
      obtain ⟨a3, cp3, rfl, _⟩ := hD4.held.form rfl
      obtain ⟨a4, cp4, rfl, _⟩ := hD4.waits.form rfl
      (refine LL.val (R.move rfl rfl) rfl rfl rfl ?_; refine LL.val (R.extract rfl rfl rfl) rfl rfl rfl ?_; refine LL.val (R.extract rfl rfl rfl) rfl rfl rfl ?_)
      refine LL.alloc [.slice none 0 0, .slice none 0 0] rfl rfl rfl rfl rfl ?_
      intro w5 g8 e5 r5 z5 b5
      skip
      refine LL.storeN (vs := [.slice a3 _ cp3, .slice a4 _ cp4]) rfl rfl rfl rfl r5 (Nat.le_of_ble_eq_true rfl) (one2 _ _ rfl rfl) rfl rfl ?_
      intro w6 r6 g6' z6
      have y5 := b5.size
      have q46 : Below w4.heap.size w4 w6 := b5.grown g6' (by omega) (by rintro k ⟨⟩; omega)
      have q36 : Below w3.heap.size w3 w6 := b4.trans (q46.mono y4)
      have q6 : Below w.heap.size w w6 := q3.trans (q36.mono (by omega))
      have y6 := q46.size
      have hg8l := r6.lt
      have r26 := r23.below q36 hg5l
      have r36 := r3.below q36 hg6l
      have hD6 := hD4.below q46
      have hL6 : LatchAt w6 (newer K w w6) g vh vw (clP S) S.1 S.2 := hL.newer q6 fun j hj => by
        rcases hj with h | ⟨h, h'⟩
        · exact ⟨by have := hL.kl j h; omega, .inl h⟩
        · exact ⟨h', .inr h⟩
      have hK0 : ∀ j, newer K w3 w4 j → newer K w w6 j := fun j hj => by
        rcases hj with h | ⟨h, h'⟩
        · exact .inl h
        · exact .inr ⟨by omega, by omega⟩
      have hK06 : ∀ j, newer K w3 w4 j → j ≠ g6 := fun j hj => by
        rcases hj with h | ⟨h, h'⟩
        · have := hL.kl j h; omega
        · omega
      have hn5 : newer K w w6 g5 := .inr ⟨hg5, by omega⟩
      have hn6 : newer K w w6 g6 := .inr ⟨hg6, by omega⟩
      have hn8 : newer K w w6 g8 := .inr ⟨by omega, hg8l⟩
      (refine LL.val (R.assign rfl rfl) rfl rfl rfl ?_; refine LL.nilS ?_; refine CC.seq ?_)
      have okT : Kept (fun j => j = g5 ∨ j = g8) w6 w6.drew := bkept below_drew (by rintro j (rfl | rfl) <;> omega)
      have okA : Kept (newer K w w6) w6 w6.drew := bkept below_drew hL6.kl
      have c8 : ∀ w', Kept (fun j => j = g5 ∨ j = g8) w6 w' → Cells w' ⟨g8, 0, none⟩ [.slice a3 _ cp3, .slice a4 _ cp4] := fun w' hw' => (r6.kept hw' (.inr rfl)).cells rfl
      have c50 : ∀ w', Kept (fun j => j = g5 ∨ j = g8) w6 w' → w'.cell? ⟨g5, 0, none⟩ = some (.int .i64 what) := fun w' hw' => (r26.kept hw' (.inl rfl)).cell rfl
      have c51 : ∀ w', Kept (fun j => j = g5 ∨ j = g8) w6 w' → w'.cell? ⟨g5, 1, none⟩ = some (.int .i64 c) := fun w' hw' => (r26.kept hw' (.inl rfl)).cell rfl
      refine CC.free (Kept (fun j => j = g5 ∨ j = g8) w6) (by kernel_rfl) rfl ?_
      (refine AA.pure 1 rfl (by assumption) (by kernel_rfl) (fun w' hw' => R.move rfl rfl) rfl rfl ?_)
      (refine AA.pure 2 rfl (by assumption) (by kernel_rfl) (fun w' hw' => R.field rfl rfl (I.fld rfl)) rfl rfl ?_)
      (refine AA.pure 4 rfl (by assumption) (by kernel_rfl) (fun w' hw' => R.field rfl rfl (I.fld rfl)) rfl rfl ?_)
      (refine AA.pure 9 rfl (by assumption) (by kernel_rfl) (fun w' hw' => R.move rfl rfl) rfl rfl ?_)
      refine AA.pure 0 rfl (by assumption) (by kernel_rfl) (fun w' hw' => R.load rfl rfl (I.ldN (vs := [.slice a3 _ cp3, .slice a4 _ cp4]) rfl rfl (c8 w' hw'))) rfl rfl ?_
      refine AA.pure 3 rfl (by assumption) (by kernel_rfl) (fun w' hw' => R.load rfl rfl (I.ld1 rfl (c51 w' hw'))) rfl rfl ?_
      refine AA.pure 5 rfl (by assumption) (by kernel_rfl) (fun w' hw' => R.load rfl rfl (I.ld1 rfl (c50 w' hw'))) rfl rfl ?_
      refine AA.pure 6 rfl (by assumption) (by kernel_rfl) (fun w' hw' => R.eqB rfl rfl rfl) rfl rfl ?_
      refine AA.one 7 (by kernel_rfl) ?_
      refine SR.call rfl (R.call rfl rfl rfl) rfl rfl (ask_any c (what == 1) w6.drew (hL6.below below_drew) hS) ?_
      rintro e w7 ⟨rfl, vh7, vw7, hL7, k7⟩
      have ok7 : Kept (newer K w w6) w6 w7 := okA.trans k7
      have okB : Kept (fun j => j = g5 ∨ j = g8) w6 w7 := ok7.less (by rintro j (rfl | rfl); exact hn5; exact hn8)
      refine ⟨_, rfl, okB, ?_⟩
      have hcS := code_ask S c (what == 1)
      refine AA.pureC 8 rfl (by assumption) (by kernel_rfl) (fun w' => R.call rfl rfl rfl) (fun w' hw' => num_any _ w' (by omega) (by omega)) rfl rfl ?_
      refine AA.pure 10 rfl (by assumption) (by kernel_rfl) (fun w' hw' => R.eqB rfl rfl rfl) rfl rfl ?_
      refine AA.one 11 (by kernel_rfl) ?_
      refine SR.storeN (vs := [.slice a3 _ cp3, .slice a4 _ cp4]) rfl rfl rfl rfl rfl (r36.kept ok7 hn6) (Nat.le_of_ble_eq_true rfl) (one2 _ _ rfl rfl) rfl rfl ?_
      intro w8 r8 g8' z8
      have okC : Kept (fun j => j = g5 ∨ j = g8) w6 w8 := okB.trans (grown_kept g8' (by have := ok7.size; rintro j (rfl | rfl) <;> omega) (by rintro j (rfl | rfl) e <;> cases e <;> omega))
      refine ⟨okC, ?_⟩
      (refine AA.pure 12 rfl (by assumption) (by kernel_rfl) (fun w' hw' => R.assign rfl rfl) rfl rfl ?_)
      refine AA.done (by kernel_rfl) ?_
      have hL8 := hL7.other g8' hn6
      have k8 : Kept (newer K w3 w4) w7 w8 := grown_kept g8' (fun j hj => by have := hL7.kl j (hK0 j hj); exact this) (fun j hj e => hK06 j hj (by cases e; rfl))
      have hD8 := ((hD6.kept (ok7.less hK0)).kept k8).less hK0
      have kf : Kept K w w8 := ((bkept q6 hL.kl).trans (ok7.less fun j hj => .inl hj)).trans (grown_kept g8' (fun j hj => by have := hL7.kl j (.inl hj); exact this) (fun j hj e => by cases e; have := hL.kl _ hj; omega))
      (refine EE.thenN ?_; refine CC.ret ?_; refine EE.inR ?_; refine EE.thenR ?_)
      refine EE.ret2 rfl ⟨_, rfl, lvN (vs := [.slice a3 _ cp3, .slice a4 _ cp4]) rfl rfl (r8.cells rfl)⟩ rfl ?_
      exact ⟨_, _, vh7, vw7, newer K w w6, by rw [beqI], fun j hj => .inl hj, hL8, hD8, kf⟩
  by_cases h2 : what = 2
  · have hac : ∀ X : LS, actP X what c = (freeP X c).1 ∧ codeP X what c = (freeP X c).2 := fun X => by
      subst h2
      exact ⟨rfl, rfl⟩
    rw [(hac S).1, (hac T).1, (hac S).2, (hac T).2]
    (refine LL.val (R.eqF rfl rfl rfl (by omega)) rfl rfl rfl ?_; refine LL.val (R.assign rfl rfl) rfl rfl rfl ?_; refine LL.nilS ?_; refine CC.no rfl ?_; refine CC.region ?_; refine LL.val (R.eqF rfl rfl rfl (by omega)) rfl rfl rfl ?_; refine LL.val (R.assign rfl rfl) rfl rfl rfl ?_; refine LL.nilS ?_; refine CC.no rfl ?_; refine CC.seq ?_; refine CC.region ?_; refine LL.val (R.eqT rfl rfl rfl (by omega)) rfl rfl rfl ?_; refine LL.val (R.assign rfl rfl) rfl rfl rfl ?_; refine LL.nilS ?_; refine CC.yes rfl ?_; refine CC.seq ?_; refine CC.region ?_)
    refine LL.val (R.load rfl rfl (I.ldN rfl rfl (r13.cells (vs := [.slice a1 T.1.length cp1, .slice a2 T.2.length cp2]) rfl))) rfl rfl rfl ?_
    (refine LL.val (R.field rfl rfl (I.fld rfl)) rfl rfl rfl ?_; refine LL.val (R.load rfl rfl (I.ld1 rfl (RowL.cell (by assumption) rfl))) rfl rfl rfl ?_)
    refine LL.call (R.call rfl rfl rfl) rfl rfl rfl (rfreeL_any c w3 hD3 hL3.kl (by omega)) ?_
    rintro e w4 ⟨xh, xw, rfl, hD4, b4⟩
    refine ⟨_, rfl, ?_⟩
    have y4 := b4.size
    obtain ⟨a3, cp3, rfl, _⟩ := hD4.held.form rfl
    obtain ⟨a4, cp4, rfl, _⟩ := hD4.waits.form rfl
    (refine LL.val (R.move rfl rfl) rfl rfl rfl ?_; refine LL.val (R.extract rfl rfl rfl) rfl rfl rfl ?_; refine LL.val (R.extract rfl rfl rfl) rfl rfl rfl ?_)
    refine LL.alloc [.slice none 0 0, .slice none 0 0] rfl rfl rfl rfl rfl ?_
    intro w5 g8 e5 r5 z5 b5
    skip
    refine LL.storeN (vs := [.slice a3 _ cp3, .slice a4 _ cp4]) rfl rfl rfl rfl r5 (Nat.le_of_ble_eq_true rfl) (one2 _ _ rfl rfl) rfl rfl ?_
    intro w6 r6 g6' z6
    have y5 := b5.size
    have q46 : Below w4.heap.size w4 w6 := b5.grown g6' (by omega) (by rintro k ⟨⟩; omega)
    have q36 : Below w3.heap.size w3 w6 := b4.trans (q46.mono y4)
    have q6 : Below w.heap.size w w6 := q3.trans (q36.mono (by omega))
    have y6 := q46.size
    have hg8l := r6.lt
    have r26 := r23.below q36 hg5l
    have r36 := r3.below q36 hg6l
    have hD6 := hD4.below q46
    have hL6 : LatchAt w6 (newer K w w6) g vh vw (clP S) S.1 S.2 := hL.newer q6 fun j hj => by
      rcases hj with h | ⟨h, h'⟩
      · exact ⟨by have := hL.kl j h; omega, .inl h⟩
      · exact ⟨h', .inr h⟩
    have hK0 : ∀ j, newer K w3 w4 j → newer K w w6 j := fun j hj => by
      rcases hj with h | ⟨h, h'⟩
      · exact .inl h
      · exact .inr ⟨by omega, by omega⟩
    have hK06 : ∀ j, newer K w3 w4 j → j ≠ g6 := fun j hj => by
      rcases hj with h | ⟨h, h'⟩
      · have := hL.kl j h; omega
      · omega
    have hn5 : newer K w w6 g5 := .inr ⟨hg5, by omega⟩
    have hn6 : newer K w w6 g6 := .inr ⟨hg6, by omega⟩
    have hn8 : newer K w w6 g8 := .inr ⟨by omega, hg8l⟩
    (refine LL.val (R.assign rfl rfl) rfl rfl rfl ?_; refine LL.nilS ?_; refine CC.seq ?_)
    have okT : Kept (fun j => j = g5 ∨ j = g8) w6 w6.drew := bkept below_drew (by rintro j (rfl | rfl) <;> omega)
    have okA : Kept (newer K w w6) w6 w6.drew := bkept below_drew hL6.kl
    have c8 : ∀ w', Kept (fun j => j = g5 ∨ j = g8) w6 w' → Cells w' ⟨g8, 0, none⟩ [.slice a3 _ cp3, .slice a4 _ cp4] := fun w' hw' => (r6.kept hw' (.inr rfl)).cells rfl
    have c50 : ∀ w', Kept (fun j => j = g5 ∨ j = g8) w6 w' → w'.cell? ⟨g5, 0, none⟩ = some (.int .i64 what) := fun w' hw' => (r26.kept hw' (.inl rfl)).cell rfl
    have c51 : ∀ w', Kept (fun j => j = g5 ∨ j = g8) w6 w' → w'.cell? ⟨g5, 1, none⟩ = some (.int .i64 c) := fun w' hw' => (r26.kept hw' (.inl rfl)).cell rfl
    refine CC.free (Kept (fun j => j = g5 ∨ j = g8) w6) (by kernel_rfl) rfl ?_
    (refine AA.pure 1 rfl (by assumption) (by kernel_rfl) (fun w' hw' => R.move rfl rfl) rfl rfl ?_)
    (refine AA.pure 2 rfl (by assumption) (by kernel_rfl) (fun w' hw' => R.field rfl rfl (I.fld rfl)) rfl rfl ?_)
    (refine AA.pure 6 rfl (by assumption) (by kernel_rfl) (fun w' hw' => R.move rfl rfl) rfl rfl ?_)
    refine AA.pure 0 rfl (by assumption) (by kernel_rfl) (fun w' hw' => R.load rfl rfl (I.ldN (vs := [.slice a3 _ cp3, .slice a4 _ cp4]) rfl rfl (c8 w' hw'))) rfl rfl ?_
    refine AA.pure 3 rfl (by assumption) (by kernel_rfl) (fun w' hw' => R.load rfl rfl (I.ld1 rfl (c51 w' hw'))) rfl rfl ?_
    refine AA.one 4 (by kernel_rfl) ?_
    refine SR.call rfl (R.call rfl rfl rfl) rfl rfl (free_any c w6.drew (hL6.below below_drew) hS) ?_
    rintro e w7 ⟨rfl, vh7, vw7, hL7, k7⟩
    have ok7 : Kept (newer K w w6) w6 w7 := okA.trans k7
    have okB : Kept (fun j => j = g5 ∨ j = g8) w6 w7 := ok7.less (by rintro j (rfl | rfl); exact hn5; exact hn8)
    refine ⟨_, rfl, okB, ?_⟩
    have hcS := code_free S c
    refine AA.pureC 5 rfl (by assumption) (by kernel_rfl) (fun w' => R.call rfl rfl rfl) (fun w' hw' => num_any _ w' (by omega) (by omega)) rfl rfl ?_
    refine AA.pure 7 rfl (by assumption) (by kernel_rfl) (fun w' hw' => R.eqB rfl rfl rfl) rfl rfl ?_
    refine AA.one 8 (by kernel_rfl) ?_
    refine SR.storeN (vs := [.slice a3 _ cp3, .slice a4 _ cp4]) rfl rfl rfl rfl rfl (r36.kept ok7 hn6) (Nat.le_of_ble_eq_true rfl) (one2 _ _ rfl rfl) rfl rfl ?_
    intro w8 r8 g8' z8
    have okC : Kept (fun j => j = g5 ∨ j = g8) w6 w8 := okB.trans (grown_kept g8' (by have := ok7.size; rintro j (rfl | rfl) <;> omega) (by rintro j (rfl | rfl) e <;> cases e <;> omega))
    refine ⟨okC, ?_⟩
    (refine AA.pure 9 rfl (by assumption) (by kernel_rfl) (fun w' hw' => R.assign rfl rfl) rfl rfl ?_)
    refine AA.done (by kernel_rfl) ?_
    have hL8 := hL7.other g8' hn6
    have k8 : Kept (newer K w3 w4) w7 w8 := grown_kept g8' (fun j hj => by have := hL7.kl j (hK0 j hj); exact this) (fun j hj e => hK06 j hj (by cases e; rfl))
    have hD8 := ((hD6.kept (ok7.less hK0)).kept k8).less hK0
    have kf : Kept K w w8 := ((bkept q6 hL.kl).trans (ok7.less fun j hj => .inl hj)).trans (grown_kept g8' (fun j hj => by have := hL7.kl j (.inl hj); exact this) (fun j hj e => by cases e; have := hL.kl _ hj; omega))
    (refine EE.thenN ?_; refine CC.ret ?_; refine EE.inR ?_; refine EE.thenR ?_)
    refine EE.ret2 rfl ⟨_, rfl, lvN (vs := [.slice a3 _ cp3, .slice a4 _ cp4]) rfl rfl (r8.cells rfl)⟩ rfl ?_
    exact ⟨_, _, vh7, vw7, newer K w w6, by rw [beqI], fun j hj => .inl hj, hL8, hD8, kf⟩
  have hac : ∀ X : LS, actP X what c = X ∧ codeP X what c = 0 := fun X => by
    unfold actP codeP
    rw [if_neg (fun h => h0 (.inl h)), if_neg (fun h => h0 (.inr h)), if_neg h2, if_neg (fun h => h0 (.inl h)), if_neg (fun h => h0 (.inr h)), if_neg h2]
    exact ⟨rfl, rfl⟩
  rw [(hac S).1, (hac T).1, (hac S).2, (hac T).2]
  (refine LL.val (R.eqF rfl rfl rfl (by omega)) rfl rfl rfl ?_; refine LL.val (R.assign rfl rfl) rfl rfl rfl ?_; refine LL.nilS ?_; refine CC.no rfl ?_; refine CC.region ?_; refine LL.val (R.eqF rfl rfl rfl (by omega)) rfl rfl rfl ?_; refine LL.val (R.assign rfl rfl) rfl rfl rfl ?_; refine LL.nilS ?_; refine CC.no rfl ?_; refine CC.seq ?_; refine CC.region ?_; refine LL.val (R.eqF rfl rfl rfl (by omega)) rfl rfl rfl ?_; refine LL.val (R.assign rfl rfl) rfl rfl rfl ?_; refine LL.nilS ?_; refine CC.no rfl ?_; refine CC.skip ?_; refine EE.inN ?_; refine EE.thenN ?_; refine CC.seq ?_; refine CC.region ?_)
  refine LL.val (R.load rfl rfl (I.ldN rfl rfl (r13.cells (vs := [.slice a1 T.1.length cp1, .slice a2 T.2.length cp2]) rfl))) rfl rfl rfl ?_
  refine LL.storeN (vs := [.slice a1 T.1.length cp1, .slice a2 T.2.length cp2]) rfl rfl rfl rfl r3 (Nat.le_of_ble_eq_true rfl) (one2 _ _ rfl rfl) rfl rfl ?_
  intro w5 r5 g5' z5
  have q5 : Below w.heap.size w w5 := q3.grown g5' q3.size (by rintro k ⟨⟩; omega)
  (refine LL.val (R.assign rfl rfl) rfl rfl rfl ?_; refine LL.nilS ?_; refine CC.ret ?_)
  refine EE.ret2 rfl ⟨_, rfl, lvN (vs := [.slice a1 T.1.length cp1, .slice a2 T.2.length cp2]) rfl rfl (r5.cells rfl)⟩ rfl ?_
  exact ⟨_, _, vh, vw, K, rfl, fun j hj => hj, hL.below q5, hD.below q5, bkept q5 hL.kl⟩
end Go.Proofs.Ytcchffdnbamkoaa
