/- writes, fits, admit. -/
import Derived.Test.YtcchffdnbamkoaaLatch
import Derived.Test.YtcchffdnbamkoaaKept
import Derived.Test.YtcchffdnbamkoaaTGrow
namespace Go.Proofs.Ytcchffdnbamkoaa
set_option linter.unusedVariables false
set_option linter.unusedSimpArgs false
open Go.RowKit Go.Shelf

theorem writes1_any (t : Tn) (w : World) : Calls Try.prog 45 #[.agg (tE t).toArray] w fun e w' => e = .returned (.bool t.2) ∧ Below w.heap.size w w' := by
  refine X.fn Try.func45 rfl (n := 5) rfl rfl ?_
  (refine CC.seq ?_; refine CC.region ?_)
  refine LL.box (tE t) rfl rfl rfl rfl rfl ?_
  intro w1 g1 e1 r1 z1 b1
  have hc : w1.cell? ⟨g1, 1, none⟩ = some (.bool t.2) := r1.cell rfl
  (refine LL.val (R.assign rfl rfl) rfl rfl rfl ?_; refine LL.nilS ?_; refine CC.seq ?_; refine CC.region ?_; refine LL.val (R.field rfl rfl (I.fld rfl)) rfl rfl rfl ?_; refine LL.val (R.load rfl rfl (I.ld1 rfl (by assumption))) rfl rfl rfl ?_; refine LL.val (R.assign rfl rfl) rfl rfl rfl ?_; refine LL.nilS ?_; refine CC.ret ?_)
  refine EE.ret _ rfl rfl ?_
  exact ⟨rfl, b1⟩
set_option maxRecDepth 100000 in
set_option maxHeartbeats 2000000 in
theorem look_any (v : Value) (xs : List Tn) (w : World) (ha : ReadsTn w v xs) (hlx : xs.length ≤ 1048576) :
    Calls Try.prog 44 #[v, .func (.func 45) #[] #[]] w fun e w' => ∃ i : Nat, e = .returned (.tuple #[.int .i64 (i : Int), .bool (xs.any (·.2))]) ∧ Below w.heap.size w w' := by
  obtain ⟨N, hN⟩ : ∃ N, xs.length = N := ⟨_, rfl⟩
  obtain ⟨a, cap, rfl, hc⟩ := ha.form hN
  rw [hN] at hlx
  refine X.fn Try.func44 rfl (n := 20) rfl rfl ?_
  (refine CC.seq ?_; refine CC.region ?_; refine LL.val (R.assign rfl rfl) rfl rfl rfl ?_; refine LL.val (R.assign rfl rfl) rfl rfl rfl ?_; refine LL.nilS ?_; refine CC.seq ?_; refine CC.seq ?_; refine CC.region ?_; refine LL.val (R.move rfl rfl) rfl rfl rfl ?_; refine LL.val (R.len rfl rfl rfl rfl) rfl rfl rfl ?_; refine LL.val (R.move rfl rfl) rfl rfl rfl ?_; refine LL.nilS ?_; refine CC.block ?_)
  refine CC.loop (α := Nat) (fun i => [(1, .func (.func 45) #[] #[]), (8, .slice a N cap), (9, .int .i64 (N : Int)), (10, .int .i64 (i : Int))]) (fun i wr => Below w.heap.size w wr ∧ i ≤ N ∧ ∀ t ∈ xs.take i, t.2 = false) (fun i => N - i) 0 ⟨rfl, rfl, rfl, rfl, trivial⟩ ⟨Below.refl _ _, by omega, by simp⟩ ?_
  rintro i wr ⟨hbw, hi, ht⟩
  by_cases h1 : i < N
  · obtain ⟨s, hs⟩ : ∃ s, xs[i]? = some s := ⟨_, List.getElem?_eq_getElem (by omega)⟩
    obtain ⟨b, off, rfl, hbl, hcs⟩ := ha.get tEnc hs
    have hc1 := hcs.below hbw hbl
    have y := hbw.size
    (refine CC.seq ?_; refine CC.region ?_; refine LL.val (R.ltT rfl rfl rfl (by omega)) rfl rfl rfl ?_; refine LL.nilS ?_; refine CC.seq ?_; refine CC.yes rfl ?_; refine CC.skip ?_; refine EE.thenN ?_; refine CC.seq ?_; refine CC.block ?_; refine CC.seq ?_; refine CC.region ?_; refine LL.val (R.move rfl rfl) rfl rfl rfl ?_; refine LL.val (R.index rfl rfl rfl (I.ixS rfl (by omega))) rfl rfl rfl ?_)
    refine LL.val (R.load rfl rfl (I.ldN (vs := tE s) rfl rfl hc1)) rfl rfl rfl ?_
    refine LL.alloc (tE (0, false)) rfl rfl rfl rfl rfl ?_
    intro w2 g2 e2 r2 z2 b2
    (refine LL.val (R.assign rfl rfl) rfl rfl rfl ?_)
    refine LL.storeN (vs := tE s) rfl rfl rfl rfl r2 (Nat.le_of_ble_eq_true rfl) (tEnc.one s) rfl rfl ?_
    intro w3 r3 g3 z3
    have q3 : Below w.heap.size w w3 := (hbw.trans (b2.mono y)).grown g3 (by omega) (by rintro k ⟨⟩; omega)
    (refine LL.nilS ?_; refine CC.seq ?_; refine CC.region ?_; refine LL.val (R.move rfl rfl) rfl rfl rfl ?_)
    refine LL.val (R.load rfl rfl (I.ldN (vs := tE s) rfl rfl (r3.cells rfl))) rfl rfl rfl ?_
    refine LL.call (R.callV rfl rfl rfl rfl) rfl rfl rfl (writes1_any s w3) ?_
    rintro e w4 ⟨rfl, b4⟩
    refine ⟨_, rfl, ?_⟩
    have q4 : Below w.heap.size w w4 := q3.trans (b4.mono q3.size)
    cases hsw : s.2 with
    | true =>
      (refine LL.nilS ?_; refine CC.yes rfl ?_; refine CC.seq ?_; refine CC.region ?_; refine LL.val (R.move rfl rfl) rfl rfl rfl ?_; refine LL.val (R.assign rfl rfl) rfl rfl rfl ?_; refine LL.val (R.assign rfl rfl) rfl rfl rfl ?_; refine LL.nilS ?_; refine CC.ret ?_; refine EE.inR ?_; refine EE.thenR ?_; refine EE.thenR ?_; refine EE.inR ?_; refine EE.thenR ?_)
      refine EE.ret _ rfl rfl ?_
      have : xs.any (·.2) = true := List.any_eq_true.2 ⟨s, List.mem_of_getElem? hs, hsw⟩
      exact ⟨i, by simp [resV, this], q4⟩
    | false =>
      (refine LL.nilS ?_; refine CC.no rfl ?_; refine CC.skip ?_; refine EE.inN ?_; refine EE.thenN ?_; refine CC.region ?_; refine LL.val (R.addNc rfl rfl rfl rfl (by omega)) rfl rfl rfl ?_; refine LL.val (R.move rfl rfl) rfl rfl rfl ?_; refine LL.nil ?_)
      refine EE.round (i + 1) ⟨rfl, rfl, rfl, rfl, trivial⟩ ⟨q4, by omega, ?_⟩ (by omega)
      rw [List.take_add_one, hs]
      intro t h
      simp only [Option.toList_some, List.mem_append, List.mem_singleton] at h
      rcases h with h | rfl
      · exact ht t h
      · exact hsw
  · obtain rfl : i = N := by omega
    rw [List.take_of_length_le (by omega)] at ht
    (refine CC.seq ?_; refine CC.region ?_; refine LL.val (R.ltF rfl rfl rfl (by omega)) rfl rfl rfl ?_; refine LL.nilS ?_; refine CC.seq ?_; refine CC.no rfl ?_; refine CC.exit ?_; refine EE.thenX ?_; refine EE.thenX ?_; refine EE.inX ?_; refine EE.thenN ?_; refine CC.seq ?_; refine CC.region ?_; refine LL.val (R.assign rfl rfl) rfl rfl rfl ?_; refine LL.val (R.assign rfl rfl) rfl rfl rfl ?_; refine LL.nilS ?_; refine CC.ret ?_)
    refine EE.ret _ rfl rfl ?_
    have : xs.any (·.2) = false := List.any_eq_false.2 fun t h => by simp [ht t h]
    exact ⟨0, by simp [resV, this], hbw⟩

/-- A latch that was made; K: rows that are not its. -/
structure LatchAt (w : World) (K : Nat → Prop) (g : Nat) (vh vw : Value) (cl : List Nat) (hs ws : List Tn) : Prop where
  row : RowL w g 60 (laL vh vw cl)
  len : cl.length = 8
  held : OwnsT tE 2 w 0 51 vh hs
  waits : OwnsT tE 2 w 0 51 vw ws
  gh : vh.ownBlock ≠ some g
  gw : vw.ownBlock ≠ some g
  hw : ∀ b, vh.ownBlock = some b → vw.ownBlock ≠ some b
  kl : ∀ j, K j → j < w.heap.size
  kg : ¬ K g
  kh : ∀ j, K j → vh.ownBlock ≠ some j
  kw : ∀ j, K j → vw.ownBlock ≠ some j
section
variable {w w' : World} {K K' : Nat → Prop} {g : Nat} {vh vw : Value} {cl : List Nat} {hs ws : List Tn}
theorem LatchAt.below (h : LatchAt w K g vh vw cl hs ws) (hb : Below w.heap.size w w') : LatchAt w' K g vh vw cl hs ws :=
  ⟨h.row.below hb h.row.lt, h.len, h.held.below hb, h.waits.below hb, h.gh, h.gw, h.hw, fun j hj => Nat.lt_of_lt_of_le (h.kl j hj) hb.size, h.kg, h.kh, h.kw⟩
theorem LatchAt.keeps (h : LatchAt w K g vh vw cl hs ws) (hk : ∀ j, K' j → K j) : LatchAt w K' g vh vw cl hs ws :=
  ⟨h.row, h.len, h.held, h.waits, h.gh, h.gw, h.hw, fun j hj => h.kl j (hk j hj), fun hg => h.kg (hk g hg), fun j hj => h.kh j (hk j hj), fun j hj => h.kw j (hk j hj)⟩
/-- Rows that came since are not its. -/
theorem LatchAt.newer (h : LatchAt w K g vh vw cl hs ws) (hb : Below w.heap.size w w') (hk : ∀ j, K' j → j < w'.heap.size ∧ (K j ∨ w.heap.size ≤ j)) : LatchAt w' K' g vh vw cl hs ws := by
  have h' := h.below hb
  have hgl := h.row.lt
  refine ⟨h'.row, h'.len, h'.held, h'.waits, h'.gh, h'.gw, h'.hw, fun j hj => (hk j hj).1, fun hg => ?_, fun j hj => ?_, fun j hj => ?_⟩
  · rcases (hk g hg).2 with h1 | h1
    · exact h.kg h1
    · omega
  · rcases (hk j hj).2 with h1 | h1
    · exact h.kh j h1
    · rcases h.held.above with h0 | ⟨b, h0, _, h2⟩
      · rw [h0]; simp
      · rw [h0]; intro e; cases e; omega
  · rcases (hk j hj).2 with h1 | h1
    · exact h.kw j h1
    · rcases h.waits.above with h0 | ⟨b, h0, _, h2⟩
      · rw [h0]; simp
      · rw [h0]; intro e; cases e; omega
end

theorem lwrites_any {K : Nat → Prop} {g : Nat} {vh vw : Value} {cl : List Nat} {hs ws : List Tn} (w : World) (h : LatchAt w K g vh vw cl hs ws) (hl : hs.length ≤ 1048576) :
    Calls Try.prog 42 #[.pointer (some ⟨g, 0, none⟩)] w fun e w' => e = .returned (.bool (hs.any (·.2))) ∧ Below w.heap.size w w' := by
  have hc : w.cell? ⟨g, 0, none⟩ = some vh := h.row.cell rfl
  refine X.fn Try.func42 rfl (n := 14) rfl rfl ?_
  (refine CC.seq ?_; refine CC.region ?_; refine LL.val (R.assign rfl rfl) rfl rfl rfl ?_; refine LL.nilS ?_; refine CC.seq ?_; refine CC.region ?_; refine LL.val (R.move rfl rfl) rfl rfl rfl ?_; refine LL.val (R.nil rfl rfl) rfl rfl rfl ?_; refine LL.val (R.field rfl rfl (I.fld rfl)) rfl rfl rfl ?_; refine LL.val (R.load rfl rfl (I.ld1 rfl (by assumption))) rfl rfl rfl ?_)
  refine LL.call (R.call rfl rfl rfl) rfl rfl rfl (look_any vh hs w (h.held.reads tEnc) hl) ?_
  rintro e w1 ⟨i, rfl, b1⟩
  refine ⟨_, rfl, ?_⟩
  (refine LL.val (R.move rfl rfl) rfl rfl rfl ?_; refine LL.val (R.extract rfl rfl rfl) rfl rfl rfl ?_; refine LL.val (R.extract rfl rfl rfl) rfl rfl rfl ?_; refine LL.val (R.assign rfl rfl) rfl rfl rfl ?_; refine LL.val (R.assign rfl rfl) rfl rfl rfl ?_; refine LL.nilS ?_; refine CC.seq ?_; refine CC.region ?_; refine LL.val (R.move rfl rfl) rfl rfl rfl ?_; refine LL.val (R.assign rfl rfl) rfl rfl rfl ?_; refine LL.nilS ?_; refine CC.ret ?_)
  refine EE.ret _ rfl rfl ?_
  exact ⟨rfl, b1⟩
set_option maxRecDepth 100000 in
set_option maxHeartbeats 2000000 in
theorem fits_any {K : Nat → Prop} {g : Nat} {vh vw : Value} {cl : List Nat} {hs ws : List Tn} (t : Tn) (w : World) (h : LatchAt w K g vh vw cl hs ws) (hl : hs.length ≤ 1048576) :
    Calls Try.prog 35 #[.pointer (some ⟨g, 0, none⟩), .agg (tE t).toArray] w fun e w' => e = .returned (.bool (hs.isEmpty || (!t.2 && !hs.any (·.2)))) ∧ Below w.heap.size w w' := by
  obtain ⟨N, hN⟩ : ∃ N, hs.length = N := ⟨_, rfl⟩
  obtain ⟨a, cap, rfl, hc⟩ := (h.held.reads tEnc).form hN
  refine X.fn Try.func35 rfl (n := 21) rfl rfl ?_
  (refine CC.seq ?_; refine CC.region ?_)
  refine LL.box (tE t) rfl rfl rfl rfl rfl ?_
  intro w1 g1 e1 r1 z1 b1
  have h1 := h.below b1
  have c0 : w1.cell? ⟨g, 0, none⟩ = some (.slice a N cap) := h1.row.cell rfl
  have c1 : w1.cell? ⟨g1, 1, none⟩ = some (.bool t.2) := r1.cell rfl
  by_cases h0 : N = 0
  · have : hs = [] := List.eq_nil_of_length_eq_zero (by omega)
    subst this
    (refine LL.val (R.assign rfl rfl) rfl rfl rfl ?_; refine LL.nilS ?_; refine CC.seq ?_; refine CC.region ?_; refine LL.val (R.move rfl rfl) rfl rfl rfl ?_; refine LL.val (R.nil rfl rfl) rfl rfl rfl ?_; refine LL.val (R.field rfl rfl (I.fld rfl)) rfl rfl rfl ?_; refine LL.val (R.load rfl rfl (I.ld1 rfl (by assumption))) rfl rfl rfl ?_; refine LL.val (R.len rfl rfl rfl rfl) rfl rfl rfl ?_; refine LL.val (R.eqT rfl rfl rfl (by omega)) rfl rfl rfl ?_; refine LL.val (R.move rfl rfl) rfl rfl rfl ?_; refine LL.skip rfl rfl ?_; refine LL.skip rfl rfl ?_; refine LL.skip rfl rfl ?_; refine LL.skip rfl rfl ?_; refine LL.skip rfl rfl ?_; refine LL.skip rfl rfl ?_; refine LL.skip rfl rfl ?_; refine LL.skip rfl rfl ?_; refine LL.val (R.pick rfl rfl rfl) rfl rfl rfl ?_; refine LL.val (R.assign rfl rfl) rfl rfl rfl ?_; refine LL.nilS ?_; refine CC.ret ?_)
    refine EE.ret _ rfl rfl ?_
    exact ⟨by simp [resV], b1⟩
  · have hne : hs.isEmpty = false := by cases hs <;> simp_all
    cases ht : t.2 with
    | true =>
      rw [ht] at c1
      (refine LL.val (R.assign rfl rfl) rfl rfl rfl ?_; refine LL.nilS ?_; refine CC.seq ?_; refine CC.region ?_; refine LL.val (R.move rfl rfl) rfl rfl rfl ?_; refine LL.val (R.nil rfl rfl) rfl rfl rfl ?_; refine LL.val (R.field rfl rfl (I.fld rfl)) rfl rfl rfl ?_; refine LL.val (R.load rfl rfl (I.ld1 rfl (by assumption))) rfl rfl rfl ?_; refine LL.val (R.len rfl rfl rfl rfl) rfl rfl rfl ?_; refine LL.val (R.eqF rfl rfl rfl (by omega)) rfl rfl rfl ?_; refine LL.val (R.move rfl rfl) rfl rfl rfl ?_; refine LL.val (R.field rfl rfl (I.fld rfl)) rfl rfl rfl ?_; refine LL.val (R.load rfl rfl (I.ld1 rfl (by assumption))) rfl rfl rfl ?_; refine LL.val (R.not rfl rfl) rfl rfl rfl ?_; refine LL.val (R.move rfl rfl) rfl rfl rfl ?_; refine LL.skip rfl rfl ?_; refine LL.skip rfl rfl ?_; refine LL.skip rfl rfl ?_; refine LL.val (R.pick rfl rfl rfl) rfl rfl rfl ?_; refine LL.val (R.pick rfl rfl rfl) rfl rfl rfl ?_; refine LL.val (R.assign rfl rfl) rfl rfl rfl ?_; refine LL.nilS ?_; refine CC.ret ?_)
      refine EE.ret _ rfl rfl ?_
      exact ⟨by simp [resV, hne], b1⟩
    | false =>
      rw [ht] at c1
      (refine LL.val (R.assign rfl rfl) rfl rfl rfl ?_; refine LL.nilS ?_; refine CC.seq ?_; refine CC.region ?_; refine LL.val (R.move rfl rfl) rfl rfl rfl ?_; refine LL.val (R.nil rfl rfl) rfl rfl rfl ?_; refine LL.val (R.field rfl rfl (I.fld rfl)) rfl rfl rfl ?_; refine LL.val (R.load rfl rfl (I.ld1 rfl (by assumption))) rfl rfl rfl ?_; refine LL.val (R.len rfl rfl rfl rfl) rfl rfl rfl ?_; refine LL.val (R.eqF rfl rfl rfl (by omega)) rfl rfl rfl ?_; refine LL.val (R.move rfl rfl) rfl rfl rfl ?_; refine LL.val (R.field rfl rfl (I.fld rfl)) rfl rfl rfl ?_; refine LL.val (R.load rfl rfl (I.ld1 rfl (by assumption))) rfl rfl rfl ?_; refine LL.val (R.not rfl rfl) rfl rfl rfl ?_; refine LL.val (R.move rfl rfl) rfl rfl rfl ?_; refine LL.val (R.move rfl rfl) rfl rfl rfl ?_)
      refine LL.call (R.call rfl rfl rfl) rfl rfl rfl (lwrites_any w1 h1 hl) ?_
      rintro e w2 ⟨rfl, b2⟩
      refine ⟨_, rfl, ?_⟩
      (refine LL.val (R.not rfl rfl) rfl rfl rfl ?_; refine LL.val (R.pick rfl rfl rfl) rfl rfl rfl ?_; refine LL.val (R.pick rfl rfl rfl) rfl rfl rfl ?_; refine LL.val (R.assign rfl rfl) rfl rfl rfl ?_; refine LL.nilS ?_; refine CC.ret ?_)
      refine EE.ret _ rfl rfl ?_
      exact ⟨by simp [resV, hne], b1.trans (b2.mono b1.size)⟩
end Go.Proofs.Ytcchffdnbamkoaa
