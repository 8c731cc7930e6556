/- The walk of LatchCopies. -/
import Derived.Test.YtcchffdnbamkoaaWorks
namespace Go.Proofs.Ytcchffdnbamkoaa
set_option linter.unusedVariables false
set_option linter.unusedSimpArgs false
open Go.RowKit Go.Shelf

theorem ask_nil (n : Int) (wr : Bool) (w : World) : Calls Try.prog 18 #[.pointer none, .int .i64 n, .bool wr] w fun e w' => e = .returned (.int .i64 1) ∧ w = w' := by
  refine X.fn Try.func18 rfl (n := 40) rfl rfl ?_
  (refine CC.seq ?_; refine CC.region ?_; refine LL.val (R.assign rfl rfl) rfl rfl rfl ?_; refine LL.nilS ?_; refine CC.seq ?_; refine CC.seq ?_; refine CC.region ?_; refine LL.val (R.move rfl rfl) rfl rfl rfl ?_; refine LL.val (R.move rfl rfl) rfl rfl rfl ?_)
  refine LL.call (R.call rfl rfl rfl) rfl rfl rfl (client_nil n _) ?_
  rintro e w1 ⟨rfl, rfl⟩
  refine ⟨_, rfl, ?_⟩
  (refine LL.val (R.assign rfl rfl) rfl rfl rfl ?_; refine LL.nilS ?_; refine CC.seq ?_; refine CC.region ?_; refine LL.val (R.move rfl rfl) rfl rfl rfl ?_; refine LL.val (R.neT rfl rfl rfl (by omega)) rfl rfl rfl ?_; refine LL.nilS ?_; refine CC.yes rfl ?_; refine CC.seq ?_; refine CC.region ?_; refine LL.val (R.move rfl rfl) rfl rfl rfl ?_; refine LL.val (R.assign rfl rfl) rfl rfl rfl ?_; refine LL.nilS ?_; refine CC.ret ?_; refine EE.thenR ?_)
  refine EE.ret _ rfl rfl ?_
  exact ⟨rfl, rfl⟩
theorem free_nil (n : Int) (w : World) : Calls Try.prog 19 #[.pointer none, .int .i64 n] w fun e w' => e = .returned (.int .i64 1) ∧ w = w' := by
  refine X.fn Try.func19 rfl (n := 46) rfl rfl ?_
  (refine CC.seq ?_; refine CC.region ?_; refine LL.val (R.assign rfl rfl) rfl rfl rfl ?_; refine LL.nilS ?_; refine CC.seq ?_; refine CC.seq ?_; refine CC.region ?_; refine LL.val (R.move rfl rfl) rfl rfl rfl ?_; refine LL.val (R.move rfl rfl) rfl rfl rfl ?_)
  refine LL.call (R.call rfl rfl rfl) rfl rfl rfl (client_nil n _) ?_
  rintro e w1 ⟨rfl, rfl⟩
  refine ⟨_, rfl, ?_⟩
  (refine LL.val (R.assign rfl rfl) rfl rfl rfl ?_; refine LL.nilS ?_; refine CC.seq ?_; refine CC.region ?_; refine LL.val (R.move rfl rfl) rfl rfl rfl ?_; refine LL.val (R.neT rfl rfl rfl (by omega)) rfl rfl rfl ?_; refine LL.nilS ?_; refine CC.yes rfl ?_; refine CC.seq ?_; refine CC.region ?_; refine LL.val (R.move rfl rfl) rfl rfl rfl ?_; refine LL.val (R.assign rfl rfl) rfl rfl rfl ?_; refine LL.nilS ?_; refine CC.ret ?_; refine EE.thenR ?_)
  refine EE.ret _ rfl rfl ?_
  exact ⟨rfl, rfl⟩
theorem OwnsT.keptO {α : Type} {enc : α → List Value} {k : Nat} {w w' : World} {base e : Nat} {v : Value} {ts : List α} (h : OwnsT enc k w base e v ts) (hk : ∀ b, v.ownBlock = some b → w'.heap[b]? = w.heap[b]?) : OwnsT enc k w' base e v ts := by
  refine ⟨h.1, ?_⟩
  rcases h.2 with h2 | ⟨g', cap, cur, rfl, hbg, hb, h3⟩
  · exact .inl h2
  · exact .inr ⟨g', cap, cur, rfl, hbg, (hk g' rfl).trans hb, h3⟩
/-- A latch all whose rows are kept. -/
theorem LatchAt.stays {w w' : World} {K K2 : Nat → Prop} {g : Nat} {vh vw : Value} {cl : List Nat} {hs ws : List Tn} (h : LatchAt w K g vh vw cl hs ws) (hk : Kept K2 w w') (hg : K2 g) (hh : ∀ b, vh.ownBlock = some b → K2 b) (hw : ∀ b, vw.ownBlock = some b → K2 b) : LatchAt w' K g vh vw cl hs ws :=
  ⟨h.row.kept hk hg, h.len, h.held.keptO fun b hb => hk.block b (hh b hb), h.waits.keptO fun b hb => hk.block b (hw b hb), h.gh, h.gw, h.hw, fun j hj => Nat.lt_of_lt_of_le (h.kl j hj) hk.size, h.kg, h.kh, h.kw⟩
/-- Two ways that meet, in worlds of which this is known. -/
theorem twiceW {A : World → Prop} {B : Prop} (p : Prop) (F : World → Prop) (k : ∀ w', F w' → A w') (f : p → Later (∀ w', F w' → A w') → B) (g : ¬ p → Later (∀ w', F w' → A w') → B) : B := by
  by_cases h : p
  · exact f h ⟨k⟩
  · exact g h ⟨k⟩
theorem own_lt {α : Type} {enc : α → List Value} {k : Nat} {w : World} {base e b : Nat} {v : Value} {ts : List α} (h : OwnsT enc k w base e v ts) (hb : v.ownBlock = some b) : base ≤ b ∧ b < w.heap.size := by
  rcases h.above with h0 | ⟨b', h0, h1, h2⟩
  · rw [h0] at hb; cases hb
  · rw [h0] at hb; cases hb; exact ⟨h1, h2⟩

set_option maxRecDepth 100000 in
set_option maxHeartbeats 8000000 in
theorem cops_walk (v0 v2 : Value) (xs ys : List Ac) (what c : Int) (w : World) (ha : ReadsA w v0 xs) (hb : ReadsA w v2 ys) (hlx : xs.length ≤ 9223372036854775807) (hly : ys.length ≤ 9223372036854775807) :
    Calls Try.prog 4 #[v0, .agg #[.int .i64 what, .int .i64 c], v2] w fun e w' => e = .returned (.bool true) ∧ Below w.heap.size w w' := by
  obtain ⟨N, hN⟩ : ∃ N, xs.length = N := ⟨_, rfl⟩
  obtain ⟨N2, hN2⟩ : ∃ N2, ys.length = N2 := ⟨_, rfl⟩
  have har := ha
  have hbr := hb
  obtain ⟨a, cap, rfl, hc⟩ := ha.form hN
  obtain ⟨a2, cap2, rfl, hc2⟩ := hb.form hN2
  rw [hN] at hlx
  rw [hN2] at hly
  refine X.fn Try.func4 rfl (n := 141) rfl rfl ?_
  (refine CC.seq ?_; refine CC.region ?_)
  refine LL.box [.int .i64 what, .int .i64 c] rfl rfl rfl rfl rfl ?_
  intro w1 g1 e1 r1 z1 b1
  have y1 := b1.size
  by_cases h1 : 40 < N
  · (refine LL.val (R.assign rfl rfl) rfl rfl rfl ?_; refine LL.nilS ?_; refine CC.seq ?_; refine CC.seq ?_; refine CC.region ?_; refine LL.val (R.move rfl rfl) rfl rfl rfl ?_; refine LL.val (R.len rfl rfl rfl rfl) rfl rfl rfl ?_; refine LL.val (R.gtT rfl rfl rfl (by omega)) rfl rfl rfl ?_; refine LL.val (R.move rfl rfl) rfl rfl rfl ?_; refine LL.skip rfl rfl ?_; refine LL.skip rfl rfl ?_; refine LL.skip rfl rfl ?_; refine LL.val (R.pick rfl rfl rfl) rfl rfl rfl ?_; refine LL.nilS ?_; refine CC.yes rfl ?_; refine CC.seq ?_; refine CC.region ?_)
    refine LL.call (R.call rfl rfl rfl) rfl rfl rfl (works_any _) ?_
    rintro e w2 ⟨rfl, b2⟩
    refine ⟨_, rfl, ?_⟩
    (refine LL.val (R.assign rfl rfl) rfl rfl rfl ?_; refine LL.nilS ?_; refine CC.ret ?_; refine EE.thenR ?_)
    refine EE.ret _ rfl rfl ?_
    exact ⟨rfl, b1.trans (b2.mono b1.size)⟩
  by_cases h2 : 40 < N2
  · (refine LL.val (R.assign rfl rfl) rfl rfl rfl ?_; refine LL.nilS ?_; refine CC.seq ?_; refine CC.seq ?_; refine CC.region ?_; refine LL.val (R.move rfl rfl) rfl rfl rfl ?_; refine LL.val (R.len rfl rfl rfl rfl) rfl rfl rfl ?_; refine LL.val (R.gtF rfl rfl rfl (by omega)) rfl rfl rfl ?_; refine LL.val (R.move rfl rfl) rfl rfl rfl ?_; refine LL.val (R.move rfl rfl) rfl rfl rfl ?_; refine LL.val (R.len rfl rfl rfl rfl) rfl rfl rfl ?_; refine LL.val (R.gtT rfl rfl rfl (by omega)) rfl rfl rfl ?_; refine LL.val (R.pick rfl rfl rfl) rfl rfl rfl ?_; refine LL.nilS ?_; refine CC.yes rfl ?_; refine CC.seq ?_; refine CC.region ?_)
    refine LL.call (R.call rfl rfl rfl) rfl rfl rfl (works_any _) ?_
    rintro e w2 ⟨rfl, b2⟩
    refine ⟨_, rfl, ?_⟩
    (refine LL.val (R.assign rfl rfl) rfl rfl rfl ?_; refine LL.nilS ?_; refine CC.ret ?_; refine EE.thenR ?_)
    refine EE.ret _ rfl rfl ?_
    exact ⟨rfl, b1.trans (b2.mono b1.size)⟩
  (refine LL.val (R.assign rfl rfl) rfl rfl rfl ?_; refine LL.nilS ?_; refine CC.seq ?_; refine CC.seq ?_; refine CC.region ?_; refine LL.val (R.move rfl rfl) rfl rfl rfl ?_; refine LL.val (R.len rfl rfl rfl rfl) rfl rfl rfl ?_; refine LL.val (R.gtF rfl rfl rfl (by omega)) rfl rfl rfl ?_; refine LL.val (R.move rfl rfl) rfl rfl rfl ?_; refine LL.val (R.move rfl rfl) rfl rfl rfl ?_; refine LL.val (R.len rfl rfl rfl rfl) rfl rfl rfl ?_; refine LL.val (R.gtF rfl rfl rfl (by omega)) rfl rfl rfl ?_; refine LL.val (R.pick rfl rfl rfl) rfl rfl rfl ?_; refine LL.nilS ?_; refine CC.no rfl ?_; refine CC.skip ?_; refine EE.thenN ?_; refine CC.seq ?_; refine CC.region ?_; refine LL.val (R.move rfl rfl) rfl rfl rfl ?_)
  refine LL.call (R.call rfl rfl rfl) rfl rfl rfl (played_any _ xs w1 (har.below b1) (by omega)) ?_
  rintro e w2 ⟨ga, vha, vwa, rfl, hga, hA2, b2⟩
  refine ⟨_, rfl, ?_⟩
  have y2 := b2.size
  have q2 : Below w.heap.size w w2 := b1.trans (b2.mono y1)
  have hS := playP_good xs
  have hS2 := playP_good ys
  (refine LL.val (R.move rfl rfl) rfl rfl rfl ?_)
  refine LL.call (R.call rfl rfl rfl) rfl rfl rfl (played_any _ ys w2 (hbr.below q2) (by omega)) ?_
  rintro e w3 ⟨gb, vhb, vwb, rfl, hgb, hB3, b3⟩
  refine ⟨_, rfl, ?_⟩
  have y3 := b3.size
  have q3 : Below w.heap.size w w3 := q2.trans (b3.mono q2.size)
  have hA3 := hA2.below b3
  obtain ⟨S, hSe⟩ : ∃ S, playP xs = S := ⟨_, rfl⟩
  obtain ⟨T, hTe⟩ : ∃ T, playP ys = T := ⟨_, rfl⟩
  rw [hSe] at hA3 hS
  rw [hTe] at hB3 hS2
  have hl8 := hS.len
  have hl8' := hS2.len
  have r13 := (r1.below b2 r1.lt).below b3 (by have := r1.lt; omega)
  have hg1l := r1.lt
  (refine LL.val (R.assign rfl rfl) rfl rfl rfl ?_; refine LL.val (R.assign rfl rfl) rfl rfl rfl ?_; refine LL.nilS ?_; refine CC.seq ?_; refine CC.region ?_; refine LL.val (R.move rfl rfl) rfl rfl rfl ?_)
  refine LL.call (R.call rfl rfl rfl) rfl rfl rfl (lcopy_any w3 hA3 hS) ?_
  rintro e w4 ⟨gc, vhc, vwc, rfl, hC4, hgc, b4⟩
  refine ⟨_, rfl, ?_⟩
  have y4 := b4.size
  (refine LL.val (R.assign rfl rfl) rfl rfl rfl ?_; refine LL.nilS ?_; refine CC.seq ?_; refine CC.region ?_; refine LL.val (R.move rfl rfl) rfl rfl rfl ?_)
  refine LL.call (R.call rfl rfl rfl) rfl rfl rfl (waits_is w4 (hA3.below b4) hS) ?_
  rintro e w5 ⟨vw5, rfl, o5, b5⟩
  refine ⟨_, rfl, ?_⟩
  have y5 := b5.size
  have b35 : Below w3.heap.size w3 w5 := b4.trans (b5.mono y4)
  (refine LL.val (R.move rfl rfl) rfl rfl rfl ?_; refine LL.val (R.extract rfl rfl rfl) rfl rfl rfl ?_; refine LL.val (R.extract rfl rfl rfl) rfl rfl rfl ?_; refine LL.val (R.assign rfl rfl) rfl rfl rfl ?_; refine LL.val (R.assign rfl rfl) rfl rfl rfl ?_; refine LL.nilS ?_; refine CC.seq ?_; refine CC.region ?_; refine LL.val (R.move rfl rfl) rfl rfl rfl ?_)
  refine LL.call (R.call rfl rfl rfl) rfl rfl rfl (waits_is w5 (hB3.below b35) hS2) ?_
  rintro e w6 ⟨vw6, rfl, o6, b6⟩
  refine ⟨_, rfl, ?_⟩
  have y6 := b6.size
  have b36 : Below w3.heap.size w3 w6 := b35.trans (b6.mono b35.size)
  (refine LL.val (R.move rfl rfl) rfl rfl rfl ?_; refine LL.val (R.extract rfl rfl rfl) rfl rfl rfl ?_; refine LL.val (R.extract rfl rfl rfl) rfl rfl rfl ?_; refine LL.val (R.assign rfl rfl) rfl rfl rfl ?_; refine LL.val (R.assign rfl rfl) rfl rfl rfl ?_; refine LL.nilS ?_; refine CC.seq ?_; refine CC.region ?_; refine LL.val (R.move rfl rfl) rfl rfl rfl ?_)
  refine LL.call (R.call rfl rfl rfl) rfl rfl rfl (held_is w6 (hA3.below b36) hS) ?_
  rintro e w7 ⟨vh7, rfl, o7, b7⟩
  refine ⟨_, rfl, ?_⟩
  have y7 := b7.size
  have b37 : Below w3.heap.size w3 w7 := b36.trans (b7.mono b36.size)
  have b47 : Below w4.heap.size w4 w7 := (b5.trans (b6.mono y5)).trans (b7.mono (by omega))
  (refine LL.val (R.assign rfl rfl) rfl rfl rfl ?_; refine LL.nilS ?_; refine CC.seq ?_; refine CC.seq ?_; refine CC.region ?_; refine LL.val (R.move rfl rfl) rfl rfl rfl ?_; refine LL.val (R.move rfl rfl) rfl rfl rfl ?_)
  refine LL.call (R.call rfl rfl rfl) rfl rfl rfl (lsame_any w7 (hA3.below b37) hS (hC4.below b47) hS) ?_
  rintro e w8 ⟨rfl, b8⟩
  refine ⟨_, rfl, ?_⟩
  have y8 := b8.size
  have b38 := b37.trans (b8.mono b37.size)
  rw [decide_eq_true rfl]
  (refine LL.val (R.not rfl rfl) rfl rfl rfl ?_; refine LL.val (R.move rfl rfl) rfl rfl rfl ?_; refine LL.val (R.move rfl rfl) rfl rfl rfl ?_; refine LL.val (R.move rfl rfl) rfl rfl rfl ?_)
  refine LL.call (R.call rfl rfl rfl) rfl rfl rfl (lsame_any w8 (hA3.below b38) hS (hB3.below b38) hS2) ?_
  rintro e w9 ⟨rfl, b9⟩
  refine ⟨_, rfl, ?_⟩
  have y9 := b9.size
  have b39 := b38.trans (b9.mono b38.size)
  (refine LL.val (R.move rfl rfl) rfl rfl rfl ?_; refine LL.val (R.move rfl rfl) rfl rfl rfl ?_)
  refine LL.call (R.call rfl rfl rfl) rfl rfl rfl (held_is w9 (hB3.below b39) hS2) ?_
  rintro e w10 ⟨vh10, rfl, o10, b10⟩
  refine ⟨_, rfl, ?_⟩
  have y10 := b10.size
  have b3x := b39.trans (b10.mono b39.size)
  have b710 : Below w7.heap.size w7 w10 := (b8.trans (b9.mono y8)).trans (b10.mono (by omega))
  refine LL.call (R.call rfl rfl rfl) rfl rfl rfl (rsame_any _ _ S.1 T.1 w10 ((o7.below b710).reads tEnc) (o10.reads tEnc) (by omega) (by omega)) ?_
  rintro e w11 ⟨rfl, b11⟩
  refine ⟨_, rfl, ?_⟩
  have y11 := b11.size
  have b311 := b3x.trans (b11.mono b3x.size)
  have b711 := b710.trans (b11.mono b710.size)
  have b611 : Below w6.heap.size w6 w11 := b7.trans (b711.mono y7)
  have b511 : Below w5.heap.size w5 w11 := b6.trans (b611.mono y6)
  have o5b := o5.below b511
  have o6b := o6.below b611
  have o7b := o7.below b711
  have hA11 := hA3.below b311
  have hC11 := hC4.below (b5.trans (b511.mono y5))
  have q11 : Below w.heap.size w w11 := q3.trans (b311.mono q3.size)
  have r111 := r13.below b311 (by omega)
  apply twiceW (S.1 = T.1) (fun w' => Below w11.heap.size w11 w')
  case f =>
    intro hst k
    rw [decide_eq_true hst]
    have hd : decide (S = T) = decide (S.2 = T.2) := by
      rw [Bool.eq_iff_iff, decide_eq_true_eq, decide_eq_true_eq]
      exact ⟨fun e => by rw [e], fun e => Prod.ext hst e⟩
    rw [hd]
    cases hq : decide (S.2 = T.2) with
    | true =>
      (refine LL.val (R.move rfl rfl) rfl rfl rfl ?_; refine LL.val (R.move rfl rfl) rfl rfl rfl ?_; refine LL.val (R.move rfl rfl) rfl rfl rfl ?_)
      refine LL.call (R.call rfl rfl rfl) rfl rfl rfl (rsame_any _ _ S.2 T.2 w11 (o5b.reads tEnc) (o6b.reads tEnc) (by omega) (by omega)) ?_
      rintro e w12 ⟨rfl, b12⟩
      refine ⟨_, rfl, ?_⟩
      rw [hq]
      (refine LL.val (R.pick rfl rfl rfl) rfl rfl rfl ?_; refine LL.val (R.neBool rfl rfl rfl rfl rfl) rfl rfl rfl ?_; refine LL.val (R.pick rfl rfl rfl) rfl rfl rfl ?_; refine LL.nilS ?_; refine CC.no rfl ?_; refine CC.skip ?_; refine EE.thenN ?_; refine CC.seq ?_; refine CC.region ?_; refine LL.val (R.move rfl rfl) rfl rfl rfl ?_)
      refine LL.keep [(4, .pointer (some ⟨g1, 0, none⟩)), (7, .pointer (some ⟨ga, 0, none⟩)), (9, .pointer (some ⟨gc, 0, none⟩)), (10, vw5), (14, vh7), (66, .pointer (some ⟨gc, 0, none⟩))] ⟨rfl, rfl, rfl, rfl, rfl, rfl, trivial⟩ ?_
      exact k.out w12 b12
    | false =>
      (refine LL.val (R.move rfl rfl) rfl rfl rfl ?_; refine LL.val (R.move rfl rfl) rfl rfl rfl ?_; refine LL.val (R.move rfl rfl) rfl rfl rfl ?_)
      refine LL.call (R.call rfl rfl rfl) rfl rfl rfl (rsame_any _ _ S.2 T.2 w11 (o5b.reads tEnc) (o6b.reads tEnc) (by omega) (by omega)) ?_
      rintro e w12 ⟨rfl, b12⟩
      refine ⟨_, rfl, ?_⟩
      rw [hq]
      (refine LL.val (R.pick rfl rfl rfl) rfl rfl rfl ?_; refine LL.val (R.neBool rfl rfl rfl rfl rfl) rfl rfl rfl ?_; refine LL.val (R.pick rfl rfl rfl) rfl rfl rfl ?_; refine LL.nilS ?_; refine CC.no rfl ?_; refine CC.skip ?_; refine EE.thenN ?_; refine CC.seq ?_; refine CC.region ?_; refine LL.val (R.move rfl rfl) rfl rfl rfl ?_)
      refine LL.keep [(4, .pointer (some ⟨g1, 0, none⟩)), (7, .pointer (some ⟨ga, 0, none⟩)), (9, .pointer (some ⟨gc, 0, none⟩)), (10, vw5), (14, vh7), (66, .pointer (some ⟨gc, 0, none⟩))] ⟨rfl, rfl, rfl, rfl, rfl, rfl, trivial⟩ ?_
      exact k.out w12 b12
  case g =>
    intro hst k
    rw [decide_eq_false hst]
    have hd : decide (S = T) = false := decide_eq_false fun e => hst (by rw [e])
    rw [hd]
    (refine LL.val (R.move rfl rfl) rfl rfl rfl ?_; refine LL.skip rfl rfl ?_; refine LL.skip rfl rfl ?_; refine LL.skip rfl rfl ?_; refine LL.val (R.pick rfl rfl rfl) rfl rfl rfl ?_; refine LL.val (R.neBool rfl rfl rfl rfl rfl) rfl rfl rfl ?_; refine LL.val (R.pick rfl rfl rfl) rfl rfl rfl ?_; refine LL.nilS ?_; refine CC.no rfl ?_; refine CC.skip ?_; refine EE.thenN ?_; refine CC.seq ?_; refine CC.region ?_; refine LL.val (R.move rfl rfl) rfl rfl rfl ?_)
    refine LL.keep [(4, .pointer (some ⟨g1, 0, none⟩)), (7, .pointer (some ⟨ga, 0, none⟩)), (9, .pointer (some ⟨gc, 0, none⟩)), (10, vw5), (14, vh7), (66, .pointer (some ⟨gc, 0, none⟩))] ⟨rfl, rfl, rfl, rfl, rfl, rfl, trivial⟩ ?_
    exact k.out w11 (Below.refl _ _)
  case k =>
    intro w12 b12
    have y12 := b12.size
    have o5c := o5b.below b12
    have o7c := o7b.below b12
    have hA12 := hA11.below b12
    have hC12 := hC11.below b12
    have q12 : Below w.heap.size w w12 := q11.trans (b12.mono q11.size)
    have r112 := r111.below b12 r111.lt
    have hKc : LatchAt w12 (fun j => j < w3.heap.size ∨ (w4.heap.size ≤ j ∧ j < w12.heap.size)) gc vhc vwc (clP S) S.1 S.2 := hC4.newer ((b5.trans (b511.mono y5)).trans (b12.mono (by omega))) fun j hj => by
      rcases hj with h | ⟨h, h'⟩
      · exact ⟨by omega, .inl h⟩
      · exact ⟨h', .inr h⟩
    refine LL.val (R.buildV rfl rfl (v := .agg #[.slice none 0 0, .slice none 0 0]) (fun _ => by kernel_rfl)) rfl rfl rfl ?_
    refine LL.val (R.load rfl rfl (I.ldN rfl rfl (r112.cells (vs := [.int .i64 what, .int .i64 c]) rfl))) rfl rfl rfl ?_
    refine LL.call (R.call rfl rfl rfl) rfl rfl rfl (act_any what c w12 hKc hS DocAt.none (by simp)) ?_
    rintro e w13 ⟨uh', uw', vh', vw', K', rfl, hKK, hL13, _, k13⟩
    refine ⟨_, rfl, ?_⟩
    have y13 := k13.size
    have hA13 := hA12.stays k13 (.inl hA3.row.lt) (fun b hb => .inl (own_lt hA3.held hb).2) (fun b hb => .inl (own_lt hA3.waits hb).2)
    have o5d := o5c.keptO fun b hb => k13.block b (.inr (own_lt o5c hb))
    have o7d := o7c.keptO fun b hb => k13.block b (.inr ⟨by have := (own_lt o7c hb).1; omega, (own_lt o7c hb).2⟩)
    have q13 : Below w.heap.size w w13 := q12.trans (k13.less fun j (hj : j < w.heap.size) => .inl (by have := q3.size; omega)).bel
    (refine LL.nilS ?_; refine CC.seq ?_; refine CC.region ?_; refine LL.val (R.move rfl rfl) rfl rfl rfl ?_)
    refine LL.call (R.call rfl rfl rfl) rfl rfl rfl (waits_is w13 hA13 hS) ?_
    rintro e w14 ⟨v14, rfl, o14, b14⟩
    refine ⟨_, rfl, ?_⟩
    have y14 := b14.size
    (refine LL.val (R.move rfl rfl) rfl rfl rfl ?_; refine LL.val (R.extract rfl rfl rfl) rfl rfl rfl ?_; refine LL.val (R.extract rfl rfl rfl) rfl rfl rfl ?_; refine LL.val (R.assign rfl rfl) rfl rfl rfl ?_; refine LL.val (R.assign rfl rfl) rfl rfl rfl ?_; refine LL.nilS ?_; refine CC.seq ?_; refine CC.region ?_; refine LL.val (R.assign rfl rfl) rfl rfl rfl ?_; refine LL.nilS ?_; refine CC.seq ?_; refine CC.region ?_; refine LL.val (R.move rfl rfl) rfl rfl rfl ?_)
    refine LL.call (R.call rfl rfl rfl) rfl rfl rfl (waits_nil w14) ?_
    rintro e w15 ⟨v15, rfl, o15, b15⟩
    refine ⟨_, rfl, ?_⟩
    have y15 := b15.size
    have b315 : Below w13.heap.size w13 w15 := b14.trans (b15.mono y14)
    obtain ⟨a15, cp15, rfl, _⟩ := (o15.reads tEnc).form (n := 0) rfl
    (refine LL.val (R.move rfl rfl) rfl rfl rfl ?_; refine LL.val (R.extract rfl rfl rfl) rfl rfl rfl ?_; refine LL.val (R.extract rfl rfl rfl) rfl rfl rfl ?_; refine LL.val (R.assign rfl rfl) rfl rfl rfl ?_; refine LL.val (R.assign rfl rfl) rfl rfl rfl ?_; refine LL.nilS ?_; refine CC.seq ?_; refine CC.region ?_; refine LL.val (R.move rfl rfl) rfl rfl rfl ?_; refine LL.val (R.move rfl rfl) rfl rfl rfl ?_; refine LL.val (R.move rfl rfl) rfl rfl rfl ?_; refine LL.val (R.move rfl rfl) rfl rfl rfl ?_)
    refine LL.call (R.call rfl rfl rfl) rfl rfl rfl (rsame_any _ _ S.2 S.2 w15 ((o14.below b15).reads tEnc) ((o5d.below b315).reads tEnc) (by omega) (by omega)) ?_
    rintro e w16 ⟨rfl, b16⟩
    refine ⟨_, rfl, ?_⟩
    rw [decide_eq_true rfl]
    have b316 := b315.trans (b16.mono b315.size)
    (refine LL.val (R.pick rfl rfl rfl) rfl rfl rfl ?_; refine LL.val (R.move rfl rfl) rfl rfl rfl ?_; refine LL.val (R.move rfl rfl) rfl rfl rfl ?_)
    refine LL.call (R.call rfl rfl rfl) rfl rfl rfl (held_is w16 (hA13.below b316) hS) ?_
    rintro e w17 ⟨v17, rfl, o17, b17⟩
    refine ⟨_, rfl, ?_⟩
    have b317 := b316.trans (b17.mono b316.size)
    (refine LL.val (R.move rfl rfl) rfl rfl rfl ?_)
    refine LL.call (R.call rfl rfl rfl) rfl rfl rfl (rsame_any _ _ S.1 S.1 w17 (o17.reads tEnc) ((o7d.below b317).reads tEnc) (by omega) (by omega)) ?_
    rintro e w18 ⟨rfl, b18⟩
    refine ⟨_, rfl, ?_⟩
    rw [decide_eq_true rfl]
    have b318 := b317.trans (b18.mono b317.size)
    (refine LL.val (R.pick rfl rfl rfl) rfl rfl rfl ?_; refine LL.val (R.move rfl rfl) rfl rfl rfl ?_; refine LL.val (R.move rfl rfl) rfl rfl rfl ?_)
    refine LL.call (R.call rfl rfl rfl) rfl rfl rfl (ask_nil _ _ _) ?_
    rintro e w' ⟨rfl, rfl⟩
    refine ⟨_, rfl, ?_⟩
    refine LL.call (R.call rfl rfl rfl) rfl rfl rfl (num_any _ _ (by decide) (by decide)) ?_
    rintro e w' ⟨rfl, rfl⟩
    refine ⟨_, rfl, ?_⟩
    (refine LL.val (R.eqT rfl rfl rfl (by omega)) rfl rfl rfl ?_; refine LL.val (R.pick rfl rfl rfl) rfl rfl rfl ?_; refine LL.val (R.move rfl rfl) rfl rfl rfl ?_; refine LL.val (R.move rfl rfl) rfl rfl rfl ?_)
    refine LL.call (R.call rfl rfl rfl) rfl rfl rfl (free_nil _ _) ?_
    rintro e w' ⟨rfl, rfl⟩
    refine ⟨_, rfl, ?_⟩
    refine LL.call (R.call rfl rfl rfl) rfl rfl rfl (num_any _ _ (by decide) (by decide)) ?_
    rintro e w' ⟨rfl, rfl⟩
    refine ⟨_, rfl, ?_⟩
    (refine LL.val (R.eqT rfl rfl rfl (by omega)) rfl rfl rfl ?_; refine LL.val (R.pick rfl rfl rfl) rfl rfl rfl ?_; refine LL.val (R.move rfl rfl) rfl rfl rfl ?_; refine LL.val (R.move rfl rfl) rfl rfl rfl ?_)
    refine LL.call (R.call rfl rfl rfl) rfl rfl rfl (holds_nil _ _) ?_
    rintro e w' ⟨rfl, rfl⟩
    refine ⟨_, rfl, ?_⟩
    (refine LL.val (R.not rfl rfl) rfl rfl rfl ?_; refine LL.val (R.pick rfl rfl rfl) rfl rfl rfl ?_; refine LL.val (R.move rfl rfl) rfl rfl rfl ?_; refine LL.val (R.move rfl rfl) rfl rfl rfl ?_)
    refine LL.call (R.call rfl rfl rfl) rfl rfl rfl (held_nil _) ?_
    rintro e w' ⟨rfl, rfl⟩
    refine ⟨_, rfl, ?_⟩
    (refine LL.val (R.len rfl rfl rfl rfl) rfl rfl rfl ?_; refine LL.val (R.eqT rfl rfl rfl (by omega)) rfl rfl rfl ?_; refine LL.val (R.pick rfl rfl rfl) rfl rfl rfl ?_; refine LL.val (R.move rfl rfl) rfl rfl rfl ?_; refine LL.val (R.move rfl rfl) rfl rfl rfl ?_; refine LL.val (R.pick rfl rfl rfl) rfl rfl rfl ?_; refine LL.val (R.move rfl rfl) rfl rfl rfl ?_; refine LL.val (R.move rfl rfl) rfl rfl rfl ?_; refine LL.val (R.len rfl rfl rfl rfl) rfl rfl rfl ?_; refine LL.val (R.eqT rfl rfl rfl (by omega)) rfl rfl rfl ?_; refine LL.val (R.pick rfl rfl rfl) rfl rfl rfl ?_; refine LL.val (R.move rfl rfl) rfl rfl rfl ?_; refine LL.val (R.move rfl rfl) rfl rfl rfl ?_)
    refine LL.call (R.call rfl rfl rfl) rfl rfl rfl (lcopy_nil _) ?_
    rintro e w' ⟨rfl, rfl⟩
    refine ⟨_, rfl, ?_⟩
    (refine LL.val (R.eqPtr rfl rfl rfl rfl rfl) rfl rfl rfl ?_; refine LL.val (R.pick rfl rfl rfl) rfl rfl rfl ?_; refine LL.val (R.move rfl rfl) rfl rfl rfl ?_; refine LL.val (R.move rfl rfl) rfl rfl rfl ?_; refine LL.val (R.move rfl rfl) rfl rfl rfl ?_)
    refine LL.call (R.call rfl rfl rfl) rfl rfl rfl (lsame_none _ (hA13.below b318)) ?_
    rintro e w' ⟨rfl, rfl⟩
    refine ⟨_, rfl, ?_⟩
    (refine LL.val (R.not rfl rfl) rfl rfl rfl ?_; refine LL.val (R.pick rfl rfl rfl) rfl rfl rfl ?_; refine LL.val (R.move rfl rfl) rfl rfl rfl ?_; refine LL.val (R.move rfl rfl) rfl rfl rfl ?_)
    refine LL.call (R.call rfl rfl rfl) rfl rfl rfl (lsame_nil _) ?_
    rintro e w' ⟨rfl, rfl⟩
    refine ⟨_, rfl, ?_⟩
    (refine LL.val (R.pick rfl rfl rfl) rfl rfl rfl ?_; refine LL.val (R.move rfl rfl) rfl rfl rfl ?_)
    refine LL.call (R.call rfl rfl rfl) rfl rfl rfl (works_any _) ?_
    rintro e w19 ⟨rfl, b19⟩
    refine ⟨_, rfl, ?_⟩
    (refine LL.val (R.pick rfl rfl rfl) rfl rfl rfl ?_; refine LL.val (R.assign rfl rfl) rfl rfl rfl ?_; refine LL.nilS ?_; refine CC.ret ?_)
    refine EE.ret _ rfl rfl ?_
    have b319 := b318.trans (b19.mono b318.size)
    exact ⟨rfl, q13.trans (b319.mono q13.size)⟩
end Go.Proofs.Ytcchffdnbamkoaa
