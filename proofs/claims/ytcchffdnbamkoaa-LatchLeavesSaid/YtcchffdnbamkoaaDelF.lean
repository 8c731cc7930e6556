/- slices.IndexFunc, slices.DeleteFunc, without. -/
import Derived.Test.YtcchffdnbamkoaaPlain
import Derived.Test.YtcchffdnbamkoaaTSet
namespace Go.Proofs.Ytcchffdnbamkoaa
set_option linter.unusedVariables false
set_option linter.unusedSimpArgs false
open Go.RowKit Go.Shelf

theorem below_grown {w w' : World} (h : Below w.heap.size w w') (r : Option Nat) : w.grownBy w' r := ⟨h.os, h.tape, h.output, h.size, fun j hj _ => h.block j hj⟩
theorem without1_any (t : Tn) (b : Nat) (c : Int) (w : World) (hb : w.cell? ⟨b, 0, none⟩ = some (.int .i64 c)) (hlt : b < w.heap.size) :
    Calls Try.prog 39 #[.agg (tE t).toArray, .pointer (some ⟨b, 0, none⟩)] w fun e w' => e = .returned (.bool (decide ((t.1 : Int) = c))) ∧ Below w.heap.size w w' := by
  refine X.fn Try.func39 rfl (n := 8) rfl rfl ?_
  (refine CC.seq ?_; refine CC.region ?_)
  refine LL.box (tE t) rfl rfl rfl rfl rfl ?_
  intro w1 g1 e1 r1 z1 b1
  have hc : w1.cell? ⟨g1, 0, none⟩ = some (.int .i64 (t.1 : Int)) := r1.cell rfl
  have hb1 : w1.cell? ⟨b, 0, none⟩ = some (.int .i64 c) := (b1.cell (p := ⟨b, 0, none⟩) hlt).trans hb
  by_cases h : (t.1 : Int) = c
  · (refine LL.val (R.assign rfl rfl) rfl rfl rfl ?_; refine LL.nilS ?_; refine CC.seq ?_; refine CC.region ?_; refine LL.val (R.field rfl rfl (I.fld rfl)) rfl rfl rfl ?_; refine LL.val (R.load rfl rfl (I.ld1 rfl (by assumption))) rfl rfl rfl ?_; refine LL.val (R.load rfl rfl (I.ld1 rfl (by assumption))) rfl rfl rfl ?_; refine LL.val (R.eqT rfl rfl rfl (by omega)) rfl rfl rfl ?_; refine LL.val (R.assign rfl rfl) rfl rfl rfl ?_; refine LL.nilS ?_; refine CC.ret ?_)
    refine EE.ret _ rfl rfl ?_
    exact ⟨by simp [resV, h], b1⟩
  · (refine LL.val (R.assign rfl rfl) rfl rfl rfl ?_; refine LL.nilS ?_; refine CC.seq ?_; refine CC.region ?_; refine LL.val (R.field rfl rfl (I.fld rfl)) rfl rfl rfl ?_; refine LL.val (R.load rfl rfl (I.ld1 rfl (by assumption))) rfl rfl rfl ?_; refine LL.val (R.load rfl rfl (I.ld1 rfl (by assumption))) rfl rfl rfl ?_; refine LL.val (R.eqF rfl rfl rfl (by omega)) rfl rfl rfl ?_; refine LL.val (R.assign rfl rfl) rfl rfl rfl ?_; refine LL.nilS ?_; refine CC.ret ?_)
    refine EE.ret _ rfl rfl ?_
    exact ⟨by simp [resV, h], b1⟩

set_option maxRecDepth 100000 in
set_option maxHeartbeats 2000000 in
theorem index_any (v : Value) (xs : List Tn) (b : Nat) (c : Int) (w : World) (ha : ReadsTn w v xs) (hlx : xs.length ≤ 1048576) (hb : w.cell? ⟨b, 0, none⟩ = some (.int .i64 c)) (hlt : b < w.heap.size) :
    Calls Try.prog 43 #[v, .func (.func 39) #[] #[.pointer (some ⟨b, 0, none⟩)]] w fun e w' => Below w.heap.size w w' ∧ ((e = .returned (.int .i64 (-1)) ∧ ¬ hasP xs c) ∨ ∃ (i : Nat) (t : Tn), e = .returned (.int .i64 (i : Int)) ∧ xs[i]? = some t ∧ (t.1 : Int) = c ∧ ¬ hasP (xs.take i) c) := by
  obtain ⟨N, hN⟩ : ∃ N, xs.length = N := ⟨_, rfl⟩
  obtain ⟨a, cap, rfl, hc⟩ := ha.form hN
  rw [hN] at hlx
  refine X.fn Try.func43 rfl (n := 19) rfl rfl ?_
  (refine CC.seq ?_; refine CC.region ?_; refine LL.val (R.assign rfl rfl) rfl rfl rfl ?_; refine LL.nilS ?_; refine CC.seq ?_; refine CC.seq ?_; refine CC.region ?_; refine LL.val (R.move rfl rfl) rfl rfl rfl ?_; refine LL.val (R.len rfl rfl rfl rfl) rfl rfl rfl ?_; refine LL.val (R.move rfl rfl) rfl rfl rfl ?_; refine LL.nilS ?_; refine CC.block ?_)
  refine CC.loop (α := Nat) (fun i => [(0, .slice a N cap), (1, .func (.func 39) #[] #[.pointer (some ⟨b, 0, none⟩)]), (7, .int .i64 (N : Int)), (8, .int .i64 (i : Int))]) (fun i wr => Below w.heap.size w wr ∧ i ≤ N ∧ ¬ hasP (xs.take i) c) (fun i => N - i) 0 ⟨rfl, rfl, rfl, rfl, trivial⟩ ⟨Below.refl _ _, by omega, by simp [hasP]⟩ ?_
  rintro i wr ⟨hbw, hi, ht⟩
  by_cases h1 : i < N
  · obtain ⟨s, hs⟩ : ∃ s, xs[i]? = some s := ⟨_, List.getElem?_eq_getElem (by omega)⟩
    obtain ⟨b2, off, rfl, hbl, hcs⟩ := ha.get tEnc hs
    have hc1 := hcs.below hbw hbl
    have y := hbw.size
    have hb1 : wr.cell? ⟨b, 0, none⟩ = some (.int .i64 c) := (hbw.cell (p := ⟨b, 0, none⟩) hlt).trans hb
    (refine CC.seq ?_; refine CC.region ?_; refine LL.val (R.ltT rfl rfl rfl (by omega)) rfl rfl rfl ?_; refine LL.nilS ?_; refine CC.seq ?_; refine CC.yes rfl ?_; refine CC.skip ?_; refine EE.thenN ?_; refine CC.seq ?_; refine CC.block ?_; refine CC.seq ?_; refine CC.region ?_; refine LL.val (R.move rfl rfl) rfl rfl rfl ?_; refine LL.val (R.assign rfl rfl) rfl rfl rfl ?_; refine LL.nilS ?_; refine CC.seq ?_; refine CC.region ?_; refine LL.val (R.move rfl rfl) rfl rfl rfl ?_; refine LL.val (R.move rfl rfl) rfl rfl rfl ?_; refine LL.val (R.move rfl rfl) rfl rfl rfl ?_; refine LL.val (R.index rfl rfl rfl (I.ixS rfl (by omega))) rfl rfl rfl ?_)
    refine LL.val (R.load rfl rfl (I.ldN (vs := tE s) rfl rfl hc1)) rfl rfl rfl ?_
    refine LL.call (R.callV rfl rfl rfl rfl) rfl rfl rfl (without1_any s b c wr hb1 (by omega)) ?_
    rintro e w4 ⟨rfl, b4⟩
    refine ⟨_, rfl, ?_⟩
    have q4 : Below w.heap.size w w4 := hbw.trans (b4.mono y)
    by_cases hst : (s.1 : Int) = c
    · simp only [hst, decide_true]
      (refine LL.nilS ?_; refine CC.yes rfl ?_; refine CC.seq ?_; refine CC.region ?_; refine LL.val (R.move rfl rfl) rfl rfl rfl ?_; refine LL.val (R.assign rfl rfl) rfl rfl rfl ?_; refine LL.nilS ?_; refine CC.ret ?_; refine EE.inR ?_; refine EE.thenR ?_; refine EE.thenR ?_; refine EE.inR ?_; refine EE.thenR ?_)
      refine EE.ret _ rfl rfl ?_
      exact ⟨q4, .inr ⟨i, s, rfl, hs, hst, ht⟩⟩
    · simp only [hst, decide_false]
      (refine LL.nilS ?_; refine CC.no rfl ?_; refine CC.skip ?_; refine EE.inN ?_; refine EE.thenN ?_; refine CC.region ?_; refine LL.val (R.addNc rfl rfl rfl rfl (by omega)) rfl rfl rfl ?_; refine LL.val (R.move rfl rfl) rfl rfl rfl ?_; refine LL.nil ?_)
      refine EE.round (i + 1) ⟨rfl, rfl, rfl, rfl, trivial⟩ ⟨q4, by omega, ?_⟩ (by omega)
      rw [List.take_add_one, hs]
      simp only [Option.toList_some, hasP_app, hasP_one]
      rintro (h | h)
      · exact ht h
      · exact hst h
  · obtain rfl : i = N := by omega
    rw [List.take_of_length_le (by omega)] at ht
    (refine CC.seq ?_; refine CC.region ?_; refine LL.val (R.ltF rfl rfl rfl (by omega)) rfl rfl rfl ?_; refine LL.nilS ?_; refine CC.seq ?_; refine CC.no rfl ?_; refine CC.exit ?_; refine EE.thenX ?_; refine EE.thenX ?_; refine EE.inX ?_; refine EE.thenN ?_; refine CC.seq ?_; refine CC.region ?_; refine LL.val (R.assign rfl rfl) rfl rfl rfl ?_; refine LL.nilS ?_; refine CC.ret ?_)
    refine EE.ret _ rfl rfl ?_
    exact ⟨hbw, .inl ⟨rfl, ht⟩⟩

set_option maxRecDepth 100000 in
set_option maxHeartbeats 2000000 in
theorem delf_any {base : Nat} (v : Value) (xs : List Tn) (b : Nat) (c : Int) (w : World) (h : OwnsT tE 2 w base 51 v xs) (hlx : xs.length ≤ 1048576) (hb : w.cell? ⟨b, 0, none⟩ = some (.int .i64 c)) (hlt : b < w.heap.size) (hvb : v.ownBlock ≠ some b) :
    Calls Try.prog 38 #[v, .func (.func 39) #[] #[.pointer (some ⟨b, 0, none⟩)]] w fun e w' => ∃ v', e = .returned v' ∧ OwnsT tE 2 w' base 51 v' (outP xs c) ∧ v'.ownBlock = v.ownBlock ∧ w.grownBy w' v.ownBlock := by
  have hrd := h.reads tEnc
  refine X.fn Try.func38 rfl (n := 42) rfl rfl ?_
  (refine CC.seq ?_; refine CC.region ?_; refine LL.val (R.assign rfl rfl) rfl rfl rfl ?_; refine LL.nilS ?_; refine CC.seq ?_; refine CC.region ?_; refine LL.val (R.move rfl rfl) rfl rfl rfl ?_; refine LL.val (R.move rfl rfl) rfl rfl rfl ?_)
  refine LL.call (R.call rfl rfl rfl) rfl rfl rfl (index_any v xs b c w hrd hlx hb hlt) ?_
  rintro e w1 ⟨b1, ⟨rfl, hno⟩ | ⟨i0, t0, rfl, ht0, htc, hpre⟩⟩
  · refine ⟨_, rfl, ?_⟩
    (refine LL.val (R.assign rfl rfl) rfl rfl rfl ?_; refine LL.nilS ?_; refine CC.seq ?_; refine CC.seq ?_; refine CC.region ?_; refine LL.val (R.move rfl rfl) rfl rfl rfl ?_; refine LL.val (R.eqT rfl rfl rfl (by omega)) rfl rfl rfl ?_; refine LL.nilS ?_; refine CC.yes rfl ?_; refine CC.seq ?_; refine CC.region ?_; refine LL.val (R.move rfl rfl) rfl rfl rfl ?_; refine LL.val (R.assign rfl rfl) rfl rfl rfl ?_; refine LL.nilS ?_; refine CC.ret ?_; refine EE.thenR ?_)
    refine EE.ret _ rfl rfl ?_
    exact ⟨v, rfl, by rw [outP_none hno]; exact h.below b1, rfl, below_grown b1 _⟩
  · refine ⟨_, rfl, ?_⟩
    have hi0 : i0 < xs.length := (List.getElem?_eq_some_iff.1 ht0).1
    rcases h.block with ⟨_, e0⟩ | ⟨g, cap, rfl, hcap, hbg, hgl⟩
    · subst e0; simp at hi0
    obtain ⟨N, hN⟩ : ∃ N, xs.length = N := ⟨_, rfl⟩
    rw [hN] at hi0 hcap hlx hrd h ⊢
    have hbg' : b ≠ g := fun e => hvb (by rw [e]; rfl)
    (refine LL.val (R.assign rfl rfl) rfl rfl rfl ?_; refine LL.nilS ?_; refine CC.seq ?_; refine CC.seq ?_; refine CC.region ?_; refine LL.val (R.move rfl rfl) rfl rfl rfl ?_; refine LL.val (R.eqF rfl rfl rfl (by omega)) rfl rfl rfl ?_; refine LL.nilS ?_; refine CC.no rfl ?_; refine CC.skip ?_; refine EE.thenN ?_; refine CC.seq ?_; refine CC.seq ?_; refine CC.region ?_; refine LL.val (R.move rfl rfl) rfl rfl rfl ?_; refine LL.val (R.addNc rfl rfl rfl rfl (by omega)) rfl rfl rfl ?_; refine LL.val (R.assign rfl rfl) rfl rfl rfl ?_; refine LL.nilS ?_; refine CC.block ?_)
    refine CC.loop (α := (Nat × Nat) × List Tn) (fun q => [(0, .slice (some ⟨g, 0, none⟩) N cap), (1, .func (.func 39) #[] #[.pointer (some ⟨b, 0, none⟩)]), (5, .int .i64 (q.1.1 : Int)), (6, .int .i64 (q.1.2 : Int))]) (fun q wr => w.grownBy wr (some g) ∧ q.1.1 < q.1.2 ∧ q.1.2 ≤ N ∧ q.2.length = N ∧ q.2.take q.1.1 = outP (xs.take q.1.2) c ∧ q.2.drop q.1.2 = xs.drop q.1.2 ∧ OwnsT tE 2 wr base 51 (.slice (some ⟨g, 0, none⟩) N cap) q.2) (fun q => N - q.1.2) ((i0, i0 + 1), xs) ⟨rfl, rfl, rfl, rfl, trivial⟩ ⟨below_grown b1 _, by simp only; omega, by simp only; omega, hN, ?_, rfl, h.below b1⟩ ?_
    · simp only
      rw [List.take_add_one, ht0, outP_app, outP_none hpre]
      simp [outP, htc]
    rintro ⟨⟨i, j⟩, ys⟩ wr ⟨hgw, hij, hjN, hyl, hyt, hyd, how⟩
    simp only at hij hjN hyl hyt hyd how
    have y := hgw.size
    have hbl' : b < wr.heap.size := Nat.lt_of_lt_of_le hlt y
    refine CC.keep [(0, .slice (some ⟨g, 0, none⟩) N cap), (1, .func (.func 39) #[] #[.pointer (some ⟨b, 0, none⟩)]), (5, .int .i64 (i : Int)), (6, .int .i64 (j : Int))] ⟨rfl, rfl, rfl, rfl, trivial⟩ ?_
    by_cases h1 : j < N
    · obtain ⟨s, hs⟩ : ∃ s, xs[j]? = some s := ⟨_, List.getElem?_eq_getElem (by omega)⟩
      have hsy : ys[j]? = some s := by
        have e1 : (ys.drop j)[0]? = ys[j]? := by rw [List.getElem?_drop, Nat.add_zero]
        have e2 : (xs.drop j)[0]? = xs[j]? := by rw [List.getElem?_drop, Nat.add_zero]
        rw [← e1, hyd, e2, hs]
      obtain ⟨b2, off, e2, hbl, hc1⟩ := (how.reads tEnc).get tEnc hsy
      cases e2
      have hb1 : wr.cell? ⟨b, 0, none⟩ = some (.int .i64 c) := (World.cell?_of_block (a := ⟨b, 0, none⟩) (hgw.block b hlt (by simpa using hbg'))).trans hb
      (refine CC.seq ?_; refine CC.seq ?_; refine CC.region ?_; refine LL.val (R.move rfl rfl) rfl rfl rfl ?_; refine LL.val (R.move rfl rfl) rfl rfl rfl ?_; refine LL.val (R.len rfl rfl rfl rfl) rfl rfl rfl ?_; refine LL.val (R.ltT rfl rfl rfl (by omega)) rfl rfl rfl ?_; refine LL.nilS ?_; refine CC.yes rfl ?_; refine CC.skip ?_; refine EE.thenN ?_; refine CC.seq ?_; refine CC.block ?_; refine CC.seq ?_; refine CC.region ?_; refine LL.val (R.move rfl rfl) rfl rfl rfl ?_; refine LL.val (R.move rfl rfl) rfl rfl rfl ?_; refine LL.val (R.index rfl rfl rfl (I.ixS rfl (by omega))) rfl rfl rfl ?_)
      refine LL.val (R.load rfl rfl (I.ldN (vs := tE s) rfl rfl hc1)) rfl rfl rfl ?_
      refine LL.alloc (tE (0, false)) rfl rfl rfl rfl rfl ?_
      intro w2 g2 e2 r2 z2 b2
      skip
      refine LL.storeN (vs := tE s) rfl rfl rfl rfl r2 (Nat.le_of_ble_eq_true rfl) (tEnc.one s) rfl rfl ?_
      intro w3 r3 g3 z3
      have q3 : Below wr.heap.size wr w3 := b2.grown g3 (by omega) (by rintro k ⟨⟩; omega)
      (refine LL.nilS ?_; refine CC.seq ?_; refine CC.region ?_; refine LL.val (R.move rfl rfl) rfl rfl rfl ?_)
      refine LL.val (R.load rfl rfl (I.ldN (vs := tE s) rfl rfl (r3.cells rfl))) rfl rfl rfl ?_
      refine LL.call (R.callV rfl rfl rfl rfl) rfl rfl rfl (without1_any s b c w3 ((q3.cell (p := ⟨b, 0, none⟩) hbl').trans hb1) (by have := q3.size; omega)) ?_
      rintro e w4 ⟨rfl, b4⟩
      refine ⟨_, rfl, ?_⟩
      have q4 : Below wr.heap.size wr w4 := q3.trans (b4.mono q3.size)
      have gq4 : w.grownBy w4 (some g) := grown_trans hgw (below_grown q4 _)
      have hstep : xs.take (j + 1) = xs.take j ++ [s] := by rw [List.take_add_one, hs]; rfl
      have hyd2 : ∀ zs : List Tn, zs.drop j = xs.drop j → zs.drop (j + 1) = xs.drop (j + 1) := fun zs hz => by rw [← List.drop_drop, hz, List.drop_drop]
      by_cases hst : (s.1 : Int) = c
      · simp only [hst, decide_true]
        (refine LL.val (R.not rfl rfl) rfl rfl rfl ?_; refine LL.nilS ?_; refine CC.no rfl ?_; refine CC.skip ?_; refine EE.inN ?_; refine EE.thenN ?_; refine CC.region ?_; refine LL.val (R.move rfl rfl) rfl rfl rfl ?_; refine LL.val (R.addNc rfl rfl rfl rfl (by omega)) rfl rfl rfl ?_; refine LL.val (R.assign rfl rfl) rfl rfl rfl ?_; refine LL.nil ?_)
        refine EE.round (p := ((i, j), ys)) ((i, j + 1), ys) ⟨rfl, rfl, rfl, rfl, trivial⟩ ⟨gq4, by simp only; omega, by simp only; omega, hyl, ?_, hyd2 ys hyd, how.below q4⟩ (by simp only; omega)
        simp only
        rw [hyt, hstep, outP_app]
        simp [outP, hst]
      · simp only [hst, decide_false]
        (refine LL.val (R.not rfl rfl) rfl rfl rfl ?_; refine LL.nilS ?_; refine CC.yes rfl ?_; refine CC.seq ?_; refine CC.region ?_; refine LL.val (R.move rfl rfl) rfl rfl rfl ?_; refine LL.val (R.move rfl rfl) rfl rfl rfl ?_)
        refine LL.val (R.load rfl rfl (I.ldN (vs := tE s) rfl rfl ((r3.cells rfl).below b4 r3.lt))) rfl rfl rfl ?_
        (refine LL.val (R.index rfl rfl rfl (I.ixS rfl (by omega))) rfl rfl rfl ?_)
        refine LL.storeT (u := s) (i := i) rfl (by simp only [Nat.zero_add]; rfl) rfl rfl tEnc (how.below q4) (by omega) rfl rfl ?_
        intro w5 o5 g5
        (refine LL.nilS ?_; refine CC.region ?_; refine LL.val (R.move rfl rfl) rfl rfl rfl ?_; refine LL.val (R.addNc rfl rfl rfl rfl (by omega)) rfl rfl rfl ?_; refine LL.val (R.assign rfl rfl) rfl rfl rfl ?_; refine LL.nil ?_; refine EE.inN ?_; refine EE.thenN ?_; refine CC.region ?_; refine LL.val (R.move rfl rfl) rfl rfl rfl ?_; refine LL.val (R.addNc rfl rfl rfl rfl (by omega)) rfl rfl rfl ?_; refine LL.val (R.assign rfl rfl) rfl rfl rfl ?_; refine LL.nil ?_)
        refine EE.round (p := ((i, j), ys)) ((i + 1, j + 1), ys.set i s) ⟨rfl, rfl, rfl, rfl, trivial⟩ ⟨grown_trans gq4 g5, by simp only; omega, by simp only; omega, by simp only [List.length_set]; exact hyl, ?_, ?_, o5⟩ (by simp only; omega)
        · simp only
          rw [List.take_add_one, List.getElem?_set_self (by omega), List.take_set_of_le (by omega), hyt, hstep, outP_app]
          simp [outP, hst]
        · simp only
          rw [List.drop_set_of_lt (by omega)]
          exact hyd2 ys hyd
    · obtain rfl : j = N := by omega
      have hsub : (Instr.slice 26 (.slice (some ⟨g, 0, none⟩) j cap) (some (.int .i64 (i : Int))) none none).run Try.prog wr = .ok (.slice (some ⟨g, i * 2, none⟩) (j - i) (cap - i)) wr := by
        have hp := run_from_t ElTurn (some ⟨g, 0, none⟩) j cap i (by omega) wr
        rw [if_neg (by omega), Option.map_some, add_plain, Nat.zero_add] at hp
        exact hp
      have hut := how.upto tEnc (m := i) (by omega)
      have hil : (ys.take i).length = i := by rw [List.length_take]; omega
      have e0 : ys.take i = outP xs c := by rw [hyt, List.take_of_length_le (by omega)]
      (refine CC.seq ?_; refine CC.seq ?_; refine CC.region ?_; refine LL.val (R.move rfl rfl) rfl rfl rfl ?_; refine LL.val (R.move rfl rfl) rfl rfl rfl ?_; refine LL.val (R.len rfl rfl rfl rfl) rfl rfl rfl ?_; refine LL.val (R.ltF rfl rfl rfl (by omega)) rfl rfl rfl ?_; refine LL.nilS ?_; refine CC.no rfl ?_; refine CC.exit ?_; refine EE.thenX ?_; refine EE.thenX ?_; refine EE.inX ?_; refine EE.thenN ?_; refine CC.seq ?_; refine CC.region ?_; refine LL.val (R.move rfl rfl) rfl rfl rfl ?_; refine LL.val (R.move rfl rfl) rfl rfl rfl ?_)
      refine LL.val (R.slice rfl rfl rfl rfl rfl (slAt_sl rfl hsub)) rfl rfl rfl ?_
      refine LL.clearT (ts := ys.take i) (m := j - i) (c := cap - i) rfl (by rw [hil]; rfl) tEnc ElTurn (by intro u hu; simp [Value.cells] at hu; rcases hu with rfl | rfl <;> rfl) (by rw [hil]; exact hut) (by rw [hil]; omega) rfl rfl ?_
      intro w3 o3 g3
      rw [hil, e0] at o3
      (refine LL.nilS ?_; refine CC.seq ?_; refine CC.region ?_; refine LL.val (R.move rfl rfl) rfl rfl rfl ?_; refine LL.val (R.move rfl rfl) rfl rfl rfl ?_)
      refine LL.val (R.slice rfl rfl rfl rfl rfl (slAt_sl rfl (run_upto_t ElTurn _ j cap i (by omega) _))) rfl rfl rfl ?_
      (refine LL.val (R.assign rfl rfl) rfl rfl rfl ?_; refine LL.nilS ?_; refine CC.ret ?_)
      refine EE.ret _ rfl rfl ?_
      exact ⟨_, rfl, o3, rfl, grown_trans hgw g3⟩

theorem lwithout_any {base : Nat} (v : Value) (xs : List Tn) (c : Int) (w : World) (h : OwnsT tE 2 w base 51 v xs) (hlx : xs.length ≤ 1048576) :
    Calls Try.prog 30 #[v, .int .i64 c] w fun e w' => ∃ v', e = .returned v' ∧ OwnsT tE 2 w' base 51 v' (outP xs c) ∧ v'.ownBlock = v.ownBlock ∧ w.grownBy w' v.ownBlock := by
  refine X.fn Try.func30 rfl (n := 8) rfl rfl ?_
  (refine CC.seq ?_; refine CC.region ?_)
  refine LL.box [.int .i64 c] rfl rfl rfl rfl rfl ?_
  intro w1 g1 e1 r1 z1 b1
  have hne : v.ownBlock ≠ some g1 := by
    rcases h.above with h0 | ⟨b, h0, _, h1⟩
    · rw [h0]; simp
    · rw [h0]; intro e; cases e; omega
  (refine LL.val (R.assign rfl rfl) rfl rfl rfl ?_; refine LL.nilS ?_; refine CC.seq ?_; refine CC.region ?_; refine LL.val (R.move rfl rfl) rfl rfl rfl ?_; refine LL.val (R.func rfl rfl rfl) rfl rfl rfl ?_)
  refine LL.call (R.call rfl rfl rfl) rfl rfl rfl (delf_any v xs g1 c w1 (h.below b1) hlx (r1.cell rfl) r1.lt hne) ?_
  rintro e w2 ⟨v2, rfl, o2, hv2, gr2⟩
  refine ⟨_, rfl, ?_⟩
  (refine LL.val (R.assign rfl rfl) rfl rfl rfl ?_; refine LL.nilS ?_; refine CC.ret ?_)
  refine EE.ret _ rfl rfl ?_
  exact ⟨v2, rfl, o2, hv2, grown_trans (below_grown b1 _) gr2⟩
end Go.Proofs.Ytcchffdnbamkoaa
