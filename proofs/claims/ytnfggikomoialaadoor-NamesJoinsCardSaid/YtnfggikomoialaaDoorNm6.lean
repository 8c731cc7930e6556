/- names: equal lists; Short, Split, Under. -/
import Derived.Test.YtnfggikomoialaaDoorNm5
namespace Go.Proofs.YtnfggikomoialaaDoor
set_option linter.unusedVariables false
set_option linter.unusedSimpArgs false
open Go.RowKit Go.Shelf

set_option maxRecDepth 100000 in
set_option maxHeartbeats 2000000 in
theorem rsame_any (va vb : Value) (xs ys : List Bs) (w : World) (ha : ReadsT stE 1 w va xs) (hb : ReadsT stE 1 w vb ys) (hlx : xs.length ≤ 1048576) (hly : ys.length ≤ 1048576) :
    Calls Tryd.prog 15 #[va, vb] w fun e w' => e = .returned (.bool (decide (xs = ys))) ∧ Below w.heap.size w w' := by
  obtain ⟨N, hN⟩ : ∃ N, xs.length = N := ⟨_, rfl⟩
  obtain ⟨N2, hN2⟩ : ∃ N2, ys.length = N2 := ⟨_, rfl⟩
  have ha0 := ha
  have hb0 := hb
  obtain ⟨a, cap, rfl, hc⟩ := ha.form hN
  obtain ⟨a2, cap2, rfl, hc2⟩ := hb.form hN2
  rw [hN] at hlx
  rw [hN2] at hly
  refine X.fn Tryd.func15 rfl (n := 26) rfl rfl ?_
  by_cases hne : N = N2
  · subst hne
    (refine CC.seq ?_; refine CC.region ?_; refine LL.val (R.assign rfl rfl) rfl rfl rfl ?_; refine LL.nilS ?_; refine CC.seq ?_; refine CC.seq ?_; refine CC.region ?_; refine LL.val (R.move rfl rfl) rfl rfl rfl ?_; refine LL.val (R.len rfl rfl rfl rfl) rfl rfl rfl ?_; refine LL.val (R.move rfl rfl) rfl rfl rfl ?_; refine LL.val (R.len rfl rfl rfl rfl) rfl rfl rfl ?_; refine LL.val (R.neF rfl rfl rfl (by omega)) rfl rfl rfl ?_; refine LL.nilS ?_; refine CC.no rfl ?_; refine CC.skip ?_; refine EE.thenN ?_; refine CC.seq ?_; refine CC.seq ?_; refine CC.region ?_; refine LL.val (R.assign rfl rfl) rfl rfl rfl ?_; refine LL.nilS ?_; refine CC.block ?_)
    refine CC.loop (α := Nat) (fun i => [(0, .slice a N cap), (1, .slice a2 N cap2), (5, .int .i64 (i : Int))]) (fun i wr => Below w.heap.size w wr ∧ i ≤ N ∧ xs.take i = ys.take i) (fun i => N - i) 0 ⟨rfl, rfl, rfl, trivial⟩ ⟨Below.refl _ _, by omega, by simp⟩ ?_
    intro i wr ⟨hbw, hi, ht⟩
    by_cases h1 : i < N
    · obtain ⟨s, hs⟩ : ∃ s, xs[i]? = some s := ⟨_, List.getElem?_eq_getElem (by omega)⟩
      obtain ⟨t, ht2⟩ : ∃ t, ys[i]? = some t := ⟨_, List.getElem?_eq_getElem (by omega)⟩
      obtain ⟨b, off, rfl, hbl, hcs⟩ := ReadsT.one stEnc (ha0.up hbw.drew) hs
      obtain ⟨b2, off2, rfl, hbl2, hcs2⟩ := ReadsT.one stEnc (hb0.up hbw.drew) ht2
      have hc1 := hcs _ rfl
      have hc3 := hcs2 _ rfl
      by_cases hst : s = t
      · (refine CC.seq ?_; refine CC.seq ?_; refine CC.region ?_; refine LL.val (R.move rfl rfl) rfl rfl rfl ?_; refine LL.val (R.move rfl rfl) rfl rfl rfl ?_; refine LL.val (R.len rfl rfl rfl rfl) rfl rfl rfl ?_; refine LL.val (R.ltT rfl rfl rfl (by omega)) rfl rfl rfl ?_; refine LL.nilS ?_; refine CC.yes rfl ?_; refine CC.skip ?_; refine EE.thenN ?_; refine CC.seq ?_; refine CC.block ?_; refine CC.seq ?_)
        refine CC.quiet (by kernel_rfl) (by kernel_rfl) ?_
        (refine SS.val (R.move rfl rfl) rfl rfl ?_; refine SS.val (R.move rfl rfl) rfl rfl ?_; refine SS.val (R.index rfl rfl rfl (I.ixS1 rfl (by omega))) rfl rfl ?_; refine SS.val (R.load rfl rfl (I.ld1 rfl (by assumption))) rfl rfl ?_; refine SS.val (R.move rfl rfl) rfl rfl ?_; refine SS.val (R.move rfl rfl) rfl rfl ?_; refine SS.val (R.index rfl rfl rfl (I.ixS1 rfl (by omega))) rfl rfl ?_; refine SS.val (R.load rfl rfl (I.ld1 rfl (by assumption))) rfl rfl ?_)
        refine SS.val (R.neS (c := false) rfl rfl rfl (by simp [hst])) rfl rfl ?_
        (refine SS.nilQ ?_)
        (refine EE.thenN ?_; refine CC.no rfl ?_; refine CC.skip ?_; refine EE.inN ?_; refine EE.thenN ?_; refine CC.region ?_; refine LL.val (R.move rfl rfl) rfl rfl rfl ?_; refine LL.val (R.addNc rfl rfl rfl rfl (by omega)) rfl rfl rfl ?_; refine LL.val (R.assign rfl rfl) rfl rfl rfl ?_; refine LL.nil ?_)
        exact EE.round (i + 1) ⟨rfl, rfl, rfl, trivial⟩ ⟨hbw.drew, by omega, by rw [List.take_add_one, List.take_add_one, ht, hs, ht2, hst]⟩ (by omega)
      · (refine CC.seq ?_; refine CC.seq ?_; refine CC.region ?_; refine LL.val (R.move rfl rfl) rfl rfl rfl ?_; refine LL.val (R.move rfl rfl) rfl rfl rfl ?_; refine LL.val (R.len rfl rfl rfl rfl) rfl rfl rfl ?_; refine LL.val (R.ltT rfl rfl rfl (by omega)) rfl rfl rfl ?_; refine LL.nilS ?_; refine CC.yes rfl ?_; refine CC.skip ?_; refine EE.thenN ?_; refine CC.seq ?_; refine CC.block ?_; refine CC.seq ?_)
        refine CC.quiet (by kernel_rfl) (by kernel_rfl) ?_
        (refine SS.val (R.move rfl rfl) rfl rfl ?_; refine SS.val (R.move rfl rfl) rfl rfl ?_; refine SS.val (R.index rfl rfl rfl (I.ixS1 rfl (by omega))) rfl rfl ?_; refine SS.val (R.load rfl rfl (I.ld1 rfl (by assumption))) rfl rfl ?_; refine SS.val (R.move rfl rfl) rfl rfl ?_; refine SS.val (R.move rfl rfl) rfl rfl ?_; refine SS.val (R.index rfl rfl rfl (I.ixS1 rfl (by omega))) rfl rfl ?_; refine SS.val (R.load rfl rfl (I.ld1 rfl (by assumption))) rfl rfl ?_)
        refine SS.val (R.neS (c := true) rfl rfl rfl (by simp [hst])) rfl rfl ?_
        (refine SS.nilQ ?_)
        (refine EE.thenN ?_; refine CC.yes rfl ?_; refine CC.seq ?_; refine CC.region ?_; refine LL.val (R.assign rfl rfl) rfl rfl rfl ?_; refine LL.nilS ?_; refine CC.ret ?_; refine EE.inR ?_; refine EE.thenR ?_; refine EE.thenR ?_; refine EE.inR ?_; refine EE.thenR ?_)
        refine EE.ret _ rfl rfl ?_
        refine ⟨?_, hbw.drew⟩
        rw [decide_eq_false (fun e => hst (by rw [e, ht2] at hs; cases hs; rfl))]
        rfl
    · have hxy : xs = ys := by
        rw [List.take_of_length_le (by omega), List.take_of_length_le (by omega)] at ht
        exact ht
      (refine CC.seq ?_; refine CC.seq ?_; refine CC.region ?_; refine LL.val (R.move rfl rfl) rfl rfl rfl ?_; refine LL.val (R.move rfl rfl) rfl rfl rfl ?_; refine LL.val (R.len rfl rfl rfl rfl) rfl rfl rfl ?_; refine LL.val (R.ltF rfl rfl rfl (by omega)) rfl rfl rfl ?_; refine LL.nilS ?_; refine CC.no rfl ?_; refine CC.exit ?_; refine EE.thenX ?_; refine EE.thenX ?_; refine EE.inX ?_; refine EE.thenN ?_; refine CC.seq ?_; refine CC.region ?_; refine LL.val (R.assign rfl rfl) rfl rfl rfl ?_; refine LL.nilS ?_; refine CC.ret ?_)
      refine EE.ret _ rfl rfl ?_
      exact ⟨by rw [decide_eq_true hxy]; rfl, hbw⟩
  · (refine CC.seq ?_; refine CC.region ?_; refine LL.val (R.assign rfl rfl) rfl rfl rfl ?_; refine LL.nilS ?_; refine CC.seq ?_; refine CC.seq ?_; refine CC.region ?_; refine LL.val (R.move rfl rfl) rfl rfl rfl ?_; refine LL.val (R.len rfl rfl rfl rfl) rfl rfl rfl ?_; refine LL.val (R.move rfl rfl) rfl rfl rfl ?_; refine LL.val (R.len rfl rfl rfl rfl) rfl rfl rfl ?_; refine LL.val (R.neT rfl rfl rfl (by omega)) rfl rfl rfl ?_; refine LL.nilS ?_; refine CC.yes rfl ?_; refine CC.seq ?_; refine CC.region ?_; refine LL.val (R.assign rfl rfl) rfl rfl rfl ?_; refine LL.nilS ?_; refine CC.ret ?_; refine EE.thenR ?_)
    refine EE.ret _ rfl rfl ?_
    exact ⟨by rw [decide_eq_false (fun e => hne (by rw [← hN, ← hN2, e]))]; rfl, Below.refl _ _⟩
set_option maxRecDepth 100000 in
set_option maxHeartbeats 2000000 in
theorem sequal_any (va vb : Value) (xs ys : List Bs) (w : World) (ha : ReadsT stE 1 w va xs) (hb : ReadsT stE 1 w vb ys) (hlx : xs.length ≤ 1048576) (hly : ys.length ≤ 1048576) :
    Calls Tryd.prog 34 #[va, vb] w fun e w' => e = .returned (.bool (decide (xs = ys))) ∧ Below w.heap.size w w' := by
  obtain ⟨N, hN⟩ : ∃ N, xs.length = N := ⟨_, rfl⟩
  obtain ⟨N2, hN2⟩ : ∃ N2, ys.length = N2 := ⟨_, rfl⟩
  have ha0 := ha
  have hb0 := hb
  obtain ⟨a, cap, rfl, hc⟩ := ha.form hN
  obtain ⟨a2, cap2, rfl, hc2⟩ := hb.form hN2
  rw [hN] at hlx
  rw [hN2] at hly
  refine X.fn Tryd.func34 rfl (n := 26) rfl rfl ?_
  by_cases hne : N = N2
  · subst hne
    (refine CC.seq ?_; refine CC.region ?_; refine LL.val (R.assign rfl rfl) rfl rfl rfl ?_; refine LL.nilS ?_; refine CC.seq ?_; refine CC.seq ?_; refine CC.region ?_; refine LL.val (R.move rfl rfl) rfl rfl rfl ?_; refine LL.val (R.len rfl rfl rfl rfl) rfl rfl rfl ?_; refine LL.val (R.move rfl rfl) rfl rfl rfl ?_; refine LL.val (R.len rfl rfl rfl rfl) rfl rfl rfl ?_; refine LL.val (R.neF rfl rfl rfl (by omega)) rfl rfl rfl ?_; refine LL.nilS ?_; refine CC.no rfl ?_; refine CC.skip ?_; refine EE.thenN ?_; refine CC.seq ?_; refine CC.seq ?_; refine CC.region ?_; refine LL.val (R.move rfl rfl) rfl rfl rfl ?_; refine LL.val (R.len rfl rfl rfl rfl) rfl rfl rfl ?_; refine LL.val (R.move rfl rfl) rfl rfl rfl ?_; refine LL.nilS ?_; refine CC.block ?_)
    refine CC.loop (α := Nat) (fun i => [(0, .slice a N cap), (1, .slice a2 N cap2), (12, .int .i64 (N : Int)), (13, .int .i64 (i : Int))]) (fun i wr => Below w.heap.size w wr ∧ i ≤ N ∧ xs.take i = ys.take i) (fun i => N - i) 0 ⟨rfl, rfl, rfl, rfl, trivial⟩ ⟨Below.refl _ _, by omega, by simp⟩ ?_
    intro i wr ⟨hbw, hi, ht⟩
    by_cases h1 : i < N
    · obtain ⟨s, hs⟩ : ∃ s, xs[i]? = some s := ⟨_, List.getElem?_eq_getElem (by omega)⟩
      obtain ⟨t, ht2⟩ : ∃ t, ys[i]? = some t := ⟨_, List.getElem?_eq_getElem (by omega)⟩
      obtain ⟨b, off, rfl, hbl, hcs⟩ := ReadsT.one stEnc (ha0.up hbw.drew) hs
      obtain ⟨b2, off2, rfl, hbl2, hcs2⟩ := ReadsT.one stEnc (hb0.up hbw.drew) ht2
      have hc1 := hcs _ rfl
      have hc3 := hcs2 _ rfl
      by_cases hst : s = t
      · (refine CC.seq ?_; refine CC.region ?_; refine LL.val (R.ltT rfl rfl rfl (by omega)) rfl rfl rfl ?_; refine LL.nilS ?_; refine CC.seq ?_; refine CC.yes rfl ?_; refine CC.skip ?_; refine EE.thenN ?_; refine CC.seq ?_; refine CC.block ?_; refine CC.seq ?_; refine CC.region ?_; refine LL.val (R.move rfl rfl) rfl rfl rfl ?_; refine LL.val (R.assign rfl rfl) rfl rfl rfl ?_; refine LL.nilS ?_; refine CC.seq ?_)
        refine CC.quiet (by kernel_rfl) (by kernel_rfl) ?_
        (refine SS.val (R.move rfl rfl) rfl rfl ?_; refine SS.val (R.move rfl rfl) rfl rfl ?_; refine SS.val (R.index rfl rfl rfl (I.ixS1 rfl (by omega))) rfl rfl ?_; refine SS.val (R.load rfl rfl (I.ld1 rfl (by assumption))) rfl rfl ?_; refine SS.val (R.move rfl rfl) rfl rfl ?_; refine SS.val (R.move rfl rfl) rfl rfl ?_; refine SS.val (R.index rfl rfl rfl (I.ixS1 rfl (by omega))) rfl rfl ?_; refine SS.val (R.load rfl rfl (I.ld1 rfl (by assumption))) rfl rfl ?_)
        refine SS.val (R.neS (c := false) rfl rfl rfl (by simp [hst])) rfl rfl ?_
        (refine SS.nilQ ?_)
        (refine EE.thenN ?_; refine CC.no rfl ?_; refine CC.skip ?_; refine EE.inN ?_; refine EE.thenN ?_; refine CC.region ?_; refine LL.val (R.addNc rfl rfl rfl rfl (by omega)) rfl rfl rfl ?_; refine LL.val (R.move rfl rfl) rfl rfl rfl ?_; refine LL.nil ?_)
        exact EE.round (i + 1) ⟨rfl, rfl, rfl, rfl, trivial⟩ ⟨hbw.drew, by omega, by rw [List.take_add_one, List.take_add_one, ht, hs, ht2, hst]⟩ (by omega)
      · (refine CC.seq ?_; refine CC.region ?_; refine LL.val (R.ltT rfl rfl rfl (by omega)) rfl rfl rfl ?_; refine LL.nilS ?_; refine CC.seq ?_; refine CC.yes rfl ?_; refine CC.skip ?_; refine EE.thenN ?_; refine CC.seq ?_; refine CC.block ?_; refine CC.seq ?_; refine CC.region ?_; refine LL.val (R.move rfl rfl) rfl rfl rfl ?_; refine LL.val (R.assign rfl rfl) rfl rfl rfl ?_; refine LL.nilS ?_; refine CC.seq ?_)
        refine CC.quiet (by kernel_rfl) (by kernel_rfl) ?_
        (refine SS.val (R.move rfl rfl) rfl rfl ?_; refine SS.val (R.move rfl rfl) rfl rfl ?_; refine SS.val (R.index rfl rfl rfl (I.ixS1 rfl (by omega))) rfl rfl ?_; refine SS.val (R.load rfl rfl (I.ld1 rfl (by assumption))) rfl rfl ?_; refine SS.val (R.move rfl rfl) rfl rfl ?_; refine SS.val (R.move rfl rfl) rfl rfl ?_; refine SS.val (R.index rfl rfl rfl (I.ixS1 rfl (by omega))) rfl rfl ?_; refine SS.val (R.load rfl rfl (I.ld1 rfl (by assumption))) rfl rfl ?_)
        refine SS.val (R.neS (c := true) rfl rfl rfl (by simp [hst])) rfl rfl ?_
        (refine SS.nilQ ?_)
        (refine EE.thenN ?_; refine CC.yes rfl ?_; refine CC.seq ?_; refine CC.region ?_; refine LL.val (R.assign rfl rfl) rfl rfl rfl ?_; refine LL.nilS ?_; refine CC.ret ?_; refine EE.inR ?_; refine EE.thenR ?_; refine EE.thenR ?_; refine EE.inR ?_; refine EE.thenR ?_)
        refine EE.ret _ rfl rfl ?_
        refine ⟨?_, hbw.drew⟩
        rw [decide_eq_false (fun e => hst (by rw [e, ht2] at hs; cases hs; rfl))]
        rfl
    · have hxy : xs = ys := by
        rw [List.take_of_length_le (by omega), List.take_of_length_le (by omega)] at ht
        exact ht
      (refine CC.seq ?_; refine CC.region ?_; refine LL.val (R.ltF rfl rfl rfl (by omega)) rfl rfl rfl ?_; refine LL.nilS ?_; refine CC.seq ?_; refine CC.no rfl ?_; refine CC.exit ?_; refine EE.thenX ?_; refine EE.thenX ?_; refine EE.inX ?_; refine EE.thenN ?_; refine CC.seq ?_; refine CC.region ?_; refine LL.val (R.assign rfl rfl) rfl rfl rfl ?_; refine LL.nilS ?_; refine CC.ret ?_)
      refine EE.ret _ rfl rfl ?_
      exact ⟨by rw [decide_eq_true hxy]; rfl, hbw⟩
  · (refine CC.seq ?_; refine CC.region ?_; refine LL.val (R.assign rfl rfl) rfl rfl rfl ?_; refine LL.nilS ?_; refine CC.seq ?_; refine CC.seq ?_; refine CC.region ?_; refine LL.val (R.move rfl rfl) rfl rfl rfl ?_; refine LL.val (R.len rfl rfl rfl rfl) rfl rfl rfl ?_; refine LL.val (R.move rfl rfl) rfl rfl rfl ?_; refine LL.val (R.len rfl rfl rfl rfl) rfl rfl rfl ?_; refine LL.val (R.neT rfl rfl rfl (by omega)) rfl rfl rfl ?_; refine LL.nilS ?_; refine CC.yes rfl ?_; refine CC.seq ?_; refine CC.region ?_; refine LL.val (R.assign rfl rfl) rfl rfl rfl ?_; refine LL.nilS ?_; refine CC.ret ?_; refine EE.thenR ?_)
    refine EE.ret _ rfl rfl ?_
    exact ⟨by rw [decide_eq_false (fun e => hne (by rw [← hN, ← hN2, e]))]; rfl, Below.refl _ _⟩

theorem flatG_parts : ∀ l : Bs, (flatG (partsL l)).length ≤ l.length + 1 := by
  have key : ∀ l : Bs, (flatG (pcs l)).length = l.length + 1 := by
    intro l
    induction l with
    | nil => rfl
    | cons b l ih =>
      unfold pcs
      split
      · show ((47 :: []) ++ flatG (pcs l)).length = _
        rw [List.length_append, ih]
        simp
        omega
      · split
        · rename_i h t e
          rw [e] at ih
          show ((47 :: (b :: h)) ++ flatG t).length = _
          have e2 : flatG (h :: t) = (47 :: h) ++ flatG t := rfl
          rw [e2, List.length_append, List.length_cons] at ih
          rw [List.length_append, List.length_cons, List.length_cons, List.length_cons]
          omega
        · rename_i e
          exact absurd e (pcs_ne l)
  intro l
  rw [← key l]
  unfold partsL
  generalize pcs l = ps
  induction ps with
  | nil => exact Nat.le_refl _
  | cons x ps ih =>
    have e2 : flatG (x :: ps) = (47 :: x) ++ flatG ps := rfl
    rw [e2, List.length_append, List.filter_cons]
    split
    · have e3 : flatG (x :: ps.filter fun p => !p.isEmpty) = (47 :: x) ++ flatG (ps.filter fun p => !p.isEmpty) := rfl
      rw [e3, List.length_append]
      omega
    · omega
theorem okParts (l : Bs) : (flatG (if pathN l = 0 then partsL l else [])).length ≤ 1001 := by
  split
  · rename_i h
    have := pathN_long h
    have := flatG_parts l
    omega
  · simp [flatG]
/-- Split: the path in short of all parts but the last, and that one. -/
def splitN (l : Bs) : Bs × Bs × Nat := if pathN l = 0 then (match (partsL l).getLast? with | none => ([], [], 140) | some p => if dotsB p then ([], [], 140) else (glueL (partsL l).dropLast, p, 0)) else ([], [], pathN l)
theorem short_any (l : Bs) (w : World) (hm : Mx w) (hl : l.length ≤ 9223372036854775807) :
    Calls Tryd.prog 20 #[strV l] w fun e w' => e = .returned (.tuple #[strV (if pathN l = 0 then glueL (partsL l) else []), .int .i64 (pathN l : Int)]) ∧ Below w.heap.size w w' := by
  have q := Below.refl w.heap.size w
  have hok := okParts l
  refine X.fn Tryd.func20 rfl (n := 16) rfl rfl ?_
  (refine CC.seq ?_; refine CC.region ?_; refine LL.val (R.assign rfl rfl) rfl rfl rfl ?_; refine LL.val (R.assign rfl rfl) rfl rfl rfl ?_; refine LL.nilS ?_; refine CC.seq ?_; refine CC.region ?_; refine LL.val (R.move rfl rfl) rfl rfl rfl ?_)
  refine LL.call (R.call rfl rfl rfl) rfl rfl rfl (parts_any l _ hm hl) ?_
  rintro e W ⟨v, rfl, o, b⟩
  refine ⟨_, rfl, ?_⟩
  have hsz_ := b.size
  replace q := q.trans (b.mono q.size)
  by_cases h0 : pathN l = 0
  · rw [if_pos h0] at o hok ⊢
    rw [h0]
    (refine LL.val (R.move rfl rfl) rfl rfl rfl ?_; refine LL.val (R.extract rfl rfl rfl) rfl rfl rfl ?_; refine LL.val (R.extract rfl rfl rfl) rfl rfl rfl ?_; refine LL.val (R.assign rfl rfl) rfl rfl rfl ?_; refine LL.val (R.assign rfl rfl) rfl rfl rfl ?_; refine LL.nilS ?_; refine CC.seq ?_; refine CC.seq ?_; refine CC.region ?_; refine LL.val (R.move rfl rfl) rfl rfl rfl ?_; refine LL.val (R.neF rfl rfl rfl (by omega)) rfl rfl rfl ?_; refine LL.nilS ?_; refine CC.no rfl ?_; refine CC.skip ?_; refine EE.thenN ?_; refine CC.seq ?_; refine CC.region ?_; refine LL.val (R.move rfl rfl) rfl rfl rfl ?_)
    refine LL.call (R.call rfl rfl rfl) rfl rfl rfl (glue_any v (partsL l) _ (o.reads stEnc) (by omega)) ?_
    rintro e W ⟨rfl, b⟩
    refine ⟨_, rfl, ?_⟩
    have hsz_ := b.size
    replace q := q.trans (b.mono q.size)
    (refine LL.val (R.assign rfl rfl) rfl rfl rfl ?_; refine LL.val (R.assign rfl rfl) rfl rfl rfl ?_; refine LL.nilS ?_; refine CC.ret ?_)
    refine EE.ret _ rfl rfl ?_
    exact ⟨rfl, q⟩
  · rw [if_neg h0]
    obtain ⟨n, hn⟩ : ∃ n, pathN l = n := ⟨_, rfl⟩
    rw [hn] at h0 ⊢
    (refine LL.val (R.move rfl rfl) rfl rfl rfl ?_; refine LL.val (R.extract rfl rfl rfl) rfl rfl rfl ?_; refine LL.val (R.extract rfl rfl rfl) rfl rfl rfl ?_; refine LL.val (R.assign rfl rfl) rfl rfl rfl ?_; refine LL.val (R.assign rfl rfl) rfl rfl rfl ?_; refine LL.nilS ?_; refine CC.seq ?_; refine CC.seq ?_; refine CC.region ?_; refine LL.val (R.move rfl rfl) rfl rfl rfl ?_; refine LL.val (R.neT rfl rfl rfl (by omega)) rfl rfl rfl ?_; refine LL.nilS ?_; refine CC.yes rfl ?_; refine CC.seq ?_; refine CC.region ?_; refine LL.val (R.move rfl rfl) rfl rfl rfl ?_; refine LL.val (R.assign rfl rfl) rfl rfl rfl ?_; refine LL.val (R.assign rfl rfl) rfl rfl rfl ?_; refine LL.nilS ?_; refine CC.ret ?_; refine EE.thenR ?_)
    refine EE.ret _ rfl rfl ?_
    exact ⟨rfl, q⟩
theorem ElS1 : El Tryd.prog 28 9 (strV []) 16 := ⟨Tryd.underlying28, info_parts Tryd.infoS, rfl⟩
theorem last_get {α : Type} {l : List α} {x : α} (h : l.getLast? = some x) : 0 < l.length ∧ l[l.length - 1]? = some x ∧ l.dropLast = l.take (l.length - 1) := by
  have hne : l ≠ [] := fun e => by rw [e] at h; cases h
  refine ⟨List.length_pos_iff.2 hne, ?_, List.dropLast_eq_take⟩
  rw [← List.getLast?_eq_getElem?, h]
set_option maxRecDepth 100000 in
set_option maxHeartbeats 1000000 in
theorem psplit_any (l : Bs) (w : World) (hm : Mx w) (hl : l.length ≤ 9223372036854775807) :
    Calls Tryd.prog 21 #[strV l] w fun e w' => e = .returned (.tuple #[strV (splitN l).1, strV (splitN l).2.1, .int .i64 ((splitN l).2.2 : Int)]) ∧ Below w.heap.size w w' := by
  have q := Below.refl w.heap.size w
  have hok := okParts l
  refine X.fn Tryd.func21 rfl (n := 35) rfl rfl ?_
  (refine CC.seq ?_; refine CC.region ?_; refine LL.val (R.assign rfl rfl) rfl rfl rfl ?_; refine LL.val (R.assign rfl rfl) rfl rfl rfl ?_; refine LL.val (R.assign rfl rfl) rfl rfl rfl ?_; refine LL.nilS ?_; refine CC.seq ?_; refine CC.region ?_; refine LL.val (R.move rfl rfl) rfl rfl rfl ?_)
  refine LL.call (R.call rfl rfl rfl) rfl rfl rfl (parts_any l _ hm hl) ?_
  rintro e W ⟨v, rfl, o, b⟩
  refine ⟨_, rfl, ?_⟩
  have hsz_ := b.size
  replace q := q.trans (b.mono q.size)
  by_cases h0 : pathN l = 0
  · rw [if_pos h0] at o hok
    rw [h0]
    have hrd := o.reads stEnc
    have hcnt := flatG_count (partsL l)
    cases hg : (partsL l).getLast? with
    | none =>
      have hp : partsL l = [] := List.getLast?_eq_none_iff.1 hg
      have e0 : splitN l = ([], [], 140) := by unfold splitN; rw [if_pos h0, hg]
      rw [e0]
      rw [hp] at hrd
      obtain ⟨a, cap, rfl, hc⟩ := hrd.form (n := 0) rfl
      (refine LL.val (R.move rfl rfl) rfl rfl rfl ?_; refine LL.val (R.extract rfl rfl rfl) rfl rfl rfl ?_; refine LL.val (R.extract rfl rfl rfl) rfl rfl rfl ?_; refine LL.val (R.assign rfl rfl) rfl rfl rfl ?_; refine LL.val (R.assign rfl rfl) rfl rfl rfl ?_; refine LL.nilS ?_; refine CC.seq ?_; refine CC.seq ?_; refine CC.region ?_; refine LL.val (R.move rfl rfl) rfl rfl rfl ?_; refine LL.val (R.neF rfl rfl rfl (by omega)) rfl rfl rfl ?_; refine LL.nilS ?_; refine CC.no rfl ?_; refine CC.skip ?_; refine EE.thenN ?_; refine CC.seq ?_; refine CC.region ?_; refine LL.val (R.move rfl rfl) rfl rfl rfl ?_; refine LL.val (R.len rfl rfl rfl rfl) rfl rfl rfl ?_; refine LL.val (R.subI rfl rfl rfl (by omega)) rfl rfl rfl ?_; refine LL.val (R.assign rfl rfl) rfl rfl rfl ?_; refine LL.nilS ?_; refine CC.seq ?_; refine CC.seq ?_; refine CC.region ?_; refine LL.val (R.move rfl rfl) rfl rfl rfl ?_; refine LL.val (R.ltT rfl rfl rfl (by omega)) rfl rfl rfl ?_; refine LL.val (R.move rfl rfl) rfl rfl rfl ?_; refine LL.skip rfl rfl ?_; refine LL.skip rfl rfl ?_; refine LL.skip rfl rfl ?_; refine LL.skip rfl rfl ?_; refine LL.skip rfl rfl ?_; refine LL.val (R.pick rfl rfl rfl) rfl rfl rfl ?_; refine LL.nilS ?_; refine CC.yes rfl ?_; refine CC.seq ?_; refine CC.region ?_; refine LL.val (R.assign rfl rfl) rfl rfl rfl ?_; refine LL.val (R.assign rfl rfl) rfl rfl rfl ?_; refine LL.val (R.assign rfl rfl) rfl rfl rfl ?_; refine LL.nilS ?_; refine CC.ret ?_; refine EE.thenR ?_)
      refine EE.ret _ rfl rfl ?_
      exact ⟨rfl, q⟩
    | some p =>
      obtain ⟨hpos, hget, hdl⟩ := last_get hg
      obtain ⟨N, hN⟩ : ∃ N, (partsL l).length = N := ⟨_, rfl⟩
      rw [hN] at hpos hget hdl hcnt
      obtain ⟨a, cap, rfl, hc⟩ := hrd.form hN
      obtain ⟨bl, off, rfl, hbl, hcs⟩ := ReadsT.one stEnc hrd hget
      have hc1 := hcs _ rfl
      (refine LL.val (R.move rfl rfl) rfl rfl rfl ?_; refine LL.val (R.extract rfl rfl rfl) rfl rfl rfl ?_; refine LL.val (R.extract rfl rfl rfl) rfl rfl rfl ?_; refine LL.val (R.assign rfl rfl) rfl rfl rfl ?_; refine LL.val (R.assign rfl rfl) rfl rfl rfl ?_; refine LL.nilS ?_; refine CC.seq ?_; refine CC.seq ?_; refine CC.region ?_; refine LL.val (R.move rfl rfl) rfl rfl rfl ?_; refine LL.val (R.neF rfl rfl rfl (by omega)) rfl rfl rfl ?_; refine LL.nilS ?_; refine CC.no rfl ?_; refine CC.skip ?_; refine EE.thenN ?_; refine CC.seq ?_; refine CC.region ?_; refine LL.val (R.move rfl rfl) rfl rfl rfl ?_; refine LL.val (R.len rfl rfl rfl rfl) rfl rfl rfl ?_; refine LL.val (R.subNc rfl rfl rfl rfl (by omega) (by omega)) rfl rfl rfl ?_; refine LL.val (R.assign rfl rfl) rfl rfl rfl ?_; refine LL.nilS ?_; refine CC.seq ?_; refine CC.seq ?_; refine CC.region ?_; refine LL.val (R.move rfl rfl) rfl rfl rfl ?_; refine LL.val (R.ltF rfl rfl rfl (by omega)) rfl rfl rfl ?_; refine LL.val (R.move rfl rfl) rfl rfl rfl ?_; refine LL.val (R.move rfl rfl) rfl rfl rfl ?_; refine LL.val (R.move rfl rfl) rfl rfl rfl ?_; refine LL.val (R.index rfl rfl rfl (I.ixS1 rfl (by omega))) rfl rfl rfl ?_; refine LL.val (R.load rfl rfl (I.ld1 rfl (by assumption))) rfl rfl rfl ?_)
      skip
      refine LL.call (R.call rfl rfl rfl) rfl rfl rfl (dots_any p _) ?_
      rintro e W ⟨rfl, rfl⟩
      refine ⟨_, rfl, ?_⟩
      cases hd : dotsB p with
      | true =>
        have e0 : splitN l = ([], [], 140) := by unfold splitN; rw [if_pos h0, hg]; simp only; rw [hd]; rfl
        rw [e0]
        (refine LL.val (R.pick rfl rfl rfl) rfl rfl rfl ?_; refine LL.nilS ?_; refine CC.yes rfl ?_; refine CC.seq ?_; refine CC.region ?_; refine LL.val (R.assign rfl rfl) rfl rfl rfl ?_; refine LL.val (R.assign rfl rfl) rfl rfl rfl ?_; refine LL.val (R.assign rfl rfl) rfl rfl rfl ?_; refine LL.nilS ?_; refine CC.ret ?_; refine EE.thenR ?_)
        refine EE.ret _ rfl rfl ?_
        exact ⟨rfl, q⟩
      | false =>
        have e0 : splitN l = (glueL (partsL l).dropLast, p, 0) := by unfold splitN; rw [if_pos h0, hg]; simp only; rw [hd]; rfl
        rw [e0]
        have hts : ReadsT stE 1 W (.slice (some ⟨bl, off, none⟩) (N - 1) cap) (partsL l).dropLast := by
          rw [hdl]
          exact hrd.take stEnc (N - 1) (by omega) cap (by omega)
        have hfl : (flatG (partsL l).dropLast).length ≤ 100000 := by
          rw [hdl]
          have := flatG_take (partsL l) (N - 1)
          omega
        (refine LL.val (R.pick rfl rfl rfl) rfl rfl rfl ?_; refine LL.nilS ?_; refine CC.no rfl ?_; refine CC.skip ?_; refine EE.thenN ?_; refine CC.seq ?_)
        have c1 : ∀ w', Below W.heap.size W w' → w'.cell? ⟨bl, off + (N - 1), none⟩ = some (strV p) := fun w' hw' => (hw'.cell (p := ⟨bl, off + (N - 1), none⟩) hbl).trans hc1
        refine CC.free (Below W.heap.size W) (by kernel_rfl) rfl ?_
        have ok0 : Below W.heap.size W W.drew := below_drew
        (refine AA.pure 0 rfl (by assumption) (by kernel_rfl) (fun w' hw' => R.move rfl rfl) rfl rfl ?_)
        (refine AA.pure 1 rfl (by assumption) (by kernel_rfl) (fun w' hw' => R.move rfl rfl) rfl rfl ?_)
        refine AA.pure 2 rfl (by assumption) (by kernel_rfl) (fun w' hw' => R.slice rfl rfl rfl rfl rfl (slAt_sl rfl (run_upto ElS1 (some ⟨bl, off, none⟩) N cap (N - 1) (by omega) w'))) rfl rfl ?_
        (refine AA.pure 4 rfl (by assumption) (by kernel_rfl) (fun w' hw' => R.move rfl rfl) rfl rfl ?_)
        (refine AA.pure 5 rfl (by assumption) (by kernel_rfl) (fun w' hw' => R.move rfl rfl) rfl rfl ?_)
        (refine AA.pure 6 rfl (by assumption) (by kernel_rfl) (fun w' hw' => R.index rfl rfl rfl (I.ixS1 rfl (by omega))) rfl rfl ?_)
        refine AA.pure 7 rfl (by assumption) (by kernel_rfl) (fun w' hw' => R.load rfl rfl (I.ld1 rfl (c1 w' hw'))) rfl rfl ?_
        refine AA.one 3 (by kernel_rfl) ?_
        refine SR.call rfl (R.call rfl rfl rfl) rfl rfl (glue_any _ (partsL l).dropLast W.drew (hts.up ok0) hfl) ?_
        rintro e w3 ⟨rfl, b3⟩
        have q3 : Below W.heap.size W w3 := ok0.trans (b3.mono (Nat.le_refl _))
        refine ⟨_, rfl, q3, ?_⟩
        (refine AA.pure 8 rfl (by assumption) (by kernel_rfl) (fun w' hw' => R.assign rfl rfl) rfl rfl ?_)
        (refine AA.pure 9 rfl (by assumption) (by kernel_rfl) (fun w' hw' => R.assign rfl rfl) rfl rfl ?_)
        (refine AA.pure 10 rfl (by assumption) (by kernel_rfl) (fun w' hw' => R.assign rfl rfl) rfl rfl ?_)
        refine AA.done (by kernel_rfl) ?_
        (refine EE.thenN ?_; refine CC.ret ?_)
        refine EE.ret _ rfl rfl ?_
        exact ⟨rfl, q.trans (q3.mono q.size)⟩
  · have e0 : splitN l = ([], [], pathN l) := by unfold splitN; rw [if_neg h0]
    rw [e0]
    obtain ⟨n, hn⟩ : ∃ n, pathN l = n := ⟨_, rfl⟩
    rw [hn] at h0 ⊢
    (refine LL.val (R.move rfl rfl) rfl rfl rfl ?_; refine LL.val (R.extract rfl rfl rfl) rfl rfl rfl ?_; refine LL.val (R.extract rfl rfl rfl) rfl rfl rfl ?_; refine LL.val (R.assign rfl rfl) rfl rfl rfl ?_; refine LL.val (R.assign rfl rfl) rfl rfl rfl ?_; refine LL.nilS ?_; refine CC.seq ?_; refine CC.seq ?_; refine CC.region ?_; refine LL.val (R.move rfl rfl) rfl rfl rfl ?_; refine LL.val (R.neT rfl rfl rfl (by omega)) rfl rfl rfl ?_; refine LL.nilS ?_; refine CC.yes rfl ?_; refine CC.seq ?_; refine CC.region ?_; refine LL.val (R.move rfl rfl) rfl rfl rfl ?_; refine LL.val (R.assign rfl rfl) rfl rfl rfl ?_; refine LL.val (R.assign rfl rfl) rfl rfl rfl ?_; refine LL.val (R.assign rfl rfl) rfl rfl rfl ?_; refine LL.nilS ?_; refine CC.ret ?_; refine EE.thenR ?_)
    refine EE.ret _ rfl rfl ?_
    exact ⟨rfl, q⟩
theorem take_pre {α : Type} (a b : List α) : (b.length ≤ a.length ∧ a.take b.length = b) ↔ b <+: a := by
  constructor
  · rintro ⟨_, h⟩
    rw [← h]
    exact List.take_prefix _ _
  · intro h
    exact ⟨h.length_le, (List.prefix_iff_eq_take.1 h).symm⟩
/-- Under: whether a path's parts begin with those of another one. -/
def underN (l d : Bs) : Bool × Nat := if pathN l = 0 then (if pathN d = 0 then (decide (partsL d <+: partsL l), 0) else (false, pathN d)) else (false, pathN l)
set_option maxRecDepth 100000 in
set_option maxHeartbeats 1000000 in
theorem under_any (l d : Bs) (w : World) (hm : Mx w) (hl : l.length ≤ 9223372036854775807) (hd : d.length ≤ 9223372036854775807) :
    Calls Tryd.prog 24 #[strV l, strV d] w fun e w' => e = .returned (.tuple #[.bool (underN l d).1, .int .i64 ((underN l d).2 : Int)]) ∧ Below w.heap.size w w' := by
  have q := Below.refl w.heap.size w
  have hok := okParts l
  have hok2 := okParts d
  refine X.fn Tryd.func24 rfl (n := 38) rfl rfl ?_
  (refine CC.seq ?_; refine CC.region ?_; refine LL.val (R.assign rfl rfl) rfl rfl rfl ?_; refine LL.val (R.assign rfl rfl) rfl rfl rfl ?_; refine LL.nilS ?_; refine CC.seq ?_; refine CC.region ?_; refine LL.val (R.move rfl rfl) rfl rfl rfl ?_)
  refine LL.call (R.call rfl rfl rfl) rfl rfl rfl (parts_any l _ hm hl) ?_
  rintro e W ⟨v, rfl, o, b⟩
  refine ⟨_, rfl, ?_⟩
  have hsz_ := b.size
  replace q := q.trans (b.mono q.size)
  replace hm := hm.up b
  by_cases h0 : pathN l = 0
  case neg =>
    have e0 : underN l d = (false, pathN l) := by unfold underN; rw [if_neg h0]
    rw [e0]
    obtain ⟨n, hn⟩ : ∃ n, pathN l = n := ⟨_, rfl⟩
    rw [hn] at h0 ⊢
    (refine LL.val (R.move rfl rfl) rfl rfl rfl ?_; refine LL.val (R.extract rfl rfl rfl) rfl rfl rfl ?_; refine LL.val (R.extract rfl rfl rfl) rfl rfl rfl ?_; refine LL.val (R.assign rfl rfl) rfl rfl rfl ?_; refine LL.val (R.assign rfl rfl) rfl rfl rfl ?_; refine LL.nilS ?_; refine CC.seq ?_; refine CC.seq ?_; refine CC.region ?_; refine LL.val (R.move rfl rfl) rfl rfl rfl ?_; refine LL.val (R.neT rfl rfl rfl (by omega)) rfl rfl rfl ?_; refine LL.nilS ?_; refine CC.yes rfl ?_; refine CC.seq ?_; refine CC.region ?_; refine LL.val (R.move rfl rfl) rfl rfl rfl ?_; refine LL.val (R.assign rfl rfl) rfl rfl rfl ?_; refine LL.val (R.assign rfl rfl) rfl rfl rfl ?_; refine LL.nilS ?_; refine CC.ret ?_; refine EE.thenR ?_)
    refine EE.ret _ rfl rfl ?_
    exact ⟨rfl, q⟩
  rw [if_pos h0] at o hok
  rw [h0]
  have hr := o.reads stEnc
  (refine LL.val (R.move rfl rfl) rfl rfl rfl ?_; refine LL.val (R.extract rfl rfl rfl) rfl rfl rfl ?_; refine LL.val (R.extract rfl rfl rfl) rfl rfl rfl ?_; refine LL.val (R.assign rfl rfl) rfl rfl rfl ?_; refine LL.val (R.assign rfl rfl) rfl rfl rfl ?_; refine LL.nilS ?_; refine CC.seq ?_; refine CC.seq ?_; refine CC.region ?_; refine LL.val (R.move rfl rfl) rfl rfl rfl ?_; refine LL.val (R.neF rfl rfl rfl (by omega)) rfl rfl rfl ?_; refine LL.nilS ?_; refine CC.no rfl ?_; refine CC.skip ?_; refine EE.thenN ?_; refine CC.seq ?_; refine CC.region ?_; refine LL.val (R.move rfl rfl) rfl rfl rfl ?_)
  refine LL.call (R.call rfl rfl rfl) rfl rfl rfl (parts_any d _ hm hd) ?_
  rintro e W ⟨v2, rfl, o2, b⟩
  refine ⟨_, rfl, ?_⟩
  have hsz_ := b.size
  replace q := q.trans (b.mono q.size)
  replace hr := hr.up b
  by_cases h1 : pathN d = 0
  case neg =>
    have e0 : underN l d = (false, pathN d) := by unfold underN; rw [if_pos h0, if_neg h1]
    rw [e0]
    obtain ⟨n, hn⟩ : ∃ n, pathN d = n := ⟨_, rfl⟩
    rw [hn] at h1 ⊢
    (refine LL.val (R.move rfl rfl) rfl rfl rfl ?_; refine LL.val (R.extract rfl rfl rfl) rfl rfl rfl ?_; refine LL.val (R.extract rfl rfl rfl) rfl rfl rfl ?_; refine LL.val (R.assign rfl rfl) rfl rfl rfl ?_; refine LL.val (R.assign rfl rfl) rfl rfl rfl ?_; refine LL.nilS ?_; refine CC.seq ?_; refine CC.seq ?_; refine CC.region ?_; refine LL.val (R.move rfl rfl) rfl rfl rfl ?_; refine LL.val (R.neT rfl rfl rfl (by omega)) rfl rfl rfl ?_; refine LL.nilS ?_; refine CC.yes rfl ?_; refine CC.seq ?_; refine CC.region ?_; refine LL.val (R.move rfl rfl) rfl rfl rfl ?_; refine LL.val (R.assign rfl rfl) rfl rfl rfl ?_; refine LL.val (R.assign rfl rfl) rfl rfl rfl ?_; refine LL.nilS ?_; refine CC.ret ?_; refine EE.thenR ?_)
    refine EE.ret _ rfl rfl ?_
    exact ⟨rfl, q⟩
  rw [if_pos h1] at o2 hok2
  have e0 : underN l d = (decide (partsL d <+: partsL l), 0) := by unfold underN; rw [if_pos h0, if_pos h1]
  rw [e0, h1]
  have hr2 := o2.reads stEnc
  have hc1 := flatG_count (partsL l)
  have hc2 := flatG_count (partsL d)
  have htp := take_pre (partsL l) (partsL d)
  obtain ⟨N, hN⟩ : ∃ N, (partsL l).length = N := ⟨_, rfl⟩
  obtain ⟨K, hK⟩ : ∃ K, (partsL d).length = K := ⟨_, rfl⟩
  rw [hN, hK] at htp
  rw [hN] at hc1
  rw [hK] at hc2
  obtain ⟨a, cap, rfl, hc⟩ := hr.form hN
  obtain ⟨a2, cap2, rfl, hc'⟩ := hr2.form hK
  by_cases hle : K ≤ N
  · have ht := hr.take stEnc K hle cap (by omega)
    (refine LL.val (R.move rfl rfl) rfl rfl rfl ?_; refine LL.val (R.extract rfl rfl rfl) rfl rfl rfl ?_; refine LL.val (R.extract rfl rfl rfl) rfl rfl rfl ?_; refine LL.val (R.assign rfl rfl) rfl rfl rfl ?_; refine LL.val (R.assign rfl rfl) rfl rfl rfl ?_; refine LL.nilS ?_; refine CC.seq ?_; refine CC.seq ?_; refine CC.region ?_; refine LL.val (R.move rfl rfl) rfl rfl rfl ?_; refine LL.val (R.neF rfl rfl rfl (by omega)) rfl rfl rfl ?_; refine LL.nilS ?_; refine CC.no rfl ?_; refine CC.skip ?_; refine EE.thenN ?_; refine CC.seq ?_; refine CC.region ?_; refine LL.val (R.move rfl rfl) rfl rfl rfl ?_; refine LL.val (R.len rfl rfl rfl rfl) rfl rfl rfl ?_; refine LL.val (R.move rfl rfl) rfl rfl rfl ?_; refine LL.val (R.len rfl rfl rfl rfl) rfl rfl rfl ?_; refine LL.val (R.leT rfl rfl rfl (by omega)) rfl rfl rfl ?_; refine LL.val (R.move rfl rfl) rfl rfl rfl ?_; refine LL.val (R.move rfl rfl) rfl rfl rfl ?_; refine LL.val (R.move rfl rfl) rfl rfl rfl ?_; refine LL.val (R.len rfl rfl rfl rfl) rfl rfl rfl ?_)
    refine LL.val (R.slice rfl rfl rfl rfl rfl (slAt_sl rfl (run_upto ElS1 a N cap K (by omega) _))) rfl rfl rfl ?_
    (refine LL.val (R.move rfl rfl) rfl rfl rfl ?_)
    refine LL.call (R.call rfl rfl rfl) rfl rfl rfl (sequal_any _ _ _ _ _ ht hr2 (by simp; omega) (by omega)) ?_
    rintro e W ⟨rfl, b⟩
    refine ⟨_, rfl, ?_⟩
    have hsz_ := b.size
    replace q := q.trans (b.mono q.size)
    (refine LL.val (R.pick rfl rfl rfl) rfl rfl rfl ?_; refine LL.val (R.assign rfl rfl) rfl rfl rfl ?_; refine LL.val (R.assign rfl rfl) rfl rfl rfl ?_; refine LL.nilS ?_; refine CC.ret ?_)
    refine EE.ret _ rfl rfl ?_
    refine ⟨?_, q⟩
    rw [show decide ((partsL l).take K = partsL d) = decide (partsL d <+: partsL l) by
      rw [decide_eq_decide]
      exact ⟨fun h => htp.1 ⟨hle, h⟩, fun h => (htp.2 h).2⟩]
    rfl
  · (refine LL.val (R.move rfl rfl) rfl rfl rfl ?_; refine LL.val (R.extract rfl rfl rfl) rfl rfl rfl ?_; refine LL.val (R.extract rfl rfl rfl) rfl rfl rfl ?_; refine LL.val (R.assign rfl rfl) rfl rfl rfl ?_; refine LL.val (R.assign rfl rfl) rfl rfl rfl ?_; refine LL.nilS ?_; refine CC.seq ?_; refine CC.seq ?_; refine CC.region ?_; refine LL.val (R.move rfl rfl) rfl rfl rfl ?_; refine LL.val (R.neF rfl rfl rfl (by omega)) rfl rfl rfl ?_; refine LL.nilS ?_; refine CC.no rfl ?_; refine CC.skip ?_; refine EE.thenN ?_; refine CC.seq ?_; refine CC.region ?_; refine LL.val (R.move rfl rfl) rfl rfl rfl ?_; refine LL.val (R.len rfl rfl rfl rfl) rfl rfl rfl ?_; refine LL.val (R.move rfl rfl) rfl rfl rfl ?_; refine LL.val (R.len rfl rfl rfl rfl) rfl rfl rfl ?_; refine LL.val (R.leF rfl rfl rfl (by omega)) rfl rfl rfl ?_; refine LL.val (R.move rfl rfl) rfl rfl rfl ?_; refine LL.skip rfl rfl ?_; refine LL.skip rfl rfl ?_; refine LL.skip rfl rfl ?_; refine LL.skip rfl rfl ?_; refine LL.skip rfl rfl ?_; refine LL.skip rfl rfl ?_; refine LL.val (R.pick rfl rfl rfl) rfl rfl rfl ?_; refine LL.val (R.assign rfl rfl) rfl rfl rfl ?_; refine LL.val (R.assign rfl rfl) rfl rfl rfl ?_; refine LL.nilS ?_; refine CC.ret ?_)
    refine EE.ret _ rfl rfl ?_
    refine ⟨?_, q⟩
    rw [decide_eq_false (fun h => hle (htp.2 h).1)]
    rfl
end Go.Proofs.YtnfggikomoialaaDoor
