/- The walk of BitmapHolds. -/
import Derived.Test.YtojoaplbgcdapaaLeavesW
import Derived.Test.YtojoaplbgcdapaaPhase
namespace Go.Proofs.Ytojoaplbgcdapaa
set_option linter.unusedVariables false
set_option linter.unusedSimpArgs false
open Go.RowKit Go.Shelf

theorem find_cases (ws : List Nat) (bits : Nat) (many fr : Int) (h1 : 1 ≤ many) (h2 : 0 ≤ fr) (h3 : fr < bits) :
    (findP (fun i => wb ws i == false) bits many fr = (0, 5) ∧ ∀ k m : Nat, k + m ≤ bits → (∀ i, i < m → wb ws (k + i) = false) → (m : Int) < many) ∨
    ∃ k : Nat, findP (fun i => wb ws i == false) bits many fr = (k, 0) ∧ (k : Int) + many ≤ bits ∧ ∀ i : Nat, (i : Int) < many → wb ws (k + i) = false := by
  have e0 : findP (fun i => wb ws i == false) bits many fr = match firstP (fun i => wb ws i == false) fr.toNat (bits - fr.toNat) many.toNat with | some r => (r.1, 0) | none => match firstP (fun i => wb ws i == false) 0 bits many.toNat with | some r => (r.1, 0) | none => (0, 5) := by
    unfold findP; rw [if_neg (by omega), if_neg (by omega)]; rfl
  have found : ∀ a n r, a + n ≤ bits → firstP (fun i => wb ws i == false) a n many.toNat = some r → ((r.1 : Nat) : Int) + many ≤ bits ∧ ∀ i : Nat, (i : Int) < many → wb ws (r.1 + i) = false := by
    intro a n r han hr
    have hb := firstP_le hr
    refine ⟨by omega, fun i hi => ?_⟩
    have := runsP_all n r (List.mem_of_find?_eq_some hr) i (by omega)
    simpa using this
  rw [e0]
  cases hf : firstP (fun i => wb ws i == false) fr.toNat (bits - fr.toNat) many.toNat with
  | some r => exact .inr ⟨r.1, rfl, found _ _ r (by omega) hf⟩
  | none =>
    cases hf2 : firstP (fun i => wb ws i == false) 0 bits many.toNat with
    | some r => exact .inr ⟨r.1, rfl, found _ _ r (by omega) hf2⟩
    | none =>
      refine .inl ⟨rfl, fun k m hk hm => ?_⟩
      rcases Int.lt_or_le (m : Int) many with h | h
      · exact h
      · obtain ⟨r, hr, h4, h5⟩ := runsP_has (p := fun i => wb ws i == false) (a := 0) bits k m (by omega) (by omega) (by omega) (fun i hi => by simpa using hm i hi)
        have := List.find?_eq_none.1 hf2 r hr
        simp only [decide_eq_true_eq] at this
        omega

theorem gaps_mono : ∀ (b a : List Rn), (gaps a).1 ≤ (gaps (a ++ b)).1
  | [], a => by simp
  | y :: b, a => by
    have h1 := gaps_mono b (a ++ [y])
    rw [List.append_assoc, List.singleton_append] at h1
    refine Nat.le_trans ?_ h1
    rw [gaps_snoc]
    unfold foldR
    exact Nat.le_add_right _ _
set_option maxRecDepth 100000 in
set_option maxHeartbeats 8000000 in
theorem holds_walk (va : Value) (l : List Nat) (many fr : Int) (w : World) (ha : ReadsT uE 1 w va l) (hwf : ∀ x ∈ l, x < 18446744073709551616) (hlx : l.length ≤ 9223372036854775807) (hmr : -9223372036854775808 ≤ many ∧ many ≤ 9223372036854775807) (hfr : -9223372036854775808 ≤ fr ∧ fr ≤ 9223372036854775807) :
    Calls Try.prog 7 #[va, .int .i64 many, .int .i64 fr] w fun e w' => e = .returned (.bool true) ∧ Below w.heap.size w w' := by
  obtain ⟨N, hN⟩ : ∃ N, l.length = N := ⟨_, rfl⟩
  obtain ⟨a, cap, rfl, hc⟩ := ha.form hN
  rw [hN] at hlx
  have q := Below.refl w.heap.size w
  refine X.fnM Try.func7 rfl (n := 187) rfl rfl ?_
  (refine CC.seq ?_; refine CC.region ?_)
  refine LL.alloc [.bool false] rfl rfl rfl rfl rfl ?_
  intro W g6 eg r6 zg b
  have hsz_ := b.size
  replace q := q.trans (b.mono q.size)
  replace ha := ha.up b
  have l6 : w.heap.size ≤ g6 := by omega
  by_cases hbad : N < 1 ∨ 5 < N
  · rcases hbad with hbad | hbad
    all_goals
      (repeat (first | (first | refine CC.seq ?_ | refine CC.region ?_ | refine LL.nilS ?_ | refine CC.yes rfl ?_ | refine CC.no rfl ?_ | refine CC.block ?_ | refine EE.thenN ?_ | refine LL.nil ?_ | refine CC.exit ?_ | refine CC.ret ?_ | refine CC.skip ?_ | refine EE.thenX ?_ | refine EE.thenR ?_ | refine EE.inN ?_ | refine EE.inX ?_ | refine EE.inX' rfl ?_ | refine EE.inR ?_ | refine CC.label ?_ | refine EE.thenG ?_ | refine EE.inG ?_) | (first | refine LL.val (R.move rfl rfl) rfl rfl rfl ?_ | refine LL.val (R.assign rfl rfl) rfl rfl rfl ?_ | refine LL.val (R.nil rfl rfl) rfl rfl rfl ?_ | refine LL.val (R.field rfl rfl (I.fld rfl)) rfl rfl rfl ?_ | refine LL.val (R.load rfl rfl (I.ld1 rfl (by assumption))) rfl rfl rfl ?_ | refine LL.val (R.load rfl rfl (I.ld1 rfl (RowL.cell (by assumption) rfl))) rfl rfl rfl ?_ | refine LL.val (R.index rfl rfl rfl (I.ixA1c rfl rfl (by first | omega | decide))) rfl rfl rfl ?_ | refine LL.val (R.index rfl rfl rfl (I.ixS1c rfl rfl (by omega))) rfl rfl rfl ?_ | refine LL.val (R.index rfl rfl rfl (I.ixAc rfl rfl (by first | omega | decide))) rfl rfl rfl ?_ | refine LL.val (R.index rfl rfl rfl (I.ixSc rfl rfl (by omega))) rfl rfl rfl ?_ | refine LL.val (R.index rfl rfl rfl (I.ixA1 rfl (by omega))) rfl rfl rfl ?_ | refine LL.val (R.index rfl rfl rfl (I.ixS1 rfl (by omega))) rfl rfl rfl ?_ | refine LL.val (R.index rfl rfl rfl (I.ixA rfl (by omega))) rfl rfl rfl ?_ | refine LL.val (R.index rfl rfl rfl (I.ixS rfl (by omega))) rfl rfl rfl ?_ | refine LL.val (R.ltT rfl rfl rfl (by omega)) rfl rfl rfl ?_ | refine LL.val (R.ltF rfl rfl rfl (by omega)) rfl rfl rfl ?_ | refine LL.val (R.addNc rfl rfl rfl rfl (by omega)) rfl rfl rfl ?_ | refine LL.val (R.subNc rfl rfl rfl rfl (by omega) (by omega)) rfl rfl rfl ?_ | refine LL.val (R.addN rfl rfl rfl (by omega)) rfl rfl rfl ?_ | refine LL.val (R.subN rfl rfl rfl (by omega) (by omega)) rfl rfl rfl ?_ | refine LL.val (R.subcN rfl rfl rfl rfl (by omega) (by omega)) rfl rfl rfl ?_ | refine LL.val (R.addI rfl rfl rfl (by omega)) rfl rfl rfl ?_ | refine LL.val (R.subI rfl rfl rfl (by omega)) rfl rfl rfl ?_ | refine LL.val (R.mulNc rfl rfl rfl rfl (by omega)) rfl rfl rfl ?_ | refine LL.val (R.mulcN rfl rfl rfl rfl (by omega)) rfl rfl rfl ?_ | refine LL.val (R.quoNc rfl rfl rfl rfl (by omega) (by omega)) rfl rfl rfl ?_ | refine LL.val (R.remNc rfl rfl rfl rfl (by omega)) rfl rfl rfl ?_ | refine LL.val (R.mulN rfl rfl rfl (by omega)) rfl rfl rfl ?_ | refine LL.val (R.quoN rfl rfl rfl (by omega) (by omega)) rfl rfl rfl ?_ | refine LL.val (R.remN rfl rfl rfl (by omega)) rfl rfl rfl ?_ | refine LL.val (R.leT rfl rfl rfl (by omega)) rfl rfl rfl ?_ | refine LL.val (R.leF rfl rfl rfl (by omega)) rfl rfl rfl ?_ | refine LL.val (R.gtT rfl rfl rfl (by omega)) rfl rfl rfl ?_ | refine LL.val (R.gtF rfl rfl rfl (by omega)) rfl rfl rfl ?_ | refine LL.val (R.geT rfl rfl rfl (by omega)) rfl rfl rfl ?_ | refine LL.val (R.geF rfl rfl rfl (by omega)) rfl rfl rfl ?_ | refine LL.val (R.eqT rfl rfl rfl (by omega)) rfl rfl rfl ?_ | refine LL.val (R.eqF rfl rfl rfl (by omega)) rfl rfl rfl ?_ | refine LL.val (R.neT rfl rfl rfl (by omega)) rfl rfl rfl ?_ | refine LL.val (R.neF rfl rfl rfl (by omega)) rfl rfl rfl ?_ | refine LL.val (R.eqPtr rfl rfl rfl rfl rfl) rfl rfl rfl ?_ | refine LL.val (R.nePtr rfl rfl rfl rfl rfl) rfl rfl rfl ?_ | refine LL.val (R.eqSl rfl rfl rfl rfl rfl) rfl rfl rfl ?_ | refine LL.val (R.neSl rfl rfl rfl rfl rfl) rfl rfl rfl ?_ | refine LL.val (R.eqFn rfl rfl rfl rfl) rfl rfl rfl ?_ | refine LL.val (R.eqBool rfl rfl rfl rfl rfl) rfl rfl rfl ?_ | refine LL.val (R.neBool rfl rfl rfl rfl rfl) rfl rfl rfl ?_ | refine LL.val (R.xorU rfl rfl rfl (by first | omega | decide) (by first | omega | decide)) rfl rfl rfl ?_ | refine LL.val (R.addUN rfl rfl rfl (by omega)) rfl rfl rfl ?_ | refine LL.val (R.not rfl rfl) rfl rfl rfl ?_ | refine LL.val (R.len rfl rfl rfl rfl) rfl rfl rfl ?_ | refine LL.val (R.pick rfl rfl rfl) rfl rfl rfl ?_ | refine LL.val (R.extract rfl rfl rfl) rfl rfl rfl ?_ | refine LL.val (R.func rfl rfl rfl) rfl rfl rfl ?_ | refine LL.val (R.slice rfl rfl rfl rfl rfl (I.slA rfl)) rfl rfl rfl ?_ | refine LL.val (R.slice rfl rfl rfl rfl rfl (I.slAto rfl (by omega))) rfl rfl rfl ?_) | refine LL.skip rfl rfl ?_))
      refine LL.call (R.call rfl rfl rfl) rfl rfl rfl (works_any _) ?_
      rintro e W ⟨rfl, b⟩
      refine ⟨_, rfl, ?_⟩
      have hsz_ := b.size
      replace q := q.trans (b.mono q.size)
      replace r6 := r6.up b
      (repeat (first | (first | refine CC.seq ?_ | refine CC.region ?_ | refine LL.nilS ?_ | refine CC.yes rfl ?_ | refine CC.no rfl ?_ | refine CC.block ?_ | refine EE.thenN ?_ | refine LL.nil ?_ | refine CC.exit ?_ | refine CC.ret ?_ | refine CC.skip ?_ | refine EE.thenX ?_ | refine EE.thenR ?_ | refine EE.inN ?_ | refine EE.inX ?_ | refine EE.inX' rfl ?_ | refine EE.inR ?_ | refine CC.label ?_ | refine EE.thenG ?_ | refine EE.inG ?_) | (first | refine LL.val (R.move rfl rfl) rfl rfl rfl ?_ | refine LL.val (R.assign rfl rfl) rfl rfl rfl ?_ | refine LL.val (R.nil rfl rfl) rfl rfl rfl ?_ | refine LL.val (R.field rfl rfl (I.fld rfl)) rfl rfl rfl ?_ | refine LL.val (R.load rfl rfl (I.ld1 rfl (by assumption))) rfl rfl rfl ?_ | refine LL.val (R.load rfl rfl (I.ld1 rfl (RowL.cell (by assumption) rfl))) rfl rfl rfl ?_ | refine LL.val (R.index rfl rfl rfl (I.ixA1c rfl rfl (by first | omega | decide))) rfl rfl rfl ?_ | refine LL.val (R.index rfl rfl rfl (I.ixS1c rfl rfl (by omega))) rfl rfl rfl ?_ | refine LL.val (R.index rfl rfl rfl (I.ixAc rfl rfl (by first | omega | decide))) rfl rfl rfl ?_ | refine LL.val (R.index rfl rfl rfl (I.ixSc rfl rfl (by omega))) rfl rfl rfl ?_ | refine LL.val (R.index rfl rfl rfl (I.ixA1 rfl (by omega))) rfl rfl rfl ?_ | refine LL.val (R.index rfl rfl rfl (I.ixS1 rfl (by omega))) rfl rfl rfl ?_ | refine LL.val (R.index rfl rfl rfl (I.ixA rfl (by omega))) rfl rfl rfl ?_ | refine LL.val (R.index rfl rfl rfl (I.ixS rfl (by omega))) rfl rfl rfl ?_ | refine LL.val (R.ltT rfl rfl rfl (by omega)) rfl rfl rfl ?_ | refine LL.val (R.ltF rfl rfl rfl (by omega)) rfl rfl rfl ?_ | refine LL.val (R.addNc rfl rfl rfl rfl (by omega)) rfl rfl rfl ?_ | refine LL.val (R.subNc rfl rfl rfl rfl (by omega) (by omega)) rfl rfl rfl ?_ | refine LL.val (R.addN rfl rfl rfl (by omega)) rfl rfl rfl ?_ | refine LL.val (R.subN rfl rfl rfl (by omega) (by omega)) rfl rfl rfl ?_ | refine LL.val (R.subcN rfl rfl rfl rfl (by omega) (by omega)) rfl rfl rfl ?_ | refine LL.val (R.addI rfl rfl rfl (by omega)) rfl rfl rfl ?_ | refine LL.val (R.subI rfl rfl rfl (by omega)) rfl rfl rfl ?_ | refine LL.val (R.mulNc rfl rfl rfl rfl (by omega)) rfl rfl rfl ?_ | refine LL.val (R.mulcN rfl rfl rfl rfl (by omega)) rfl rfl rfl ?_ | refine LL.val (R.quoNc rfl rfl rfl rfl (by omega) (by omega)) rfl rfl rfl ?_ | refine LL.val (R.remNc rfl rfl rfl rfl (by omega)) rfl rfl rfl ?_ | refine LL.val (R.mulN rfl rfl rfl (by omega)) rfl rfl rfl ?_ | refine LL.val (R.quoN rfl rfl rfl (by omega) (by omega)) rfl rfl rfl ?_ | refine LL.val (R.remN rfl rfl rfl (by omega)) rfl rfl rfl ?_ | refine LL.val (R.leT rfl rfl rfl (by omega)) rfl rfl rfl ?_ | refine LL.val (R.leF rfl rfl rfl (by omega)) rfl rfl rfl ?_ | refine LL.val (R.gtT rfl rfl rfl (by omega)) rfl rfl rfl ?_ | refine LL.val (R.gtF rfl rfl rfl (by omega)) rfl rfl rfl ?_ | refine LL.val (R.geT rfl rfl rfl (by omega)) rfl rfl rfl ?_ | refine LL.val (R.geF rfl rfl rfl (by omega)) rfl rfl rfl ?_ | refine LL.val (R.eqT rfl rfl rfl (by omega)) rfl rfl rfl ?_ | refine LL.val (R.eqF rfl rfl rfl (by omega)) rfl rfl rfl ?_ | refine LL.val (R.neT rfl rfl rfl (by omega)) rfl rfl rfl ?_ | refine LL.val (R.neF rfl rfl rfl (by omega)) rfl rfl rfl ?_ | refine LL.val (R.eqPtr rfl rfl rfl rfl rfl) rfl rfl rfl ?_ | refine LL.val (R.nePtr rfl rfl rfl rfl rfl) rfl rfl rfl ?_ | refine LL.val (R.eqSl rfl rfl rfl rfl rfl) rfl rfl rfl ?_ | refine LL.val (R.neSl rfl rfl rfl rfl rfl) rfl rfl rfl ?_ | refine LL.val (R.eqFn rfl rfl rfl rfl) rfl rfl rfl ?_ | refine LL.val (R.eqBool rfl rfl rfl rfl rfl) rfl rfl rfl ?_ | refine LL.val (R.neBool rfl rfl rfl rfl rfl) rfl rfl rfl ?_ | refine LL.val (R.xorU rfl rfl rfl (by first | omega | decide) (by first | omega | decide)) rfl rfl rfl ?_ | refine LL.val (R.addUN rfl rfl rfl (by omega)) rfl rfl rfl ?_ | refine LL.val (R.not rfl rfl) rfl rfl rfl ?_ | refine LL.val (R.len rfl rfl rfl rfl) rfl rfl rfl ?_ | refine LL.val (R.pick rfl rfl rfl) rfl rfl rfl ?_ | refine LL.val (R.extract rfl rfl rfl) rfl rfl rfl ?_ | refine LL.val (R.func rfl rfl rfl) rfl rfl rfl ?_ | refine LL.val (R.slice rfl rfl rfl rfl rfl (I.slA rfl)) rfl rfl rfl ?_ | refine LL.val (R.slice rfl rfl rfl rfl rfl (I.slAto rfl (by omega))) rfl rfl rfl ?_) | refine LL.skip rfl rfl ?_))
      refine LL.store  rfl rfl rfl rfl r6 (by exact Nat.le_of_ble_eq_true rfl) rfl rfl rfl rfl ?_
      intro W r_ gr_ zr_
      have hgl_ := r6.lt
      replace q := q.grown gr_ q.size (by rintro k ⟨⟩; omega)
      replace r6 := r_
      (repeat (first | (first | refine CC.seq ?_ | refine CC.region ?_ | refine LL.nilS ?_ | refine CC.yes rfl ?_ | refine CC.no rfl ?_ | refine CC.block ?_ | refine EE.thenN ?_ | refine LL.nil ?_ | refine CC.exit ?_ | refine CC.ret ?_ | refine CC.skip ?_ | refine EE.thenX ?_ | refine EE.thenR ?_ | refine EE.inN ?_ | refine EE.inX ?_ | refine EE.inX' rfl ?_ | refine EE.inR ?_ | refine CC.label ?_ | refine EE.thenG ?_ | refine EE.inG ?_) | (first | refine LL.val (R.move rfl rfl) rfl rfl rfl ?_ | refine LL.val (R.assign rfl rfl) rfl rfl rfl ?_ | refine LL.val (R.nil rfl rfl) rfl rfl rfl ?_ | refine LL.val (R.field rfl rfl (I.fld rfl)) rfl rfl rfl ?_ | refine LL.val (R.load rfl rfl (I.ld1 rfl (by assumption))) rfl rfl rfl ?_ | refine LL.val (R.load rfl rfl (I.ld1 rfl (RowL.cell (by assumption) rfl))) rfl rfl rfl ?_ | refine LL.val (R.index rfl rfl rfl (I.ixA1c rfl rfl (by first | omega | decide))) rfl rfl rfl ?_ | refine LL.val (R.index rfl rfl rfl (I.ixS1c rfl rfl (by omega))) rfl rfl rfl ?_ | refine LL.val (R.index rfl rfl rfl (I.ixAc rfl rfl (by first | omega | decide))) rfl rfl rfl ?_ | refine LL.val (R.index rfl rfl rfl (I.ixSc rfl rfl (by omega))) rfl rfl rfl ?_ | refine LL.val (R.index rfl rfl rfl (I.ixA1 rfl (by omega))) rfl rfl rfl ?_ | refine LL.val (R.index rfl rfl rfl (I.ixS1 rfl (by omega))) rfl rfl rfl ?_ | refine LL.val (R.index rfl rfl rfl (I.ixA rfl (by omega))) rfl rfl rfl ?_ | refine LL.val (R.index rfl rfl rfl (I.ixS rfl (by omega))) rfl rfl rfl ?_ | refine LL.val (R.ltT rfl rfl rfl (by omega)) rfl rfl rfl ?_ | refine LL.val (R.ltF rfl rfl rfl (by omega)) rfl rfl rfl ?_ | refine LL.val (R.addNc rfl rfl rfl rfl (by omega)) rfl rfl rfl ?_ | refine LL.val (R.subNc rfl rfl rfl rfl (by omega) (by omega)) rfl rfl rfl ?_ | refine LL.val (R.addN rfl rfl rfl (by omega)) rfl rfl rfl ?_ | refine LL.val (R.subN rfl rfl rfl (by omega) (by omega)) rfl rfl rfl ?_ | refine LL.val (R.subcN rfl rfl rfl rfl (by omega) (by omega)) rfl rfl rfl ?_ | refine LL.val (R.addI rfl rfl rfl (by omega)) rfl rfl rfl ?_ | refine LL.val (R.subI rfl rfl rfl (by omega)) rfl rfl rfl ?_ | refine LL.val (R.mulNc rfl rfl rfl rfl (by omega)) rfl rfl rfl ?_ | refine LL.val (R.mulcN rfl rfl rfl rfl (by omega)) rfl rfl rfl ?_ | refine LL.val (R.quoNc rfl rfl rfl rfl (by omega) (by omega)) rfl rfl rfl ?_ | refine LL.val (R.remNc rfl rfl rfl rfl (by omega)) rfl rfl rfl ?_ | refine LL.val (R.mulN rfl rfl rfl (by omega)) rfl rfl rfl ?_ | refine LL.val (R.quoN rfl rfl rfl (by omega) (by omega)) rfl rfl rfl ?_ | refine LL.val (R.remN rfl rfl rfl (by omega)) rfl rfl rfl ?_ | refine LL.val (R.leT rfl rfl rfl (by omega)) rfl rfl rfl ?_ | refine LL.val (R.leF rfl rfl rfl (by omega)) rfl rfl rfl ?_ | refine LL.val (R.gtT rfl rfl rfl (by omega)) rfl rfl rfl ?_ | refine LL.val (R.gtF rfl rfl rfl (by omega)) rfl rfl rfl ?_ | refine LL.val (R.geT rfl rfl rfl (by omega)) rfl rfl rfl ?_ | refine LL.val (R.geF rfl rfl rfl (by omega)) rfl rfl rfl ?_ | refine LL.val (R.eqT rfl rfl rfl (by omega)) rfl rfl rfl ?_ | refine LL.val (R.eqF rfl rfl rfl (by omega)) rfl rfl rfl ?_ | refine LL.val (R.neT rfl rfl rfl (by omega)) rfl rfl rfl ?_ | refine LL.val (R.neF rfl rfl rfl (by omega)) rfl rfl rfl ?_ | refine LL.val (R.eqPtr rfl rfl rfl rfl rfl) rfl rfl rfl ?_ | refine LL.val (R.nePtr rfl rfl rfl rfl rfl) rfl rfl rfl ?_ | refine LL.val (R.eqSl rfl rfl rfl rfl rfl) rfl rfl rfl ?_ | refine LL.val (R.neSl rfl rfl rfl rfl rfl) rfl rfl rfl ?_ | refine LL.val (R.eqFn rfl rfl rfl rfl) rfl rfl rfl ?_ | refine LL.val (R.eqBool rfl rfl rfl rfl rfl) rfl rfl rfl ?_ | refine LL.val (R.neBool rfl rfl rfl rfl rfl) rfl rfl rfl ?_ | refine LL.val (R.xorU rfl rfl rfl (by first | omega | decide) (by first | omega | decide)) rfl rfl rfl ?_ | refine LL.val (R.addUN rfl rfl rfl (by omega)) rfl rfl rfl ?_ | refine LL.val (R.not rfl rfl) rfl rfl rfl ?_ | refine LL.val (R.len rfl rfl rfl rfl) rfl rfl rfl ?_ | refine LL.val (R.pick rfl rfl rfl) rfl rfl rfl ?_ | refine LL.val (R.extract rfl rfl rfl) rfl rfl rfl ?_ | refine LL.val (R.func rfl rfl rfl) rfl rfl rfl ?_ | refine LL.val (R.slice rfl rfl rfl rfl rfl (I.slA rfl)) rfl rfl rfl ?_ | refine LL.val (R.slice rfl rfl rfl rfl rfl (I.slAto rfl (by omega))) rfl rfl rfl ?_) | refine LL.skip rfl rfl ?_))
      refine EE.retM1 rfl ⟨_, rfl, lv1 rfl (r6.cell rfl)⟩ ?_
      exact ⟨rfl, q⟩
  obtain ⟨bits, hbits⟩ : ∃ bits, 64 * N = bits := ⟨_, rfl⟩
  have hblen : l.length = (bits + 63) / 64 := by omega
  have hrest : ∀ i, bits ≤ i → wb l i = false := fun i hi => by unfold wb; rw [List.getElem?_eq_none (by omega)]; simp
  (refine LL.nilS ?_; refine CC.seq ?_; refine CC.seq ?_; refine CC.region ?_; refine LL.val (R.move rfl rfl) rfl rfl rfl ?_; refine LL.val (R.len rfl rfl rfl rfl) rfl rfl rfl ?_; refine LL.val (R.ltF rfl rfl rfl (by omega)) rfl rfl rfl ?_; refine LL.val (R.move rfl rfl) rfl rfl rfl ?_; refine LL.val (R.move rfl rfl) rfl rfl rfl ?_; refine LL.val (R.len rfl rfl rfl rfl) rfl rfl rfl ?_; refine LL.val (R.gtF rfl rfl rfl (by omega)) rfl rfl rfl ?_; refine LL.val (R.pick rfl rfl rfl) rfl rfl rfl ?_; refine LL.nilS ?_; refine CC.no rfl ?_; refine CC.skip ?_; refine EE.thenN ?_; refine CC.seq ?_; refine CC.region ?_; refine LL.val (R.move rfl rfl) rfl rfl rfl ?_; refine LL.val (R.len rfl rfl rfl rfl) rfl rfl rfl ?_; refine LL.val (R.mulcN rfl rfl rfl rfl (by omega)) rfl rfl rfl ?_)
  rw [hbits]
  skip
  refine LL.alloc [.int .i64 0] rfl rfl rfl rfl rfl ?_
  intro W_ g7 eg r7 zg b_
  skip
  refine LL.store  rfl rfl rfl rfl r7 (by exact Nat.le_of_ble_eq_true rfl) rfl rfl rfl rfl ?_
  clear r7
  intro W r7 gr_ zr_
  have b := b_.grown gr_ b_.size (by rintro k ⟨⟩; omega)
  clear b_ gr_
  have hsz_ := b.size
  replace q := q.trans (b.mono q.size)
  replace ha := ha.up b
  replace r6 := r6.up b
  have hofm := of_full W hN (by omega) (by omega) ha hwf
  rw [hbits] at hofm
  (refine LL.nilS ?_; refine CC.seq ?_; refine CC.region ?_; refine LL.val (R.load rfl rfl (I.ld1 rfl (RowL.cell (by assumption) rfl))) rfl rfl rfl ?_; refine LL.val (R.move rfl rfl) rfl rfl rfl ?_)
  refine LL.call (R.call rfl rfl rfl) rfl rfl rfl (hofm) ?_
  rintro e W ⟨gm, vm, rfl, h, _, b⟩
  refine ⟨_, rfl, ?_⟩
  have hsz_ := b.size
  replace q := q.trans (b.mono q.size)
  replace ha := ha.up b
  replace r6 := r6.up b
  replace r7 := r7.up b
  (refine LL.val (R.move rfl rfl) rfl rfl rfl ?_; refine LL.val (R.extract rfl rfl rfl) rfl rfl rfl ?_; refine LL.val (R.extract rfl rfl rfl) rfl rfl rfl ?_; refine LL.val (R.assign rfl rfl) rfl rfl rfl ?_; refine LL.val (R.assign rfl rfl) rfl rfl rfl ?_; refine LL.nilS ?_; refine CC.seq ?_; refine CC.seq ?_; refine CC.region ?_; refine LL.val (R.move rfl rfl) rfl rfl rfl ?_)
  refine LL.call (R.call rfl rfl rfl) rfl rfl rfl (num_any _ _) ?_
  rintro e W ⟨rfl, rfl⟩
  refine ⟨_, rfl, ?_⟩
  (refine LL.val (R.neF rfl rfl rfl (by omega)) rfl rfl rfl ?_; refine LL.nilS ?_; refine CC.no rfl ?_; refine CC.skip ?_; refine EE.thenN ?_; refine CC.seq ?_; refine CC.region ?_; refine LL.val (R.move rfl rfl) rfl rfl rfl ?_)
  refine LL.call (R.call rfl rfl rfl) rfl rfl rfl (runs_made _ h) ?_
  rintro e W ⟨gm', vm', b3, b4, b5, rfl, hS, h5, _, _, b⟩
  refine ⟨_, rfl, ?_⟩
  have hsz_ := b.size
  replace q := q.trans (b.mono q.size)
  replace r6 := r6.up b
  replace r7 := r7.up b
  replace h := h.up b
  (refine LL.val (R.assign rfl rfl) rfl rfl rfl ?_; refine LL.nilS ?_; refine CC.seq ?_; refine CC.seq ?_; refine CC.region ?_; refine LL.val (R.move rfl rfl) rfl rfl rfl ?_; refine LL.val (R.eqFn rfl rfl rfl rfl) rfl rfl rfl ?_; refine LL.nilS ?_; refine CC.no rfl ?_; refine CC.skip ?_; refine EE.thenN ?_; refine CC.seq ?_; refine CC.region ?_; refine LL.val (R.move rfl rfl) rfl rfl rfl ?_)
  refine LL.call (R.call rfl rfl rfl) rfl rfl rfl (bleft_made _ h) ?_
  rintro e W ⟨rfl, b⟩
  refine ⟨_, rfl, ?_⟩
  have hsz_ := b.size
  replace q := q.trans (b.mono q.size)
  replace r6 := r6.up b
  replace r7 := r7.up b
  replace h := h.up b
  replace hS := hS.up b
  replace h5 := h5.up b
  have hones := onesW_bits hblen hrest
  have hcl := cntP_le (wb l) bits
  rw [hones]
  obtain ⟨C, hC⟩ : ∃ C, cntP (wb l) bits = C := ⟨_, rfl⟩
  rw [hC] at hcl ⊢
  obtain ⟨WB, rfl⟩ : ∃ X, X = W := ⟨_, rfl⟩
  have qB := Below.refl WB.heap.size WB
  have hG := spans_gives 0 WB hS h5 (by omega)
  rw [runs_eqP, Nat.sub_zero] at hG
  have hSl := hS.lt
  have qw := q
  have r6B := r6
  have r7B := r7
  have hB := h
  skip
  refine LL.alloc [.int .i64 0] rfl rfl rfl rfl rfl ?_
  intro W g11 eg r11 zg b
  have hsz_ := b.size
  replace q := q.trans (b.mono q.size)
  replace qB := qB.trans (b.mono qB.size)
  skip
  refine LL.alloc [.int .i64 0] rfl rfl rfl rfl rfl ?_
  intro W g12 eg r12 zg b
  have hsz_ := b.size
  replace q := q.trans (b.mono q.size)
  replace qB := qB.trans (b.mono qB.size)
  replace r11 := r11.up b
  skip
  refine LL.alloc [.int .i64 0] rfl rfl rfl rfl rfl ?_
  intro W g13 eg r13 zg b
  have hsz_ := b.size
  replace q := q.trans (b.mono q.size)
  replace qB := qB.trans (b.mono qB.size)
  replace r11 := r11.up b
  replace r12 := r12.up b
  have k11 : g11 < g12 := by omega
  have k12 : g12 < g13 := by omega
  have k0 : WB.heap.size ≤ g11 := by omega
  skip
  refine LL.store  rfl rfl rfl rfl r11 (by exact Nat.le_of_ble_eq_true rfl) rfl rfl rfl rfl ?_
  intro W r_ gr_ zr_
  have hgl_ := r11.lt
  replace q := q.grown gr_ q.size (by rintro k ⟨⟩; omega)
  replace qB := qB.grown gr_ qB.size (by rintro k ⟨⟩; omega)
  replace r12 := r12.gr gr_ (by have := r12.lt; omega)
  replace r13 := r13.gr gr_ (by have := r13.lt; omega)
  replace r11 := r_
  skip
  refine LL.store (v := .int .i64 0) rfl rfl rfl rfl r12 (by exact Nat.le_of_ble_eq_true rfl) rfl rfl rfl rfl ?_
  intro W r_ gr_ zr_
  have hgl_ := r12.lt
  replace q := q.grown gr_ q.size (by rintro k ⟨⟩; omega)
  replace qB := qB.grown gr_ qB.size (by rintro k ⟨⟩; omega)
  replace r11 := r11.gr gr_ (by have := r11.lt; omega)
  replace r13 := r13.gr gr_ (by have := r13.lt; omega)
  replace r12 := r_
  skip
  refine LL.store (v := .int .i64 0) rfl rfl rfl rfl r13 (by exact Nat.le_of_ble_eq_true rfl) rfl rfl rfl rfl ?_
  intro W r_ gr_ zr_
  have hgl_ := r13.lt
  replace q := q.grown gr_ q.size (by rintro k ⟨⟩; omega)
  replace qB := qB.grown gr_ qB.size (by rintro k ⟨⟩; omega)
  replace r11 := r11.gr gr_ (by have := r11.lt; omega)
  replace r12 := r12.gr gr_ (by have := r12.lt; omega)
  replace r13 := r_
  obtain ⟨WR, rfl⟩ : ∃ X, X = W := ⟨_, rfl⟩
  have yB := qB.size
  have hg13 := r13.lt
  (refine LL.nilS ?_; refine CC.seq ?_; refine CC.seq ?_; refine CC.region ?_; refine LL.val (R.move rfl rfl) rfl rfl rfl ?_; refine LL.nilS ?_; refine CC.block ?_)
  refine CC.rangeM (γ := Nat) (gf := 50) (lb := [Value.pointer (some ⟨b5, 0, none⟩), .pointer (some ⟨b3, 0, none⟩), .pointer (some ⟨b4, 0, none⟩)]) (encs := encR) rfl rfl hG qB (fun k hk => by have := hSl k hk; omega) (fun _ => rfl) rfl
    (fun m pre W' => Below WB.heap.size WB W' ∧ RowL W' g11 3 [.int .i64 ((bits : Int) - (C : Int) + ((gaps pre).1 : Int))] ∧ RowL W' g12 3 [.int .i64 ((gaps pre).2.2 : Int)] ∧ RowL W' g13 3 [.int .i64 ((gaps pre).2.1 : Int)])
    (fun m pre W' => False)
    (fun W' => Below WB.heap.size WB W' ∧ RowL W' g11 3 [.int .i64 ((bits : Int) - (C : Int) + ((gaps (runsP (wb l) 0 bits)).1 : Int))] ∧ RowL W' g12 3 [.int .i64 ((gaps (runsP (wb l) 0 bits)).2.2 : Int)] ∧ RowL W' g13 3 [.int .i64 ((gaps (runsP (wb l) 0 bits)).2.1 : Int)])
    (fun m s X Y hs ht => ⟨hs.1.trans (ht.below yB hs.1.size), ht.same g11 _ hs.2.1 (.inl (by omega)), ht.same g12 _ hs.2.2.1 (.inl (by omega)), ht.same g13 _ hs.2.2.2 (.inl hg13)⟩)
    (fun m s X Y hs ht => hs)
    (fun m => ⟨qB, by rw [show (bits : Int) - (C : Int) + ((gaps []).1 : Int) = (bits : Int) - (C : Int) by show (bits : Int) - C + ((0 : Nat) : Int) = _; omega]; exact r11, r12, r13⟩)
    (fun m xs W' e hi => by cases e; exact hi)
    (fun m pre W' hp hi => hi.elim)
    (fun x g14 => sl [(6, .pointer (some ⟨g6, 0, none⟩)), (7, .pointer (some ⟨g7, 0, none⟩)), (11, .pointer (some ⟨g11, 0, none⟩)), (12, .pointer (some ⟨g12, 0, none⟩)), (13, .pointer (some ⟨g13, 0, none⟩)), (14, .pointer (some ⟨g14, 0, none⟩))]) (fun x g14 W' => RowL W' g14 57 (rE x) ∧ WR.heap.size ≤ g14) (fun x g14 => fun _ W W' row h hg hr => ⟨RowL.own () W W' row h.1 hg hr, h.2⟩) ?assign ?body ?after
  case assign =>
    intro l' m pre x W K hm hm2 hi hK
    obtain ⟨h1, h2, h3, h4⟩ := hi
    (refine CC.region ?_)
    refine LL.alloc (rE (0, 0)) rfl rfl rfl rfl rfl ?_
    intro w5 g5' e5 r5' z5 b5'
    skip
    refine LL.storeN (vs := rE x) rfl rfl rfl rfl r5' (Nat.le_of_ble_eq_true rfl) (rEnc.one x) rfl rfl ?_
    intro w6 r6' g6' z6
    have q6 : Below W.heap.size W w6 := b5'.grown g6' (by omega) (by rintro k ⟨⟩; omega)
    (refine LL.nil ?_)
    exact EE.thenK fun a' F => hK a' w6 g5' (Stays.of_below q6) (Keeps.of_below (fun k hk => by have := hSl k hk; have := h1.size; omega) q6) ⟨h1.trans (q6.mono h1.size), h2.up q6, h3.up q6, h4.up q6⟩ (F.keep _ ⟨rfl, rfl, rfl, rfl, rfl, rfl, trivial⟩) ⟨r6', by omega⟩
  case body =>
    intro l' m pre x g14 W hm hm2 hl' hrl hi hax hp
    obtain ⟨h1, h2, h3, h4⟩ := hi
    obtain ⟨hax, hg14⟩ := hax
    have hx : pre ++ [x] <+: runsP (wb l) 0 bits := by obtain ⟨_, rfl, ht⟩ := hp; exact ht
    obtain ⟨hA, hM, hE⟩ := gaps_ahead hx
    have hsn := gaps_snoc pre x
    have c7 := (r7B.up h1).cell (j := 0) rfl
    have c12 := h3.cell (j := 0) rfl
    have cA : W.cell? ⟨g14, 0 + 0, none⟩ = some (.int .i64 (x.1 : Int)) := hax.cell rfl
    have cM : W.cell? ⟨g14, 0 + 1, none⟩ = some (.int .i64 (x.2 : Int)) := hax.cell rfl
    obtain ⟨st, hst⟩ : ∃ st, gaps pre = st := ⟨_, rfl⟩
    rw [hst] at hA hsn h2 h3 h4 c12
    (refine CC.block ?_; refine CC.seq ?_; refine CC.seq ?_; refine CC.region ?_; refine LL.val (R.field rfl rfl (I.fld rfl)) rfl rfl rfl ?_; refine LL.val (R.load rfl rfl (I.ld1 rfl (by assumption))) rfl rfl rfl ?_; refine LL.val (R.load rfl rfl (I.ld1 rfl (by assumption))) rfl rfl rfl ?_; refine LL.val (R.ltF rfl rfl rfl (by omega)) rfl rfl rfl ?_; refine LL.val (R.move rfl rfl) rfl rfl rfl ?_; refine LL.val (R.field rfl rfl (I.fld rfl)) rfl rfl rfl ?_; refine LL.val (R.load rfl rfl (I.ld1 rfl (by assumption))) rfl rfl rfl ?_; refine LL.val (R.ltF rfl rfl rfl (by omega)) rfl rfl rfl ?_; refine LL.val (R.pick rfl rfl rfl) rfl rfl rfl ?_; refine LL.val (R.move rfl rfl) rfl rfl rfl ?_; refine LL.val (R.field rfl rfl (I.fld rfl)) rfl rfl rfl ?_; refine LL.val (R.load rfl rfl (I.ld1 rfl (by assumption))) rfl rfl rfl ?_; refine LL.val (R.load rfl rfl (I.ld1 rfl (by assumption))) rfl rfl rfl ?_; refine LL.val (R.field rfl rfl (I.fld rfl)) rfl rfl rfl ?_; refine LL.val (R.load rfl rfl (I.ld1 rfl (by assumption))) rfl rfl rfl ?_; refine LL.val (R.subN rfl rfl rfl (by omega) (by omega)) rfl rfl rfl ?_; refine LL.val (R.gtF rfl rfl rfl (by omega)) rfl rfl rfl ?_; refine LL.val (R.pick rfl rfl rfl) rfl rfl rfl ?_; refine LL.nilS ?_; refine CC.no rfl ?_; refine CC.skip ?_; refine EE.thenN ?_)
    have h7 := r7B.up h1
    have hkD : ∀ k, spD gm' b3 b4 vm' k → k < WB.heap.size := hSl
    obtain ⟨okP, hokP⟩ : ∃ okP : World → Prop, okP = fun W' => RowL W' g14 57 (rE x) ∧ RowL W' g12 3 [.int .i64 (st.2.2 : Int)] ∧ Below WB.heap.size WB W' ∧ Stays WR.heap.size m W W' ∧ Keeps (spD gm' b3 b4 vm') W W' := ⟨_, rfl⟩
    have okE : ∀ {W'}, okP W' → RowL W' g14 57 (rE x) ∧ RowL W' g12 3 [.int .i64 (st.2.2 : Int)] ∧ Below WB.heap.size WB W' ∧ Stays WR.heap.size m W W' ∧ Keeps (spD gm' b3 b4 vm') W W' := fun h => by rw [hokP] at h; exact h
    have hok : okP W.drew := by rw [hokP]; exact ⟨hax.drew, h3.drew, h1.drew, Stays.of_below below_drew, Keeps.of_below (fun k hk => by have := hSl k hk; have := h1.size; omega) below_drew⟩
    have hstep : ∀ {w1 w2 g}, okP w1 → w1.grownBy w2 (some g) → WB.heap.size ≤ g → g ≠ g14 → g ≠ g12 → g < WR.heap.size → okP w2 := fun {w1 w2 g} h hg hk1 hk2 hk3 hk4 => by
      rw [hokP] at h ⊢
      exact ⟨h.1.gr hg (Ne.symm hk2), h.2.1.gr hg (Ne.symm hk3), h.2.2.1.grown hg h.2.2.1.size (by rintro k ⟨⟩; omega), h.2.2.2.1.trans (Stays.of_grown hg hk4), h.2.2.2.2.trans (Keeps.of_grown hg fun k hk => ⟨by have := hSl k hk; have := h.2.2.1.size; omega, by have := hSl k hk; omega⟩)⟩
    have hbound : (gaps (pre ++ [x])).1 ≤ C := by
      obtain ⟨t, ht⟩ := hx
      have h5 := gaps_mono t (pre ++ [x])
      rw [ht, ← (gaps_ok (wb l) bits).sum.symm.trans rfl] at h5
      have := (gaps_ok (wb l) bits).sum
      omega
    have hs1 : (bits : Int) - (C : Int) + (st.1 : Int) + (x.2 : Int) = (bits : Int) - (C : Int) + ((gaps (pre ++ [x])).1 : Int) := by rw [hsn]; unfold foldR; simp only; omega
    have hs2 : (if ((st.2.1 : Nat) : Int) < ((x.1 - st.2.2 : Nat) : Int) then ((x.1 - st.2.2 : Nat) : Int) else ((st.2.1 : Nat) : Int)) = ((gaps (pre ++ [x])).2.1 : Int) := by rw [hsn]; unfold foldR; simp only; split <;> omega
    have hs3 : x.1 + x.2 = (gaps (pre ++ [x])).2.2 := by rw [hsn]; rfl
    refine CC.phase okP 17 (by kernel_rfl) rfl (by kernel_rfl) rfl (by kernel_rfl) ?_
    have g1114 : g11 ≠ g14 := by omega
    have g1214 : g12 ≠ g14 := by omega
    have g1314 : g13 ≠ g14 := by omega
    (refine AA.pure 1 rfl (by assumption) (by kernel_rfl) (fun w' hw' => R.field rfl rfl (I.fld rfl)) rfl rfl ?_)
    refine AA.pure 2 rfl (by assumption) (by kernel_rfl) (fun w' hw' => R.load rfl rfl (I.ld1 rfl (RowL.cell (j := 1) (okE hw').1 rfl))) rfl rfl ?_
    (refine AA.pure 5 rfl (by assumption) (by kernel_rfl) (fun w' hw' => R.field rfl rfl (I.fld rfl)) rfl rfl ?_)
    refine AA.pure 6 rfl (by assumption) (by kernel_rfl) (fun w' hw' => R.load rfl rfl (I.ld1 rfl (RowL.cell (j := 0) (okE hw').1 rfl))) rfl rfl ?_
    refine AA.pure 7 rfl (by assumption) (by kernel_rfl) (fun w' hw' => R.load rfl rfl (I.ld1 rfl ((okE hw').2.1.cell rfl))) rfl rfl ?_
    (refine AA.pure 8 rfl (by assumption) (by kernel_rfl) (fun w' hw' => R.subN rfl rfl rfl (by omega) (by omega)) rfl rfl ?_)
    (refine AA.pure 10 rfl (by assumption) (by kernel_rfl) (fun w' hw' => R.field rfl rfl (I.fld rfl)) rfl rfl ?_)
    refine AA.pure 11 rfl (by assumption) (by kernel_rfl) (fun w' hw' => R.load rfl rfl (I.ld1 rfl (RowL.cell (j := 0) (okE hw').1 rfl))) rfl rfl ?_
    (refine AA.pure 12 rfl (by assumption) (by kernel_rfl) (fun w' hw' => R.field rfl rfl (I.fld rfl)) rfl rfl ?_)
    refine AA.pure 13 rfl (by assumption) (by kernel_rfl) (fun w' hw' => R.load rfl rfl (I.ld1 rfl (RowL.cell (j := 1) (okE hw').1 rfl))) rfl rfl ?_
    (refine AA.pure 14 rfl (by assumption) (by kernel_rfl) (fun w' hw' => R.addN rfl rfl rfl (by omega)) rfl rfl ?_)
    have h2d := h2.drew
    have h4d := h4.drew
    have m1 : ∀ b : Bool, b = b := fun _ => rfl
    refine AA.two 0 4 (by kernel_rfl) ?p0 ?p4
    case' p0 =>
      refine SR.val rfl (R.load rfl rfl (I.ld1 rfl (h2d.cell rfl))) rfl rfl hok ?_
      refine AA.pure 3 rfl (by assumption) (by kernel_rfl) (fun w' hw' => R.addI rfl rfl rfl (by omega)) rfl rfl ?_
      refine AA.two 4 15 (by kernel_rfl) ?p04 ?p015
    case' p04 =>
      refine SR.val rfl (R.load rfl rfl (I.ld1 rfl (h4d.cell rfl))) rfl rfl hok ?_
      refine AA.pure 9 rfl (by assumption) (by kernel_rfl) (fun w' hw' => R.max rfl rfl) rfl rfl ?_
      refine AA.one 15 (by kernel_rfl) ?_
      refine SR.store rfl rfl rfl rfl rfl h2d (by exact Nat.le_of_ble_eq_true rfl) rfl rfl rfl rfl ?_
      intro w5 r5 gr5 z5
      have hok := hstep hok gr5 (by omega) g1114 (by omega) (by omega)
      have h4d := h4d.gr gr5 (by omega)
      refine ⟨hok, ?_⟩
    case' p015 =>
      refine SR.store rfl rfl rfl rfl rfl h2d (by exact Nat.le_of_ble_eq_true rfl) rfl rfl rfl rfl ?_
      intro w5 r5 gr5 z5
      have hok := hstep hok gr5 (by omega) g1114 (by omega) (by omega)
      have h4d := h4d.gr gr5 (by omega)
      refine ⟨hok, ?_⟩
      refine AA.one 4 (by kernel_rfl) ?_
      refine SR.val rfl (R.load rfl rfl (I.ld1 rfl (h4d.cell rfl))) rfl rfl hok ?_
      refine AA.pure 9 rfl (by assumption) (by kernel_rfl) (fun w' hw' => R.max rfl rfl) rfl rfl ?_
    case' p4 =>
      refine SR.val rfl (R.load rfl rfl (I.ld1 rfl (h4d.cell rfl))) rfl rfl hok ?_
      refine AA.pure 9 rfl (by assumption) (by kernel_rfl) (fun w' hw' => R.max rfl rfl) rfl rfl ?_
      refine AA.one 0 (by kernel_rfl) ?_
      refine SR.val rfl (R.load rfl rfl (I.ld1 rfl (h2d.cell rfl))) rfl rfl hok ?_
      refine AA.pure 3 rfl (by assumption) (by kernel_rfl) (fun w' hw' => R.addI rfl rfl rfl (by omega)) rfl rfl ?_
      refine AA.one 15 (by kernel_rfl) ?_
      refine SR.store rfl rfl rfl rfl rfl h2d (by exact Nat.le_of_ble_eq_true rfl) rfl rfl rfl rfl ?_
      intro w5 r5 gr5 z5
      have hok := hstep hok gr5 (by omega) g1114 (by omega) (by omega)
      have h4d := h4d.gr gr5 (by omega)
      refine ⟨hok, ?_⟩
    all_goals
      refine AA.one 16 (by kernel_rfl) ?_
      refine SR.store rfl rfl rfl rfl rfl h4d (by exact Nat.le_of_ble_eq_true rfl) rfl rfl rfl rfl ?_
      intro w6 r6' gr6 z6
      have hok := hstep hok gr6 (by omega) g1314 (by omega) (by omega)
      have r5 := r5.gr gr6 (by omega)
      refine ⟨hok, ?_⟩
      refine AA.done (by kernel_rfl) ?_
      refine EE.tailL ?_
      obtain ⟨_, h12, hbl, hst6, hkp6⟩ := okE hok
      refine LL.store rfl rfl rfl rfl h12 (by exact Nat.le_of_ble_eq_true rfl) rfl rfl rfl rfl ?_
      intro w7 r7' gr7 z7
      have r5 := r5.gr gr7 (by omega)
      have r6' := r6'.gr gr7 (by omega)
      (repeat (first | (first | refine CC.seq ?_ | refine CC.region ?_ | refine LL.nilS ?_ | refine CC.yes rfl ?_ | refine CC.no rfl ?_ | refine CC.block ?_ | refine EE.thenN ?_ | refine LL.nil ?_ | refine CC.exit ?_ | refine CC.ret ?_ | refine CC.skip ?_ | refine EE.thenX ?_ | refine EE.thenR ?_ | refine EE.inN ?_ | refine EE.inX ?_ | refine EE.inX' rfl ?_ | refine EE.inR ?_ | refine CC.label ?_ | refine EE.thenG ?_ | refine EE.inG ?_) | (first | refine LL.val (R.move rfl rfl) rfl rfl rfl ?_ | refine LL.val (R.assign rfl rfl) rfl rfl rfl ?_ | refine LL.val (R.nil rfl rfl) rfl rfl rfl ?_ | refine LL.val (R.field rfl rfl (I.fld rfl)) rfl rfl rfl ?_ | refine LL.val (R.load rfl rfl (I.ld1 rfl (by assumption))) rfl rfl rfl ?_ | refine LL.val (R.load rfl rfl (I.ld1 rfl (RowL.cell (by assumption) rfl))) rfl rfl rfl ?_ | refine LL.val (R.index rfl rfl rfl (I.ixA1c rfl rfl (by first | omega | decide))) rfl rfl rfl ?_ | refine LL.val (R.index rfl rfl rfl (I.ixS1c rfl rfl (by omega))) rfl rfl rfl ?_ | refine LL.val (R.index rfl rfl rfl (I.ixAc rfl rfl (by first | omega | decide))) rfl rfl rfl ?_ | refine LL.val (R.index rfl rfl rfl (I.ixSc rfl rfl (by omega))) rfl rfl rfl ?_ | refine LL.val (R.index rfl rfl rfl (I.ixA1 rfl (by omega))) rfl rfl rfl ?_ | refine LL.val (R.index rfl rfl rfl (I.ixS1 rfl (by omega))) rfl rfl rfl ?_ | refine LL.val (R.index rfl rfl rfl (I.ixA rfl (by omega))) rfl rfl rfl ?_ | refine LL.val (R.index rfl rfl rfl (I.ixS rfl (by omega))) rfl rfl rfl ?_ | refine LL.val (R.ltT rfl rfl rfl (by omega)) rfl rfl rfl ?_ | refine LL.val (R.ltF rfl rfl rfl (by omega)) rfl rfl rfl ?_ | refine LL.val (R.addNc rfl rfl rfl rfl (by omega)) rfl rfl rfl ?_ | refine LL.val (R.subNc rfl rfl rfl rfl (by omega) (by omega)) rfl rfl rfl ?_ | refine LL.val (R.addN rfl rfl rfl (by omega)) rfl rfl rfl ?_ | refine LL.val (R.subN rfl rfl rfl (by omega) (by omega)) rfl rfl rfl ?_ | refine LL.val (R.subcN rfl rfl rfl rfl (by omega) (by omega)) rfl rfl rfl ?_ | refine LL.val (R.addI rfl rfl rfl (by omega)) rfl rfl rfl ?_ | refine LL.val (R.subI rfl rfl rfl (by omega)) rfl rfl rfl ?_ | refine LL.val (R.mulNc rfl rfl rfl rfl (by omega)) rfl rfl rfl ?_ | refine LL.val (R.mulcN rfl rfl rfl rfl (by omega)) rfl rfl rfl ?_ | refine LL.val (R.quoNc rfl rfl rfl rfl (by omega) (by omega)) rfl rfl rfl ?_ | refine LL.val (R.remNc rfl rfl rfl rfl (by omega)) rfl rfl rfl ?_ | refine LL.val (R.mulN rfl rfl rfl (by omega)) rfl rfl rfl ?_ | refine LL.val (R.quoN rfl rfl rfl (by omega) (by omega)) rfl rfl rfl ?_ | refine LL.val (R.remN rfl rfl rfl (by omega)) rfl rfl rfl ?_ | refine LL.val (R.leT rfl rfl rfl (by omega)) rfl rfl rfl ?_ | refine LL.val (R.leF rfl rfl rfl (by omega)) rfl rfl rfl ?_ | refine LL.val (R.gtT rfl rfl rfl (by omega)) rfl rfl rfl ?_ | refine LL.val (R.gtF rfl rfl rfl (by omega)) rfl rfl rfl ?_ | refine LL.val (R.geT rfl rfl rfl (by omega)) rfl rfl rfl ?_ | refine LL.val (R.geF rfl rfl rfl (by omega)) rfl rfl rfl ?_ | refine LL.val (R.eqT rfl rfl rfl (by omega)) rfl rfl rfl ?_ | refine LL.val (R.eqF rfl rfl rfl (by omega)) rfl rfl rfl ?_ | refine LL.val (R.neT rfl rfl rfl (by omega)) rfl rfl rfl ?_ | refine LL.val (R.neF rfl rfl rfl (by omega)) rfl rfl rfl ?_ | refine LL.val (R.eqPtr rfl rfl rfl rfl rfl) rfl rfl rfl ?_ | refine LL.val (R.nePtr rfl rfl rfl rfl rfl) rfl rfl rfl ?_ | refine LL.val (R.eqSl rfl rfl rfl rfl rfl) rfl rfl rfl ?_ | refine LL.val (R.neSl rfl rfl rfl rfl rfl) rfl rfl rfl ?_ | refine LL.val (R.eqFn rfl rfl rfl rfl) rfl rfl rfl ?_ | refine LL.val (R.eqBool rfl rfl rfl rfl rfl) rfl rfl rfl ?_ | refine LL.val (R.neBool rfl rfl rfl rfl rfl) rfl rfl rfl ?_ | refine LL.val (R.xorU rfl rfl rfl (by first | omega | decide) (by first | omega | decide)) rfl rfl rfl ?_ | refine LL.val (R.addUN rfl rfl rfl (by omega)) rfl rfl rfl ?_ | refine LL.val (R.not rfl rfl) rfl rfl rfl ?_ | refine LL.val (R.len rfl rfl rfl rfl) rfl rfl rfl ?_ | refine LL.val (R.pick rfl rfl rfl) rfl rfl rfl ?_ | refine LL.val (R.extract rfl rfl rfl) rfl rfl rfl ?_ | refine LL.val (R.func rfl rfl rfl) rfl rfl rfl ?_ | refine LL.val (R.slice rfl rfl rfl rfl rfl (I.slA rfl)) rfl rfl rfl ?_ | refine LL.val (R.slice rfl rfl rfl rfl rfl (I.slAto rfl (by omega))) rfl rfl rfl ?_) | refine LL.skip rfl rfl ?_))
      refine EE.roundN ⟨hst6.trans (Stays.of_grown gr7 (by omega)), hkp6.trans (Keeps.of_grown gr7 fun k hk => ⟨by have := hSl k hk; have := hbl.size; omega, by have := hSl k hk; omega⟩), hbl.grown gr7 hbl.size (by rintro k ⟨⟩; omega), ?_, ?_, ?_⟩
      · rw [← hs1]; exact r5
      · rw [← hs3]; exact r7'
      · rw [← hs2]; exact r6'
  case after =>
    rintro E W hE ⟨h1, h2, h3, h4⟩ hE1
    have hga := gaps_ok (wb l) bits
    obtain ⟨⟨s, L, e⟩, hg⟩ : ∃ g, gaps (runsP (wb l) 0 bits) = g := ⟨_, rfl⟩
    rw [hg] at h2 h3 h4 hga
    simp only at h2 h3 h4 hga
    have hs := hga.sum
    have he := hga.hi
    have hmost := @gaps_most _ _ _ _ _ hga
    have hsome := gaps_some hga
    have q : Below w.heap.size w W := qw.trans (h1.mono qw.size)
    have hq0 := q.size
    have r6 := r6B.up h1
    have r7 := r7B.up h1
    have h := hB.up h1
    have hgE : g6 < E := by have := r6B.lt; have := yB; omega
    have hwE : w.heap.size ≤ E := by have := qw.size; have := yB; omega
    have h6g : g6 < g11 := by have := r6B.lt; omega
    have h7g : g7 < g11 := by have := r7B.lt; omega
    have hg13E : g13 < E := by omega
    have c3 := h3.cell (j := 0) rfl
    have c4 := h4.cell (j := 0) rfl
    have c7 := r7.cell (j := 0) rfl
    (refine EE.thenN ?_; refine CC.seq ?_; refine CC.region ?_; refine LL.val (R.load rfl rfl (I.ld1 rfl (by assumption))) rfl rfl rfl ?_; refine LL.val (R.load rfl rfl (I.ld1 rfl (by assumption))) rfl rfl rfl ?_; refine LL.val (R.load rfl rfl (I.ld1 rfl (by assumption))) rfl rfl rfl ?_; refine LL.val (R.subN rfl rfl rfl (by omega) (by omega)) rfl rfl rfl ?_)
    refine LL.val (R.max rfl rfl) rfl rfl rfl ?_
    obtain ⟨zz, hzz⟩ : ∃ zz : Int, (if (L : Int) < ((bits - e : Nat) : Int) then ((bits - e : Nat) : Int) else (L : Int)) = zz := ⟨_, rfl⟩
    have hz : zz = ((max L (bits - e) : Nat) : Int) := by rw [← hzz]; split <;> omega
    rw [hzz]
    have r11 : RowL W g11 3 [.int .i64 (bits : Int)] := by
      rw [show (bits : Int) - (C : Int) + (s : Int) = (bits : Int) by omega] at h2
      exact h2
    have r13 := h4
    have hwg : WB.heap.size ≤ g13 := by omega
    have qb := h1
    have hgm : gm < WB.heap.size := hB.row.lt
    refine LL.store rfl rfl rfl rfl r13 (by exact Nat.le_of_ble_eq_true rfl) rfl rfl rfl rfl ?_
    clear r13 c3 c4 c7 h2 h3 h4
    intro W2 r13 gr_ zr_
    replace q := q.grown gr_ q.size (by rintro k ⟨⟩; have := qw.size; omega)
    replace qb := qb.grown gr_ qb.size (by rintro k ⟨⟩; omega)
    replace r6 := r6.gr gr_ (by omega)
    replace r7 := r7.gr gr_ (by omega)
    replace r11 := r11.gr gr_ (by omega)
    replace h := hB.up qb
    replace hE1 := (gr_.block E (Array.getElem?_eq_some_iff.1 hE1).1 (by simp; omega)).trans hE1
    have H := find_made many fr W2 h
    by_cases hA : many < 1
    · have e0 : findP (fun i => wb l i == false) bits many fr = (0, 2) := by unfold findP; rw [if_pos hA]
      rw [e0] at H
      (refine LL.nilS ?_; refine CC.seq ?_; refine CC.region ?_; refine LL.val (R.move rfl rfl) rfl rfl rfl ?_; refine LL.val (R.move rfl rfl) rfl rfl rfl ?_; refine LL.val (R.move rfl rfl) rfl rfl rfl ?_)
      refine LL.call (R.call rfl rfl rfl) rfl rfl rfl (H) ?_
      rintro e W ⟨rfl, b⟩
      refine ⟨_, rfl, ?_⟩
      have hsz_ := b.size
      replace q := q.trans (b.mono q.size)
      replace r6 := r6.up b
      replace r7 := r7.up b
      replace r11 := r11.up b
      replace r13 := r13.up b
      replace hE1 := defer_up hE1 b
      (refine LL.val (R.move rfl rfl) rfl rfl rfl ?_; refine LL.val (R.extract rfl rfl rfl) rfl rfl rfl ?_; refine LL.val (R.extract rfl rfl rfl) rfl rfl rfl ?_; refine LL.val (R.assign rfl rfl) rfl rfl rfl ?_; refine LL.val (R.assign rfl rfl) rfl rfl rfl ?_; refine LL.nilS ?_; refine CC.seq ?_; refine CC.seq ?_; refine CC.region ?_; refine LL.val (R.move rfl rfl) rfl rfl rfl ?_; refine LL.val (R.ltT rfl rfl rfl (by omega)) rfl rfl rfl ?_; refine LL.val (R.move rfl rfl) rfl rfl rfl ?_; refine LL.skip rfl rfl ?_; refine LL.skip rfl rfl ?_; refine LL.val (R.pick rfl rfl rfl) rfl rfl rfl ?_; refine LL.val (R.move rfl rfl) rfl rfl rfl ?_; refine LL.skip rfl rfl ?_; refine LL.skip rfl rfl ?_; refine LL.skip rfl rfl ?_; refine LL.val (R.pick rfl rfl rfl) rfl rfl rfl ?_; refine LL.nilS ?_; refine CC.yes rfl ?_; refine CC.seq ?_; refine CC.region ?_; refine LL.val (R.move rfl rfl) rfl rfl rfl ?_)
      refine LL.call (R.call rfl rfl rfl) rfl rfl rfl (num_any _ _) ?_
      rintro e W ⟨rfl, rfl⟩
      refine ⟨_, rfl, ?_⟩
      (refine LL.val (R.eqT rfl rfl rfl (by omega)) rfl rfl rfl ?_; refine LL.val (R.move rfl rfl) rfl rfl rfl ?_; refine LL.skip rfl rfl ?_; refine LL.skip rfl rfl ?_; refine LL.skip rfl rfl ?_; refine LL.val (R.pick rfl rfl rfl) rfl rfl rfl ?_; refine LL.val (R.move rfl rfl) rfl rfl rfl ?_; refine LL.val (R.load rfl rfl (I.ld1 rfl (RowL.cell (by assumption) rfl))) rfl rfl rfl ?_; refine LL.val (R.load rfl rfl (I.ld1 rfl (RowL.cell (by assumption) rfl))) rfl rfl rfl ?_; refine LL.val (R.eqT rfl rfl rfl (by omega)) rfl rfl rfl ?_; refine LL.val (R.pick rfl rfl rfl) rfl rfl rfl ?_; refine LL.val (R.move rfl rfl) rfl rfl rfl ?_)
      refine LL.call (R.call rfl rfl rfl) rfl rfl rfl (works_any _) ?_
      rintro e W ⟨rfl, b⟩
      refine ⟨_, rfl, ?_⟩
      have hsz_ := b.size
      replace q := q.trans (b.mono q.size)
      replace r6 := r6.up b
      replace hE1 := defer_up hE1 b
      (refine LL.val (R.pick rfl rfl rfl) rfl rfl rfl ?_)
      refine LL.store  rfl rfl rfl rfl r6 (by exact Nat.le_of_ble_eq_true rfl) rfl rfl rfl rfl ?_
      intro W r_ gr_ zr_
      have hgl_ := r6.lt
      replace q := q.grown gr_ q.size (by rintro k ⟨⟩; omega)
      replace r6 := r_
      replace hE1 := (gr_.block E (Array.getElem?_eq_some_iff.1 hE1).1 (by simp; omega)).trans hE1
      (refine LL.nilS ?_; refine CC.ret ?_; refine EE.thenR ?_)
      refine EE.retN1 hE1 rfl ⟨_, rfl, lv1 rfl ((taken_up r6 (by omega)).cell rfl)⟩ ?_
      exact ⟨rfl, taken_bel q hwE (Nat.le_refl _)⟩
    by_cases hA2 : fr < 0
    · have e0 : findP (fun i => wb l i == false) bits many fr = (0, 4) := by unfold findP; rw [if_neg hA, if_pos (.inl hA2)]
      rw [e0] at H
      (refine LL.nilS ?_; refine CC.seq ?_; refine CC.region ?_; refine LL.val (R.move rfl rfl) rfl rfl rfl ?_; refine LL.val (R.move rfl rfl) rfl rfl rfl ?_; refine LL.val (R.move rfl rfl) rfl rfl rfl ?_)
      refine LL.call (R.call rfl rfl rfl) rfl rfl rfl (H) ?_
      rintro e W ⟨rfl, b⟩
      refine ⟨_, rfl, ?_⟩
      have hsz_ := b.size
      replace q := q.trans (b.mono q.size)
      replace r6 := r6.up b
      replace r7 := r7.up b
      replace r11 := r11.up b
      replace r13 := r13.up b
      replace hE1 := defer_up hE1 b
      (refine LL.val (R.move rfl rfl) rfl rfl rfl ?_; refine LL.val (R.extract rfl rfl rfl) rfl rfl rfl ?_; refine LL.val (R.extract rfl rfl rfl) rfl rfl rfl ?_; refine LL.val (R.assign rfl rfl) rfl rfl rfl ?_; refine LL.val (R.assign rfl rfl) rfl rfl rfl ?_; refine LL.nilS ?_; refine CC.seq ?_; refine CC.seq ?_; refine CC.region ?_; refine LL.val (R.move rfl rfl) rfl rfl rfl ?_; refine LL.val (R.ltF rfl rfl rfl (by omega)) rfl rfl rfl ?_; refine LL.val (R.move rfl rfl) rfl rfl rfl ?_; refine LL.val (R.move rfl rfl) rfl rfl rfl ?_; refine LL.val (R.ltT rfl rfl rfl (by omega)) rfl rfl rfl ?_; refine LL.val (R.pick rfl rfl rfl) rfl rfl rfl ?_; refine LL.val (R.move rfl rfl) rfl rfl rfl ?_; refine LL.skip rfl rfl ?_; refine LL.skip rfl rfl ?_; refine LL.skip rfl rfl ?_; refine LL.val (R.pick rfl rfl rfl) rfl rfl rfl ?_; refine LL.nilS ?_; refine CC.yes rfl ?_; refine CC.seq ?_; refine CC.region ?_; refine LL.val (R.move rfl rfl) rfl rfl rfl ?_)
      refine LL.call (R.call rfl rfl rfl) rfl rfl rfl (num_any _ _) ?_
      rintro e W ⟨rfl, rfl⟩
      refine ⟨_, rfl, ?_⟩
      (refine LL.val (R.eqF rfl rfl rfl (by omega)) rfl rfl rfl ?_; refine LL.val (R.move rfl rfl) rfl rfl rfl ?_; refine LL.val (R.move rfl rfl) rfl rfl rfl ?_)
      refine LL.call (R.call rfl rfl rfl) rfl rfl rfl (num_any _ _) ?_
      rintro e W ⟨rfl, rfl⟩
      refine ⟨_, rfl, ?_⟩
      (refine LL.val (R.eqT rfl rfl rfl (by omega)) rfl rfl rfl ?_; refine LL.val (R.pick rfl rfl rfl) rfl rfl rfl ?_; refine LL.val (R.move rfl rfl) rfl rfl rfl ?_; refine LL.val (R.load rfl rfl (I.ld1 rfl (RowL.cell (by assumption) rfl))) rfl rfl rfl ?_; refine LL.val (R.load rfl rfl (I.ld1 rfl (RowL.cell (by assumption) rfl))) rfl rfl rfl ?_; refine LL.val (R.eqT rfl rfl rfl (by omega)) rfl rfl rfl ?_; refine LL.val (R.pick rfl rfl rfl) rfl rfl rfl ?_; refine LL.val (R.move rfl rfl) rfl rfl rfl ?_)
      refine LL.call (R.call rfl rfl rfl) rfl rfl rfl (works_any _) ?_
      rintro e W ⟨rfl, b⟩
      refine ⟨_, rfl, ?_⟩
      have hsz_ := b.size
      replace q := q.trans (b.mono q.size)
      replace r6 := r6.up b
      replace hE1 := defer_up hE1 b
      (refine LL.val (R.pick rfl rfl rfl) rfl rfl rfl ?_)
      refine LL.store  rfl rfl rfl rfl r6 (by exact Nat.le_of_ble_eq_true rfl) rfl rfl rfl rfl ?_
      intro W r_ gr_ zr_
      have hgl_ := r6.lt
      replace q := q.grown gr_ q.size (by rintro k ⟨⟩; omega)
      replace r6 := r_
      replace hE1 := (gr_.block E (Array.getElem?_eq_some_iff.1 hE1).1 (by simp; omega)).trans hE1
      (refine LL.nilS ?_; refine CC.ret ?_; refine EE.thenR ?_)
      refine EE.retN1 hE1 rfl ⟨_, rfl, lv1 rfl ((taken_up r6 (by omega)).cell rfl)⟩ ?_
      exact ⟨rfl, taken_bel q hwE (Nat.le_refl _)⟩
    by_cases hA3 : (bits : Int) ≤ fr
    · have e0 : findP (fun i => wb l i == false) bits many fr = (0, 4) := by unfold findP; rw [if_neg hA, if_pos (.inr hA3)]
      rw [e0] at H
      (refine LL.nilS ?_; refine CC.seq ?_; refine CC.region ?_; refine LL.val (R.move rfl rfl) rfl rfl rfl ?_; refine LL.val (R.move rfl rfl) rfl rfl rfl ?_; refine LL.val (R.move rfl rfl) rfl rfl rfl ?_)
      refine LL.call (R.call rfl rfl rfl) rfl rfl rfl (H) ?_
      rintro e W ⟨rfl, b⟩
      refine ⟨_, rfl, ?_⟩
      have hsz_ := b.size
      replace q := q.trans (b.mono q.size)
      replace r6 := r6.up b
      replace r7 := r7.up b
      replace r11 := r11.up b
      replace r13 := r13.up b
      replace hE1 := defer_up hE1 b
      (refine LL.val (R.move rfl rfl) rfl rfl rfl ?_; refine LL.val (R.extract rfl rfl rfl) rfl rfl rfl ?_; refine LL.val (R.extract rfl rfl rfl) rfl rfl rfl ?_; refine LL.val (R.assign rfl rfl) rfl rfl rfl ?_; refine LL.val (R.assign rfl rfl) rfl rfl rfl ?_; refine LL.nilS ?_; refine CC.seq ?_; refine CC.seq ?_; refine CC.region ?_; refine LL.val (R.move rfl rfl) rfl rfl rfl ?_; refine LL.val (R.ltF rfl rfl rfl (by omega)) rfl rfl rfl ?_; refine LL.val (R.move rfl rfl) rfl rfl rfl ?_; refine LL.val (R.move rfl rfl) rfl rfl rfl ?_; refine LL.val (R.ltF rfl rfl rfl (by omega)) rfl rfl rfl ?_; refine LL.val (R.pick rfl rfl rfl) rfl rfl rfl ?_; refine LL.val (R.move rfl rfl) rfl rfl rfl ?_; refine LL.val (R.move rfl rfl) rfl rfl rfl ?_; refine LL.val (R.load rfl rfl (I.ld1 rfl (RowL.cell (by assumption) rfl))) rfl rfl rfl ?_; refine LL.val (R.geT rfl rfl rfl (by omega)) rfl rfl rfl ?_; refine LL.val (R.pick rfl rfl rfl) rfl rfl rfl ?_; refine LL.nilS ?_; refine CC.yes rfl ?_; refine CC.seq ?_; refine CC.region ?_; refine LL.val (R.move rfl rfl) rfl rfl rfl ?_)
      refine LL.call (R.call rfl rfl rfl) rfl rfl rfl (num_any _ _) ?_
      rintro e W ⟨rfl, rfl⟩
      refine ⟨_, rfl, ?_⟩
      (refine LL.val (R.eqF rfl rfl rfl (by omega)) rfl rfl rfl ?_; refine LL.val (R.move rfl rfl) rfl rfl rfl ?_; refine LL.val (R.move rfl rfl) rfl rfl rfl ?_)
      refine LL.call (R.call rfl rfl rfl) rfl rfl rfl (num_any _ _) ?_
      rintro e W ⟨rfl, rfl⟩
      refine ⟨_, rfl, ?_⟩
      (refine LL.val (R.eqT rfl rfl rfl (by omega)) rfl rfl rfl ?_; refine LL.val (R.pick rfl rfl rfl) rfl rfl rfl ?_; refine LL.val (R.move rfl rfl) rfl rfl rfl ?_; refine LL.val (R.load rfl rfl (I.ld1 rfl (RowL.cell (by assumption) rfl))) rfl rfl rfl ?_; refine LL.val (R.load rfl rfl (I.ld1 rfl (RowL.cell (by assumption) rfl))) rfl rfl rfl ?_; refine LL.val (R.eqT rfl rfl rfl (by omega)) rfl rfl rfl ?_; refine LL.val (R.pick rfl rfl rfl) rfl rfl rfl ?_; refine LL.val (R.move rfl rfl) rfl rfl rfl ?_)
      refine LL.call (R.call rfl rfl rfl) rfl rfl rfl (works_any _) ?_
      rintro e W ⟨rfl, b⟩
      refine ⟨_, rfl, ?_⟩
      have hsz_ := b.size
      replace q := q.trans (b.mono q.size)
      replace r6 := r6.up b
      replace hE1 := defer_up hE1 b
      (refine LL.val (R.pick rfl rfl rfl) rfl rfl rfl ?_)
      refine LL.store  rfl rfl rfl rfl r6 (by exact Nat.le_of_ble_eq_true rfl) rfl rfl rfl rfl ?_
      intro W r_ gr_ zr_
      have hgl_ := r6.lt
      replace q := q.grown gr_ q.size (by rintro k ⟨⟩; omega)
      replace r6 := r_
      replace hE1 := (gr_.block E (Array.getElem?_eq_some_iff.1 hE1).1 (by simp; omega)).trans hE1
      (refine LL.nilS ?_; refine CC.ret ?_; refine EE.thenR ?_)
      refine EE.retN1 hE1 rfl ⟨_, rfl, lv1 rfl ((taken_up r6 (by omega)).cell rfl)⟩ ?_
      exact ⟨rfl, taken_bel q hwE (Nat.le_refl _)⟩
    rcases find_cases l bits many fr (by omega) (by omega) (by omega) with ⟨e0, hno⟩ | ⟨k, e0, hk, hfree⟩
    · rw [e0] at H
      obtain ⟨k1, hk1, hk2⟩ := hsome
      have hlong : zz < many := by rw [hz]; exact hno k1 _ hk1 hk2
      (refine LL.nilS ?_; refine CC.seq ?_; refine CC.region ?_; refine LL.val (R.move rfl rfl) rfl rfl rfl ?_; refine LL.val (R.move rfl rfl) rfl rfl rfl ?_; refine LL.val (R.move rfl rfl) rfl rfl rfl ?_)
      refine LL.call (R.call rfl rfl rfl) rfl rfl rfl (H) ?_
      rintro e W ⟨rfl, b⟩
      refine ⟨_, rfl, ?_⟩
      have hsz_ := b.size
      replace q := q.trans (b.mono q.size)
      replace r6 := r6.up b
      replace r7 := r7.up b
      replace r11 := r11.up b
      replace r13 := r13.up b
      replace hE1 := defer_up hE1 b
      (refine LL.val (R.move rfl rfl) rfl rfl rfl ?_; refine LL.val (R.extract rfl rfl rfl) rfl rfl rfl ?_; refine LL.val (R.extract rfl rfl rfl) rfl rfl rfl ?_; refine LL.val (R.assign rfl rfl) rfl rfl rfl ?_; refine LL.val (R.assign rfl rfl) rfl rfl rfl ?_; refine LL.nilS ?_; refine CC.seq ?_; refine CC.seq ?_; refine CC.region ?_; refine LL.val (R.move rfl rfl) rfl rfl rfl ?_; refine LL.val (R.ltF rfl rfl rfl (by omega)) rfl rfl rfl ?_; refine LL.val (R.move rfl rfl) rfl rfl rfl ?_; refine LL.val (R.move rfl rfl) rfl rfl rfl ?_; refine LL.val (R.ltF rfl rfl rfl (by omega)) rfl rfl rfl ?_; refine LL.val (R.pick rfl rfl rfl) rfl rfl rfl ?_; refine LL.val (R.move rfl rfl) rfl rfl rfl ?_; refine LL.val (R.move rfl rfl) rfl rfl rfl ?_; refine LL.val (R.load rfl rfl (I.ld1 rfl (RowL.cell (by assumption) rfl))) rfl rfl rfl ?_; refine LL.val (R.geF rfl rfl rfl (by omega)) rfl rfl rfl ?_; refine LL.val (R.pick rfl rfl rfl) rfl rfl rfl ?_; refine LL.nilS ?_; refine CC.no rfl ?_; refine CC.skip ?_; refine EE.thenN ?_; refine CC.seq ?_; refine CC.seq ?_; refine CC.region ?_; refine LL.val (R.move rfl rfl) rfl rfl rfl ?_)
      refine LL.call (R.call rfl rfl rfl) rfl rfl rfl (num_any _ _) ?_
      rintro e W ⟨rfl, rfl⟩
      refine ⟨_, rfl, ?_⟩
      (refine LL.val (R.eqT rfl rfl rfl (by omega)) rfl rfl rfl ?_; refine LL.nilS ?_; refine CC.yes rfl ?_; refine CC.seq ?_; refine CC.region ?_; refine LL.val (R.load rfl rfl (I.ld1 rfl (RowL.cell (by assumption) rfl))) rfl rfl rfl ?_; refine LL.val (R.move rfl rfl) rfl rfl rfl ?_; refine LL.val (R.ltT rfl rfl rfl (by omega)) rfl rfl rfl ?_; refine LL.val (R.move rfl rfl) rfl rfl rfl ?_; refine LL.val (R.load rfl rfl (I.ld1 rfl (RowL.cell (by assumption) rfl))) rfl rfl rfl ?_; refine LL.val (R.load rfl rfl (I.ld1 rfl (RowL.cell (by assumption) rfl))) rfl rfl rfl ?_; refine LL.val (R.eqT rfl rfl rfl (by omega)) rfl rfl rfl ?_; refine LL.val (R.pick rfl rfl rfl) rfl rfl rfl ?_; refine LL.val (R.move rfl rfl) rfl rfl rfl ?_)
      refine LL.call (R.call rfl rfl rfl) rfl rfl rfl (works_any _) ?_
      rintro e W ⟨rfl, b⟩
      refine ⟨_, rfl, ?_⟩
      have hsz_ := b.size
      replace q := q.trans (b.mono q.size)
      replace r6 := r6.up b
      replace hE1 := defer_up hE1 b
      (refine LL.val (R.pick rfl rfl rfl) rfl rfl rfl ?_)
      refine LL.store  rfl rfl rfl rfl r6 (by exact Nat.le_of_ble_eq_true rfl) rfl rfl rfl rfl ?_
      intro W r_ gr_ zr_
      have hgl_ := r6.lt
      replace q := q.grown gr_ q.size (by rintro k ⟨⟩; omega)
      replace r6 := r_
      replace hE1 := (gr_.block E (Array.getElem?_eq_some_iff.1 hE1).1 (by simp; omega)).trans hE1
      (refine LL.nilS ?_; refine CC.ret ?_; refine EE.thenR ?_)
      refine EE.retN1 hE1 rfl ⟨_, rfl, lv1 rfl ((taken_up r6 (by omega)).cell rfl)⟩ ?_
      exact ⟨rfl, taken_bel q hwE (Nat.le_refl _)⟩
    · rw [e0] at H
      obtain ⟨mm, rfl⟩ : ∃ n : Nat, many = n := ⟨many.toNat, by omega⟩
      have hlong : (mm : Int) ≤ zz := by
        rw [hz]
        have := hmost (k := k) (m := mm) (by omega) (fun i hi => hfree i (by omega))
        omega
      (refine LL.nilS ?_; refine CC.seq ?_; refine CC.region ?_; refine LL.val (R.move rfl rfl) rfl rfl rfl ?_; refine LL.val (R.move rfl rfl) rfl rfl rfl ?_; refine LL.val (R.move rfl rfl) rfl rfl rfl ?_)
      refine LL.call (R.call rfl rfl rfl) rfl rfl rfl (H) ?_
      rintro e W ⟨rfl, b⟩
      refine ⟨_, rfl, ?_⟩
      have hsz_ := b.size
      replace q := q.trans (b.mono q.size)
      replace r6 := r6.up b
      replace r7 := r7.up b
      replace r11 := r11.up b
      replace r13 := r13.up b
      replace hE1 := defer_up hE1 b
      replace h := h.up b
      (refine LL.val (R.move rfl rfl) rfl rfl rfl ?_; refine LL.val (R.extract rfl rfl rfl) rfl rfl rfl ?_; refine LL.val (R.extract rfl rfl rfl) rfl rfl rfl ?_; refine LL.val (R.assign rfl rfl) rfl rfl rfl ?_; refine LL.val (R.assign rfl rfl) rfl rfl rfl ?_; refine LL.nilS ?_; refine CC.seq ?_; refine CC.seq ?_; refine CC.region ?_; refine LL.val (R.move rfl rfl) rfl rfl rfl ?_; refine LL.val (R.ltF rfl rfl rfl (by omega)) rfl rfl rfl ?_; refine LL.val (R.move rfl rfl) rfl rfl rfl ?_; refine LL.val (R.move rfl rfl) rfl rfl rfl ?_; refine LL.val (R.ltF rfl rfl rfl (by omega)) rfl rfl rfl ?_; refine LL.val (R.pick rfl rfl rfl) rfl rfl rfl ?_; refine LL.val (R.move rfl rfl) rfl rfl rfl ?_; refine LL.val (R.move rfl rfl) rfl rfl rfl ?_; refine LL.val (R.load rfl rfl (I.ld1 rfl (RowL.cell (by assumption) rfl))) rfl rfl rfl ?_; refine LL.val (R.geF rfl rfl rfl (by omega)) rfl rfl rfl ?_; refine LL.val (R.pick rfl rfl rfl) rfl rfl rfl ?_; refine LL.nilS ?_; refine CC.no rfl ?_; refine CC.skip ?_; refine EE.thenN ?_; refine CC.seq ?_; refine CC.seq ?_; refine CC.region ?_; refine LL.val (R.move rfl rfl) rfl rfl rfl ?_)
      refine LL.call (R.call rfl rfl rfl) rfl rfl rfl (num_any _ _) ?_
      rintro e W ⟨rfl, rfl⟩
      refine ⟨_, rfl, ?_⟩
      obtain ⟨WL, rfl⟩ : ∃ X, X = W := ⟨_, rfl⟩
      (refine LL.val (R.eqF rfl rfl rfl (by omega)) rfl rfl rfl ?_; refine LL.nilS ?_; refine CC.no rfl ?_; refine CC.skip ?_; refine EE.thenN ?_; refine CC.seq ?_; refine CC.seq ?_; refine CC.region ?_; refine LL.val (R.move rfl rfl) rfl rfl rfl ?_; refine LL.val (R.assign rfl rfl) rfl rfl rfl ?_; refine LL.nilS ?_; refine CC.block ?_)
      refine CC.loop (α := Nat) (fun i => [(1, .int .i64 (mm : Int)), (6, .pointer (some ⟨g6, 0, none⟩)), (7, .pointer (some ⟨g7, 0, none⟩)), (8, .pointer (some ⟨gm, 0, none⟩)), (11, .pointer (some ⟨g11, 0, none⟩)), (13, .pointer (some ⟨g13, 0, none⟩)), (15, .int .i64 (k : Int)), (16, .int .i64 0), (17, .int .i64 (i : Int))]) (fun i W => Below WL.heap.size WL W ∧ k ≤ i ∧ i ≤ k + mm) (fun i => k + mm - i) k ⟨rfl, rfl, rfl, rfl, rfl, rfl, rfl, rfl, rfl, trivial⟩ ⟨Below.refl _ _, Nat.le_refl _, by omega⟩ ?_
      rintro i W ⟨hbw, hi1, hi2⟩
      have r6 := r6.up hbw
      have r7 := r7.up hbw
      have r11 := r11.up hbw
      have r13 := r13.up hbw
      have hE1 := defer_up hE1 hbw
      have h := h.up hbw
      have c7 := r7.cell (j := 0) rfl
      by_cases hlt : i < k + mm
      · have G := get_made (i : Int) W h
        rw [if_neg (by omega), Int.toNat_natCast, show wb l i = false by have := hfree (i - k) (by omega); rwa [show k + (i - k) = i by omega] at this] at G
        (refine CC.seq ?_; refine CC.seq ?_; refine CC.region ?_; refine LL.val (R.move rfl rfl) rfl rfl rfl ?_; refine LL.val (R.move rfl rfl) rfl rfl rfl ?_; refine LL.val (R.move rfl rfl) rfl rfl rfl ?_; refine LL.val (R.addN rfl rfl rfl (by omega)) rfl rfl rfl ?_; refine LL.val (R.ltT rfl rfl rfl (by omega)) rfl rfl rfl ?_; refine LL.val (R.move rfl rfl) rfl rfl rfl ?_; refine LL.val (R.move rfl rfl) rfl rfl rfl ?_; refine LL.val (R.load rfl rfl (I.ld1 rfl (by assumption))) rfl rfl rfl ?_; refine LL.val (R.ltT rfl rfl rfl (by omega)) rfl rfl rfl ?_; refine LL.val (R.pick rfl rfl rfl) rfl rfl rfl ?_; refine LL.nilS ?_; refine CC.yes rfl ?_; refine CC.skip ?_; refine EE.thenN ?_; refine CC.seq ?_; refine CC.block ?_; refine CC.seq ?_; refine CC.region ?_; refine LL.val (R.move rfl rfl) rfl rfl rfl ?_; refine LL.val (R.move rfl rfl) rfl rfl rfl ?_)
        refine LL.call (R.call rfl rfl rfl) rfl rfl rfl (G) ?_
        rintro e W ⟨rfl, b⟩
        refine ⟨_, rfl, ?_⟩
        have hbw := hbw.trans (b.mono hbw.size)
        (refine LL.val (R.move rfl rfl) rfl rfl rfl ?_; refine LL.val (R.extract rfl rfl rfl) rfl rfl rfl ?_; refine LL.val (R.extract rfl rfl rfl) rfl rfl rfl ?_; refine LL.val (R.assign rfl rfl) rfl rfl rfl ?_; refine LL.val (R.assign rfl rfl) rfl rfl rfl ?_; refine LL.nilS ?_; refine CC.seq ?_; refine CC.region ?_; refine LL.val (R.move rfl rfl) rfl rfl rfl ?_)
        refine LL.call (R.call rfl rfl rfl) rfl rfl rfl (num_any _ _) ?_
        rintro e W ⟨rfl, rfl⟩
        refine ⟨_, rfl, ?_⟩
        (refine LL.val (R.neF rfl rfl rfl (by omega)) rfl rfl rfl ?_; refine LL.val (R.move rfl rfl) rfl rfl rfl ?_; refine LL.val (R.move rfl rfl) rfl rfl rfl ?_; refine LL.val (R.pick rfl rfl rfl) rfl rfl rfl ?_; refine LL.nilS ?_; refine CC.no rfl ?_; refine CC.skip ?_; refine EE.inN ?_; refine EE.thenN ?_; refine CC.region ?_; refine LL.val (R.move rfl rfl) rfl rfl rfl ?_; refine LL.val (R.addNc rfl rfl rfl rfl (by omega)) rfl rfl rfl ?_; refine LL.val (R.assign rfl rfl) rfl rfl rfl ?_; refine LL.nil ?_)
        exact EE.round (i + 1) ⟨rfl, rfl, rfl, rfl, rfl, rfl, rfl, rfl, rfl, trivial⟩ ⟨hbw, by omega, by omega⟩ (by omega)
      · have q : Below w.heap.size w W := q.trans (hbw.mono q.size)
        have hsz := hbw.size
        (refine CC.seq ?_; refine CC.seq ?_; refine CC.region ?_; refine LL.val (R.move rfl rfl) rfl rfl rfl ?_; refine LL.val (R.move rfl rfl) rfl rfl rfl ?_; refine LL.val (R.move rfl rfl) rfl rfl rfl ?_; refine LL.val (R.addN rfl rfl rfl (by omega)) rfl rfl rfl ?_; refine LL.val (R.ltF rfl rfl rfl (by omega)) rfl rfl rfl ?_; refine LL.val (R.move rfl rfl) rfl rfl rfl ?_; refine LL.skip rfl rfl ?_; refine LL.skip rfl rfl ?_; refine LL.skip rfl rfl ?_; refine LL.val (R.pick rfl rfl rfl) rfl rfl rfl ?_; refine LL.nilS ?_; refine CC.no rfl ?_; refine CC.exit ?_; refine EE.thenX ?_; refine EE.thenX ?_; refine EE.inX ?_; refine EE.thenN ?_; refine CC.seq ?_; refine CC.region ?_; refine LL.val (R.move rfl rfl) rfl rfl rfl ?_)
        refine LL.call (R.call rfl rfl rfl) rfl rfl rfl (num_any _ _) ?_
        rintro e W ⟨rfl, rfl⟩
        refine ⟨_, rfl, ?_⟩
        (refine LL.val (R.eqT rfl rfl rfl (by omega)) rfl rfl rfl ?_; refine LL.val (R.move rfl rfl) rfl rfl rfl ?_; refine LL.val (R.move rfl rfl) rfl rfl rfl ?_; refine LL.val (R.geT rfl rfl rfl (by omega)) rfl rfl rfl ?_; refine LL.val (R.pick rfl rfl rfl) rfl rfl rfl ?_; refine LL.val (R.move rfl rfl) rfl rfl rfl ?_; refine LL.val (R.move rfl rfl) rfl rfl rfl ?_; refine LL.val (R.load rfl rfl (I.ld1 rfl (by assumption))) rfl rfl rfl ?_; refine LL.val (R.move rfl rfl) rfl rfl rfl ?_; refine LL.val (R.subN rfl rfl rfl (by omega) (by omega)) rfl rfl rfl ?_; refine LL.val (R.leT rfl rfl rfl (by omega)) rfl rfl rfl ?_; refine LL.val (R.pick rfl rfl rfl) rfl rfl rfl ?_; refine LL.val (R.move rfl rfl) rfl rfl rfl ?_; refine LL.val (R.load rfl rfl (I.ld1 rfl (RowL.cell (by assumption) rfl))) rfl rfl rfl ?_; refine LL.val (R.move rfl rfl) rfl rfl rfl ?_; refine LL.val (R.geT rfl rfl rfl (by omega)) rfl rfl rfl ?_; refine LL.val (R.pick rfl rfl rfl) rfl rfl rfl ?_; refine LL.val (R.move rfl rfl) rfl rfl rfl ?_; refine LL.val (R.load rfl rfl (I.ld1 rfl (RowL.cell (by assumption) rfl))) rfl rfl rfl ?_; refine LL.val (R.load rfl rfl (I.ld1 rfl (by assumption))) rfl rfl rfl ?_; refine LL.val (R.eqT rfl rfl rfl (by omega)) rfl rfl rfl ?_; refine LL.val (R.pick rfl rfl rfl) rfl rfl rfl ?_; refine LL.val (R.move rfl rfl) rfl rfl rfl ?_)
        refine LL.call (R.call rfl rfl rfl) rfl rfl rfl (works_any _) ?_
        rintro e W ⟨rfl, b⟩
        refine ⟨_, rfl, ?_⟩
        have hsz_ := b.size
        replace q := q.trans (b.mono q.size)
        replace r6 := r6.up b
        replace hE1 := defer_up hE1 b
        (refine LL.val (R.pick rfl rfl rfl) rfl rfl rfl ?_)
        refine LL.store  rfl rfl rfl rfl r6 (by exact Nat.le_of_ble_eq_true rfl) rfl rfl rfl rfl ?_
        intro W r_ gr_ zr_
        have hgl_ := r6.lt
        replace q := q.grown gr_ q.size (by rintro k ⟨⟩; omega)
        replace r6 := r_
        replace hE1 := (gr_.block E (Array.getElem?_eq_some_iff.1 hE1).1 (by simp; omega)).trans hE1
        (refine LL.nilS ?_; refine CC.ret ?_)
        refine EE.retN1 hE1 rfl ⟨_, rfl, lv1 rfl ((taken_up r6 (by omega)).cell rfl)⟩ ?_
        exact ⟨rfl, taken_bel q hwE (Nat.le_refl _)⟩
end Go.Proofs.Ytojoaplbgcdapaa
