/- What the statements' walks use: Sc6, Sc7, Sc8. -/

import Derived.Test.YtloflmkolnediaaMlc
/- scan: the loads of a reader, one by one; Look, Trace. -/
namespace Go.Proofs.Ytloflmkolnediaa
set_option linter.unusedVariables false
set_option linter.unusedSimpArgs false
open Go.RowKit Go.Shelf
set_option maxRecDepth 100000
set_option maxHeartbeats 8000000
theorem uclone_any (v : Value) (xs : List Nat) (w : World) (ha : ReadsT uE 1 w v xs) (hl : xs.length ≤ 1048576) :
    Calls Try.prog 46 #[v] w fun e w' => ∃ v', e = .returned v' ∧ OwnsT uE 1 w' w.heap.size 23 v' xs ∧ Below w.heap.size w w' := by
  obtain ⟨a, cap, rfl, hc⟩ := ha.form rfl
  refine X.fn Try.func46 rfl (n := 8) rfl rfl ?_
  (repeat (first | (first | refine CC.seq ?_ | refine CC.region ?_ | refine LL.nilS ?_ | refine CC.yes rfl ?_ | refine CC.no rfl ?_ | refine CC.block ?_ | refine EE.thenN ?_ | refine LL.nil ?_ | refine CC.exit ?_ | refine CC.ret ?_ | refine CC.skip ?_ | refine EE.thenX ?_ | refine EE.thenR ?_ | refine EE.inN ?_ | refine EE.inX ?_ | refine EE.inX' rfl ?_ | refine EE.inR ?_ | refine CC.label ?_ | refine EE.thenG ?_ | refine EE.inG ?_) | (first | refine LL.val (R.move rfl rfl) rfl rfl rfl ?_ | refine LL.val (R.assign rfl rfl) rfl rfl rfl ?_ | refine LL.val (R.nil rfl rfl) rfl rfl rfl ?_ | refine LL.val (R.field rfl rfl (I.fld rfl)) rfl rfl rfl ?_ | refine LL.val (R.load rfl rfl (I.ld1 rfl (by assumption))) rfl rfl rfl ?_ | refine LL.val (R.load rfl rfl (I.ld1 rfl (RowL.cell (by assumption) rfl))) rfl rfl rfl ?_ | refine LL.val (R.index rfl rfl rfl (I.ixA1c rfl rfl (by first | omega | decide))) rfl rfl rfl ?_ | refine LL.val (R.index rfl rfl rfl (I.ixS1c rfl rfl (by omega))) rfl rfl rfl ?_ | refine LL.val (R.index rfl rfl rfl (I.ixAc rfl rfl (by first | omega | decide))) rfl rfl rfl ?_ | refine LL.val (R.index rfl rfl rfl (I.ixSc rfl rfl (by omega))) rfl rfl rfl ?_ | refine LL.val (R.index rfl rfl rfl (I.ixA1 rfl (by omega))) rfl rfl rfl ?_ | refine LL.val (R.index rfl rfl rfl (I.ixS1 rfl (by omega))) rfl rfl rfl ?_ | refine LL.val (R.index rfl rfl rfl (I.ixA rfl (by omega))) rfl rfl rfl ?_ | refine LL.val (R.index rfl rfl rfl (I.ixS rfl (by omega))) rfl rfl rfl ?_ | refine LL.val (R.ltT rfl rfl rfl (by omega)) rfl rfl rfl ?_ | refine LL.val (R.ltF rfl rfl rfl (by omega)) rfl rfl rfl ?_ | refine LL.val (R.addNc rfl rfl rfl rfl (by omega)) rfl rfl rfl ?_ | refine LL.val (R.subNc rfl rfl rfl rfl (by omega) (by omega)) rfl rfl rfl ?_ | refine LL.val (R.addN rfl rfl rfl (by omega)) rfl rfl rfl ?_ | refine LL.val (R.subN rfl rfl rfl (by omega) (by omega)) rfl rfl rfl ?_ | refine LL.val (R.subcN rfl rfl rfl rfl (by omega) (by omega)) rfl rfl rfl ?_ | refine LL.val (R.addI rfl rfl rfl (by omega)) rfl rfl rfl ?_ | refine LL.val (R.subI rfl rfl rfl (by omega)) rfl rfl rfl ?_ | refine LL.val (R.mulNc rfl rfl rfl rfl (by omega)) rfl rfl rfl ?_ | refine LL.val (R.mulcN rfl rfl rfl rfl (by omega)) rfl rfl rfl ?_ | refine LL.val (R.quoNc rfl rfl rfl rfl (by omega) (by omega)) rfl rfl rfl ?_ | refine LL.val (R.remNc rfl rfl rfl rfl (by omega)) rfl rfl rfl ?_ | refine LL.val (R.mulN rfl rfl rfl (by omega)) rfl rfl rfl ?_ | refine LL.val (R.quoN rfl rfl rfl (by omega) (by omega)) rfl rfl rfl ?_ | refine LL.val (R.remN rfl rfl rfl (by omega)) rfl rfl rfl ?_ | refine LL.val (R.leT rfl rfl rfl (by omega)) rfl rfl rfl ?_ | refine LL.val (R.leF rfl rfl rfl (by omega)) rfl rfl rfl ?_ | refine LL.val (R.gtT rfl rfl rfl (by omega)) rfl rfl rfl ?_ | refine LL.val (R.gtF rfl rfl rfl (by omega)) rfl rfl rfl ?_ | refine LL.val (R.geT rfl rfl rfl (by omega)) rfl rfl rfl ?_ | refine LL.val (R.geF rfl rfl rfl (by omega)) rfl rfl rfl ?_ | refine LL.val (R.eqT rfl rfl rfl (by omega)) rfl rfl rfl ?_ | refine LL.val (R.eqF rfl rfl rfl (by omega)) rfl rfl rfl ?_ | refine LL.val (R.neT rfl rfl rfl (by omega)) rfl rfl rfl ?_ | refine LL.val (R.neF rfl rfl rfl (by omega)) rfl rfl rfl ?_ | refine LL.val (R.eqPtr rfl rfl rfl rfl rfl) rfl rfl rfl ?_ | refine LL.val (R.nePtr rfl rfl rfl rfl rfl) rfl rfl rfl ?_ | refine LL.val (R.eqSl rfl rfl rfl rfl rfl) rfl rfl rfl ?_ | refine LL.val (R.neSl rfl rfl rfl rfl rfl) rfl rfl rfl ?_ | refine LL.val (R.eqFn rfl rfl rfl rfl) rfl rfl rfl ?_ | refine LL.val (R.eqBool rfl rfl rfl rfl rfl) rfl rfl rfl ?_ | refine LL.val (R.neBool rfl rfl rfl rfl rfl) rfl rfl rfl ?_ | refine LL.val (R.xorU rfl rfl rfl (by first | omega | decide) (by first | omega | decide)) rfl rfl rfl ?_ | refine LL.val (R.addUN rfl rfl rfl (by omega)) rfl rfl rfl ?_ | refine LL.val (R.not rfl rfl) rfl rfl rfl ?_ | refine LL.val (R.lenS rfl rfl rfl rfl) rfl rfl rfl ?_ | refine LL.val (R.len rfl rfl rfl rfl) rfl rfl rfl ?_ | refine LL.val (R.pick rfl rfl rfl) rfl rfl rfl ?_ | refine LL.val (R.extract rfl rfl rfl) rfl rfl rfl ?_ | refine LL.val (R.func rfl rfl rfl) rfl rfl rfl ?_ | refine LL.val (R.slice rfl rfl rfl rfl rfl (I.slA rfl)) rfl rfl rfl ?_ | refine LL.val (R.slice rfl rfl rfl rfl rfl (I.slAto rfl (by omega))) rfl rfl rfl ?_) | refine LL.skip rfl rfl ?_))
  cases a with
  | none =>
    have hx : xs = [] := by
      obtain ⟨a', cap', e, _, h⟩ := ha
      cases e
      rcases Classical.em (xs = []) with h0 | h0
      · exact h0
      · obtain ⟨_, _, h1, _⟩ := h h0
        cases h1
    subst hx
    (repeat (first | (first | refine CC.seq ?_ | refine CC.region ?_ | refine LL.nilS ?_ | refine CC.yes rfl ?_ | refine CC.no rfl ?_ | refine CC.block ?_ | refine EE.thenN ?_ | refine LL.nil ?_ | refine CC.exit ?_ | refine CC.ret ?_ | refine CC.skip ?_ | refine EE.thenX ?_ | refine EE.thenR ?_ | refine EE.inN ?_ | refine EE.inX ?_ | refine EE.inX' rfl ?_ | refine EE.inR ?_ | refine CC.label ?_ | refine EE.thenG ?_ | refine EE.inG ?_) | (first | refine LL.val (R.move rfl rfl) rfl rfl rfl ?_ | refine LL.val (R.assign rfl rfl) rfl rfl rfl ?_ | refine LL.val (R.nil rfl rfl) rfl rfl rfl ?_ | refine LL.val (R.field rfl rfl (I.fld rfl)) rfl rfl rfl ?_ | refine LL.val (R.load rfl rfl (I.ld1 rfl (by assumption))) rfl rfl rfl ?_ | refine LL.val (R.load rfl rfl (I.ld1 rfl (RowL.cell (by assumption) rfl))) rfl rfl rfl ?_ | refine LL.val (R.index rfl rfl rfl (I.ixA1c rfl rfl (by first | omega | decide))) rfl rfl rfl ?_ | refine LL.val (R.index rfl rfl rfl (I.ixS1c rfl rfl (by omega))) rfl rfl rfl ?_ | refine LL.val (R.index rfl rfl rfl (I.ixAc rfl rfl (by first | omega | decide))) rfl rfl rfl ?_ | refine LL.val (R.index rfl rfl rfl (I.ixSc rfl rfl (by omega))) rfl rfl rfl ?_ | refine LL.val (R.index rfl rfl rfl (I.ixA1 rfl (by omega))) rfl rfl rfl ?_ | refine LL.val (R.index rfl rfl rfl (I.ixS1 rfl (by omega))) rfl rfl rfl ?_ | refine LL.val (R.index rfl rfl rfl (I.ixA rfl (by omega))) rfl rfl rfl ?_ | refine LL.val (R.index rfl rfl rfl (I.ixS rfl (by omega))) rfl rfl rfl ?_ | refine LL.val (R.ltT rfl rfl rfl (by omega)) rfl rfl rfl ?_ | refine LL.val (R.ltF rfl rfl rfl (by omega)) rfl rfl rfl ?_ | refine LL.val (R.addNc rfl rfl rfl rfl (by omega)) rfl rfl rfl ?_ | refine LL.val (R.subNc rfl rfl rfl rfl (by omega) (by omega)) rfl rfl rfl ?_ | refine LL.val (R.addN rfl rfl rfl (by omega)) rfl rfl rfl ?_ | refine LL.val (R.subN rfl rfl rfl (by omega) (by omega)) rfl rfl rfl ?_ | refine LL.val (R.subcN rfl rfl rfl rfl (by omega) (by omega)) rfl rfl rfl ?_ | refine LL.val (R.addI rfl rfl rfl (by omega)) rfl rfl rfl ?_ | refine LL.val (R.subI rfl rfl rfl (by omega)) rfl rfl rfl ?_ | refine LL.val (R.mulNc rfl rfl rfl rfl (by omega)) rfl rfl rfl ?_ | refine LL.val (R.mulcN rfl rfl rfl rfl (by omega)) rfl rfl rfl ?_ | refine LL.val (R.quoNc rfl rfl rfl rfl (by omega) (by omega)) rfl rfl rfl ?_ | refine LL.val (R.remNc rfl rfl rfl rfl (by omega)) rfl rfl rfl ?_ | refine LL.val (R.mulN rfl rfl rfl (by omega)) rfl rfl rfl ?_ | refine LL.val (R.quoN rfl rfl rfl (by omega) (by omega)) rfl rfl rfl ?_ | refine LL.val (R.remN rfl rfl rfl (by omega)) rfl rfl rfl ?_ | refine LL.val (R.leT rfl rfl rfl (by omega)) rfl rfl rfl ?_ | refine LL.val (R.leF rfl rfl rfl (by omega)) rfl rfl rfl ?_ | refine LL.val (R.gtT rfl rfl rfl (by omega)) rfl rfl rfl ?_ | refine LL.val (R.gtF rfl rfl rfl (by omega)) rfl rfl rfl ?_ | refine LL.val (R.geT rfl rfl rfl (by omega)) rfl rfl rfl ?_ | refine LL.val (R.geF rfl rfl rfl (by omega)) rfl rfl rfl ?_ | refine LL.val (R.eqT rfl rfl rfl (by omega)) rfl rfl rfl ?_ | refine LL.val (R.eqF rfl rfl rfl (by omega)) rfl rfl rfl ?_ | refine LL.val (R.neT rfl rfl rfl (by omega)) rfl rfl rfl ?_ | refine LL.val (R.neF rfl rfl rfl (by omega)) rfl rfl rfl ?_ | refine LL.val (R.eqPtr rfl rfl rfl rfl rfl) rfl rfl rfl ?_ | refine LL.val (R.nePtr rfl rfl rfl rfl rfl) rfl rfl rfl ?_ | refine LL.val (R.eqSl rfl rfl rfl rfl rfl) rfl rfl rfl ?_ | refine LL.val (R.neSl rfl rfl rfl rfl rfl) rfl rfl rfl ?_ | refine LL.val (R.eqFn rfl rfl rfl rfl) rfl rfl rfl ?_ | refine LL.val (R.eqBool rfl rfl rfl rfl rfl) rfl rfl rfl ?_ | refine LL.val (R.neBool rfl rfl rfl rfl rfl) rfl rfl rfl ?_ | refine LL.val (R.xorU rfl rfl rfl (by first | omega | decide) (by first | omega | decide)) rfl rfl rfl ?_ | refine LL.val (R.addUN rfl rfl rfl (by omega)) rfl rfl rfl ?_ | refine LL.val (R.not rfl rfl) rfl rfl rfl ?_ | refine LL.val (R.lenS rfl rfl rfl rfl) rfl rfl rfl ?_ | refine LL.val (R.len rfl rfl rfl rfl) rfl rfl rfl ?_ | refine LL.val (R.pick rfl rfl rfl) rfl rfl rfl ?_ | refine LL.val (R.extract rfl rfl rfl) rfl rfl rfl ?_ | refine LL.val (R.func rfl rfl rfl) rfl rfl rfl ?_ | refine LL.val (R.slice rfl rfl rfl rfl rfl (I.slA rfl)) rfl rfl rfl ?_ | refine LL.val (R.slice rfl rfl rfl rfl rfl (I.slAto rfl (by omega))) rfl rfl rfl ?_) | refine LL.skip rfl rfl ?_))
    refine EE.ret _ rfl rfl ?_
    exact ⟨_, rfl, OwnsT.none _ _ _, Below.refl _ _⟩
  | some p =>
    (repeat (first | (first | refine CC.seq ?_ | refine CC.region ?_ | refine LL.nilS ?_ | refine CC.yes rfl ?_ | refine CC.no rfl ?_ | refine CC.block ?_ | refine EE.thenN ?_ | refine LL.nil ?_ | refine CC.exit ?_ | refine CC.ret ?_ | refine CC.skip ?_ | refine EE.thenX ?_ | refine EE.thenR ?_ | refine EE.inN ?_ | refine EE.inX ?_ | refine EE.inX' rfl ?_ | refine EE.inR ?_ | refine CC.label ?_ | refine EE.thenG ?_ | refine EE.inG ?_) | (first | refine LL.val (R.move rfl rfl) rfl rfl rfl ?_ | refine LL.val (R.assign rfl rfl) rfl rfl rfl ?_ | refine LL.val (R.nil rfl rfl) rfl rfl rfl ?_ | refine LL.val (R.field rfl rfl (I.fld rfl)) rfl rfl rfl ?_ | refine LL.val (R.load rfl rfl (I.ld1 rfl (by assumption))) rfl rfl rfl ?_ | refine LL.val (R.load rfl rfl (I.ld1 rfl (RowL.cell (by assumption) rfl))) rfl rfl rfl ?_ | refine LL.val (R.index rfl rfl rfl (I.ixA1c rfl rfl (by first | omega | decide))) rfl rfl rfl ?_ | refine LL.val (R.index rfl rfl rfl (I.ixS1c rfl rfl (by omega))) rfl rfl rfl ?_ | refine LL.val (R.index rfl rfl rfl (I.ixAc rfl rfl (by first | omega | decide))) rfl rfl rfl ?_ | refine LL.val (R.index rfl rfl rfl (I.ixSc rfl rfl (by omega))) rfl rfl rfl ?_ | refine LL.val (R.index rfl rfl rfl (I.ixA1 rfl (by omega))) rfl rfl rfl ?_ | refine LL.val (R.index rfl rfl rfl (I.ixS1 rfl (by omega))) rfl rfl rfl ?_ | refine LL.val (R.index rfl rfl rfl (I.ixA rfl (by omega))) rfl rfl rfl ?_ | refine LL.val (R.index rfl rfl rfl (I.ixS rfl (by omega))) rfl rfl rfl ?_ | refine LL.val (R.ltT rfl rfl rfl (by omega)) rfl rfl rfl ?_ | refine LL.val (R.ltF rfl rfl rfl (by omega)) rfl rfl rfl ?_ | refine LL.val (R.addNc rfl rfl rfl rfl (by omega)) rfl rfl rfl ?_ | refine LL.val (R.subNc rfl rfl rfl rfl (by omega) (by omega)) rfl rfl rfl ?_ | refine LL.val (R.addN rfl rfl rfl (by omega)) rfl rfl rfl ?_ | refine LL.val (R.subN rfl rfl rfl (by omega) (by omega)) rfl rfl rfl ?_ | refine LL.val (R.subcN rfl rfl rfl rfl (by omega) (by omega)) rfl rfl rfl ?_ | refine LL.val (R.addI rfl rfl rfl (by omega)) rfl rfl rfl ?_ | refine LL.val (R.subI rfl rfl rfl (by omega)) rfl rfl rfl ?_ | refine LL.val (R.mulNc rfl rfl rfl rfl (by omega)) rfl rfl rfl ?_ | refine LL.val (R.mulcN rfl rfl rfl rfl (by omega)) rfl rfl rfl ?_ | refine LL.val (R.quoNc rfl rfl rfl rfl (by omega) (by omega)) rfl rfl rfl ?_ | refine LL.val (R.remNc rfl rfl rfl rfl (by omega)) rfl rfl rfl ?_ | refine LL.val (R.mulN rfl rfl rfl (by omega)) rfl rfl rfl ?_ | refine LL.val (R.quoN rfl rfl rfl (by omega) (by omega)) rfl rfl rfl ?_ | refine LL.val (R.remN rfl rfl rfl (by omega)) rfl rfl rfl ?_ | refine LL.val (R.leT rfl rfl rfl (by omega)) rfl rfl rfl ?_ | refine LL.val (R.leF rfl rfl rfl (by omega)) rfl rfl rfl ?_ | refine LL.val (R.gtT rfl rfl rfl (by omega)) rfl rfl rfl ?_ | refine LL.val (R.gtF rfl rfl rfl (by omega)) rfl rfl rfl ?_ | refine LL.val (R.geT rfl rfl rfl (by omega)) rfl rfl rfl ?_ | refine LL.val (R.geF rfl rfl rfl (by omega)) rfl rfl rfl ?_ | refine LL.val (R.eqT rfl rfl rfl (by omega)) rfl rfl rfl ?_ | refine LL.val (R.eqF rfl rfl rfl (by omega)) rfl rfl rfl ?_ | refine LL.val (R.neT rfl rfl rfl (by omega)) rfl rfl rfl ?_ | refine LL.val (R.neF rfl rfl rfl (by omega)) rfl rfl rfl ?_ | refine LL.val (R.eqPtr rfl rfl rfl rfl rfl) rfl rfl rfl ?_ | refine LL.val (R.nePtr rfl rfl rfl rfl rfl) rfl rfl rfl ?_ | refine LL.val (R.eqSl rfl rfl rfl rfl rfl) rfl rfl rfl ?_ | refine LL.val (R.neSl rfl rfl rfl rfl rfl) rfl rfl rfl ?_ | refine LL.val (R.eqFn rfl rfl rfl rfl) rfl rfl rfl ?_ | refine LL.val (R.eqBool rfl rfl rfl rfl rfl) rfl rfl rfl ?_ | refine LL.val (R.neBool rfl rfl rfl rfl rfl) rfl rfl rfl ?_ | refine LL.val (R.xorU rfl rfl rfl (by first | omega | decide) (by first | omega | decide)) rfl rfl rfl ?_ | refine LL.val (R.addUN rfl rfl rfl (by omega)) rfl rfl rfl ?_ | refine LL.val (R.not rfl rfl) rfl rfl rfl ?_ | refine LL.val (R.lenS rfl rfl rfl rfl) rfl rfl rfl ?_ | refine LL.val (R.len rfl rfl rfl rfl) rfl rfl rfl ?_ | refine LL.val (R.pick rfl rfl rfl) rfl rfl rfl ?_ | refine LL.val (R.extract rfl rfl rfl) rfl rfl rfl ?_ | refine LL.val (R.func rfl rfl rfl) rfl rfl rfl ?_ | refine LL.val (R.slice rfl rfl rfl rfl rfl (I.slA rfl)) rfl rfl rfl ?_ | refine LL.val (R.slice rfl rfl rfl rfl rfl (I.slAto rfl (by omega))) rfl rfl rfl ?_) | refine LL.skip rfl rfl ?_))
    refine LL.lit (e := 23) [] 0 rfl rfl (fun _ => by kernel_rfl) rfl rfl ?_
    intro w1 g1 e1 r1 z1 b1
    have o1 : OwnsT uE 1 w1 w.heap.size 23 (.slice (some ⟨g1, 0, none⟩) 0 0) [] := RowL.ownsT (ts := []) uEnc r1 (by omega) (by simp [maxLen])
    (repeat (first | (first | refine CC.seq ?_ | refine CC.region ?_ | refine LL.nilS ?_ | refine CC.yes rfl ?_ | refine CC.no rfl ?_ | refine CC.block ?_ | refine EE.thenN ?_ | refine LL.nil ?_ | refine CC.exit ?_ | refine CC.ret ?_ | refine CC.skip ?_ | refine EE.thenX ?_ | refine EE.thenR ?_ | refine EE.inN ?_ | refine EE.inX ?_ | refine EE.inX' rfl ?_ | refine EE.inR ?_ | refine CC.label ?_ | refine EE.thenG ?_ | refine EE.inG ?_) | (first | refine LL.val (R.move rfl rfl) rfl rfl rfl ?_ | refine LL.val (R.assign rfl rfl) rfl rfl rfl ?_ | refine LL.val (R.nil rfl rfl) rfl rfl rfl ?_ | refine LL.val (R.field rfl rfl (I.fld rfl)) rfl rfl rfl ?_ | refine LL.val (R.load rfl rfl (I.ld1 rfl (by assumption))) rfl rfl rfl ?_ | refine LL.val (R.load rfl rfl (I.ld1 rfl (RowL.cell (by assumption) rfl))) rfl rfl rfl ?_ | refine LL.val (R.index rfl rfl rfl (I.ixA1c rfl rfl (by first | omega | decide))) rfl rfl rfl ?_ | refine LL.val (R.index rfl rfl rfl (I.ixS1c rfl rfl (by omega))) rfl rfl rfl ?_ | refine LL.val (R.index rfl rfl rfl (I.ixAc rfl rfl (by first | omega | decide))) rfl rfl rfl ?_ | refine LL.val (R.index rfl rfl rfl (I.ixSc rfl rfl (by omega))) rfl rfl rfl ?_ | refine LL.val (R.index rfl rfl rfl (I.ixA1 rfl (by omega))) rfl rfl rfl ?_ | refine LL.val (R.index rfl rfl rfl (I.ixS1 rfl (by omega))) rfl rfl rfl ?_ | refine LL.val (R.index rfl rfl rfl (I.ixA rfl (by omega))) rfl rfl rfl ?_ | refine LL.val (R.index rfl rfl rfl (I.ixS rfl (by omega))) rfl rfl rfl ?_ | refine LL.val (R.ltT rfl rfl rfl (by omega)) rfl rfl rfl ?_ | refine LL.val (R.ltF rfl rfl rfl (by omega)) rfl rfl rfl ?_ | refine LL.val (R.addNc rfl rfl rfl rfl (by omega)) rfl rfl rfl ?_ | refine LL.val (R.subNc rfl rfl rfl rfl (by omega) (by omega)) rfl rfl rfl ?_ | refine LL.val (R.addN rfl rfl rfl (by omega)) rfl rfl rfl ?_ | refine LL.val (R.subN rfl rfl rfl (by omega) (by omega)) rfl rfl rfl ?_ | refine LL.val (R.subcN rfl rfl rfl rfl (by omega) (by omega)) rfl rfl rfl ?_ | refine LL.val (R.addI rfl rfl rfl (by omega)) rfl rfl rfl ?_ | refine LL.val (R.subI rfl rfl rfl (by omega)) rfl rfl rfl ?_ | refine LL.val (R.mulNc rfl rfl rfl rfl (by omega)) rfl rfl rfl ?_ | refine LL.val (R.mulcN rfl rfl rfl rfl (by omega)) rfl rfl rfl ?_ | refine LL.val (R.quoNc rfl rfl rfl rfl (by omega) (by omega)) rfl rfl rfl ?_ | refine LL.val (R.remNc rfl rfl rfl rfl (by omega)) rfl rfl rfl ?_ | refine LL.val (R.mulN rfl rfl rfl (by omega)) rfl rfl rfl ?_ | refine LL.val (R.quoN rfl rfl rfl (by omega) (by omega)) rfl rfl rfl ?_ | refine LL.val (R.remN rfl rfl rfl (by omega)) rfl rfl rfl ?_ | refine LL.val (R.leT rfl rfl rfl (by omega)) rfl rfl rfl ?_ | refine LL.val (R.leF rfl rfl rfl (by omega)) rfl rfl rfl ?_ | refine LL.val (R.gtT rfl rfl rfl (by omega)) rfl rfl rfl ?_ | refine LL.val (R.gtF rfl rfl rfl (by omega)) rfl rfl rfl ?_ | refine LL.val (R.geT rfl rfl rfl (by omega)) rfl rfl rfl ?_ | refine LL.val (R.geF rfl rfl rfl (by omega)) rfl rfl rfl ?_ | refine LL.val (R.eqT rfl rfl rfl (by omega)) rfl rfl rfl ?_ | refine LL.val (R.eqF rfl rfl rfl (by omega)) rfl rfl rfl ?_ | refine LL.val (R.neT rfl rfl rfl (by omega)) rfl rfl rfl ?_ | refine LL.val (R.neF rfl rfl rfl (by omega)) rfl rfl rfl ?_ | refine LL.val (R.eqPtr rfl rfl rfl rfl rfl) rfl rfl rfl ?_ | refine LL.val (R.nePtr rfl rfl rfl rfl rfl) rfl rfl rfl ?_ | refine LL.val (R.eqSl rfl rfl rfl rfl rfl) rfl rfl rfl ?_ | refine LL.val (R.neSl rfl rfl rfl rfl rfl) rfl rfl rfl ?_ | refine LL.val (R.eqFn rfl rfl rfl rfl) rfl rfl rfl ?_ | refine LL.val (R.eqBool rfl rfl rfl rfl rfl) rfl rfl rfl ?_ | refine LL.val (R.neBool rfl rfl rfl rfl rfl) rfl rfl rfl ?_ | refine LL.val (R.xorU rfl rfl rfl (by first | omega | decide) (by first | omega | decide)) rfl rfl rfl ?_ | refine LL.val (R.addUN rfl rfl rfl (by omega)) rfl rfl rfl ?_ | refine LL.val (R.not rfl rfl) rfl rfl rfl ?_ | refine LL.val (R.lenS rfl rfl rfl rfl) rfl rfl rfl ?_ | refine LL.val (R.len rfl rfl rfl rfl) rfl rfl rfl ?_ | refine LL.val (R.pick rfl rfl rfl) rfl rfl rfl ?_ | refine LL.val (R.extract rfl rfl rfl) rfl rfl rfl ?_ | refine LL.val (R.func rfl rfl rfl) rfl rfl rfl ?_ | refine LL.val (R.slice rfl rfl rfl rfl rfl (I.slA rfl)) rfl rfl rfl ?_ | refine LL.val (R.slice rfl rfl rfl rfl rfl (I.slAto rfl (by omega))) rfl rfl rfl ?_) | refine LL.skip rfl rfl ?_))
    refine LL.append0 rfl rfl uEnc ElU o1 (ha.below b1) (by simp [maxLen]; omega) (by omega) b1.size rfl rfl ?_
    intro v2 w2 o2 b2
    (repeat (first | (first | refine CC.seq ?_ | refine CC.region ?_ | refine LL.nilS ?_ | refine CC.yes rfl ?_ | refine CC.no rfl ?_ | refine CC.block ?_ | refine EE.thenN ?_ | refine LL.nil ?_ | refine CC.exit ?_ | refine CC.ret ?_ | refine CC.skip ?_ | refine EE.thenX ?_ | refine EE.thenR ?_ | refine EE.inN ?_ | refine EE.inX ?_ | refine EE.inX' rfl ?_ | refine EE.inR ?_ | refine CC.label ?_ | refine EE.thenG ?_ | refine EE.inG ?_) | (first | refine LL.val (R.move rfl rfl) rfl rfl rfl ?_ | refine LL.val (R.assign rfl rfl) rfl rfl rfl ?_ | refine LL.val (R.nil rfl rfl) rfl rfl rfl ?_ | refine LL.val (R.field rfl rfl (I.fld rfl)) rfl rfl rfl ?_ | refine LL.val (R.load rfl rfl (I.ld1 rfl (by assumption))) rfl rfl rfl ?_ | refine LL.val (R.load rfl rfl (I.ld1 rfl (RowL.cell (by assumption) rfl))) rfl rfl rfl ?_ | refine LL.val (R.index rfl rfl rfl (I.ixA1c rfl rfl (by first | omega | decide))) rfl rfl rfl ?_ | refine LL.val (R.index rfl rfl rfl (I.ixS1c rfl rfl (by omega))) rfl rfl rfl ?_ | refine LL.val (R.index rfl rfl rfl (I.ixAc rfl rfl (by first | omega | decide))) rfl rfl rfl ?_ | refine LL.val (R.index rfl rfl rfl (I.ixSc rfl rfl (by omega))) rfl rfl rfl ?_ | refine LL.val (R.index rfl rfl rfl (I.ixA1 rfl (by omega))) rfl rfl rfl ?_ | refine LL.val (R.index rfl rfl rfl (I.ixS1 rfl (by omega))) rfl rfl rfl ?_ | refine LL.val (R.index rfl rfl rfl (I.ixA rfl (by omega))) rfl rfl rfl ?_ | refine LL.val (R.index rfl rfl rfl (I.ixS rfl (by omega))) rfl rfl rfl ?_ | refine LL.val (R.ltT rfl rfl rfl (by omega)) rfl rfl rfl ?_ | refine LL.val (R.ltF rfl rfl rfl (by omega)) rfl rfl rfl ?_ | refine LL.val (R.addNc rfl rfl rfl rfl (by omega)) rfl rfl rfl ?_ | refine LL.val (R.subNc rfl rfl rfl rfl (by omega) (by omega)) rfl rfl rfl ?_ | refine LL.val (R.addN rfl rfl rfl (by omega)) rfl rfl rfl ?_ | refine LL.val (R.subN rfl rfl rfl (by omega) (by omega)) rfl rfl rfl ?_ | refine LL.val (R.subcN rfl rfl rfl rfl (by omega) (by omega)) rfl rfl rfl ?_ | refine LL.val (R.addI rfl rfl rfl (by omega)) rfl rfl rfl ?_ | refine LL.val (R.subI rfl rfl rfl (by omega)) rfl rfl rfl ?_ | refine LL.val (R.mulNc rfl rfl rfl rfl (by omega)) rfl rfl rfl ?_ | refine LL.val (R.mulcN rfl rfl rfl rfl (by omega)) rfl rfl rfl ?_ | refine LL.val (R.quoNc rfl rfl rfl rfl (by omega) (by omega)) rfl rfl rfl ?_ | refine LL.val (R.remNc rfl rfl rfl rfl (by omega)) rfl rfl rfl ?_ | refine LL.val (R.mulN rfl rfl rfl (by omega)) rfl rfl rfl ?_ | refine LL.val (R.quoN rfl rfl rfl (by omega) (by omega)) rfl rfl rfl ?_ | refine LL.val (R.remN rfl rfl rfl (by omega)) rfl rfl rfl ?_ | refine LL.val (R.leT rfl rfl rfl (by omega)) rfl rfl rfl ?_ | refine LL.val (R.leF rfl rfl rfl (by omega)) rfl rfl rfl ?_ | refine LL.val (R.gtT rfl rfl rfl (by omega)) rfl rfl rfl ?_ | refine LL.val (R.gtF rfl rfl rfl (by omega)) rfl rfl rfl ?_ | refine LL.val (R.geT rfl rfl rfl (by omega)) rfl rfl rfl ?_ | refine LL.val (R.geF rfl rfl rfl (by omega)) rfl rfl rfl ?_ | refine LL.val (R.eqT rfl rfl rfl (by omega)) rfl rfl rfl ?_ | refine LL.val (R.eqF rfl rfl rfl (by omega)) rfl rfl rfl ?_ | refine LL.val (R.neT rfl rfl rfl (by omega)) rfl rfl rfl ?_ | refine LL.val (R.neF rfl rfl rfl (by omega)) rfl rfl rfl ?_ | refine LL.val (R.eqPtr rfl rfl rfl rfl rfl) rfl rfl rfl ?_ | refine LL.val (R.nePtr rfl rfl rfl rfl rfl) rfl rfl rfl ?_ | refine LL.val (R.eqSl rfl rfl rfl rfl rfl) rfl rfl rfl ?_ | refine LL.val (R.neSl rfl rfl rfl rfl rfl) rfl rfl rfl ?_ | refine LL.val (R.eqFn rfl rfl rfl rfl) rfl rfl rfl ?_ | refine LL.val (R.eqBool rfl rfl rfl rfl rfl) rfl rfl rfl ?_ | refine LL.val (R.neBool rfl rfl rfl rfl rfl) rfl rfl rfl ?_ | refine LL.val (R.xorU rfl rfl rfl (by first | omega | decide) (by first | omega | decide)) rfl rfl rfl ?_ | refine LL.val (R.addUN rfl rfl rfl (by omega)) rfl rfl rfl ?_ | refine LL.val (R.not rfl rfl) rfl rfl rfl ?_ | refine LL.val (R.lenS rfl rfl rfl rfl) rfl rfl rfl ?_ | refine LL.val (R.len rfl rfl rfl rfl) rfl rfl rfl ?_ | refine LL.val (R.pick rfl rfl rfl) rfl rfl rfl ?_ | refine LL.val (R.extract rfl rfl rfl) rfl rfl rfl ?_ | refine LL.val (R.func rfl rfl rfl) rfl rfl rfl ?_ | refine LL.val (R.slice rfl rfl rfl rfl rfl (I.slA rfl)) rfl rfl rfl ?_ | refine LL.val (R.slice rfl rfl rfl rfl rfl (I.slAto rfl (by omega))) rfl rfl rfl ?_) | refine LL.skip rfl rfl ?_))
    refine EE.ret _ rfl rfl ?_
    exact ⟨v2, rfl, o2, b1.trans (b2.mono b1.size)⟩

theorem ReadsT.keepB {w w' : World} {a : Option Addr} {n c bkl : Nat} {s : List Nat} {D : Nat → Prop} (h : ReadsT uE 1 w (.slice a n c) s) (hs : w.heap.size ≤ w'.heap.size) (hk : Keeps D w w') (hbl : ∀ b off, a = some ⟨b, off, none⟩ → 0 < n → b = bkl) (hD : D bkl) : ReadsT uE 1 w' (.slice a n c) s := by
  obtain ⟨a', cap, e, hc, h'⟩ := h
  cases e
  refine ⟨_, _, rfl, hc, fun hne => ?_⟩
  obtain ⟨b, off, ha, hb, hcell⟩ := h' hne
  refine ⟨b, off, ha, Nat.lt_of_lt_of_le hb hs, fun j hj => ?_⟩
  obtain rfl := hbl b off ha (List.length_pos_iff.2 hne)
  exact (World.cell?_of_block (hk.same b hD)).trans (hcell j hj)

theorem ReadsT.keptB {w w' : World} {a : Option Addr} {n c bs : Nat} {s : List Nat} {K : Nat → Prop} (h : ReadsT uE 1 w (.slice a n c) s) (hk : Kept K w w') (hbl : ∀ b off, a = some ⟨b, off, none⟩ → 0 < n → b = bs) (hK : bs < w.heap.size → K bs) : ReadsT uE 1 w' (.slice a n c) s := by
  obtain ⟨a', cap, e, hc, h'⟩ := h
  cases e
  refine ⟨_, _, rfl, hc, fun hne => ?_⟩
  obtain ⟨b, off, ha, hb, hcell⟩ := h' hne
  refine ⟨b, off, ha, Nat.lt_of_lt_of_le hb hk.size, fun j hj => ?_⟩
  obtain rfl := hbl b off ha (List.length_pos_iff.2 hne)
  exact (World.cell?_of_block (hk.block b (hK hb))).trans (hcell j hj)
def wV (r : Rd) : Int := if r.dn then 0 else wantR r
theorem wants_any (g : Nat) (r : Rd) {w : World} (h : RowL w g 56 (rdR g r)) : Calls Try.prog 23 #[.pointer (some ⟨g, 0, none⟩)] w fun e w' => e = .returned (.tuple #[.int .i64 (wV r), .bool (!r.dn)]) ∧ w = w' := by
  cases hd : r.dn with
  | true =>
    have e : wV r = 0 := by unfold wV; rw [hd]; rfl
    rw [e]
    exact wants_done g r h hd
  | false =>
    have e : wV r = wantI r.k r.slot := by unfold wV; rw [hd]; rfl
    rw [e]
    exact wants_run g r h hd
/-- What the iterator reads between its rounds. -/
structure OvR (W : World) (b1 b2 b3 g left n c : Nat) (a : Option Addr) (s : List Nat) (r : Rd) : Prop where
  r1 : RowL W b1 26 [.pointer (some ⟨g, 0, none⟩)]
  r2 : RowL W b2 23 [.int .u64 (left : Int)]
  r3 : RowL W b3 24 [.slice a n c]
  rv : ReadsT uE 1 W (.slice a n c) s
  rg : RowL W g 56 (rdR g r)
theorem OvR.up {W X : World} {b1 b2 b3 g left n c : Nat} {a : Option Addr} {s : List Nat} {r : Rd} (h : OvR W b1 b2 b3 g left n c a s r) (hb : Below W.heap.size W X) : OvR X b1 b2 b3 g left n c a s r :=
  ⟨h.r1.up hb, h.r2.up hb, h.r3.up hb, h.rv.up hb, h.rg.up hb⟩
theorem over1_gives (b1 b2 b3 g left n c bs : Nat) (a : Option Addr) (s : List Nat) (r0 : Rd) (w : World) (h : OvR w b1 b2 b3 g left n c a s r0) (hn : s.length = n) (hr : InvR r0) (hs : 2 * r0.slots ≤ n) (hl : n ≤ 56)
    (hbs : ∀ b off, a = some ⟨b, off, none⟩ → 0 < n → b = bs) (hne : b1 ≠ g ∧ b2 ≠ g ∧ b3 ≠ g ∧ bs ≠ g) :
    GivesO Try.prog 65 [Value.pointer (some ⟨b1, 0, none⟩), .pointer (some ⟨b2, 0, none⟩), .pointer (some ⟨b3, 0, none⟩)].toArray (fun x => (lwE x).toArray) (fun k => k = b1 ∨ k = b2 ∨ k = b3 ∨ k = g ∨ k = bs) (fun xs => xs = trL left s r0) g 56 (fun _ => rdR g (endOf left s r0)) w := by
  intro lp J Jx W hW hJ hJx hY h0
  replace h := h.up hW
  have q := Below.refl W.heap.size W
  rw [show (#[.func (.yield lp) #[] #[]] ++ [Value.pointer (some ⟨b1, 0, none⟩), .pointer (some ⟨b2, 0, none⟩), .pointer (some ⟨b3, 0, none⟩)].toArray : Array Value) = #[.func (.yield lp) #[] #[], .pointer (some ⟨b1, 0, none⟩), .pointer (some ⟨b2, 0, none⟩), .pointer (some ⟨b3, 0, none⟩)] from rfl]
  have hr1 := h.r1
  have lg := h.rg.lt
  refine X.fn Try.func65 rfl (n := 34) rfl rfl ?_
  refine CC.seq ?_
  refine CC.region ?_
  refine LL.val (R.load rfl rfl (I.ld1 rfl (RowL.cell hr1 rfl))) rfl rfl rfl ?_
  (refine LL.call (R.call rfl rfl rfl) rfl rfl rfl (wants_any g _ h.rg) ?_; rintro e W' ⟨rfl, rfl⟩; refine ⟨_, rfl, ?_⟩)
  refine LL.val (R.move rfl rfl) rfl rfl rfl ?_
  refine LL.val (R.extract rfl rfl rfl) rfl rfl rfl ?_
  refine LL.val (R.extract rfl rfl rfl) rfl rfl rfl ?_
  refine LL.val (R.assign rfl rfl) rfl rfl rfl ?_
  refine LL.val (R.assign rfl rfl) rfl rfl rfl ?_
  refine LL.nilS ?_
  refine CC.block ?_
  refine CC.loop (α := List (Int × Nat) × Rd) (fun x => [(0, .func (.yield lp) #[] #[]), (1, .pointer (some ⟨b1, 0, none⟩)), (2, .pointer (some ⟨b2, 0, none⟩)), (3, .pointer (some ⟨b3, 0, none⟩)), (5, .int .i64 (wV x.2)), (6, .bool (!x.2.dn))])
    (fun x wr => W.heap.size ≤ wr.heap.size ∧ J (fun _ => False) x.1 wr ∧ OvR wr b1 b2 b3 g left n c a s x.2 ∧ InvR x.2 ∧ x.2.slots = r0.slots ∧ x.1 ++ trL left s x.2 = trL left s r0 ∧ endOf left s x.2 = endOf left s r0) (fun x => muR x.2)
    ([], r0) ⟨rfl, rfl, rfl, rfl, rfl, rfl, trivial⟩ ⟨Nat.le_refl _, h0, h, hr, rfl, rfl, rfl⟩ ?_
  clear h0 q h hr hr1
  rintro ⟨pre, r⟩ wr ⟨hz, hJr, h, hr, hsl, htr, hen⟩
  simp only at hJr h hr hsl htr hen
  show CC none Try.prog _ 34 [] (sl [(0, .func (.yield lp) #[] #[]), (1, .pointer (some ⟨b1, 0, none⟩)), (2, .pointer (some ⟨b2, 0, none⟩)), (3, .pointer (some ⟨b3, 0, none⟩)), (5, .int .i64 (wV r)), (6, .bool (!r.dn))]) _ wr
  cases hd : r.dn with
  | true =>
    rw [trL_dn hd, List.append_nil] at htr
    rw [endOf_dn hd] at hen
    have hrg := h.rg
    rw [hen] at hrg
    rw [htr] at hJr
    rw [show (!true) = false from rfl]
    refine CC.seq ?_
    refine CC.seq ?_
    refine CC.region ?_
    refine LL.val (R.move rfl rfl) rfl rfl rfl ?_
    refine LL.nilS ?_
    refine CC.no rfl ?_
    refine CC.exit ?_
    refine EE.thenX ?_
    refine EE.thenX ?_
    refine EE.inX ?_
    refine EE.end _ rfl rfl ?_
    exact ⟨⟨_, rfl⟩, .inl ⟨_, _, rfl, hJr, hrg⟩⟩
  | false =>
  rw [show (!false) = true from rfl]
  rw [show wV r = wantR r from by unfold wV; rw [hd]; rfl]
  have htn := trL_next (left := left) (s := s) hr hd
  have hen2 := endOf_next (left := left) (s := s) hr hd
  obtain ⟨hin, hmu⟩ := next_inv (left := left) (s := s) hr hd
  have hge := want_ge r
  have hlt := want_lt hr
  obtain ⟨v, hv⟩ : ∃ v, atW left s (wantR r) = v := ⟨_, rfl⟩
  have hnx : giveR r v = nextR left s r := by unfold nextR; rw [hv]
  rw [hv] at htn
  obtain ⟨at', hat⟩ : ∃ z, wantR r = z := ⟨_, rfl⟩
  rw [hat] at hge hlt hv htn ⊢
  have hpart : Part (fun xs => xs = trL left s r0) (pre ++ [(at', v)]) := ⟨_, rfl, by rw [← htr, htn]; exact ⟨trL left s (nextR left s r), by simp⟩⟩
  have hsl2 : (nextR left s r).slots = r0.slots := by rw [← hnx, (give_key r v).2.1]; exact hsl
  have htr2 : (pre ++ [(at', v)]) ++ trL left s (nextR left s r) = trL left s r0 := by rw [← htr, htn]; simp
  have hen3 : endOf left s (nextR left s r) = endOf left s r0 := by rw [← hen2]; exact hen
  have yield : ∀ X, Below wr.heap.size wr X → YieldAt Fence.wide 3 Try.prog lp (lwE (at', v)).toArray X fun e W' => (e = .returned (.bool true) ∧ W.heap.size ≤ W'.heap.size ∧ J (fun _ => False) (pre ++ [(at', v)]) W' ∧ OvR W' b1 b2 b3 g left n c a s r) ∨ (e = .returned (.bool false) ∧ Jx (fun _ => False) (pre ++ [(at', v)]) W') := fun X b => by
    obtain ⟨fn, tm, ag, bd, hy, hR⟩ := hY (fun _ => False) _ _ X (fun k hk => hk.elim) (hJ _ (fun _ => False) _ _ _ hJr (.of_below b) fun k hk => hk.elim) hpart
    refine ⟨fn, tm, ag, bd, hy, hR.mono ?_⟩
    rintro e W' ⟨hs, (⟨rfl, h1, h2⟩ | ⟨rfl, h1⟩)⟩
    · have hX := h.up b
      exact .inl ⟨rfl, by have := hs.size; have := b.size; omega, h1, ⟨hX.r1.same (h2.same b1 (.inl rfl)), hX.r2.same (h2.same b2 (.inr (.inl rfl))), hX.r3.same (h2.same b3 (.inr (.inr (.inl rfl)))), hX.rv.keepB hs.size h2 hbs (.inr (.inr (.inr (.inr rfl)))), hX.rg.same (h2.same g (.inr (.inr (.inr (.inl rfl)))))⟩⟩
    · exact .inr ⟨rfl, h1⟩
  rw [← hnx] at hin hmu hsl2 htr2 hen3
  have hJk : ∀ X Y, J (fun _ => False) (pre ++ [(at', v)]) X → Kept (fun j => j < X.heap.size ∧ j ≠ g) X Y → J (fun _ => False) (pre ++ [(at', v)]) Y := fun X Y hX hk => hJ _ (fun _ => False) _ _ _ hX (.of_kept hk) fun k hk => hk.elim
  have hJb : ∀ X Y, J (fun _ => False) (pre ++ [(at', v)]) X → Below X.heap.size X Y → J (fun _ => False) (pre ++ [(at', v)]) Y := fun X Y hX hk => hJ _ (fun _ => False) _ _ _ hX (.of_below hk) fun k hk => hk.elim
  clear hJr hY
  obtain ⟨hb1, hb2, hb3, hrv, hrg⟩ := h
  have lg' := hrg.lt
  have l1 := hb1.lt
  have l2 := hb2.lt
  have l3 := hb3.lt
  have qn := Below.refl wr.heap.size wr
  have post : ∀ X Y, J (fun _ => False) (pre ++ [(at', v)]) X → OvR X b1 b2 b3 g left n c a s r → Kept (fun j => j < X.heap.size ∧ j ≠ g) X Y → RowL Y g 56 (rdR g (giveR r v)) → J (fun _ => False) (pre ++ [(at', v)]) Y ∧ OvR Y b1 b2 b3 g left n c a s (giveR r v) := fun X Y hX hO hk hg => ⟨hJk _ _ hX hk, ⟨hO.r1.kept hk ⟨hO.r1.lt, hne.1⟩, hO.r2.kept hk ⟨hO.r2.lt, hne.2.1⟩, hO.r3.kept hk ⟨hO.r3.lt, hne.2.2.1⟩, hO.rv.keptB hk hbs (fun h => ⟨h, hne.2.2.2⟩), hg⟩⟩
  by_cases hm : at' = -1
  · subst hm
    obtain rfl : left = v := by rw [← hv]; rfl
    refine CC.seq ?_
    refine CC.seq ?_
    refine CC.region ?_
    refine LL.val (R.move rfl rfl) rfl rfl rfl ?_
    refine LL.nilS ?_
    refine CC.yes rfl ?_
    refine CC.skip ?_
    refine EE.thenN ?_
    refine CC.seq ?_
    refine CC.block ?_
    refine CC.seq ?_
    refine CC.region ?_
    refine LL.val (R.load rfl rfl (I.ld1 rfl (RowL.cell hb2 rfl))) rfl rfl rfl ?_
    refine LL.val (R.assign rfl rfl) rfl rfl rfl ?_
    refine LL.nilS ?_
    refine CC.seq ?_
    refine CC.seq ?_
    refine CC.region ?_
    refine LL.val (R.move rfl rfl) rfl rfl rfl ?_
    refine LL.val (R.neF rfl rfl rfl (by omega)) rfl rfl rfl ?_
    refine LL.nilS ?_
    refine CC.no rfl ?_
    refine CC.skip ?_
    refine EE.thenN ?_
    refine CC.seq ?_
    refine CC.seq ?_
    refine CC.region ?_
    refine LL.val (R.move rfl rfl) rfl rfl rfl ?_
    refine LL.val (R.move rfl rfl) rfl rfl rfl ?_
    refine LL.val (R.move rfl rfl) rfl rfl rfl ?_
    refine LL.yield (vs := lwE (-1, left)) rfl rfl rfl rfl rfl (yield _ (by assumption)) ?_
    rintro e W4 (⟨rfl, z4, hJ4, h4⟩ | ⟨rfl, hJx4⟩)
    · refine ⟨_, rfl, ?_⟩
      clear hb1 hb2 hb3 hrv hrg yield hJk hJb
      have hb1 := h4.r1
      have hrg := h4.rg
      refine LL.val (R.not rfl rfl) rfl rfl rfl ?_
      refine LL.nilS ?_
      refine CC.no rfl ?_
      refine CC.skip ?_
      refine EE.thenN ?_
      refine CC.region ?_
      refine LL.val (R.load rfl rfl (I.ld1 rfl (RowL.cell hb1 rfl))) rfl rfl rfl ?_
      refine LL.val (R.move rfl rfl) rfl rfl rfl ?_
      (refine LL.call (R.call rfl rfl rfl) rfl rfl rfl (give_any g left r hrg hr.k hd hr.slot hr.slots hr.big) ?_; rintro e W5 ⟨rfl, hg5, hk5⟩; obtain ⟨hJ5, h5⟩ := post _ _ hJ4 h4 hk5 hg5; have z5 := hk5.size; clear hb1 hrg hJ4 h4 hk5 post; have hb1 := h5.r1; refine ⟨_, rfl, ?_⟩)
      refine LL.nil ?_
      refine EE.inN ?_
      refine EE.thenN ?_
      refine CC.region ?_
      refine LL.val (R.load rfl rfl (I.ld1 rfl (RowL.cell hb1 rfl))) rfl rfl rfl ?_
      (refine LL.call (R.call rfl rfl rfl) rfl rfl rfl (wants_any g _ hg5) ?_; rintro e W' ⟨rfl, rfl⟩; refine ⟨_, rfl, ?_⟩)
      refine LL.val (R.move rfl rfl) rfl rfl rfl ?_
      refine LL.val (R.extract rfl rfl rfl) rfl rfl rfl ?_
      refine LL.val (R.extract rfl rfl rfl) rfl rfl rfl ?_
      refine LL.val (R.assign rfl rfl) rfl rfl rfl ?_
      refine LL.val (R.assign rfl rfl) rfl rfl rfl ?_
      refine LL.nil ?_
      exact EE.round (pre ++ [(-1, left)], giveR r left) ⟨rfl, rfl, rfl, rfl, rfl, rfl, trivial⟩ ⟨by omega, hJ5, h5, hin, hsl2, htr2, hen3⟩ (by show muR (giveR r left) < muR r; omega)
    · refine ⟨_, rfl, ?_⟩
      refine LL.val (R.not rfl rfl) rfl rfl rfl ?_
      refine LL.nilS ?_
      refine CC.yes rfl ?_
      refine CC.ret ?_
      refine EE.thenR ?_
      refine EE.inR ?_
      refine EE.thenR ?_
      refine EE.thenR ?_
      refine EE.inR ?_
      refine EE.ret _ rfl rfl ?_
      exact ⟨⟨_, rfl⟩, .inr ⟨_, _, hpart, hJx4⟩⟩
  · obtain ⟨j, rfl⟩ : ∃ j : Nat, at' = j := ⟨at'.toNat, by omega⟩
    have hj : s[j]? = some v := by
      rw [← hv]
      unfold atW
      rw [if_neg (by omega), Int.toNat_natCast, List.getElem?_eq_getElem (by omega)]
      rfl
    obtain ⟨bb, off, rfl, lb, hcell⟩ := u_at hrv hj
    have hc0 := hcell _ qn
    refine CC.seq ?_
    refine CC.seq ?_
    refine CC.region ?_
    refine LL.val (R.move rfl rfl) rfl rfl rfl ?_
    refine LL.nilS ?_
    refine CC.yes rfl ?_
    refine CC.skip ?_
    refine EE.thenN ?_
    refine CC.seq ?_
    refine CC.block ?_
    refine CC.seq ?_
    refine CC.region ?_
    refine LL.val (R.load rfl rfl (I.ld1 rfl (RowL.cell hb2 rfl))) rfl rfl rfl ?_
    refine LL.val (R.assign rfl rfl) rfl rfl rfl ?_
    refine LL.nilS ?_
    refine CC.seq ?_
    refine CC.seq ?_
    refine CC.region ?_
    refine LL.val (R.move rfl rfl) rfl rfl rfl ?_
    refine LL.val (R.neT rfl rfl rfl (by omega)) rfl rfl rfl ?_
    refine LL.nilS ?_
    refine CC.yes rfl ?_
    refine CC.region ?_
    refine LL.val (R.load rfl rfl (I.ld1 rfl (RowL.cell hb3 rfl))) rfl rfl rfl ?_
    refine LL.val (R.move rfl rfl) rfl rfl rfl ?_
    refine LL.val (R.index rfl rfl rfl (I.ixS1 rfl (by omega))) rfl rfl rfl ?_
    refine LL.val (R.load rfl rfl (I.ld1 rfl (by assumption))) rfl rfl rfl ?_
    refine LL.val (R.assign rfl rfl) rfl rfl rfl ?_
    refine LL.nilS ?_
    refine CC.seq ?_
    refine CC.seq ?_
    refine CC.region ?_
    refine LL.val (R.move rfl rfl) rfl rfl rfl ?_
    refine LL.val (R.move rfl rfl) rfl rfl rfl ?_
    refine LL.val (R.move rfl rfl) rfl rfl rfl ?_
    refine LL.yield (vs := lwE ((j : Int), v)) rfl rfl rfl rfl rfl (yield _ (by assumption)) ?_
    rintro e W4 (⟨rfl, z4, hJ4, h4⟩ | ⟨rfl, hJx4⟩)
    · refine ⟨_, rfl, ?_⟩
      clear hb1 hb2 hb3 hrv hrg yield hJk hJb
      have hb1 := h4.r1
      have hrg := h4.rg
      refine LL.val (R.not rfl rfl) rfl rfl rfl ?_
      refine LL.nilS ?_
      refine CC.no rfl ?_
      refine CC.skip ?_
      refine EE.thenN ?_
      refine CC.region ?_
      refine LL.val (R.load rfl rfl (I.ld1 rfl (RowL.cell hb1 rfl))) rfl rfl rfl ?_
      refine LL.val (R.move rfl rfl) rfl rfl rfl ?_
      (refine LL.call (R.call rfl rfl rfl) rfl rfl rfl (give_any g v r hrg hr.k hd hr.slot hr.slots hr.big) ?_; rintro e W5 ⟨rfl, hg5, hk5⟩; obtain ⟨hJ5, h5⟩ := post _ _ hJ4 h4 hk5 hg5; have z5 := hk5.size; clear hb1 hrg hJ4 h4 hk5 post; have hb1 := h5.r1; refine ⟨_, rfl, ?_⟩)
      refine LL.nil ?_
      refine EE.inN ?_
      refine EE.thenN ?_
      refine CC.region ?_
      refine LL.val (R.load rfl rfl (I.ld1 rfl (RowL.cell hb1 rfl))) rfl rfl rfl ?_
      (refine LL.call (R.call rfl rfl rfl) rfl rfl rfl (wants_any g _ hg5) ?_; rintro e W' ⟨rfl, rfl⟩; refine ⟨_, rfl, ?_⟩)
      refine LL.val (R.move rfl rfl) rfl rfl rfl ?_
      refine LL.val (R.extract rfl rfl rfl) rfl rfl rfl ?_
      refine LL.val (R.extract rfl rfl rfl) rfl rfl rfl ?_
      refine LL.val (R.assign rfl rfl) rfl rfl rfl ?_
      refine LL.val (R.assign rfl rfl) rfl rfl rfl ?_
      refine LL.nil ?_
      exact EE.round (pre ++ [((j : Int), v)], giveR r v) ⟨rfl, rfl, rfl, rfl, rfl, rfl, trivial⟩ ⟨by omega, hJ5, h5, hin, hsl2, htr2, hen3⟩ (by show muR (giveR r v) < muR r; omega)
    · refine ⟨_, rfl, ?_⟩
      refine LL.val (R.not rfl rfl) rfl rfl rfl ?_
      refine LL.nilS ?_
      refine CC.yes rfl ?_
      refine CC.ret ?_
      refine EE.thenR ?_
      refine EE.inR ?_
      refine EE.thenR ?_
      refine EE.thenR ?_
      refine EE.inR ?_
      refine EE.ret _ rfl rfl ?_
      exact ⟨⟨_, rfl⟩, .inr ⟨_, _, hpart, hJx4⟩⟩
end Go.Proofs.Ytloflmkolnediaa

/- scan: Look, Trace. -/
namespace Go.Proofs.Ytloflmkolnediaa
set_option linter.unusedVariables false
set_option linter.unusedSimpArgs false
open Go.RowKit Go.Shelf
set_option maxRecDepth 100000
set_option maxHeartbeats 8000000
theorem bs_of {W : World} {a : Option Addr} {n c : Nat} {s : List Nat} (h : ReadsT uE 1 W (.slice a n c) s) (hn : s.length = n) (h0 : 0 < n) : ∃ bs, (∀ b off, a = some ⟨b, off, none⟩ → 0 < n → b = bs) ∧ bs < W.heap.size := by
  obtain ⟨a', cap, e, hc, h'⟩ := h
  cases e
  obtain ⟨b, off, ha, hb, _⟩ := h' (by rintro rfl; simp at h0)
  exact ⟨b, fun b' off' e _ => by rw [ha] at e; cases e; rfl, hb⟩
def lookR (up : Bool) (left : Nat) (s : List Nat) (key : Nat) : Rd := endOf left s (newR up (s.length / 2) key)
theorem look_T (up : Bool) (left n c key : Nat) (a : Option Addr) (s : List Nat) (w : World) (hv : ReadsT uE 1 w (.slice a n c) s) (hn : s.length = n) (hr : rowOk left n) : Calls Try.prog 17 #[.int .i64 (wayI up), .int .u64 (left : Int), .slice a n c, .int .u64 (key : Int)] w fun e w' => e = .returned (.tuple #[.int .u64 ((lookR up left s key).found : Int), .bool (lookR up left s key).is]) ∧ Below w.heap.size w w' := by
  have q := Below.refl w.heap.size w
  have hrow := hr
  obtain ⟨r1, r2, r3, r4⟩ := hr
  have hvF : ∀ X, Below w.heap.size w X → ReadsT uE 1 X (.slice a n c) s := fun X b => hv.up b
  obtain ⟨bs, hbs, hbsl⟩ := bs_of hv hn (by omega)
  have hi := (new_inv (up := up) (slots := n / 2) (key := key) (by omega) (by omega)).1
  have hsl : (newR up (n / 2) key).slots = n / 2 := by cases up <;> rfl
  obtain ⟨N, hN⟩ : ∃ N, newR up (n / 2) key = N := ⟨_, rfl⟩
  rw [show lookR up left s key = endOf left s N by unfold lookR; rw [hn, hN]]
  rw [hN] at hi hsl
  clear hv
  refine X.fnM Try.func17 rfl (n := 46) rfl rfl ?_
  refine CC.seq ?_
  refine CC.region ?_
  refine LL.val (R.assign rfl rfl) rfl rfl rfl ?_
  refine LL.val (R.assign rfl rfl) rfl rfl rfl ?_
  refine LL.nilS ?_
  refine CC.seq ?_
  refine CC.region ?_
  refine LL.val (R.move rfl rfl) rfl rfl rfl ?_
  refine LL.val (R.move rfl rfl) rfl rfl rfl ?_
  refine LL.val (R.len rfl rfl rfl rfl) rfl rfl rfl ?_
  refine LL.val (R.quoNc rfl rfl rfl rfl (by omega) (by omega)) rfl rfl rfl ?_
  refine LL.val (R.move rfl rfl) rfl rfl rfl ?_
  (refine LL.call (R.call rfl rfl rfl) rfl rfl rfl (new_T up (n / 2) key _ (by omega) (by omega)) ?_; rintro e W102 ⟨g, rfl, hg, hgl, b99⟩; rw [hN] at hg; refine ⟨_, rfl, ?_⟩)
  have zb99 := b99.size
  replace q := q.trans (b99.mono q.size)
  refine LL.val (R.move rfl rfl) rfl rfl rfl ?_
  refine LL.val (R.extract rfl rfl rfl) rfl rfl rfl ?_
  refine LL.val (R.extract rfl rfl rfl) rfl rfl rfl ?_
  refine LL.val (R.assign rfl rfl) rfl rfl rfl ?_
  refine LL.val (R.assign rfl rfl) rfl rfl rfl ?_
  refine LL.nilS ?_
  refine CC.seq ?_
  refine CC.seq ?_
  refine CC.region ?_
  refine LL.val (R.move rfl rfl) rfl rfl rfl ?_
  refine LL.val (R.neF rfl rfl rfl (by omega)) rfl rfl rfl ?_
  refine LL.val (R.move rfl rfl) rfl rfl rfl ?_
  refine LL.val (R.move rfl rfl) rfl rfl rfl ?_
  refine LL.val (R.move rfl rfl) rfl rfl rfl ?_
  (refine LL.call (R.call rfl rfl rfl) rfl rfl rfl (fits_T left n c a _ hrow) ?_; rintro e W' ⟨rfl, rfl⟩; refine ⟨_, rfl, ?_⟩)
  refine LL.val (R.not rfl rfl) rfl rfl rfl ?_
  refine LL.val (R.pick rfl rfl rfl) rfl rfl rfl ?_
  refine LL.nilS ?_
  refine CC.no rfl ?_
  refine CC.skip ?_
  refine EE.thenN ?_
  refine CC.seq ?_
  refine CC.seq ?_
  refine CC.region ?_
  refine LL.val (R.move rfl rfl) rfl rfl rfl ?_
  refine LL.val (R.move rfl rfl) rfl rfl rfl ?_
  refine LL.val (R.move rfl rfl) rfl rfl rfl ?_
  have l366 := hg.lt
  (refine LL.call (R.call rfl rfl rfl) rfl rfl rfl (over_any g left n c a _) ?_; rintro e W365 ⟨b1, b2, b3, rfl, hb1, hb2, hb3, hbl, b362⟩; refine ⟨_, rfl, ?_⟩)
  have zb362 := b362.size
  replace hg := hg.up b362
  replace b99 := b99.trans (b362.mono b99.size)
  replace q := q.trans (b362.mono q.size)
  refine LL.nilS ?_
  refine CC.block ?_
  obtain ⟨W0, eW⟩ : ∃ X, X = W365 := ⟨_, rfl⟩
  subst eW
  have lg := hg.lt
  have l1 := hb1.lt
  have l2 := hb2.lt
  have l3 := hb3.lt
  have yq := q.size
  have hG := over1_gives b1 b2 b3 g left n c bs a s N W0 ⟨hb1, hb2, hb3, hvF _ q, hg⟩ hn hi (by omega) r4 hbs ⟨by omega, by omega, by omega, by omega⟩
  refine CC.rangeO (γ := Unit) (gf := 65) (lb := [Value.pointer (some ⟨b1, 0, none⟩), .pointer (some ⟨b2, 0, none⟩), .pointer (some ⟨b3, 0, none⟩)]) (encs := lwE) rfl rfl hG (Below.refl _ _) lg (fun k hk => by (try simp only at hk); omega) (fun _ => rfl) rfl
    (fun _ _ W' => Below w.heap.size w W') (fun _ _ _ => False) (fun W' => Below w.heap.size w W' ∧ RowL W' g 56 (rdR g (endOf left s N)))
    (fun m m' p X Y hs ht hm => hs.trans (ht.below yq hgl hs.size))
    (fun m m' p X Y hs ht hm => hs)
    q (fun m xs W' hS hi hro => ⟨hi, hro⟩) (fun m pre W' hp hi => hi.elim)
    (fun _ _ => sl [(10, .pointer (some ⟨g, 0, none⟩))]) (fun _ _ _ => True) (fun _ _ => fun _ _ _ _ _ _ _ => trivial) ?assign ?body ?after
  case assign =>
    rintro l' m pre x W Kc hm h1 hKc
    refine CC.skip ?_
    exact EE.thenK fun a' F => hKc a' _ () (StaysZ.refl _ _ _) (Keeps.refl _ _) h1 (F.keep _ ⟨rfl, trivial⟩) trivial
  case body =>
    rintro l' m pre x _ W hm hl' hrl h1 _ hp
    refine CC.block ?_
    refine CC.skip ?_
    refine EE.inN ?_
    exact EE.roundNZ ⟨StaysZ.refl _ _ _, Keeps.refl _ _, h1⟩
  case after =>
    clear q hg hb1 hb2 hb3 hG
    rintro E W hE ⟨q, hg⟩ hE1
    refine EE.thenN ?_
    refine CC.seq ?_
    refine CC.region ?_
    refine LL.val (R.move rfl rfl) rfl rfl rfl ?_
    have lc14 := hg.lt
    have lc15 := (Array.getElem?_eq_some_iff.1 hE1).1
    (refine LL.call (R.call rfl rfl rfl) rfl rfl rfl (found_any g _ hg) ?_; rintro e Wc13 ⟨rfl, bc10⟩; refine ⟨_, rfl, ?_⟩)
    have zbc10 := bc10.size
    replace q := q.trans (bc10.mono q.size)
    replace hg := hg.up bc10
    replace hE1 := defer_up hE1 bc10
    refine LL.val (R.move rfl rfl) rfl rfl rfl ?_
    refine LL.val (R.extract rfl rfl rfl) rfl rfl rfl ?_
    refine LL.val (R.extract rfl rfl rfl) rfl rfl rfl ?_
    refine LL.val (R.extract rfl rfl rfl) rfl rfl rfl ?_
    refine LL.val (R.assign rfl rfl) rfl rfl rfl ?_
    refine LL.val (R.assign rfl rfl) rfl rfl rfl ?_
    refine LL.val (R.assign rfl rfl) rfl rfl rfl ?_
    refine LL.nilS ?_
    refine CC.seq ?_
    refine CC.region ?_
    refine LL.val (R.move rfl rfl) rfl rfl rfl ?_
    refine LL.val (R.move rfl rfl) rfl rfl rfl ?_
    refine LL.val (R.assign rfl rfl) rfl rfl rfl ?_
    refine LL.val (R.assign rfl rfl) rfl rfl rfl ?_
    refine LL.nilS ?_
    refine CC.ret ?_
    refine EE.ret1 hE1 _ rfl rfl ?_
    exact ⟨rfl, taken_bel q (by omega) (Nat.le_refl _)⟩
theorem look_F (way : Int) (left n c key : Nat) (a : Option Addr) (w : World) (hn : n ≤ 1048576) (h : (way ≠ 1 ∧ way ≠ 2) ∨ ¬ rowOk left n) : Calls Try.prog 17 #[.int .i64 way, .int .u64 (left : Int), .slice a n c, .int .u64 (key : Int)] w fun e w' => e = .returned (.tuple #[.int .u64 0, .bool false]) ∧ Below w.heap.size w w' := by
  have q := Below.refl w.heap.size w
  by_cases h1 : (way ≠ 1 ∧ way ≠ 2) ∨ ((n / 2 : Nat) : Int) < 2 ∨ 28 < ((n / 2 : Nat) : Int)
  · refine X.fnM Try.func17 rfl (n := 46) rfl rfl ?_
    refine CC.seq ?_
    refine CC.region ?_
    refine LL.val (R.assign rfl rfl) rfl rfl rfl ?_
    refine LL.val (R.assign rfl rfl) rfl rfl rfl ?_
    refine LL.nilS ?_
    refine CC.seq ?_
    refine CC.region ?_
    refine LL.val (R.move rfl rfl) rfl rfl rfl ?_
    refine LL.val (R.move rfl rfl) rfl rfl rfl ?_
    refine LL.val (R.len rfl rfl rfl rfl) rfl rfl rfl ?_
    refine LL.val (R.quoNc rfl rfl rfl rfl (by omega) (by omega)) rfl rfl rfl ?_
    refine LL.val (R.move rfl rfl) rfl rfl rfl ?_
    (refine LL.call (R.call rfl rfl rfl) rfl rfl rfl (new_F way ((n / 2 : Nat) : Int) key _ h1) ?_; rintro e W53 ⟨rfl, b50⟩; refine ⟨_, rfl, ?_⟩)
    have zb50 := b50.size
    replace q := q.trans (b50.mono q.size)
    refine LL.val (R.move rfl rfl) rfl rfl rfl ?_
    refine LL.val (R.extract rfl rfl rfl) rfl rfl rfl ?_
    refine LL.val (R.extract rfl rfl rfl) rfl rfl rfl ?_
    refine LL.val (R.assign rfl rfl) rfl rfl rfl ?_
    refine LL.val (R.assign rfl rfl) rfl rfl rfl ?_
    refine LL.nilS ?_
    refine CC.seq ?_
    refine CC.seq ?_
    refine CC.region ?_
    refine LL.val (R.move rfl rfl) rfl rfl rfl ?_
    refine LL.val (R.neT rfl rfl rfl (by omega)) rfl rfl rfl ?_
    refine LL.val (R.move rfl rfl) rfl rfl rfl ?_
    refine LL.skip rfl rfl ?_
    refine LL.skip rfl rfl ?_
    refine LL.skip rfl rfl ?_
    refine LL.skip rfl rfl ?_
    refine LL.val (R.pick rfl rfl rfl) rfl rfl rfl ?_
    refine LL.nilS ?_
    refine CC.yes rfl ?_
    refine CC.seq ?_
    refine CC.region ?_
    refine LL.val (R.assign rfl rfl) rfl rfl rfl ?_
    refine LL.val (R.assign rfl rfl) rfl rfl rfl ?_
    refine LL.nilS ?_
    refine CC.ret ?_
    refine EE.thenR ?_
    refine EE.retM _ rfl rfl ?_
    exact ⟨rfl, q⟩
  have h2 : ¬ rowOk left n := h.resolve_left fun e => h1 (.inl e)
  obtain ⟨up, rfl⟩ : ∃ up, way = wayI up := by
    by_cases e : way = 1
    · exact ⟨true, e⟩
    · exact ⟨false, by unfold wayI; simp; omega⟩
  have h3 : 2 ≤ n / 2 ∧ n / 2 ≤ 28 := by omega
  clear h h1
  refine X.fnM Try.func17 rfl (n := 46) rfl rfl ?_
  refine CC.seq ?_
  refine CC.region ?_
  refine LL.val (R.assign rfl rfl) rfl rfl rfl ?_
  refine LL.val (R.assign rfl rfl) rfl rfl rfl ?_
  refine LL.nilS ?_
  refine CC.seq ?_
  refine CC.region ?_
  refine LL.val (R.move rfl rfl) rfl rfl rfl ?_
  refine LL.val (R.move rfl rfl) rfl rfl rfl ?_
  refine LL.val (R.len rfl rfl rfl rfl) rfl rfl rfl ?_
  refine LL.val (R.quoNc rfl rfl rfl rfl (by omega) (by omega)) rfl rfl rfl ?_
  refine LL.val (R.move rfl rfl) rfl rfl rfl ?_
  (refine LL.call (R.call rfl rfl rfl) rfl rfl rfl (new_T up (n / 2) key _ (by omega) (by omega)) ?_; rintro e Wa53 ⟨g, rfl, hg, hgl, ba50⟩; refine ⟨_, rfl, ?_⟩)
  have zba50 := ba50.size
  replace q := q.trans (ba50.mono q.size)
  refine LL.val (R.move rfl rfl) rfl rfl rfl ?_
  refine LL.val (R.extract rfl rfl rfl) rfl rfl rfl ?_
  refine LL.val (R.extract rfl rfl rfl) rfl rfl rfl ?_
  refine LL.val (R.assign rfl rfl) rfl rfl rfl ?_
  refine LL.val (R.assign rfl rfl) rfl rfl rfl ?_
  refine LL.nilS ?_
  refine CC.seq ?_
  refine CC.seq ?_
  refine CC.region ?_
  refine LL.val (R.move rfl rfl) rfl rfl rfl ?_
  refine LL.val (R.neF rfl rfl rfl (by omega)) rfl rfl rfl ?_
  refine LL.val (R.move rfl rfl) rfl rfl rfl ?_
  refine LL.val (R.move rfl rfl) rfl rfl rfl ?_
  refine LL.val (R.move rfl rfl) rfl rfl rfl ?_
  (refine LL.call (R.call rfl rfl rfl) rfl rfl rfl (fits_F left n c a _ h2 hn) ?_; rintro e W' ⟨rfl, rfl⟩; refine ⟨_, rfl, ?_⟩)
  refine LL.val (R.not rfl rfl) rfl rfl rfl ?_
  refine LL.val (R.pick rfl rfl rfl) rfl rfl rfl ?_
  refine LL.nilS ?_
  refine CC.yes rfl ?_
  refine CC.seq ?_
  refine CC.region ?_
  refine LL.val (R.assign rfl rfl) rfl rfl rfl ?_
  refine LL.val (R.assign rfl rfl) rfl rfl rfl ?_
  refine LL.nilS ?_
  refine CC.ret ?_
  refine EE.thenR ?_
  refine EE.retM _ rfl rfl ?_
  exact ⟨rfl, q⟩
end Go.Proofs.Ytloflmkolnediaa

/- scan: Trace. -/
namespace Go.Proofs.Ytloflmkolnediaa
set_option linter.unusedVariables false
set_option linter.unusedSimpArgs false
open Go.RowKit Go.Shelf
set_option maxRecDepth 100000
set_option maxHeartbeats 8000000
theorem StaysZ.sub {B B' : Nat} {m m' : Nat → Prop} {W W' : World} (h : StaysZ B m W W') (hB : B ≤ B') (hm : ∀ k, m' k → m k) : StaysZ B' m' W W' := ⟨h.size, fun k o hk ho hc => h.same k o (Nat.le_trans hB hk) ho (hc.imp_left (hm k))⟩
theorem StaysZ.blk {B k : Nat} {m : Nat → Prop} {W W' : World} (h : StaysZ B m W W') (hB : B ≤ k) (hm : m k) (hl : k < W.heap.size) : W'.heap[k]? = W.heap[k]? :=
  (h.same k _ hB (Array.getElem?_eq_getElem hl) (.inl hm)).trans (Array.getElem?_eq_getElem hl).symm
abbrev mT (g o1 o2 o3 gy : Nat) (m : Nat → Prop) : Nat → Prop := fun k => (k = g ∨ k = o1 ∨ k = o2 ∨ k = o3 ∨ k = gy) ∨ m k
theorem trace1_T (b1 b2 b3 b4 left n c key bs : Nat) (up : Bool) (a : Option Addr) (s : List Nat) (w : World) (h1 : RowL w b1 22 [.int .i64 (wayI up)]) (h2 : RowL w b2 24 [.slice a n c]) (h3 : RowL w b3 23 [.int .u64 (key : Int)]) (h4 : RowL w b4 23 [.int .u64 (left : Int)]) (hv : ReadsT uE 1 w (.slice a n c) s) (hn : s.length = n) (hr : rowOk left n)
    (hbs : ∀ b off, a = some ⟨b, off, none⟩ → 0 < n → b = bs) (hbl : bs < w.heap.size) :
    GivesZ Try.prog 47 [Value.pointer (some ⟨b1, 0, none⟩), .pointer (some ⟨b2, 0, none⟩), .pointer (some ⟨b3, 0, none⟩), .pointer (some ⟨b4, 0, none⟩)].toArray (fun x => (lwE x).toArray) (fun k => k = bs) (fun xs => xs = trL left s (newR up (n / 2) key)) w := by
  intro lp J Jx W hW hJ hJx hY h0
  replace h1 := h1.up hW
  replace h2 := h2.up hW
  replace h3 := h3.up hW
  replace h4 := h4.up hW
  replace hv := hv.up hW
  have hbl' : bs < W.heap.size := Nat.lt_of_lt_of_le hbl hW.size
  have hrow := hr
  obtain ⟨r1, r2, r3, r4⟩ := hr
  have q := Below.refl W.heap.size W
  have hvF : ∀ X, Below W.heap.size W X → ReadsT uE 1 X (.slice a n c) s := fun X b => hv.up b
  have hi := (new_inv (up := up) (slots := n / 2) (key := key) (by omega) (by omega)).1
  have hsl : (newR up (n / 2) key).slots = n / 2 := by cases up <;> rfl
  obtain ⟨N, hN⟩ : ∃ N, newR up (n / 2) key = N := ⟨_, rfl⟩
  rw [hN] at hi hsl
  rw [hN] at hY ⊢
  clear hv
  rw [show (#[.func (.yield lp) #[] #[]] ++ [Value.pointer (some ⟨b1, 0, none⟩), .pointer (some ⟨b2, 0, none⟩), .pointer (some ⟨b3, 0, none⟩), .pointer (some ⟨b4, 0, none⟩)].toArray : Array Value) = #[.func (.yield lp) #[] #[], .pointer (some ⟨b1, 0, none⟩), .pointer (some ⟨b2, 0, none⟩), .pointer (some ⟨b3, 0, none⟩), .pointer (some ⟨b4, 0, none⟩)] from rfl]
  refine X.fnM Try.func47 rfl (n := 38) rfl rfl ?_
  refine CC.seq ?_
  refine CC.region ?_
  have l23 := h1.lt
  have l24 := h2.lt
  have l25 := h3.lt
  have l26 := h4.lt
  refine LL.box [Value.func (Fn.yield lp) #[] #[]] rfl rfl rfl rfl rfl ?_
  intro W28 g29 eg29 r30 z31 b27
  replace hW := hW.trans (b27.mono hW.size)
  replace h1 := h1.up b27
  replace h2 := h2.up b27
  replace h3 := h3.up b27
  replace h4 := h4.up b27
  replace q := q.trans (b27.mono q.size)
  refine LL.nilS ?_
  refine CC.straight ?_
  refine CC.seq ?_
  refine CC.region ?_
  refine LL.val (R.load rfl rfl (I.ld1 rfl (RowL.cell h1 rfl))) rfl rfl rfl ?_
  refine LL.val (R.load rfl rfl (I.ld1 rfl (RowL.cell h2 rfl))) rfl rfl rfl ?_
  refine LL.val (R.len rfl rfl rfl rfl) rfl rfl rfl ?_
  refine LL.val (R.quoNc rfl rfl rfl rfl (by omega) (by omega)) rfl rfl rfl ?_
  refine LL.val (R.load rfl rfl (I.ld1 rfl (RowL.cell h3 rfl))) rfl rfl rfl ?_
  have l156 := r30.lt
  have l157 := h1.lt
  have l158 := h2.lt
  have l159 := h3.lt
  have l160 := h4.lt
  (refine LL.call (R.call rfl rfl rfl) rfl rfl rfl (new_T up (n / 2) key _ (by omega) (by omega)) ?_; rintro e W155 ⟨g, rfl, hg, hgl, b152⟩; rw [hN] at hg; refine ⟨_, rfl, ?_⟩)
  have zb152 := b152.size
  replace r30 := r30.up b152
  replace b27 := b27.trans (b152.mono b27.size)
  replace hW := hW.trans (b152.mono hW.size)
  replace h1 := h1.up b152
  replace h2 := h2.up b152
  replace h3 := h3.up b152
  replace h4 := h4.up b152
  replace q := q.trans (b152.mono q.size)
  refine LL.val (R.move rfl rfl) rfl rfl rfl ?_
  refine LL.val (R.extract rfl rfl rfl) rfl rfl rfl ?_
  refine LL.val (R.extract rfl rfl rfl) rfl rfl rfl ?_
  refine LL.val (R.assign rfl rfl) rfl rfl rfl ?_
  refine LL.val (R.assign rfl rfl) rfl rfl rfl ?_
  refine LL.nilS ?_
  refine CC.seq ?_
  refine CC.seq ?_
  refine CC.region ?_
  refine LL.val (R.move rfl rfl) rfl rfl rfl ?_
  refine LL.val (R.neF rfl rfl rfl (by omega)) rfl rfl rfl ?_
  refine LL.val (R.move rfl rfl) rfl rfl rfl ?_
  refine LL.val (R.load rfl rfl (I.ld1 rfl (RowL.cell h4 rfl))) rfl rfl rfl ?_
  refine LL.val (R.load rfl rfl (I.ld1 rfl (RowL.cell h2 rfl))) rfl rfl rfl ?_
  (refine LL.call (R.call rfl rfl rfl) rfl rfl rfl (fits_T left n c a _ hrow) ?_; rintro e W' ⟨rfl, rfl⟩; refine ⟨_, rfl, ?_⟩)
  refine LL.val (R.not rfl rfl) rfl rfl rfl ?_
  refine LL.val (R.pick rfl rfl rfl) rfl rfl rfl ?_
  refine LL.nilS ?_
  refine CC.no rfl ?_
  refine CC.skip ?_
  refine EE.thenN ?_
  refine CC.seq ?_
  refine CC.label ?_
  refine EE.thenN ?_
  refine CC.seq ?_
  refine CC.region ?_
  refine LL.val (R.move rfl rfl) rfl rfl rfl ?_
  refine LL.val (R.load rfl rfl (I.ld1 rfl (RowL.cell h4 rfl))) rfl rfl rfl ?_
  refine LL.val (R.load rfl rfl (I.ld1 rfl (RowL.cell h2 rfl))) rfl rfl rfl ?_
  have l584 := hg.lt
  have l585 := r30.lt
  have l586 := h1.lt
  have l587 := h2.lt
  have l588 := h3.lt
  have l589 := h4.lt
  (refine LL.call (R.call rfl rfl rfl) rfl rfl rfl (over_any g left n c a _) ?_; rintro e W583 ⟨o1, o2, o3, rfl, hb1, hb2, hb3, hbl, b580⟩; refine ⟨_, rfl, ?_⟩)
  have zb580 := b580.size
  replace hg := hg.up b580
  replace b152 := b152.trans (b580.mono b152.size)
  replace r30 := r30.up b580
  replace b27 := b27.trans (b580.mono b27.size)
  replace hW := hW.trans (b580.mono hW.size)
  replace h1 := h1.up b580
  replace h2 := h2.up b580
  replace h3 := h3.up b580
  replace h4 := h4.up b580
  replace q := q.trans (b580.mono q.size)
  refine LL.nilS ?_
  refine CC.block ?_
  obtain ⟨W0, eW⟩ : ∃ X, X = W583 := ⟨_, rfl⟩
  obtain ⟨gy, ey⟩ : ∃ X, X = g29 := ⟨_, rfl⟩
  have hry := r30
  subst eW ey
  have lg := hg.lt
  have lo1 := hb1.lt
  have lo2 := hb2.lt
  have lo3 := hb3.lt
  have ly := hry.lt
  have yq := q.size
  have hG := over1_gives o1 o2 o3 g left n c bs a s N W0 ⟨hb1, hb2, hb3, hvF _ q, hg⟩ hn hi (by omega) r4 hbs ⟨by omega, by omega, by omega, by omega⟩
  have turn : ∀ m X Y, TurnsO W0.heap.size g m X Y → TurnsZ W.heap.size (mT g o1 o2 o3 gy m) X Y := fun m X Y ht => ⟨ht.os, ht.tape, ht.output, ht.size, fun k o hk hc => ht.same k o hk (by
    rcases hc with hc | ⟨hc, hd⟩
    · exact .inl (by omega)
    · exact .inr ⟨fun h => hc (.inr h), fun e => hc (.inl (.inl e)), hd⟩)⟩
  have news : ∀ (m m' : Nat → Prop) (X : World), (∀ k, m' k → m k ∨ X.heap.size ≤ k) → ∀ k, mT g o1 o2 o3 gy m' k → mT g o1 o2 o3 gy m k ∨ X.heap.size ≤ k := fun m m' X h k hk => by
    rcases hk with hk | hk
    · exact .inl (.inl hk)
    · exact (h k hk).imp_left .inr
  have hJ0 : J (mT g o1 o2 o3 gy fun _ => False) [] W0 := hJ _ _ _ _ _ h0 (.of_below q) (fun k hk => .inr (by rcases hk with (hk | hk | hk | hk | hk) | hk; omega; omega; omega; omega; omega; exact hk.elim))
  clear h1 h2 h3 h4 h0 hW
  refine CC.rangeO (γ := Unit) (gf := 65) (lb := [Value.pointer (some ⟨o1, 0, none⟩), .pointer (some ⟨o2, 0, none⟩), .pointer (some ⟨o3, 0, none⟩)]) (encs := lwE) rfl rfl hG (Below.refl _ _) lg (fun k hk => by (try simp only at hk); omega) (fun _ => rfl) rfl
    (fun m pre W' => J (mT g o1 o2 o3 gy m) pre W' ∧ RowL W' gy 93 [.func (.yield lp) #[] #[]])
    (fun m pre W' => Jx (mT g o1 o2 o3 gy m) pre W')
    (fun W' => (∃ m, J m (trL left s N) W') ∨ ∃ m pre, Part (fun xs => xs = trL left s N) pre ∧ Jx m pre W')
    (fun m m' p X Y hs ht hm => ⟨hJ _ _ _ _ _ hs.1 (turn _ _ _ ht) (news _ _ _ hm), ht.row hs.2 (.inl (by omega))⟩)
    (fun m m' p X Y hs ht hm => hJx _ _ _ _ _ hs (turn _ _ _ ht) (news _ _ _ hm))
    ⟨hJ0, hry⟩ (fun m xs W' hS hi hro => .inl ⟨_, hS ▸ hi.1⟩) (fun m pre W' hp hi => .inr ⟨_, _, hp, hi⟩)
    (fun x _ => sl [(5, .pointer (some ⟨gy, 0, none⟩)), (8, .int .i64 x.1), (9, .int .u64 (x.2 : Int))]) (fun _ _ _ => True) (fun _ _ => fun _ _ _ _ _ _ _ => trivial) ?assign ?body ?after
  case assign =>
    rintro l' m pre x W Kc hm h1 hKc
    refine CC.seq ?_
    refine CC.region ?_
    refine LL.val (R.assign rfl rfl) rfl rfl rfl ?_
    refine LL.nilS ?_
    refine CC.region ?_
    refine LL.val (R.assign rfl rfl) rfl rfl rfl ?_
    refine LL.nil ?_
    exact EE.thenK fun a' F => hKc a' _ () (StaysZ.refl _ _ _) (Keeps.refl _ _) h1 (F.keep _ ⟨rfl, rfl, rfl, trivial⟩) trivial
  case body =>
    rintro l' m pre x _ X hm hl' hrl ⟨hJr, hyr⟩ _ hp
    clear hry hJ0 hG hb1 hb2 hb3 hg q
    have hX : W0.heap.size ≤ X.heap.size := by
      obtain ⟨r, hr⟩ := hrl
      have := (Array.getElem?_eq_some_iff.1 hr).1
      omega
    have hy := hY _ _ _ X (fun k hk => by
      rcases hk with (hk | hk | hk | hk | hk) | hk
      · omega
      · omega
      · omega
      · omega
      · omega
      · have := hm k hk; omega) hJr hp
    clear hY
    refine CC.block ?_
    refine CC.seq ?_
    refine CC.region ?_
    refine LL.val (R.load rfl rfl (I.ld1 rfl (RowL.cell hyr rfl))) rfl rfl rfl ?_
    refine LL.val (R.move rfl rfl) rfl rfl rfl ?_
    refine LL.val (R.move rfl rfl) rfl rfl rfl ?_
    refine LL.yield (vs := lwE x) rfl rfl rfl rfl rfl hy ?_
    rintro e Y ⟨hs, (⟨rfl, hJ4, hk4⟩ | ⟨rfl, hJx4⟩)⟩
    · refine ⟨_, rfl, ?_⟩
      have kk : Keeps (fun k => k = o1 ∨ k = o2 ∨ k = o3 ∨ k = g ∨ k = bs) X Y := ⟨hs.size, fun k hk => by
        rcases hk with rfl | rfl | rfl | rfl | rfl
        · exact hs.blk (by omega) (.inl (.inr (.inl rfl))) (by omega)
        · exact hs.blk (by omega) (.inl (.inr (.inr (.inl rfl)))) (by omega)
        · exact hs.blk (by omega) (.inl (.inr (.inr (.inr (.inl rfl))))) (by omega)
        · exact hs.blk (by omega) (.inl (.inl rfl)) (by omega)
        · exact hk4.same _ rfl⟩
      have hyr4 := hs.row hyr (by omega) (.inl (.inr (.inr (.inr (.inr rfl)))))
      refine LL.val (R.not rfl rfl) rfl rfl rfl ?_
      refine LL.nilS ?_
      refine CC.no rfl ?_
      refine CC.skip ?_
      refine EE.inN ?_
      exact EE.roundNZ ⟨hs.sub (by omega) (fun k h => .inr h), kk, hJ4, hyr4⟩
    · refine ⟨_, rfl, ?_⟩
      refine LL.val (R.not rfl rfl) rfl rfl rfl ?_
      refine LL.nilS ?_
      refine CC.yes rfl ?_
      refine CC.exit ?_
      refine EE.inX' rfl ?_
      exact EE.roundXZ ⟨hs.sub (by omega) (fun k h => .inr h), rfl, hJx4⟩
  case after =>
    clear hry hJ0 hG hb1 hb2 hb3 hg q
    rintro E Y hE hA hK
    refine EE.noN ?_
    refine EE.end1 hK [] rfl rfl ?_
    refine ⟨⟨_, rfl⟩, ?_⟩
    rcases hA with ⟨m, h⟩ | ⟨m, p, hp, h⟩
    · exact .inl ⟨m, _, rfl, hJ.putObj _ h (by omega) hK rfl⟩
    · exact .inr ⟨m, p, hp, hJx.putObj _ h (by omega) hK rfl⟩
theorem trace1_F (b1 b2 b3 b4 left n c key : Nat) (way : Int) (a : Option Addr) (w : World) (h1 : RowL w b1 22 [.int .i64 way]) (h2 : RowL w b2 24 [.slice a n c]) (h3 : RowL w b3 23 [.int .u64 (key : Int)]) (h4 : RowL w b4 23 [.int .u64 (left : Int)]) (hn : n ≤ 1048576) (h : (way ≠ 1 ∧ way ≠ 2) ∨ ¬ rowOk left n) (D : Nat → Prop) :
    GivesZ Try.prog 47 [Value.pointer (some ⟨b1, 0, none⟩), .pointer (some ⟨b2, 0, none⟩), .pointer (some ⟨b3, 0, none⟩), .pointer (some ⟨b4, 0, none⟩)].toArray (fun x => (lwE x).toArray) D (fun xs => xs = []) w := by
  intro lp J Jx W hW hJ hJx hY h0
  clear hY
  replace h1 := h1.up hW
  replace h2 := h2.up hW
  replace h3 := h3.up hW
  replace h4 := h4.up hW
  have q := Below.refl W.heap.size W
  rw [show (#[.func (.yield lp) #[] #[]] ++ [Value.pointer (some ⟨b1, 0, none⟩), .pointer (some ⟨b2, 0, none⟩), .pointer (some ⟨b3, 0, none⟩), .pointer (some ⟨b4, 0, none⟩)].toArray : Array Value) = #[.func (.yield lp) #[] #[], .pointer (some ⟨b1, 0, none⟩), .pointer (some ⟨b2, 0, none⟩), .pointer (some ⟨b3, 0, none⟩), .pointer (some ⟨b4, 0, none⟩)] from rfl]
  have fin : ∀ X, Below W.heap.size W X → J (fun _ => False) [] X := fun X b => hJ _ _ _ _ _ h0 (.of_below b) fun k hk => hk.elim
  clear h0 hW
  by_cases e1 : (way ≠ 1 ∧ way ≠ 2) ∨ ((n / 2 : Nat) : Int) < 2 ∨ 28 < ((n / 2 : Nat) : Int)
  · refine X.fnM Try.func47 rfl (n := 38) rfl rfl ?_
    refine CC.seq ?_
    refine CC.region ?_
    have l12 := h1.lt
    have l13 := h2.lt
    have l14 := h3.lt
    have l15 := h4.lt
    refine LL.box [Value.func (Fn.yield lp) #[] #[]] rfl rfl rfl rfl rfl ?_
    intro W17 g18 eg18 r19 z20 b16
    replace h1 := h1.up b16
    replace h2 := h2.up b16
    replace h3 := h3.up b16
    replace h4 := h4.up b16
    replace q := q.trans (b16.mono q.size)
    refine LL.nilS ?_
    refine CC.straight ?_
    refine CC.seq ?_
    refine CC.region ?_
    refine LL.val (R.load rfl rfl (I.ld1 rfl (RowL.cell h1 rfl))) rfl rfl rfl ?_
    refine LL.val (R.load rfl rfl (I.ld1 rfl (RowL.cell h2 rfl))) rfl rfl rfl ?_
    refine LL.val (R.len rfl rfl rfl rfl) rfl rfl rfl ?_
    refine LL.val (R.quoNc rfl rfl rfl rfl (by omega) (by omega)) rfl rfl rfl ?_
    refine LL.val (R.load rfl rfl (I.ld1 rfl (RowL.cell h3 rfl))) rfl rfl rfl ?_
    have l85 := r19.lt
    have l86 := h1.lt
    have l87 := h2.lt
    have l88 := h3.lt
    have l89 := h4.lt
    (refine LL.call (R.call rfl rfl rfl) rfl rfl rfl (new_F way ((n / 2 : Nat) : Int) key _ e1) ?_; rintro e W84 ⟨rfl, b81⟩; refine ⟨_, rfl, ?_⟩)
    have zb81 := b81.size
    replace r19 := r19.up b81
    replace b16 := b16.trans (b81.mono b16.size)
    replace h1 := h1.up b81
    replace h2 := h2.up b81
    replace h3 := h3.up b81
    replace h4 := h4.up b81
    replace q := q.trans (b81.mono q.size)
    refine LL.val (R.move rfl rfl) rfl rfl rfl ?_
    refine LL.val (R.extract rfl rfl rfl) rfl rfl rfl ?_
    refine LL.val (R.extract rfl rfl rfl) rfl rfl rfl ?_
    refine LL.val (R.assign rfl rfl) rfl rfl rfl ?_
    refine LL.val (R.assign rfl rfl) rfl rfl rfl ?_
    refine LL.nilS ?_
    refine CC.seq ?_
    refine CC.seq ?_
    refine CC.region ?_
    refine LL.val (R.move rfl rfl) rfl rfl rfl ?_
    refine LL.val (R.neT rfl rfl rfl (by omega)) rfl rfl rfl ?_
    refine LL.val (R.move rfl rfl) rfl rfl rfl ?_
    refine LL.skip rfl rfl ?_
    refine LL.skip rfl rfl ?_
    refine LL.skip rfl rfl ?_
    refine LL.skip rfl rfl ?_
    refine LL.val (R.pick rfl rfl rfl) rfl rfl rfl ?_
    refine LL.nilS ?_
    refine CC.yes rfl ?_
    refine CC.ret ?_
    refine EE.thenR ?_
    refine EE.noR ?_
    refine EE.retM _ rfl rfl ?_
    exact ⟨⟨_, rfl⟩, .inl ⟨_, _, rfl, fin _ q⟩⟩
  have e2 : ¬ rowOk left n := h.resolve_left fun e => e1 (.inl e)
  obtain ⟨up, rfl⟩ : ∃ up, way = wayI up := by
    by_cases e : way = 1
    · exact ⟨true, e⟩
    · exact ⟨false, by unfold wayI; simp; omega⟩
  have e3 : 2 ≤ n / 2 ∧ n / 2 ≤ 28 := by omega
  clear h e1
  refine X.fnM Try.func47 rfl (n := 38) rfl rfl ?_
  refine CC.seq ?_
  refine CC.region ?_
  have la12 := h2.lt
  have la13 := h3.lt
  have la14 := h4.lt
  have la15 := h1.lt
  refine LL.box [Value.func (Fn.yield lp) #[] #[]] rfl rfl rfl rfl rfl ?_
  intro Wa17 ga18 ega18 ra19 za20 ba16
  replace h2 := h2.up ba16
  replace h3 := h3.up ba16
  replace h4 := h4.up ba16
  replace q := q.trans (ba16.mono q.size)
  replace h1 := h1.up ba16
  refine LL.nilS ?_
  refine CC.straight ?_
  refine CC.seq ?_
  refine CC.region ?_
  refine LL.val (R.load rfl rfl (I.ld1 rfl (RowL.cell h1 rfl))) rfl rfl rfl ?_
  refine LL.val (R.load rfl rfl (I.ld1 rfl (RowL.cell h2 rfl))) rfl rfl rfl ?_
  refine LL.val (R.len rfl rfl rfl rfl) rfl rfl rfl ?_
  refine LL.val (R.quoNc rfl rfl rfl rfl (by omega) (by omega)) rfl rfl rfl ?_
  refine LL.val (R.load rfl rfl (I.ld1 rfl (RowL.cell h3 rfl))) rfl rfl rfl ?_
  have la85 := ra19.lt
  have la86 := h2.lt
  have la87 := h3.lt
  have la88 := h4.lt
  have la89 := h1.lt
  (refine LL.call (R.call rfl rfl rfl) rfl rfl rfl (new_T up (n / 2) key _ (by omega) (by omega)) ?_; rintro e Wa84 ⟨g, rfl, hg, hgl, ba81⟩; refine ⟨_, rfl, ?_⟩)
  have zba81 := ba81.size
  replace ra19 := ra19.up ba81
  replace ba16 := ba16.trans (ba81.mono ba16.size)
  replace h2 := h2.up ba81
  replace h3 := h3.up ba81
  replace h4 := h4.up ba81
  replace q := q.trans (ba81.mono q.size)
  replace h1 := h1.up ba81
  refine LL.val (R.move rfl rfl) rfl rfl rfl ?_
  refine LL.val (R.extract rfl rfl rfl) rfl rfl rfl ?_
  refine LL.val (R.extract rfl rfl rfl) rfl rfl rfl ?_
  refine LL.val (R.assign rfl rfl) rfl rfl rfl ?_
  refine LL.val (R.assign rfl rfl) rfl rfl rfl ?_
  refine LL.nilS ?_
  refine CC.seq ?_
  refine CC.seq ?_
  refine CC.region ?_
  refine LL.val (R.move rfl rfl) rfl rfl rfl ?_
  refine LL.val (R.neF rfl rfl rfl (by omega)) rfl rfl rfl ?_
  refine LL.val (R.move rfl rfl) rfl rfl rfl ?_
  refine LL.val (R.load rfl rfl (I.ld1 rfl (RowL.cell h4 rfl))) rfl rfl rfl ?_
  refine LL.val (R.load rfl rfl (I.ld1 rfl (RowL.cell h2 rfl))) rfl rfl rfl ?_
  (refine LL.call (R.call rfl rfl rfl) rfl rfl rfl (fits_F left n c a _ e2 hn) ?_; rintro e W' ⟨rfl, rfl⟩; refine ⟨_, rfl, ?_⟩)
  refine LL.val (R.not rfl rfl) rfl rfl rfl ?_
  refine LL.val (R.pick rfl rfl rfl) rfl rfl rfl ?_
  refine LL.nilS ?_
  refine CC.yes rfl ?_
  refine CC.ret ?_
  refine EE.thenR ?_
  refine EE.noR ?_
  refine EE.retM _ rfl rfl ?_
  exact ⟨⟨_, rfl⟩, .inl ⟨_, _, rfl, fin _ q⟩⟩
/-- The loads that Trace tells. -/
def trS (way : Int) (left : Nat) (s : List Nat) (key : Nat) : List (Int × Nat) :=
  if (way = 1 ∨ way = 2) ∧ rowOk left s.length then trL left s (newR (decide (way = 1)) (s.length / 2) key) else []
theorem trS_T {up : Bool} {left key : Nat} {s : List Nat} (h : rowOk left s.length) : trS (wayI up) left s key = trL left s (newR up (s.length / 2) key) := by
  unfold trS
  rw [if_pos ⟨by cases up <;> simp [wayI], h⟩]
  cases up <;> rfl
theorem trS_F {way : Int} {left key : Nat} {s : List Nat} (h : (way ≠ 1 ∧ way ≠ 2) ∨ ¬ rowOk left s.length) : trS way left s key = [] := by
  unfold trS
  rw [if_neg (fun e => by rcases h with h | h; exact (e.1.elim h.1 h.2); exact h e.2)]
theorem way_cases (way : Int) (left n : Nat) : (∃ up, way = wayI up ∧ rowOk left n) ∨ ((way ≠ 1 ∧ way ≠ 2) ∨ ¬ rowOk left n) := by
  by_cases h : rowOk left n
  · by_cases e : way = 1
    · exact .inl ⟨true, e, h⟩
    by_cases e2 : way = 2
    · exact .inl ⟨false, e2, h⟩
    · exact .inr (.inl ⟨e, e2⟩)
  · exact .inr (.inr h)
theorem exposeT {α : Type} {enc : α → List Value} {k : Nat} {W : World} {v : Value} {ts : List α} (h : ReadsT enc k W v ts) : ∃ X0 : World, W.heap.size ≤ X0.heap.size ∧ (∀ X, Below X0.heap.size X0 X → ReadsT enc k X v ts) ∧ Below X0.heap.size X0 W := ⟨W, Nat.le_refl _, fun X b => h.up b, Below.refl _ _⟩

theorem own_bs {W : World} {B e n c : Nat} {a : Option Addr} {s : List Nat} (o : OwnsT uE 1 W B e (.slice a n c) s) (hn : s.length = n) (h0 : 0 < n) : ∃ bs, (∀ b off, a = some ⟨b, off, none⟩ → 0 < n → b = bs) ∧ B ≤ bs ∧ bs < W.heap.size := by
  rcases o.2 with ⟨h, h1⟩ | ⟨g, cap, cur, h, hB, hg, _⟩
  · cases h; omega
  · cases h
    exact ⟨g, fun b off e _ => by cases e; rfl, hB, (Array.getElem?_eq_some_iff.1 hg).1⟩
theorem trace_fin {b1 b2 b3 b4 left n c key : Nat} {way : Int} {a : Option Addr} {s : List Nat} {w W : World} (q : Below w.heap.size w W) (hv : ReadsT uE 1 W (.slice a n c) s) (hn : s.length = n) (hl : n ≤ 1048576) (hb : 0 < n → ∃ bs, (∀ b off, a = some ⟨b, off, none⟩ → 0 < n → b = bs) ∧ w.heap.size ≤ bs ∧ bs < W.heap.size) (h1 : RowL W b1 22 [.int .i64 way]) (h2 : RowL W b2 24 [.slice a n c]) (h3 : RowL W b3 23 [.int .u64 (key : Int)]) (h4 : RowL W b4 23 [.int .u64 (left : Int)]) : ∃ (lb : List Value) (D : Nat → Prop), Ending.returned (.func (.func 47) #[] #[.pointer (some ⟨b1, 0, none⟩), .pointer (some ⟨b2, 0, none⟩), .pointer (some ⟨b3, 0, none⟩), .pointer (some ⟨b4, 0, none⟩)]) = .returned (.func (.func 47) #[] lb.toArray) ∧ GivesZ Try.prog 47 lb.toArray (fun x => (lwE x).toArray) D (fun xs => xs = trS way left s key) W ∧ (∀ k, D k → w.heap.size ≤ k ∧ k < W.heap.size) ∧ Below w.heap.size w W := by
  subst hn
  rcases way_cases way left s.length with ⟨up, rfl, hr⟩ | hF
  · obtain ⟨bs, h5, h6, h7⟩ := hb (by have := hr.2.2.1; omega)
    refine ⟨[.pointer (some ⟨b1, 0, none⟩), .pointer (some ⟨b2, 0, none⟩), .pointer (some ⟨b3, 0, none⟩), .pointer (some ⟨b4, 0, none⟩)], fun k => k = bs, rfl, ?_, fun k hk => by simp only at hk; omega, q⟩
    rw [trS_T hr]
    exact trace1_T b1 b2 b3 b4 left s.length c key bs up a s W h1 h2 h3 h4 hv rfl hr h5 h7
  · refine ⟨[.pointer (some ⟨b1, 0, none⟩), .pointer (some ⟨b2, 0, none⟩), .pointer (some ⟨b3, 0, none⟩), .pointer (some ⟨b4, 0, none⟩)], fun _ => False, rfl, ?_, fun k hk => hk.elim, q⟩
    rw [trS_F hF]
    exact trace1_F b1 b2 b3 b4 left s.length c key way a W h1 h2 h3 h4 hl hF _
theorem trace_any (way : Int) (left n c key : Nat) (a : Option Addr) (s : List Nat) (w : World) (hv : ReadsT uE 1 w (.slice a n c) s) (hn : s.length = n) (hl : n ≤ 1048576) : Calls Try.prog 20 #[.int .i64 way, .int .u64 (left : Int), .slice a n c, .int .u64 (key : Int)] w fun e w' => ∃ (lb : List Value) (D : Nat → Prop), e = .returned (.func (.func 47) #[] lb.toArray) ∧ GivesZ Try.prog 47 lb.toArray (fun x => (lwE x).toArray) D (fun xs => xs = trS way left s key) w' ∧ (∀ k, D k → w.heap.size ≤ k ∧ k < w'.heap.size) ∧ Below w.heap.size w w' := by
  have q := Below.refl w.heap.size w
  have hvF : ∀ X, Below w.heap.size w X → ReadsT uE 1 X (.slice a n c) s := fun X b => hv.up b
  clear hv
  refine X.fn Try.func20 rfl (n := 13) rfl rfl ?_
  refine CC.seq ?_
  refine CC.region ?_
  refine LL.box [Value.int IntKind.i64 way] rfl rfl rfl rfl rfl ?_
  intro W9 g10 eg10 r11 z12 b8
  replace q := q.trans (b8.mono q.size)
  have l21 := r11.lt
  refine LL.box [Value.int IntKind.u64 ↑left] rfl rfl rfl rfl rfl ?_
  intro W23 g24 eg24 r25 z26 b22
  replace r11 := r11.up b22
  replace b8 := b8.trans (b22.mono b8.size)
  replace q := q.trans (b22.mono q.size)
  have l36 := r25.lt
  have l37 := r11.lt
  refine LL.box [Value.int IntKind.u64 ↑key] rfl rfl rfl rfl rfl ?_
  intro W39 g40 eg40 r41 z42 b38
  replace r25 := r25.up b38
  replace b22 := b22.trans (b38.mono b22.size)
  replace r11 := r11.up b38
  replace b8 := b8.trans (b38.mono b8.size)
  replace q := q.trans (b38.mono q.size)
  refine LL.val (R.assign rfl rfl) rfl rfl rfl ?_
  refine LL.nilS ?_
  refine CC.seq ?_
  refine CC.region ?_
  refine LL.val (R.move rfl rfl) rfl rfl rfl ?_
  have l67 := r41.lt
  have l68 := r25.lt
  have l69 := r11.lt
  (refine LL.call (R.call rfl rfl rfl) rfl rfl rfl (uclone_any _ s _ (hvF _ q) (by omega)) ?_; rintro e W66 ⟨v1, rfl, o1, b63⟩; obtain ⟨a1, c1, rfl, hc1⟩ := (o1.reads uEnc).form hn; have hb := own_bs o1 hn; obtain ⟨X1, hzX1, h1F, q1⟩ := exposeT (o1.reads uEnc); have zq1 := q1.size; clear o1; refine ⟨_, rfl, ?_⟩)
  have zb63 := b63.size
  replace r41 := r41.up b63
  replace b38 := b38.trans (b63.mono b38.size)
  replace r25 := r25.up b63
  replace b22 := b22.trans (b63.mono b22.size)
  replace r11 := r11.up b63
  replace b8 := b8.trans (b63.mono b8.size)
  replace q := q.trans (b63.mono q.size)
  have l83 := r41.lt
  have l84 := r25.lt
  have l85 := r11.lt
  refine LL.alloc ([Value.slice none 0 0]) rfl rfl rfl rfl rfl ?_
  intro W87 g88 eg88 r89 z90 b86
  replace b63 := b63.trans (b86.mono b63.size)
  replace q1 := q1.trans (b86.mono q1.size)
  replace r41 := r41.up b86
  replace b38 := b38.trans (b86.mono b38.size)
  replace r25 := r25.up b86
  replace b22 := b22.trans (b86.mono b22.size)
  replace r11 := r11.up b86
  replace b8 := b8.trans (b86.mono b8.size)
  replace q := q.trans (b86.mono q.size)
  refine LL.store rfl rfl rfl rfl r89 (by exact Nat.le_of_ble_eq_true rfl) rfl rfl rfl rfl ?_
  intro W103 r104 b102 z105
  have hlb102 := r89.lt
  replace r104 : RowL W103 _ 24 [Value.slice a1 n c1] := r104
  clear r89
  replace b86 := b86.grown b102 b86.size (by rintro k ⟨⟩; omega)
  replace b63 := b63.grown b102 b63.size (by rintro k ⟨⟩; omega)
  replace q1 := q1.grown b102 q1.size (by rintro k ⟨⟩; omega)
  replace r41 := r41.gr b102 (by have := r41.lt; omega)
  replace b38 := b38.grown b102 b38.size (by rintro k ⟨⟩; omega)
  replace r25 := r25.gr b102 (by have := r25.lt; omega)
  replace b22 := b22.grown b102 b22.size (by rintro k ⟨⟩; omega)
  replace r11 := r11.gr b102 (by have := r11.lt; omega)
  replace b8 := b8.grown b102 b8.size (by rintro k ⟨⟩; omega)
  replace q := q.grown b102 q.size (by rintro k ⟨⟩; omega)
  have r89 := r104
  clear r104
  refine LL.nilS ?_
  refine CC.seq ?_
  refine CC.region ?_
  refine LL.val (R.func rfl rfl rfl) rfl rfl rfl ?_
  refine LL.val (R.assign rfl rfl) rfl rfl rfl ?_
  refine LL.nilS ?_
  refine CC.ret ?_
  refine EE.ret _ rfl rfl ?_
  exact trace_fin q (h1F _ q1) hn hl (fun h0 => by obtain ⟨bs, y1, y2, y3⟩ := hb h0; exact ⟨bs, y1, by omega, by omega⟩) (by assumption) (by assumption) (by assumption) (by assumption)
end Go.Proofs.Ytloflmkolnediaa
