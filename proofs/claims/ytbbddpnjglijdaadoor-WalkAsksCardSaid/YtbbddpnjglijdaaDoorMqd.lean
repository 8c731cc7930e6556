/- What the statements' walks use: Wk1, Wk2, Wk3, Wk4, Wk5, Wk6, Wk7, TClear, TSet, TFld, CellE. -/

import Derived.Test.YtbbddpnjglijdaaDoorMqa
import Derived.Test.YtbbddpnjglijdaaDoorMqc
/- walk: a path's parts (written by genwk1.py). -/
namespace Go.Proofs.YtbbddpnjglijdaaDoor
set_option linter.unusedVariables false
set_option linter.unusedSimpArgs false
open Go.RowKit Go.Shelf
set_option maxRecDepth 100000 in
set_option maxHeartbeats 8000000 in
theorem wparts_any (l : Bs) (w : World) (hm : Mx w) (hl : l.length ≤ 9223372036854775807) :
    Calls Tryd.prog 32 #[strV l] w fun e w' => ∃ v, e = .returned (.tuple #[v, .int .i64 (pathN l : Int)]) ∧ OwnsT stE 1 w' w.heap.size 9 v (if pathN l = 0 then partsL l else []) ∧ Below w.heap.size w w' := by
  refine X.fnM Tryd.func32 rfl (n := 26) rfl rfl ?_
  have q := Below.refl w.heap.size w
  (repeat (first | (first | refine CC.seq ?_ | refine CC.region ?_ | refine LL.nilS ?_ | refine CC.yes rfl ?_ | refine CC.no rfl ?_ | refine CC.block ?_ | refine EE.thenN ?_ | refine LL.nil ?_ | refine CC.exit ?_ | refine CC.ret ?_ | refine CC.skip ?_ | refine EE.thenX ?_ | refine EE.thenR ?_ | refine EE.inN ?_ | refine EE.inX ?_ | refine EE.inX' rfl ?_ | refine EE.inR ?_ | refine CC.label ?_ | refine EE.thenG ?_ | refine EE.inG ?_) | (first | refine LL.val (R.move rfl rfl) rfl rfl rfl ?_ | refine LL.val (R.assign rfl rfl) rfl rfl rfl ?_ | refine LL.val (R.nil rfl rfl) rfl rfl rfl ?_ | refine LL.val (R.field rfl rfl (I.fld rfl)) rfl rfl rfl ?_ | refine LL.val (R.load rfl rfl (I.ld1 rfl (by assumption))) rfl rfl rfl ?_ | refine LL.val (R.load rfl rfl (I.ld1 rfl (RowL.cell (by assumption) rfl))) rfl rfl rfl ?_ | refine LL.val (R.index rfl rfl rfl (I.ixA1c rfl rfl (by first | omega | decide))) rfl rfl rfl ?_ | refine LL.val (R.index rfl rfl rfl (I.ixS1c rfl rfl (by omega))) rfl rfl rfl ?_ | refine LL.val (R.index rfl rfl rfl (I.ixAc rfl rfl (by first | omega | decide))) rfl rfl rfl ?_ | refine LL.val (R.index rfl rfl rfl (I.ixSc rfl rfl (by omega))) rfl rfl rfl ?_ | refine LL.val (R.index rfl rfl rfl (I.ixA1 rfl (by omega))) rfl rfl rfl ?_ | refine LL.val (R.index rfl rfl rfl (I.ixS1 rfl (by omega))) rfl rfl rfl ?_ | refine LL.val (R.index rfl rfl rfl (I.ixA rfl (by omega))) rfl rfl rfl ?_ | refine LL.val (R.index rfl rfl rfl (I.ixS rfl (by omega))) rfl rfl rfl ?_ | refine LL.val (R.ltT rfl rfl rfl (by omega)) rfl rfl rfl ?_ | refine LL.val (R.ltF rfl rfl rfl (by omega)) rfl rfl rfl ?_ | refine LL.val (R.addNc rfl rfl rfl rfl (by omega)) rfl rfl rfl ?_ | refine LL.val (R.subNc rfl rfl rfl rfl (by omega) (by omega)) rfl rfl rfl ?_ | refine LL.val (R.addN rfl rfl rfl (by omega)) rfl rfl rfl ?_ | refine LL.val (R.subN rfl rfl rfl (by omega) (by omega)) rfl rfl rfl ?_ | refine LL.val (R.subcN rfl rfl rfl rfl (by omega) (by omega)) rfl rfl rfl ?_ | refine LL.val (R.addI rfl rfl rfl (by omega)) rfl rfl rfl ?_ | refine LL.val (R.subI rfl rfl rfl (by omega)) rfl rfl rfl ?_ | refine LL.val (R.mulNc rfl rfl rfl rfl (by omega)) rfl rfl rfl ?_ | refine LL.val (R.mulcN rfl rfl rfl rfl (by omega)) rfl rfl rfl ?_ | refine LL.val (R.quoNc rfl rfl rfl rfl (by omega) (by omega)) rfl rfl rfl ?_ | refine LL.val (R.remNc rfl rfl rfl rfl (by omega)) rfl rfl rfl ?_ | refine LL.val (R.mulN rfl rfl rfl (by omega)) rfl rfl rfl ?_ | refine LL.val (R.quoN rfl rfl rfl (by omega) (by omega)) rfl rfl rfl ?_ | refine LL.val (R.remN rfl rfl rfl (by omega)) rfl rfl rfl ?_ | refine LL.val (R.leT rfl rfl rfl (by omega)) rfl rfl rfl ?_ | refine LL.val (R.leF rfl rfl rfl (by omega)) rfl rfl rfl ?_ | refine LL.val (R.gtT rfl rfl rfl (by omega)) rfl rfl rfl ?_ | refine LL.val (R.gtF rfl rfl rfl (by omega)) rfl rfl rfl ?_ | refine LL.val (R.geT rfl rfl rfl (by omega)) rfl rfl rfl ?_ | refine LL.val (R.geF rfl rfl rfl (by omega)) rfl rfl rfl ?_ | refine LL.val (R.eqT rfl rfl rfl (by omega)) rfl rfl rfl ?_ | refine LL.val (R.eqF rfl rfl rfl (by omega)) rfl rfl rfl ?_ | refine LL.val (R.neT rfl rfl rfl (by omega)) rfl rfl rfl ?_ | refine LL.val (R.neF rfl rfl rfl (by omega)) rfl rfl rfl ?_ | refine LL.val (R.eqPtr rfl rfl rfl rfl rfl) rfl rfl rfl ?_ | refine LL.val (R.nePtr rfl rfl rfl rfl rfl) rfl rfl rfl ?_ | refine LL.val (R.eqSl rfl rfl rfl rfl rfl) rfl rfl rfl ?_ | refine LL.val (R.neSl rfl rfl rfl rfl rfl) rfl rfl rfl ?_ | refine LL.val (R.eqFn rfl rfl rfl rfl) rfl rfl rfl ?_ | refine LL.val (R.eqBool rfl rfl rfl rfl rfl) rfl rfl rfl ?_ | refine LL.val (R.neBool rfl rfl rfl rfl rfl) rfl rfl rfl ?_ | refine LL.val (R.xorU rfl rfl rfl (by first | omega | decide) (by first | omega | decide)) rfl rfl rfl ?_ | refine LL.val (R.addUN rfl rfl rfl (by omega)) rfl rfl rfl ?_ | refine LL.val (R.not rfl rfl) rfl rfl rfl ?_ | refine LL.val (R.lenS rfl rfl rfl rfl) rfl rfl rfl ?_ | refine LL.val (R.len rfl rfl rfl rfl) rfl rfl rfl ?_ | refine LL.val (R.pick rfl rfl rfl) rfl rfl rfl ?_ | refine LL.val (R.extract rfl rfl rfl) rfl rfl rfl ?_ | refine LL.val (R.func rfl rfl rfl) rfl rfl rfl ?_ | refine LL.val (R.slice rfl rfl rfl rfl rfl (I.slA rfl)) rfl rfl rfl ?_ | refine LL.val (R.slice rfl rfl rfl rfl rfl (I.slAto rfl (by omega))) rfl rfl rfl ?_) | refine LL.skip rfl rfl ?_))
  refine LL.call (R.call rfl rfl rfl) rfl rfl rfl (short_any l _ hm hl) ?_
  rintro e W ⟨rfl, b⟩
  refine ⟨_, rfl, ?_⟩
  have hsz_ := b.size
  replace q := q.trans (b.mono q.size)
  replace hm := hm.up b
  by_cases h0 : pathN l = 0
  case neg =>
    rw [if_neg h0]
    obtain ⟨n, hn⟩ : ∃ n, pathN l = n := ⟨_, rfl⟩
    rw [hn] at h0 ⊢
    (repeat (first | (first | refine CC.seq ?_ | refine CC.region ?_ | refine LL.nilS ?_ | refine CC.yes rfl ?_ | refine CC.no rfl ?_ | refine CC.block ?_ | refine EE.thenN ?_ | refine LL.nil ?_ | refine CC.exit ?_ | refine CC.ret ?_ | refine CC.skip ?_ | refine EE.thenX ?_ | refine EE.thenR ?_ | refine EE.inN ?_ | refine EE.inX ?_ | refine EE.inX' rfl ?_ | refine EE.inR ?_ | refine CC.label ?_ | refine EE.thenG ?_ | refine EE.inG ?_) | (first | refine LL.val (R.move rfl rfl) rfl rfl rfl ?_ | refine LL.val (R.assign rfl rfl) rfl rfl rfl ?_ | refine LL.val (R.nil rfl rfl) rfl rfl rfl ?_ | refine LL.val (R.field rfl rfl (I.fld rfl)) rfl rfl rfl ?_ | refine LL.val (R.load rfl rfl (I.ld1 rfl (by assumption))) rfl rfl rfl ?_ | refine LL.val (R.load rfl rfl (I.ld1 rfl (RowL.cell (by assumption) rfl))) rfl rfl rfl ?_ | refine LL.val (R.index rfl rfl rfl (I.ixA1c rfl rfl (by first | omega | decide))) rfl rfl rfl ?_ | refine LL.val (R.index rfl rfl rfl (I.ixS1c rfl rfl (by omega))) rfl rfl rfl ?_ | refine LL.val (R.index rfl rfl rfl (I.ixAc rfl rfl (by first | omega | decide))) rfl rfl rfl ?_ | refine LL.val (R.index rfl rfl rfl (I.ixSc rfl rfl (by omega))) rfl rfl rfl ?_ | refine LL.val (R.index rfl rfl rfl (I.ixA1 rfl (by omega))) rfl rfl rfl ?_ | refine LL.val (R.index rfl rfl rfl (I.ixS1 rfl (by omega))) rfl rfl rfl ?_ | refine LL.val (R.index rfl rfl rfl (I.ixA rfl (by omega))) rfl rfl rfl ?_ | refine LL.val (R.index rfl rfl rfl (I.ixS rfl (by omega))) rfl rfl rfl ?_ | refine LL.val (R.ltT rfl rfl rfl (by omega)) rfl rfl rfl ?_ | refine LL.val (R.ltF rfl rfl rfl (by omega)) rfl rfl rfl ?_ | refine LL.val (R.addNc rfl rfl rfl rfl (by omega)) rfl rfl rfl ?_ | refine LL.val (R.subNc rfl rfl rfl rfl (by omega) (by omega)) rfl rfl rfl ?_ | refine LL.val (R.addN rfl rfl rfl (by omega)) rfl rfl rfl ?_ | refine LL.val (R.subN rfl rfl rfl (by omega) (by omega)) rfl rfl rfl ?_ | refine LL.val (R.subcN rfl rfl rfl rfl (by omega) (by omega)) rfl rfl rfl ?_ | refine LL.val (R.addI rfl rfl rfl (by omega)) rfl rfl rfl ?_ | refine LL.val (R.subI rfl rfl rfl (by omega)) rfl rfl rfl ?_ | refine LL.val (R.mulNc rfl rfl rfl rfl (by omega)) rfl rfl rfl ?_ | refine LL.val (R.mulcN rfl rfl rfl rfl (by omega)) rfl rfl rfl ?_ | refine LL.val (R.quoNc rfl rfl rfl rfl (by omega) (by omega)) rfl rfl rfl ?_ | refine LL.val (R.remNc rfl rfl rfl rfl (by omega)) rfl rfl rfl ?_ | refine LL.val (R.mulN rfl rfl rfl (by omega)) rfl rfl rfl ?_ | refine LL.val (R.quoN rfl rfl rfl (by omega) (by omega)) rfl rfl rfl ?_ | refine LL.val (R.remN rfl rfl rfl (by omega)) rfl rfl rfl ?_ | refine LL.val (R.leT rfl rfl rfl (by omega)) rfl rfl rfl ?_ | refine LL.val (R.leF rfl rfl rfl (by omega)) rfl rfl rfl ?_ | refine LL.val (R.gtT rfl rfl rfl (by omega)) rfl rfl rfl ?_ | refine LL.val (R.gtF rfl rfl rfl (by omega)) rfl rfl rfl ?_ | refine LL.val (R.geT rfl rfl rfl (by omega)) rfl rfl rfl ?_ | refine LL.val (R.geF rfl rfl rfl (by omega)) rfl rfl rfl ?_ | refine LL.val (R.eqT rfl rfl rfl (by omega)) rfl rfl rfl ?_ | refine LL.val (R.eqF rfl rfl rfl (by omega)) rfl rfl rfl ?_ | refine LL.val (R.neT rfl rfl rfl (by omega)) rfl rfl rfl ?_ | refine LL.val (R.neF rfl rfl rfl (by omega)) rfl rfl rfl ?_ | refine LL.val (R.eqPtr rfl rfl rfl rfl rfl) rfl rfl rfl ?_ | refine LL.val (R.nePtr rfl rfl rfl rfl rfl) rfl rfl rfl ?_ | refine LL.val (R.eqSl rfl rfl rfl rfl rfl) rfl rfl rfl ?_ | refine LL.val (R.neSl rfl rfl rfl rfl rfl) rfl rfl rfl ?_ | refine LL.val (R.eqFn rfl rfl rfl rfl) rfl rfl rfl ?_ | refine LL.val (R.eqBool rfl rfl rfl rfl rfl) rfl rfl rfl ?_ | refine LL.val (R.neBool rfl rfl rfl rfl rfl) rfl rfl rfl ?_ | refine LL.val (R.xorU rfl rfl rfl (by first | omega | decide) (by first | omega | decide)) rfl rfl rfl ?_ | refine LL.val (R.addUN rfl rfl rfl (by omega)) rfl rfl rfl ?_ | refine LL.val (R.not rfl rfl) rfl rfl rfl ?_ | refine LL.val (R.lenS rfl rfl rfl rfl) rfl rfl rfl ?_ | refine LL.val (R.len rfl rfl rfl rfl) rfl rfl rfl ?_ | refine LL.val (R.pick rfl rfl rfl) rfl rfl rfl ?_ | refine LL.val (R.extract rfl rfl rfl) rfl rfl rfl ?_ | refine LL.val (R.func rfl rfl rfl) rfl rfl rfl ?_ | refine LL.val (R.slice rfl rfl rfl rfl rfl (I.slA rfl)) rfl rfl rfl ?_ | refine LL.val (R.slice rfl rfl rfl rfl rfl (I.slAto rfl (by omega))) rfl rfl rfl ?_) | refine LL.skip rfl rfl ?_))
    refine EE.retM [.slice none 0 0, .int .i64 (n : Int)] rfl rfl ?_
    exact ⟨_, rfl, OwnsT.none _ _ _, q⟩
  rw [if_pos h0]
  have hl2 := pathN_long h0
  have hgs := glue_short h0
  obtain ⟨hsp, hsq⟩ := short_path h0
  obtain ⟨L, hL⟩ : ∃ L, glueL (partsL l) = L := ⟨_, rfl⟩
  rw [hL] at hsp hsq hgs
  have hpl := partsL_len l
  rw [h0, if_pos rfl, hL]
  (repeat (first | (first | refine CC.seq ?_ | refine CC.region ?_ | refine LL.nilS ?_ | refine CC.yes rfl ?_ | refine CC.no rfl ?_ | refine CC.block ?_ | refine EE.thenN ?_ | refine LL.nil ?_ | refine CC.exit ?_ | refine CC.ret ?_ | refine CC.skip ?_ | refine EE.thenX ?_ | refine EE.thenR ?_ | refine EE.inN ?_ | refine EE.inX ?_ | refine EE.inX' rfl ?_ | refine EE.inR ?_ | refine CC.label ?_ | refine EE.thenG ?_ | refine EE.inG ?_) | (first | refine LL.val (R.move rfl rfl) rfl rfl rfl ?_ | refine LL.val (R.assign rfl rfl) rfl rfl rfl ?_ | refine LL.val (R.nil rfl rfl) rfl rfl rfl ?_ | refine LL.val (R.field rfl rfl (I.fld rfl)) rfl rfl rfl ?_ | refine LL.val (R.load rfl rfl (I.ld1 rfl (by assumption))) rfl rfl rfl ?_ | refine LL.val (R.load rfl rfl (I.ld1 rfl (RowL.cell (by assumption) rfl))) rfl rfl rfl ?_ | refine LL.val (R.index rfl rfl rfl (I.ixA1c rfl rfl (by first | omega | decide))) rfl rfl rfl ?_ | refine LL.val (R.index rfl rfl rfl (I.ixS1c rfl rfl (by omega))) rfl rfl rfl ?_ | refine LL.val (R.index rfl rfl rfl (I.ixAc rfl rfl (by first | omega | decide))) rfl rfl rfl ?_ | refine LL.val (R.index rfl rfl rfl (I.ixSc rfl rfl (by omega))) rfl rfl rfl ?_ | refine LL.val (R.index rfl rfl rfl (I.ixA1 rfl (by omega))) rfl rfl rfl ?_ | refine LL.val (R.index rfl rfl rfl (I.ixS1 rfl (by omega))) rfl rfl rfl ?_ | refine LL.val (R.index rfl rfl rfl (I.ixA rfl (by omega))) rfl rfl rfl ?_ | refine LL.val (R.index rfl rfl rfl (I.ixS rfl (by omega))) rfl rfl rfl ?_ | refine LL.val (R.ltT rfl rfl rfl (by omega)) rfl rfl rfl ?_ | refine LL.val (R.ltF rfl rfl rfl (by omega)) rfl rfl rfl ?_ | refine LL.val (R.addNc rfl rfl rfl rfl (by omega)) rfl rfl rfl ?_ | refine LL.val (R.subNc rfl rfl rfl rfl (by omega) (by omega)) rfl rfl rfl ?_ | refine LL.val (R.addN rfl rfl rfl (by omega)) rfl rfl rfl ?_ | refine LL.val (R.subN rfl rfl rfl (by omega) (by omega)) rfl rfl rfl ?_ | refine LL.val (R.subcN rfl rfl rfl rfl (by omega) (by omega)) rfl rfl rfl ?_ | refine LL.val (R.addI rfl rfl rfl (by omega)) rfl rfl rfl ?_ | refine LL.val (R.subI rfl rfl rfl (by omega)) rfl rfl rfl ?_ | refine LL.val (R.mulNc rfl rfl rfl rfl (by omega)) rfl rfl rfl ?_ | refine LL.val (R.mulcN rfl rfl rfl rfl (by omega)) rfl rfl rfl ?_ | refine LL.val (R.quoNc rfl rfl rfl rfl (by omega) (by omega)) rfl rfl rfl ?_ | refine LL.val (R.remNc rfl rfl rfl rfl (by omega)) rfl rfl rfl ?_ | refine LL.val (R.mulN rfl rfl rfl (by omega)) rfl rfl rfl ?_ | refine LL.val (R.quoN rfl rfl rfl (by omega) (by omega)) rfl rfl rfl ?_ | refine LL.val (R.remN rfl rfl rfl (by omega)) rfl rfl rfl ?_ | refine LL.val (R.leT rfl rfl rfl (by omega)) rfl rfl rfl ?_ | refine LL.val (R.leF rfl rfl rfl (by omega)) rfl rfl rfl ?_ | refine LL.val (R.gtT rfl rfl rfl (by omega)) rfl rfl rfl ?_ | refine LL.val (R.gtF rfl rfl rfl (by omega)) rfl rfl rfl ?_ | refine LL.val (R.geT rfl rfl rfl (by omega)) rfl rfl rfl ?_ | refine LL.val (R.geF rfl rfl rfl (by omega)) rfl rfl rfl ?_ | refine LL.val (R.eqT rfl rfl rfl (by omega)) rfl rfl rfl ?_ | refine LL.val (R.eqF rfl rfl rfl (by omega)) rfl rfl rfl ?_ | refine LL.val (R.neT rfl rfl rfl (by omega)) rfl rfl rfl ?_ | refine LL.val (R.neF rfl rfl rfl (by omega)) rfl rfl rfl ?_ | refine LL.val (R.eqPtr rfl rfl rfl rfl rfl) rfl rfl rfl ?_ | refine LL.val (R.nePtr rfl rfl rfl rfl rfl) rfl rfl rfl ?_ | refine LL.val (R.eqSl rfl rfl rfl rfl rfl) rfl rfl rfl ?_ | refine LL.val (R.neSl rfl rfl rfl rfl rfl) rfl rfl rfl ?_ | refine LL.val (R.eqFn rfl rfl rfl rfl) rfl rfl rfl ?_ | refine LL.val (R.eqBool rfl rfl rfl rfl rfl) rfl rfl rfl ?_ | refine LL.val (R.neBool rfl rfl rfl rfl rfl) rfl rfl rfl ?_ | refine LL.val (R.xorU rfl rfl rfl (by first | omega | decide) (by first | omega | decide)) rfl rfl rfl ?_ | refine LL.val (R.addUN rfl rfl rfl (by omega)) rfl rfl rfl ?_ | refine LL.val (R.not rfl rfl) rfl rfl rfl ?_ | refine LL.val (R.lenS rfl rfl rfl rfl) rfl rfl rfl ?_ | refine LL.val (R.len rfl rfl rfl rfl) rfl rfl rfl ?_ | refine LL.val (R.pick rfl rfl rfl) rfl rfl rfl ?_ | refine LL.val (R.extract rfl rfl rfl) rfl rfl rfl ?_ | refine LL.val (R.func rfl rfl rfl) rfl rfl rfl ?_ | refine LL.val (R.slice rfl rfl rfl rfl rfl (I.slA rfl)) rfl rfl rfl ?_ | refine LL.val (R.slice rfl rfl rfl rfl rfl (I.slAto rfl (by omega))) rfl rfl rfl ?_) | refine LL.skip rfl rfl ?_))
  refine LL.alloc [.slice none 0 0] rfl rfl rfl rfl rfl ?_
  intro W g5 eg r5 zg b
  have hsz_ := b.size
  replace q := q.trans (b.mono q.size)
  replace hm := hm.up b
  have hg5 : w.heap.size ≤ g5 := by have := q.size; omega
  (repeat (first | (first | refine CC.seq ?_ | refine CC.region ?_ | refine LL.nilS ?_ | refine CC.yes rfl ?_ | refine CC.no rfl ?_ | refine CC.block ?_ | refine EE.thenN ?_ | refine LL.nil ?_ | refine CC.exit ?_ | refine CC.ret ?_ | refine CC.skip ?_ | refine EE.thenX ?_ | refine EE.thenR ?_ | refine EE.inN ?_ | refine EE.inX ?_ | refine EE.inX' rfl ?_ | refine EE.inR ?_ | refine CC.label ?_ | refine EE.thenG ?_ | refine EE.inG ?_) | (first | refine LL.val (R.move rfl rfl) rfl rfl rfl ?_ | refine LL.val (R.assign rfl rfl) rfl rfl rfl ?_ | refine LL.val (R.nil rfl rfl) rfl rfl rfl ?_ | refine LL.val (R.field rfl rfl (I.fld rfl)) rfl rfl rfl ?_ | refine LL.val (R.load rfl rfl (I.ld1 rfl (by assumption))) rfl rfl rfl ?_ | refine LL.val (R.load rfl rfl (I.ld1 rfl (RowL.cell (by assumption) rfl))) rfl rfl rfl ?_ | refine LL.val (R.index rfl rfl rfl (I.ixA1c rfl rfl (by first | omega | decide))) rfl rfl rfl ?_ | refine LL.val (R.index rfl rfl rfl (I.ixS1c rfl rfl (by omega))) rfl rfl rfl ?_ | refine LL.val (R.index rfl rfl rfl (I.ixAc rfl rfl (by first | omega | decide))) rfl rfl rfl ?_ | refine LL.val (R.index rfl rfl rfl (I.ixSc rfl rfl (by omega))) rfl rfl rfl ?_ | refine LL.val (R.index rfl rfl rfl (I.ixA1 rfl (by omega))) rfl rfl rfl ?_ | refine LL.val (R.index rfl rfl rfl (I.ixS1 rfl (by omega))) rfl rfl rfl ?_ | refine LL.val (R.index rfl rfl rfl (I.ixA rfl (by omega))) rfl rfl rfl ?_ | refine LL.val (R.index rfl rfl rfl (I.ixS rfl (by omega))) rfl rfl rfl ?_ | refine LL.val (R.ltT rfl rfl rfl (by omega)) rfl rfl rfl ?_ | refine LL.val (R.ltF rfl rfl rfl (by omega)) rfl rfl rfl ?_ | refine LL.val (R.addNc rfl rfl rfl rfl (by omega)) rfl rfl rfl ?_ | refine LL.val (R.subNc rfl rfl rfl rfl (by omega) (by omega)) rfl rfl rfl ?_ | refine LL.val (R.addN rfl rfl rfl (by omega)) rfl rfl rfl ?_ | refine LL.val (R.subN rfl rfl rfl (by omega) (by omega)) rfl rfl rfl ?_ | refine LL.val (R.subcN rfl rfl rfl rfl (by omega) (by omega)) rfl rfl rfl ?_ | refine LL.val (R.addI rfl rfl rfl (by omega)) rfl rfl rfl ?_ | refine LL.val (R.subI rfl rfl rfl (by omega)) rfl rfl rfl ?_ | refine LL.val (R.mulNc rfl rfl rfl rfl (by omega)) rfl rfl rfl ?_ | refine LL.val (R.mulcN rfl rfl rfl rfl (by omega)) rfl rfl rfl ?_ | refine LL.val (R.quoNc rfl rfl rfl rfl (by omega) (by omega)) rfl rfl rfl ?_ | refine LL.val (R.remNc rfl rfl rfl rfl (by omega)) rfl rfl rfl ?_ | refine LL.val (R.mulN rfl rfl rfl (by omega)) rfl rfl rfl ?_ | refine LL.val (R.quoN rfl rfl rfl (by omega) (by omega)) rfl rfl rfl ?_ | refine LL.val (R.remN rfl rfl rfl (by omega)) rfl rfl rfl ?_ | refine LL.val (R.leT rfl rfl rfl (by omega)) rfl rfl rfl ?_ | refine LL.val (R.leF rfl rfl rfl (by omega)) rfl rfl rfl ?_ | refine LL.val (R.gtT rfl rfl rfl (by omega)) rfl rfl rfl ?_ | refine LL.val (R.gtF rfl rfl rfl (by omega)) rfl rfl rfl ?_ | refine LL.val (R.geT rfl rfl rfl (by omega)) rfl rfl rfl ?_ | refine LL.val (R.geF rfl rfl rfl (by omega)) rfl rfl rfl ?_ | refine LL.val (R.eqT rfl rfl rfl (by omega)) rfl rfl rfl ?_ | refine LL.val (R.eqF rfl rfl rfl (by omega)) rfl rfl rfl ?_ | refine LL.val (R.neT rfl rfl rfl (by omega)) rfl rfl rfl ?_ | refine LL.val (R.neF rfl rfl rfl (by omega)) rfl rfl rfl ?_ | refine LL.val (R.eqPtr rfl rfl rfl rfl rfl) rfl rfl rfl ?_ | refine LL.val (R.nePtr rfl rfl rfl rfl rfl) rfl rfl rfl ?_ | refine LL.val (R.eqSl rfl rfl rfl rfl rfl) rfl rfl rfl ?_ | refine LL.val (R.neSl rfl rfl rfl rfl rfl) rfl rfl rfl ?_ | refine LL.val (R.eqFn rfl rfl rfl rfl) rfl rfl rfl ?_ | refine LL.val (R.eqBool rfl rfl rfl rfl rfl) rfl rfl rfl ?_ | refine LL.val (R.neBool rfl rfl rfl rfl rfl) rfl rfl rfl ?_ | refine LL.val (R.xorU rfl rfl rfl (by first | omega | decide) (by first | omega | decide)) rfl rfl rfl ?_ | refine LL.val (R.addUN rfl rfl rfl (by omega)) rfl rfl rfl ?_ | refine LL.val (R.not rfl rfl) rfl rfl rfl ?_ | refine LL.val (R.lenS rfl rfl rfl rfl) rfl rfl rfl ?_ | refine LL.val (R.len rfl rfl rfl rfl) rfl rfl rfl ?_ | refine LL.val (R.pick rfl rfl rfl) rfl rfl rfl ?_ | refine LL.val (R.extract rfl rfl rfl) rfl rfl rfl ?_ | refine LL.val (R.func rfl rfl rfl) rfl rfl rfl ?_ | refine LL.val (R.slice rfl rfl rfl rfl rfl (I.slA rfl)) rfl rfl rfl ?_ | refine LL.val (R.slice rfl rfl rfl rfl rfl (I.slAto rfl (by omega))) rfl rfl rfl ?_) | refine LL.skip rfl rfl ?_))
  refine LL.call (R.call rfl rfl rfl) rfl rfl rfl (each_any L _ hm (by omega)) ?_
  rintro e W ⟨b2, rfl, rb, _, b⟩
  refine ⟨_, rfl, ?_⟩
  have hsz_ := b.size
  replace q := q.trans (b.mono q.size)
  replace r5 := r5.up b
  replace hm := hm.up b
  rw [if_pos hsp] at rb
  obtain ⟨WR, rfl⟩ : ∃ X, X = W := ⟨_, rfl⟩
  have hg5l := r5.lt
  have hq0 := q.size
  (repeat (first | (first | refine CC.seq ?_ | refine CC.region ?_ | refine LL.nilS ?_ | refine CC.yes rfl ?_ | refine CC.no rfl ?_ | refine CC.block ?_ | refine EE.thenN ?_ | refine LL.nil ?_ | refine CC.exit ?_ | refine CC.ret ?_ | refine CC.skip ?_ | refine EE.thenX ?_ | refine EE.thenR ?_ | refine EE.inN ?_ | refine EE.inX ?_ | refine EE.inX' rfl ?_ | refine EE.inR ?_ | refine CC.label ?_ | refine EE.thenG ?_ | refine EE.inG ?_) | (first | refine LL.val (R.move rfl rfl) rfl rfl rfl ?_ | refine LL.val (R.assign rfl rfl) rfl rfl rfl ?_ | refine LL.val (R.nil rfl rfl) rfl rfl rfl ?_ | refine LL.val (R.field rfl rfl (I.fld rfl)) rfl rfl rfl ?_ | refine LL.val (R.load rfl rfl (I.ld1 rfl (by assumption))) rfl rfl rfl ?_ | refine LL.val (R.load rfl rfl (I.ld1 rfl (RowL.cell (by assumption) rfl))) rfl rfl rfl ?_ | refine LL.val (R.index rfl rfl rfl (I.ixA1c rfl rfl (by first | omega | decide))) rfl rfl rfl ?_ | refine LL.val (R.index rfl rfl rfl (I.ixS1c rfl rfl (by omega))) rfl rfl rfl ?_ | refine LL.val (R.index rfl rfl rfl (I.ixAc rfl rfl (by first | omega | decide))) rfl rfl rfl ?_ | refine LL.val (R.index rfl rfl rfl (I.ixSc rfl rfl (by omega))) rfl rfl rfl ?_ | refine LL.val (R.index rfl rfl rfl (I.ixA1 rfl (by omega))) rfl rfl rfl ?_ | refine LL.val (R.index rfl rfl rfl (I.ixS1 rfl (by omega))) rfl rfl rfl ?_ | refine LL.val (R.index rfl rfl rfl (I.ixA rfl (by omega))) rfl rfl rfl ?_ | refine LL.val (R.index rfl rfl rfl (I.ixS rfl (by omega))) rfl rfl rfl ?_ | refine LL.val (R.ltT rfl rfl rfl (by omega)) rfl rfl rfl ?_ | refine LL.val (R.ltF rfl rfl rfl (by omega)) rfl rfl rfl ?_ | refine LL.val (R.addNc rfl rfl rfl rfl (by omega)) rfl rfl rfl ?_ | refine LL.val (R.subNc rfl rfl rfl rfl (by omega) (by omega)) rfl rfl rfl ?_ | refine LL.val (R.addN rfl rfl rfl (by omega)) rfl rfl rfl ?_ | refine LL.val (R.subN rfl rfl rfl (by omega) (by omega)) rfl rfl rfl ?_ | refine LL.val (R.subcN rfl rfl rfl rfl (by omega) (by omega)) rfl rfl rfl ?_ | refine LL.val (R.addI rfl rfl rfl (by omega)) rfl rfl rfl ?_ | refine LL.val (R.subI rfl rfl rfl (by omega)) rfl rfl rfl ?_ | refine LL.val (R.mulNc rfl rfl rfl rfl (by omega)) rfl rfl rfl ?_ | refine LL.val (R.mulcN rfl rfl rfl rfl (by omega)) rfl rfl rfl ?_ | refine LL.val (R.quoNc rfl rfl rfl rfl (by omega) (by omega)) rfl rfl rfl ?_ | refine LL.val (R.remNc rfl rfl rfl rfl (by omega)) rfl rfl rfl ?_ | refine LL.val (R.mulN rfl rfl rfl (by omega)) rfl rfl rfl ?_ | refine LL.val (R.quoN rfl rfl rfl (by omega) (by omega)) rfl rfl rfl ?_ | refine LL.val (R.remN rfl rfl rfl (by omega)) rfl rfl rfl ?_ | refine LL.val (R.leT rfl rfl rfl (by omega)) rfl rfl rfl ?_ | refine LL.val (R.leF rfl rfl rfl (by omega)) rfl rfl rfl ?_ | refine LL.val (R.gtT rfl rfl rfl (by omega)) rfl rfl rfl ?_ | refine LL.val (R.gtF rfl rfl rfl (by omega)) rfl rfl rfl ?_ | refine LL.val (R.geT rfl rfl rfl (by omega)) rfl rfl rfl ?_ | refine LL.val (R.geF rfl rfl rfl (by omega)) rfl rfl rfl ?_ | refine LL.val (R.eqT rfl rfl rfl (by omega)) rfl rfl rfl ?_ | refine LL.val (R.eqF rfl rfl rfl (by omega)) rfl rfl rfl ?_ | refine LL.val (R.neT rfl rfl rfl (by omega)) rfl rfl rfl ?_ | refine LL.val (R.neF rfl rfl rfl (by omega)) rfl rfl rfl ?_ | refine LL.val (R.eqPtr rfl rfl rfl rfl rfl) rfl rfl rfl ?_ | refine LL.val (R.nePtr rfl rfl rfl rfl rfl) rfl rfl rfl ?_ | refine LL.val (R.eqSl rfl rfl rfl rfl rfl) rfl rfl rfl ?_ | refine LL.val (R.neSl rfl rfl rfl rfl rfl) rfl rfl rfl ?_ | refine LL.val (R.eqFn rfl rfl rfl rfl) rfl rfl rfl ?_ | refine LL.val (R.eqBool rfl rfl rfl rfl rfl) rfl rfl rfl ?_ | refine LL.val (R.neBool rfl rfl rfl rfl rfl) rfl rfl rfl ?_ | refine LL.val (R.xorU rfl rfl rfl (by first | omega | decide) (by first | omega | decide)) rfl rfl rfl ?_ | refine LL.val (R.addUN rfl rfl rfl (by omega)) rfl rfl rfl ?_ | refine LL.val (R.not rfl rfl) rfl rfl rfl ?_ | refine LL.val (R.lenS rfl rfl rfl rfl) rfl rfl rfl ?_ | refine LL.val (R.len rfl rfl rfl rfl) rfl rfl rfl ?_ | refine LL.val (R.pick rfl rfl rfl) rfl rfl rfl ?_ | refine LL.val (R.extract rfl rfl rfl) rfl rfl rfl ?_ | refine LL.val (R.func rfl rfl rfl) rfl rfl rfl ?_ | refine LL.val (R.slice rfl rfl rfl rfl rfl (I.slA rfl)) rfl rfl rfl ?_ | refine LL.val (R.slice rfl rfl rfl rfl rfl (I.slAto rfl (by omega))) rfl rfl rfl ?_) | refine LL.skip rfl rfl ?_))
  refine CC.rangeM (γ := Unit) (gf := 60) (lb := [Value.pointer (some ⟨b2, 0, none⟩)]) (encs := encP) rfl rfl (pieces_gives b2 L WR rb hm (by omega)) (Below.refl _ _) (fun k hk => hk.elim) (fun _ => rfl) rfl
    (fun m pre W' => Below w.heap.size w W' ∧ ∃ v, RowL W' g5 28 [v] ∧ OwnsT stE 1 W' w.heap.size 9 v (pre.map (·.2)) ∧ (∀ b, v.ownBlock = some b → (b < WR.heap.size ∨ m ≤ b) ∧ b ≠ g5))
    (fun m pre W' => False)
    (fun W' => Below w.heap.size w W' ∧ ∃ v, RowL W' g5 28 [v] ∧ OwnsT stE 1 W' w.heap.size 9 v (partsL l) ∧ v.ownBlock ≠ some g5)
    ?hI (fun m s X Y hs ht => hs) (fun m => ⟨q, .slice none 0 0, r5, OwnsT.none _ _ _, fun b hb => by cases hb⟩) ?hIA (fun m pre W' hp hi => hi.elim)
    (fun x _ => sl [(6, .pointer (some ⟨g5, 0, none⟩)), (8, strV x.2)]) (fun x _ W' => True) (fun x _ => fun _ _ _ _ _ _ _ => trivial) ?assign ?body ?after
  case hI =>
    rintro m s X Y ⟨h1, v, h2, h3, h4⟩ ht
    exact ⟨h1.trans (ht.below hq0 h1.size), v, ht.same g5 _ h2 (.inl hg5l), ownsT_turns h3 (fun b hb => (h4 b hb).1) ht, h4⟩
  case hIA =>
    rintro m xs W' rfl ⟨h1, v, h2, h3, h4⟩
    rw [numB_snd, hsq] at h3
    exact ⟨h1, v, h2, h3, fun e => (h4 g5 e).2 rfl⟩
  case assign =>
    intro l' m pre x W K hm' hm2 hi hK
    (repeat (first | (first | refine CC.seq ?_ | refine CC.region ?_ | refine LL.nilS ?_ | refine CC.yes rfl ?_ | refine CC.no rfl ?_ | refine CC.block ?_ | refine EE.thenN ?_ | refine LL.nil ?_ | refine CC.exit ?_ | refine CC.ret ?_ | refine CC.skip ?_ | refine EE.thenX ?_ | refine EE.thenR ?_ | refine EE.inN ?_ | refine EE.inX ?_ | refine EE.inX' rfl ?_ | refine EE.inR ?_ | refine CC.label ?_ | refine EE.thenG ?_ | refine EE.inG ?_) | (first | refine LL.val (R.move rfl rfl) rfl rfl rfl ?_ | refine LL.val (R.assign rfl rfl) rfl rfl rfl ?_ | refine LL.val (R.nil rfl rfl) rfl rfl rfl ?_ | refine LL.val (R.field rfl rfl (I.fld rfl)) rfl rfl rfl ?_ | refine LL.val (R.load rfl rfl (I.ld1 rfl (by assumption))) rfl rfl rfl ?_ | refine LL.val (R.load rfl rfl (I.ld1 rfl (RowL.cell (by assumption) rfl))) rfl rfl rfl ?_ | refine LL.val (R.index rfl rfl rfl (I.ixA1c rfl rfl (by first | omega | decide))) rfl rfl rfl ?_ | refine LL.val (R.index rfl rfl rfl (I.ixS1c rfl rfl (by omega))) rfl rfl rfl ?_ | refine LL.val (R.index rfl rfl rfl (I.ixAc rfl rfl (by first | omega | decide))) rfl rfl rfl ?_ | refine LL.val (R.index rfl rfl rfl (I.ixSc rfl rfl (by omega))) rfl rfl rfl ?_ | refine LL.val (R.index rfl rfl rfl (I.ixA1 rfl (by omega))) rfl rfl rfl ?_ | refine LL.val (R.index rfl rfl rfl (I.ixS1 rfl (by omega))) rfl rfl rfl ?_ | refine LL.val (R.index rfl rfl rfl (I.ixA rfl (by omega))) rfl rfl rfl ?_ | refine LL.val (R.index rfl rfl rfl (I.ixS rfl (by omega))) rfl rfl rfl ?_ | refine LL.val (R.ltT rfl rfl rfl (by omega)) rfl rfl rfl ?_ | refine LL.val (R.ltF rfl rfl rfl (by omega)) rfl rfl rfl ?_ | refine LL.val (R.addNc rfl rfl rfl rfl (by omega)) rfl rfl rfl ?_ | refine LL.val (R.subNc rfl rfl rfl rfl (by omega) (by omega)) rfl rfl rfl ?_ | refine LL.val (R.addN rfl rfl rfl (by omega)) rfl rfl rfl ?_ | refine LL.val (R.subN rfl rfl rfl (by omega) (by omega)) rfl rfl rfl ?_ | refine LL.val (R.subcN rfl rfl rfl rfl (by omega) (by omega)) rfl rfl rfl ?_ | refine LL.val (R.addI rfl rfl rfl (by omega)) rfl rfl rfl ?_ | refine LL.val (R.subI rfl rfl rfl (by omega)) rfl rfl rfl ?_ | refine LL.val (R.mulNc rfl rfl rfl rfl (by omega)) rfl rfl rfl ?_ | refine LL.val (R.mulcN rfl rfl rfl rfl (by omega)) rfl rfl rfl ?_ | refine LL.val (R.quoNc rfl rfl rfl rfl (by omega) (by omega)) rfl rfl rfl ?_ | refine LL.val (R.remNc rfl rfl rfl rfl (by omega)) rfl rfl rfl ?_ | refine LL.val (R.mulN rfl rfl rfl (by omega)) rfl rfl rfl ?_ | refine LL.val (R.quoN rfl rfl rfl (by omega) (by omega)) rfl rfl rfl ?_ | refine LL.val (R.remN rfl rfl rfl (by omega)) rfl rfl rfl ?_ | refine LL.val (R.leT rfl rfl rfl (by omega)) rfl rfl rfl ?_ | refine LL.val (R.leF rfl rfl rfl (by omega)) rfl rfl rfl ?_ | refine LL.val (R.gtT rfl rfl rfl (by omega)) rfl rfl rfl ?_ | refine LL.val (R.gtF rfl rfl rfl (by omega)) rfl rfl rfl ?_ | refine LL.val (R.geT rfl rfl rfl (by omega)) rfl rfl rfl ?_ | refine LL.val (R.geF rfl rfl rfl (by omega)) rfl rfl rfl ?_ | refine LL.val (R.eqT rfl rfl rfl (by omega)) rfl rfl rfl ?_ | refine LL.val (R.eqF rfl rfl rfl (by omega)) rfl rfl rfl ?_ | refine LL.val (R.neT rfl rfl rfl (by omega)) rfl rfl rfl ?_ | refine LL.val (R.neF rfl rfl rfl (by omega)) rfl rfl rfl ?_ | refine LL.val (R.eqPtr rfl rfl rfl rfl rfl) rfl rfl rfl ?_ | refine LL.val (R.nePtr rfl rfl rfl rfl rfl) rfl rfl rfl ?_ | refine LL.val (R.eqSl rfl rfl rfl rfl rfl) rfl rfl rfl ?_ | refine LL.val (R.neSl rfl rfl rfl rfl rfl) rfl rfl rfl ?_ | refine LL.val (R.eqFn rfl rfl rfl rfl) rfl rfl rfl ?_ | refine LL.val (R.eqBool rfl rfl rfl rfl rfl) rfl rfl rfl ?_ | refine LL.val (R.neBool rfl rfl rfl rfl rfl) rfl rfl rfl ?_ | refine LL.val (R.xorU rfl rfl rfl (by first | omega | decide) (by first | omega | decide)) rfl rfl rfl ?_ | refine LL.val (R.addUN rfl rfl rfl (by omega)) rfl rfl rfl ?_ | refine LL.val (R.not rfl rfl) rfl rfl rfl ?_ | refine LL.val (R.lenS rfl rfl rfl rfl) rfl rfl rfl ?_ | refine LL.val (R.len rfl rfl rfl rfl) rfl rfl rfl ?_ | refine LL.val (R.pick rfl rfl rfl) rfl rfl rfl ?_ | refine LL.val (R.extract rfl rfl rfl) rfl rfl rfl ?_ | refine LL.val (R.func rfl rfl rfl) rfl rfl rfl ?_ | refine LL.val (R.slice rfl rfl rfl rfl rfl (I.slA rfl)) rfl rfl rfl ?_ | refine LL.val (R.slice rfl rfl rfl rfl rfl (I.slAto rfl (by omega))) rfl rfl rfl ?_) | refine LL.skip rfl rfl ?_))
    exact EE.thenK fun a' F => hK a' W () (Stays.refl _ _ _) (Keeps.refl _ _) hi (F.keep _ ⟨rfl, rfl, trivial⟩) trivial
  case body =>
    intro l' m pre x _ W hm' hm2 hl' hrl hi hax hp
    obtain ⟨h1, v, h2, h3, h4⟩ := hi
    have hpl2 := (numB_part hp).2.1
    rw [hsq] at hpl2
    have hpl3 : pre.length < (partsL l).length := (List.getElem?_eq_some_iff.1 hpl2).1
    have hy1 := h1.size
    have hgW := h2.lt
    have c5 := h2.cell (j := 0) rfl
    (repeat (first | (first | refine CC.seq ?_ | refine CC.region ?_ | refine LL.nilS ?_ | refine CC.yes rfl ?_ | refine CC.no rfl ?_ | refine CC.block ?_ | refine EE.thenN ?_ | refine LL.nil ?_ | refine CC.exit ?_ | refine CC.ret ?_ | refine CC.skip ?_ | refine EE.thenX ?_ | refine EE.thenR ?_ | refine EE.inN ?_ | refine EE.inX ?_ | refine EE.inX' rfl ?_ | refine EE.inR ?_ | refine CC.label ?_ | refine EE.thenG ?_ | refine EE.inG ?_) | (first | refine LL.val (R.move rfl rfl) rfl rfl rfl ?_ | refine LL.val (R.assign rfl rfl) rfl rfl rfl ?_ | refine LL.val (R.nil rfl rfl) rfl rfl rfl ?_ | refine LL.val (R.field rfl rfl (I.fld rfl)) rfl rfl rfl ?_ | refine LL.val (R.load rfl rfl (I.ld1 rfl (by assumption))) rfl rfl rfl ?_ | refine LL.val (R.load rfl rfl (I.ld1 rfl (RowL.cell (by assumption) rfl))) rfl rfl rfl ?_ | refine LL.val (R.index rfl rfl rfl (I.ixA1c rfl rfl (by first | omega | decide))) rfl rfl rfl ?_ | refine LL.val (R.index rfl rfl rfl (I.ixS1c rfl rfl (by omega))) rfl rfl rfl ?_ | refine LL.val (R.index rfl rfl rfl (I.ixAc rfl rfl (by first | omega | decide))) rfl rfl rfl ?_ | refine LL.val (R.index rfl rfl rfl (I.ixSc rfl rfl (by omega))) rfl rfl rfl ?_ | refine LL.val (R.index rfl rfl rfl (I.ixA1 rfl (by omega))) rfl rfl rfl ?_ | refine LL.val (R.index rfl rfl rfl (I.ixS1 rfl (by omega))) rfl rfl rfl ?_ | refine LL.val (R.index rfl rfl rfl (I.ixA rfl (by omega))) rfl rfl rfl ?_ | refine LL.val (R.index rfl rfl rfl (I.ixS rfl (by omega))) rfl rfl rfl ?_ | refine LL.val (R.ltT rfl rfl rfl (by omega)) rfl rfl rfl ?_ | refine LL.val (R.ltF rfl rfl rfl (by omega)) rfl rfl rfl ?_ | refine LL.val (R.addNc rfl rfl rfl rfl (by omega)) rfl rfl rfl ?_ | refine LL.val (R.subNc rfl rfl rfl rfl (by omega) (by omega)) rfl rfl rfl ?_ | refine LL.val (R.addN rfl rfl rfl (by omega)) rfl rfl rfl ?_ | refine LL.val (R.subN rfl rfl rfl (by omega) (by omega)) rfl rfl rfl ?_ | refine LL.val (R.subcN rfl rfl rfl rfl (by omega) (by omega)) rfl rfl rfl ?_ | refine LL.val (R.addI rfl rfl rfl (by omega)) rfl rfl rfl ?_ | refine LL.val (R.subI rfl rfl rfl (by omega)) rfl rfl rfl ?_ | refine LL.val (R.mulNc rfl rfl rfl rfl (by omega)) rfl rfl rfl ?_ | refine LL.val (R.mulcN rfl rfl rfl rfl (by omega)) rfl rfl rfl ?_ | refine LL.val (R.quoNc rfl rfl rfl rfl (by omega) (by omega)) rfl rfl rfl ?_ | refine LL.val (R.remNc rfl rfl rfl rfl (by omega)) rfl rfl rfl ?_ | refine LL.val (R.mulN rfl rfl rfl (by omega)) rfl rfl rfl ?_ | refine LL.val (R.quoN rfl rfl rfl (by omega) (by omega)) rfl rfl rfl ?_ | refine LL.val (R.remN rfl rfl rfl (by omega)) rfl rfl rfl ?_ | refine LL.val (R.leT rfl rfl rfl (by omega)) rfl rfl rfl ?_ | refine LL.val (R.leF rfl rfl rfl (by omega)) rfl rfl rfl ?_ | refine LL.val (R.gtT rfl rfl rfl (by omega)) rfl rfl rfl ?_ | refine LL.val (R.gtF rfl rfl rfl (by omega)) rfl rfl rfl ?_ | refine LL.val (R.geT rfl rfl rfl (by omega)) rfl rfl rfl ?_ | refine LL.val (R.geF rfl rfl rfl (by omega)) rfl rfl rfl ?_ | refine LL.val (R.eqT rfl rfl rfl (by omega)) rfl rfl rfl ?_ | refine LL.val (R.eqF rfl rfl rfl (by omega)) rfl rfl rfl ?_ | refine LL.val (R.neT rfl rfl rfl (by omega)) rfl rfl rfl ?_ | refine LL.val (R.neF rfl rfl rfl (by omega)) rfl rfl rfl ?_ | refine LL.val (R.eqPtr rfl rfl rfl rfl rfl) rfl rfl rfl ?_ | refine LL.val (R.nePtr rfl rfl rfl rfl rfl) rfl rfl rfl ?_ | refine LL.val (R.eqSl rfl rfl rfl rfl rfl) rfl rfl rfl ?_ | refine LL.val (R.neSl rfl rfl rfl rfl rfl) rfl rfl rfl ?_ | refine LL.val (R.eqFn rfl rfl rfl rfl) rfl rfl rfl ?_ | refine LL.val (R.eqBool rfl rfl rfl rfl rfl) rfl rfl rfl ?_ | refine LL.val (R.neBool rfl rfl rfl rfl rfl) rfl rfl rfl ?_ | refine LL.val (R.xorU rfl rfl rfl (by first | omega | decide) (by first | omega | decide)) rfl rfl rfl ?_ | refine LL.val (R.addUN rfl rfl rfl (by omega)) rfl rfl rfl ?_ | refine LL.val (R.not rfl rfl) rfl rfl rfl ?_ | refine LL.val (R.lenS rfl rfl rfl rfl) rfl rfl rfl ?_ | refine LL.val (R.len rfl rfl rfl rfl) rfl rfl rfl ?_ | refine LL.val (R.pick rfl rfl rfl) rfl rfl rfl ?_ | refine LL.val (R.extract rfl rfl rfl) rfl rfl rfl ?_ | refine LL.val (R.func rfl rfl rfl) rfl rfl rfl ?_ | refine LL.val (R.slice rfl rfl rfl rfl rfl (I.slA rfl)) rfl rfl rfl ?_ | refine LL.val (R.slice rfl rfl rfl rfl rfl (I.slAto rfl (by omega))) rfl rfl rfl ?_) | refine LL.skip rfl rfl ?_))
    refine LL.lit (e := 9) (stE x.2) 1 rfl rfl (fun _ => by kernel_rfl) rfl rfl ?_
    intro W2 g eg r zg b
    have rd : ReadsT stE 1 W2 (.slice (some ⟨g, 0, none⟩) 1 1) [x.2] := RowL.readsT (ts := [x.2]) stEnc (by simpa using r) 1 (by simp)
    have hlm : (pre.map (·.2)).length = pre.length := by simp
    refine LL.appendT2 rfl rfl stEnc ElS (h3.up b) rd (by rw [hlm]; simp only [List.length_singleton, maxLen]; omega) (by rw [hlm]; simp only [List.length_singleton]; omega) (by have := b.size; omega) rfl rfl ?_
    intro v' W3 o3 g3 hwhere
    have b3 : W.heap.size ≤ W2.heap.size := b.size
    have b23 := g3.size
    have hvo : ∀ bb, v'.ownBlock = some bb → (bb < WR.heap.size ∨ m ≤ bb) ∧ bb ≠ g5 := fun bb hbb => by
      rcases hwhere with he | ⟨b', he, hge⟩
      · rw [he] at hbb; exact h4 bb hbb
      · rw [he] at hbb; cases hbb; exact ⟨.inr (by omega), by omega⟩
    have h2' : RowL W3 g5 28 [v] := (h2.up b).same (g3.block g5 (by omega) (by intro e; exact (h4 g5 e.symm).2 rfl))
    have hst2 : Stays WR.heap.size m W W2 := Stays.of_below b
    have hst3 : Stays WR.heap.size m W2 W3 := ⟨g3.size, fun k o hk ho hc => by
      have hkl : k < W2.heap.size := (Array.getElem?_eq_some_iff.1 ho).1
      rw [g3.block k hkl (fun e => ?_)]
      · exact ho
      · rcases h4 k e.symm with ⟨h5 | h5, _⟩
        · omega
        · rcases hc with h6 | h6
          · omega
          · obtain ⟨_, h7⟩ := (h3.up b).above.resolve_left (by rw [← e]; simp)
            rcases (h3.up b).2 with ⟨e1, _⟩ | ⟨g', cap', cur, e1, _, hg', _⟩
            · rw [e1] at e; cases e
            · rw [e1] at e; cases e
              rw [hg'] at ho
              cases ho
              cases h6⟩
    obtain ⟨a', cp', rfl, _⟩ := (o3.reads stEnc).form rfl
    refine LL.store rfl rfl rfl rfl h2' (by exact Nat.le_of_ble_eq_true rfl) rfl rfl rfl rfl ?_
    intro W4 r4 g4 z4
    have hb3 : Below w.heap.size w W3 := (h1.trans (b.mono h1.size)).trans ((h3.up b).bel g3 (by omega))
    (repeat (first | (first | refine CC.seq ?_ | refine CC.region ?_ | refine LL.nilS ?_ | refine CC.yes rfl ?_ | refine CC.no rfl ?_ | refine CC.block ?_ | refine EE.thenN ?_ | refine LL.nil ?_ | refine CC.exit ?_ | refine CC.ret ?_ | refine CC.skip ?_ | refine EE.thenX ?_ | refine EE.thenR ?_ | refine EE.inN ?_ | refine EE.inX ?_ | refine EE.inX' rfl ?_ | refine EE.inR ?_ | refine CC.label ?_ | refine EE.thenG ?_ | refine EE.inG ?_) | (first | refine LL.val (R.move rfl rfl) rfl rfl rfl ?_ | refine LL.val (R.assign rfl rfl) rfl rfl rfl ?_ | refine LL.val (R.nil rfl rfl) rfl rfl rfl ?_ | refine LL.val (R.field rfl rfl (I.fld rfl)) rfl rfl rfl ?_ | refine LL.val (R.load rfl rfl (I.ld1 rfl (by assumption))) rfl rfl rfl ?_ | refine LL.val (R.load rfl rfl (I.ld1 rfl (RowL.cell (by assumption) rfl))) rfl rfl rfl ?_ | refine LL.val (R.index rfl rfl rfl (I.ixA1c rfl rfl (by first | omega | decide))) rfl rfl rfl ?_ | refine LL.val (R.index rfl rfl rfl (I.ixS1c rfl rfl (by omega))) rfl rfl rfl ?_ | refine LL.val (R.index rfl rfl rfl (I.ixAc rfl rfl (by first | omega | decide))) rfl rfl rfl ?_ | refine LL.val (R.index rfl rfl rfl (I.ixSc rfl rfl (by omega))) rfl rfl rfl ?_ | refine LL.val (R.index rfl rfl rfl (I.ixA1 rfl (by omega))) rfl rfl rfl ?_ | refine LL.val (R.index rfl rfl rfl (I.ixS1 rfl (by omega))) rfl rfl rfl ?_ | refine LL.val (R.index rfl rfl rfl (I.ixA rfl (by omega))) rfl rfl rfl ?_ | refine LL.val (R.index rfl rfl rfl (I.ixS rfl (by omega))) rfl rfl rfl ?_ | refine LL.val (R.ltT rfl rfl rfl (by omega)) rfl rfl rfl ?_ | refine LL.val (R.ltF rfl rfl rfl (by omega)) rfl rfl rfl ?_ | refine LL.val (R.addNc rfl rfl rfl rfl (by omega)) rfl rfl rfl ?_ | refine LL.val (R.subNc rfl rfl rfl rfl (by omega) (by omega)) rfl rfl rfl ?_ | refine LL.val (R.addN rfl rfl rfl (by omega)) rfl rfl rfl ?_ | refine LL.val (R.subN rfl rfl rfl (by omega) (by omega)) rfl rfl rfl ?_ | refine LL.val (R.subcN rfl rfl rfl rfl (by omega) (by omega)) rfl rfl rfl ?_ | refine LL.val (R.addI rfl rfl rfl (by omega)) rfl rfl rfl ?_ | refine LL.val (R.subI rfl rfl rfl (by omega)) rfl rfl rfl ?_ | refine LL.val (R.mulNc rfl rfl rfl rfl (by omega)) rfl rfl rfl ?_ | refine LL.val (R.mulcN rfl rfl rfl rfl (by omega)) rfl rfl rfl ?_ | refine LL.val (R.quoNc rfl rfl rfl rfl (by omega) (by omega)) rfl rfl rfl ?_ | refine LL.val (R.remNc rfl rfl rfl rfl (by omega)) rfl rfl rfl ?_ | refine LL.val (R.mulN rfl rfl rfl (by omega)) rfl rfl rfl ?_ | refine LL.val (R.quoN rfl rfl rfl (by omega) (by omega)) rfl rfl rfl ?_ | refine LL.val (R.remN rfl rfl rfl (by omega)) rfl rfl rfl ?_ | refine LL.val (R.leT rfl rfl rfl (by omega)) rfl rfl rfl ?_ | refine LL.val (R.leF rfl rfl rfl (by omega)) rfl rfl rfl ?_ | refine LL.val (R.gtT rfl rfl rfl (by omega)) rfl rfl rfl ?_ | refine LL.val (R.gtF rfl rfl rfl (by omega)) rfl rfl rfl ?_ | refine LL.val (R.geT rfl rfl rfl (by omega)) rfl rfl rfl ?_ | refine LL.val (R.geF rfl rfl rfl (by omega)) rfl rfl rfl ?_ | refine LL.val (R.eqT rfl rfl rfl (by omega)) rfl rfl rfl ?_ | refine LL.val (R.eqF rfl rfl rfl (by omega)) rfl rfl rfl ?_ | refine LL.val (R.neT rfl rfl rfl (by omega)) rfl rfl rfl ?_ | refine LL.val (R.neF rfl rfl rfl (by omega)) rfl rfl rfl ?_ | refine LL.val (R.eqPtr rfl rfl rfl rfl rfl) rfl rfl rfl ?_ | refine LL.val (R.nePtr rfl rfl rfl rfl rfl) rfl rfl rfl ?_ | refine LL.val (R.eqSl rfl rfl rfl rfl rfl) rfl rfl rfl ?_ | refine LL.val (R.neSl rfl rfl rfl rfl rfl) rfl rfl rfl ?_ | refine LL.val (R.eqFn rfl rfl rfl rfl) rfl rfl rfl ?_ | refine LL.val (R.eqBool rfl rfl rfl rfl rfl) rfl rfl rfl ?_ | refine LL.val (R.neBool rfl rfl rfl rfl rfl) rfl rfl rfl ?_ | refine LL.val (R.xorU rfl rfl rfl (by first | omega | decide) (by first | omega | decide)) rfl rfl rfl ?_ | refine LL.val (R.addUN rfl rfl rfl (by omega)) rfl rfl rfl ?_ | refine LL.val (R.not rfl rfl) rfl rfl rfl ?_ | refine LL.val (R.lenS rfl rfl rfl rfl) rfl rfl rfl ?_ | refine LL.val (R.len rfl rfl rfl rfl) rfl rfl rfl ?_ | refine LL.val (R.pick rfl rfl rfl) rfl rfl rfl ?_ | refine LL.val (R.extract rfl rfl rfl) rfl rfl rfl ?_ | refine LL.val (R.func rfl rfl rfl) rfl rfl rfl ?_ | refine LL.val (R.slice rfl rfl rfl rfl rfl (I.slA rfl)) rfl rfl rfl ?_ | refine LL.val (R.slice rfl rfl rfl rfl rfl (I.slAto rfl (by omega))) rfl rfl rfl ?_) | refine LL.skip rfl rfl ?_))
    refine EE.roundN ⟨(hst2.trans hst3).trans (Stays.of_grown g4 hg5l), ⟨Nat.le_trans b3 (Nat.le_trans b23 (Nat.le_of_eq z4.symm)), fun k hk => hk.elim⟩, hb3.grown g4 hb3.size (by rintro k ⟨⟩; omega), _, r4, ?_, hvo⟩
    rw [List.map_append]
    exact o3.grown g4 (fun e => (hvo g5 e).2 rfl)
  case after =>
    rintro E W hE ⟨h1, v, h2, h3, h4⟩ hK
    have c5 := h2.cell (j := 0) rfl
    have gt : W.grownBy (taken E W) (some E) := grownBy_putObj' _ _ _
    have hEl := (Array.getElem?_eq_some_iff.1 hK).1
    (repeat (first | (first | refine CC.seq ?_ | refine CC.region ?_ | refine LL.nilS ?_ | refine CC.yes rfl ?_ | refine CC.no rfl ?_ | refine CC.block ?_ | refine EE.thenN ?_ | refine LL.nil ?_ | refine CC.exit ?_ | refine CC.ret ?_ | refine CC.skip ?_ | refine EE.thenX ?_ | refine EE.thenR ?_ | refine EE.inN ?_ | refine EE.inX ?_ | refine EE.inX' rfl ?_ | refine EE.inR ?_ | refine CC.label ?_ | refine EE.thenG ?_ | refine EE.inG ?_) | (first | refine LL.val (R.move rfl rfl) rfl rfl rfl ?_ | refine LL.val (R.assign rfl rfl) rfl rfl rfl ?_ | refine LL.val (R.nil rfl rfl) rfl rfl rfl ?_ | refine LL.val (R.field rfl rfl (I.fld rfl)) rfl rfl rfl ?_ | refine LL.val (R.load rfl rfl (I.ld1 rfl (by assumption))) rfl rfl rfl ?_ | refine LL.val (R.load rfl rfl (I.ld1 rfl (RowL.cell (by assumption) rfl))) rfl rfl rfl ?_ | refine LL.val (R.index rfl rfl rfl (I.ixA1c rfl rfl (by first | omega | decide))) rfl rfl rfl ?_ | refine LL.val (R.index rfl rfl rfl (I.ixS1c rfl rfl (by omega))) rfl rfl rfl ?_ | refine LL.val (R.index rfl rfl rfl (I.ixAc rfl rfl (by first | omega | decide))) rfl rfl rfl ?_ | refine LL.val (R.index rfl rfl rfl (I.ixSc rfl rfl (by omega))) rfl rfl rfl ?_ | refine LL.val (R.index rfl rfl rfl (I.ixA1 rfl (by omega))) rfl rfl rfl ?_ | refine LL.val (R.index rfl rfl rfl (I.ixS1 rfl (by omega))) rfl rfl rfl ?_ | refine LL.val (R.index rfl rfl rfl (I.ixA rfl (by omega))) rfl rfl rfl ?_ | refine LL.val (R.index rfl rfl rfl (I.ixS rfl (by omega))) rfl rfl rfl ?_ | refine LL.val (R.ltT rfl rfl rfl (by omega)) rfl rfl rfl ?_ | refine LL.val (R.ltF rfl rfl rfl (by omega)) rfl rfl rfl ?_ | refine LL.val (R.addNc rfl rfl rfl rfl (by omega)) rfl rfl rfl ?_ | refine LL.val (R.subNc rfl rfl rfl rfl (by omega) (by omega)) rfl rfl rfl ?_ | refine LL.val (R.addN rfl rfl rfl (by omega)) rfl rfl rfl ?_ | refine LL.val (R.subN rfl rfl rfl (by omega) (by omega)) rfl rfl rfl ?_ | refine LL.val (R.subcN rfl rfl rfl rfl (by omega) (by omega)) rfl rfl rfl ?_ | refine LL.val (R.addI rfl rfl rfl (by omega)) rfl rfl rfl ?_ | refine LL.val (R.subI rfl rfl rfl (by omega)) rfl rfl rfl ?_ | refine LL.val (R.mulNc rfl rfl rfl rfl (by omega)) rfl rfl rfl ?_ | refine LL.val (R.mulcN rfl rfl rfl rfl (by omega)) rfl rfl rfl ?_ | refine LL.val (R.quoNc rfl rfl rfl rfl (by omega) (by omega)) rfl rfl rfl ?_ | refine LL.val (R.remNc rfl rfl rfl rfl (by omega)) rfl rfl rfl ?_ | refine LL.val (R.mulN rfl rfl rfl (by omega)) rfl rfl rfl ?_ | refine LL.val (R.quoN rfl rfl rfl (by omega) (by omega)) rfl rfl rfl ?_ | refine LL.val (R.remN rfl rfl rfl (by omega)) rfl rfl rfl ?_ | refine LL.val (R.leT rfl rfl rfl (by omega)) rfl rfl rfl ?_ | refine LL.val (R.leF rfl rfl rfl (by omega)) rfl rfl rfl ?_ | refine LL.val (R.gtT rfl rfl rfl (by omega)) rfl rfl rfl ?_ | refine LL.val (R.gtF rfl rfl rfl (by omega)) rfl rfl rfl ?_ | refine LL.val (R.geT rfl rfl rfl (by omega)) rfl rfl rfl ?_ | refine LL.val (R.geF rfl rfl rfl (by omega)) rfl rfl rfl ?_ | refine LL.val (R.eqT rfl rfl rfl (by omega)) rfl rfl rfl ?_ | refine LL.val (R.eqF rfl rfl rfl (by omega)) rfl rfl rfl ?_ | refine LL.val (R.neT rfl rfl rfl (by omega)) rfl rfl rfl ?_ | refine LL.val (R.neF rfl rfl rfl (by omega)) rfl rfl rfl ?_ | refine LL.val (R.eqPtr rfl rfl rfl rfl rfl) rfl rfl rfl ?_ | refine LL.val (R.nePtr rfl rfl rfl rfl rfl) rfl rfl rfl ?_ | refine LL.val (R.eqSl rfl rfl rfl rfl rfl) rfl rfl rfl ?_ | refine LL.val (R.neSl rfl rfl rfl rfl rfl) rfl rfl rfl ?_ | refine LL.val (R.eqFn rfl rfl rfl rfl) rfl rfl rfl ?_ | refine LL.val (R.eqBool rfl rfl rfl rfl rfl) rfl rfl rfl ?_ | refine LL.val (R.neBool rfl rfl rfl rfl rfl) rfl rfl rfl ?_ | refine LL.val (R.xorU rfl rfl rfl (by first | omega | decide) (by first | omega | decide)) rfl rfl rfl ?_ | refine LL.val (R.addUN rfl rfl rfl (by omega)) rfl rfl rfl ?_ | refine LL.val (R.not rfl rfl) rfl rfl rfl ?_ | refine LL.val (R.lenS rfl rfl rfl rfl) rfl rfl rfl ?_ | refine LL.val (R.len rfl rfl rfl rfl) rfl rfl rfl ?_ | refine LL.val (R.pick rfl rfl rfl) rfl rfl rfl ?_ | refine LL.val (R.extract rfl rfl rfl) rfl rfl rfl ?_ | refine LL.val (R.func rfl rfl rfl) rfl rfl rfl ?_ | refine LL.val (R.slice rfl rfl rfl rfl rfl (I.slA rfl)) rfl rfl rfl ?_ | refine LL.val (R.slice rfl rfl rfl rfl rfl (I.slAto rfl (by omega))) rfl rfl rfl ?_) | refine LL.skip rfl rfl ?_))
    refine EE.ret1 hK [v, .int .i64 0] rfl rfl ?_
    refine ⟨v, rfl, h3.grown gt (fun e => ?_), taken_bel h1 (by omega) (Nat.le_refl _)⟩
    rcases h3.2 with ⟨e1, _⟩ | ⟨g', cap', cur, e1, _, hg', _⟩
    · rw [e1] at e; cases e
    · rw [e1] at e; cases e
      rw [hg'] at hK
      cases hK
end Go.Proofs.YtbbddpnjglijdaaDoor
/- walk: a walker's methods (written by genwk2.py). -/
namespace Go.Proofs.YtbbddpnjglijdaaDoor
set_option linter.unusedVariables false
set_option linter.unusedSimpArgs false
open Go.RowKit Go.Shelf
set_option maxRecDepth 100000
set_option maxHeartbeats 8000000
section
variable (g : Nat) {x0 : Wd} {dn fol mk : Bool} {dir links : Int} {lv : Value} {w : World}
theorem end_any (x : Wd) {c0 c1 c2 c3 c4 : Value} (h : RowL w g 60 [c0, c1, c2, c3, c4, .bool dn, .int .i64 dir, lv, .int .i64 links, .bool fol, .bool mk]) : Calls Tryd.prog 39 #[.pointer (some ⟨g, 0, none⟩), wdV x] w fun e w' => e = .returned (.tuple #[]) ∧ RowL w' g 60 (wkL x true dir lv links fol mk) ∧ Kept (fun j => j < w.heap.size ∧ j ≠ g) w w' := by
  have gw := Gw.refl g w
  refine X.fn Tryd.func39 rfl (n := 13) rfl rfl ?_
  refine CC.seq ?_
  refine CC.region ?_
  have l1 := h.lt
  refine LL.box [Value.int IntKind.i64 x.1, Value.int IntKind.i64 x.2.1, strV x.2.2.1, Value.int IntKind.i64 x.2.2.2.1, Value.int IntKind.i64 x.2.2.2.2] rfl rfl rfl rfl rfl ?_
  intro W3 g4 eg4 r5 z6 b2
  replace h := h.up b2
  replace gw := gw.up b2
  refine LL.nilS ?_
  refine CC.region ?_
  refine LL.val (R.move rfl rfl) rfl rfl rfl ?_
  refine LL.val (R.move rfl rfl) rfl rfl rfl ?_
  refine LL.val (R.load rfl rfl (I.ldNc (vs := [Value.int IntKind.i64 x.1, Value.int IntKind.i64 x.2.1, strV x.2.2.1, Value.int IntKind.i64 x.2.2.2.1, Value.int IntKind.i64 x.2.2.2.2]) (RowL.cells r5 rfl) (by rfl) (by rfl))) rfl rfl rfl ?_
  refine LL.val (R.nil rfl rfl) rfl rfl rfl ?_
  refine LL.val (R.field rfl rfl (I.fld rfl)) rfl rfl rfl ?_
  refine LL.val (R.field rfl rfl (I.fld rfl)) rfl rfl rfl ?_
  refine LL.storeN (vs := [Value.int IntKind.i64 x.1, Value.int IntKind.i64 x.2.1, strV x.2.2.1, Value.int IntKind.i64 x.2.2.2.1, Value.int IntKind.i64 x.2.2.2.2]) rfl rfl rfl rfl h (by exact Nat.le_of_ble_eq_true rfl) (ones_of rfl) rfl rfl ?_
  intro W8 r9 b7 z10
  have hlb7 := h.lt
  replace r9 : RowL W8 _ 60 [Value.int IntKind.i64 x.1, Value.int IntKind.i64 x.2.1, strV x.2.2.1, Value.int IntKind.i64 x.2.2.2.1, Value.int IntKind.i64 x.2.2.2.2, Value.bool dn, Value.int IntKind.i64 dir, lv, Value.int IntKind.i64 links, Value.bool fol, Value.bool mk] := r9
  clear h
  replace r5 := r5.gr b7 (by have := r5.lt; omega)
  replace gw := gw.gr b7 (by omega)
  have h := r9
  clear r9
  refine LL.val (R.nil rfl rfl) rfl rfl rfl ?_
  refine LL.val (R.field rfl rfl (I.fld rfl)) rfl rfl rfl ?_
  refine LL.val (R.field rfl rfl (I.fld rfl)) rfl rfl rfl ?_
  refine LL.store rfl rfl rfl rfl h (by exact Nat.le_of_ble_eq_true rfl) rfl rfl rfl rfl ?_
  intro W12 r13 b11 z14
  have hlb11 := h.lt
  replace r13 : RowL W12 _ 60 [Value.int IntKind.i64 x.1, Value.int IntKind.i64 x.2.1, strV x.2.2.1, Value.int IntKind.i64 x.2.2.2.1, Value.int IntKind.i64 x.2.2.2.2, Value.bool true, Value.int IntKind.i64 dir, lv, Value.int IntKind.i64 links, Value.bool fol, Value.bool mk] := r13
  clear h
  replace r5 := r5.gr b11 (by have := r5.lt; omega)
  replace gw := gw.gr b11 (by omega)
  have h := r13
  clear r13
  refine LL.nil ?_
  refine EE.end _ rfl rfl ?_
  exact ⟨rfl, h, gw⟩
--C walk_Walker_none | none_any _ @p | S
theorem none_any (h : RowL w g 60 (wkL x0 dn dir lv links fol true)) : Calls Tryd.prog 36 #[.pointer (some ⟨g, 0, none⟩)] w fun e w' => e = .returned (.bool false) ∧ w = w' := by
  refine X.fn Tryd.func36 rfl (n := 12) rfl rfl ?_
  refine CC.seq ?_
  refine CC.region ?_
  refine LL.val (R.assign rfl rfl) rfl rfl rfl ?_
  refine LL.nilS ?_
  refine CC.seq ?_
  refine CC.region ?_
  refine LL.val (R.move rfl rfl) rfl rfl rfl ?_
  refine LL.val (R.eqPtr rfl rfl rfl rfl rfl) rfl rfl rfl ?_
  refine LL.val (R.move rfl rfl) rfl rfl rfl ?_
  refine LL.val (R.move rfl rfl) rfl rfl rfl ?_
  refine LL.val (R.nil rfl rfl) rfl rfl rfl ?_
  refine LL.val (R.field rfl rfl (I.fld rfl)) rfl rfl rfl ?_
  refine LL.val (R.load rfl rfl (I.ld1 rfl (RowL.cell h rfl))) rfl rfl rfl ?_
  refine LL.val (R.not rfl rfl) rfl rfl rfl ?_
  refine LL.val (R.pick rfl rfl rfl) rfl rfl rfl ?_
  refine LL.val (R.assign rfl rfl) rfl rfl rfl ?_
  refine LL.nilS ?_
  refine CC.ret ?_
  refine EE.ret _ rfl rfl ?_
  exact ⟨rfl, rfl⟩
theorem answered_run (h : RowL w g 60 (wkL x0 false dir lv links fol true)) : Calls Tryd.prog 38 #[.pointer (some ⟨g, 0, none⟩)] w fun e w' => e = .returned (.int .i64 0) ∧ w = w' := by
  refine X.fn Tryd.func38 rfl (n := 12) rfl rfl ?_
  refine CC.seq ?_
  refine CC.region ?_
  refine LL.val (R.assign rfl rfl) rfl rfl rfl ?_
  refine LL.nilS ?_
  refine CC.seq ?_
  refine CC.block ?_
  refine CC.seq ?_
  refine CC.region ?_
  refine LL.val (R.move rfl rfl) rfl rfl rfl ?_
  refine LL.call (R.call rfl rfl rfl) rfl rfl rfl (none_any _ (by first | assumption | omega)) ?_
  rintro e W' ⟨rfl, rfl⟩
  refine ⟨_, rfl, ?_⟩
  refine LL.val (R.assign rfl rfl) rfl rfl rfl ?_
  refine LL.nilS ?_
  refine CC.no rfl ?_
  refine CC.seq ?_
  refine CC.region ?_
  refine LL.val (R.move rfl rfl) rfl rfl rfl ?_
  refine LL.val (R.nil rfl rfl) rfl rfl rfl ?_
  refine LL.val (R.field rfl rfl (I.fld rfl)) rfl rfl rfl ?_
  refine LL.val (R.field rfl rfl (I.fld rfl)) rfl rfl rfl ?_
  refine LL.val (R.load rfl rfl (I.ld1 rfl (RowL.cell h rfl))) rfl rfl rfl ?_
  refine LL.val (R.assign rfl rfl) rfl rfl rfl ?_
  refine LL.nilS ?_
  refine CC.no rfl ?_
  refine CC.skip ?_
  refine EE.inN ?_
  refine EE.thenN ?_
  refine CC.seq ?_
  refine CC.region ?_
  refine LL.val (R.assign rfl rfl) rfl rfl rfl ?_
  refine LL.nilS ?_
  refine CC.ret ?_
  refine EE.ret _ rfl rfl ?_
  exact ⟨rfl, rfl⟩
theorem answered_done (h : RowL w g 60 (wkL x0 true dir lv links fol true)) : Calls Tryd.prog 38 #[.pointer (some ⟨g, 0, none⟩)] w fun e w' => e = .returned (.int .i64 5) ∧ w = w' := by
  refine X.fn Tryd.func38 rfl (n := 12) rfl rfl ?_
  refine CC.seq ?_
  refine CC.region ?_
  refine LL.val (R.assign rfl rfl) rfl rfl rfl ?_
  refine LL.nilS ?_
  refine CC.seq ?_
  refine CC.block ?_
  refine CC.seq ?_
  refine CC.region ?_
  refine LL.val (R.move rfl rfl) rfl rfl rfl ?_
  refine LL.call (R.call rfl rfl rfl) rfl rfl rfl (none_any _ (by first | assumption | omega)) ?_
  rintro e W' ⟨rfl, rfl⟩
  refine ⟨_, rfl, ?_⟩
  refine LL.val (R.assign rfl rfl) rfl rfl rfl ?_
  refine LL.nilS ?_
  refine CC.no rfl ?_
  refine CC.seq ?_
  refine CC.region ?_
  refine LL.val (R.move rfl rfl) rfl rfl rfl ?_
  refine LL.val (R.nil rfl rfl) rfl rfl rfl ?_
  refine LL.val (R.field rfl rfl (I.fld rfl)) rfl rfl rfl ?_
  refine LL.val (R.field rfl rfl (I.fld rfl)) rfl rfl rfl ?_
  refine LL.val (R.load rfl rfl (I.ld1 rfl (RowL.cell h rfl))) rfl rfl rfl ?_
  refine LL.val (R.assign rfl rfl) rfl rfl rfl ?_
  refine LL.nilS ?_
  refine CC.yes rfl ?_
  refine CC.seq ?_
  refine CC.region ?_
  refine LL.val (R.assign rfl rfl) rfl rfl rfl ?_
  refine LL.nilS ?_
  refine CC.ret ?_
  refine EE.inR ?_
  refine EE.thenR ?_
  refine EE.ret _ rfl rfl ?_
  exact ⟨rfl, rfl⟩
theorem done_run (h : RowL w g 60 (wkL x0 false dir lv links fol true)) : Calls Tryd.prog 25 #[.pointer (some ⟨g, 0, none⟩)] w fun e w' => e = .returned (.tuple #[wdV wdZ, .bool false]) ∧ Below w.heap.size w w' := by
  have q := Below.refl w.heap.size w
  refine X.fn Tryd.func25 rfl (n := 20) rfl rfl ?_
  refine CC.seq ?_
  refine CC.region ?_
  have l1 := h.lt
  refine LL.alloc ([Value.int IntKind.i64 0, Value.int IntKind.i64 0, Value.string { data := { toList := [] } }, Value.int IntKind.i64 0, Value.int IntKind.i64 0]) rfl rfl rfl rfl rfl ?_
  intro W3 g4 eg4 r5 z6 b2
  replace h := h.up b2
  replace q := q.trans (b2.mono q.size)
  refine LL.val (R.assign rfl rfl) rfl rfl rfl ?_
  refine LL.nilS ?_
  refine CC.seq ?_
  refine CC.seq ?_
  refine CC.region ?_
  refine LL.val (R.move rfl rfl) rfl rfl rfl ?_
  refine LL.call (R.call rfl rfl rfl) rfl rfl rfl (none_any _ (by first | assumption | omega)) ?_
  rintro e W' ⟨rfl, rfl⟩
  refine ⟨_, rfl, ?_⟩
  refine LL.val (R.move rfl rfl) rfl rfl rfl ?_
  refine LL.val (R.move rfl rfl) rfl rfl rfl ?_
  refine LL.val (R.nil rfl rfl) rfl rfl rfl ?_
  refine LL.val (R.field rfl rfl (I.fld rfl)) rfl rfl rfl ?_
  refine LL.val (R.field rfl rfl (I.fld rfl)) rfl rfl rfl ?_
  refine LL.val (R.load rfl rfl (I.ld1 rfl (RowL.cell h rfl))) rfl rfl rfl ?_
  refine LL.val (R.not rfl rfl) rfl rfl rfl ?_
  refine LL.val (R.pick rfl rfl rfl) rfl rfl rfl ?_
  refine LL.nilS ?_
  refine CC.yes rfl ?_
  refine CC.seq ?_
  refine CC.region ?_
  refine LL.val (R.buildV rfl rfl (v := .agg #[Value.int IntKind.i64 0, Value.int IntKind.i64 0, Value.string { data := #[] }, Value.int IntKind.i64 0, Value.int IntKind.i64 0]) (fun _ => by kernel_rfl)) rfl rfl rfl ?_
  refine LL.storeN (vs := [Value.int IntKind.i64 0, Value.int IntKind.i64 0, Value.string { data := #[] }, Value.int IntKind.i64 0, Value.int IntKind.i64 0]) rfl rfl rfl rfl r5 (by exact Nat.le_of_ble_eq_true rfl) (ones_of rfl) rfl rfl ?_
  intro W8 r9 b7 z10
  have hlb7 := r5.lt
  replace r9 : RowL W8 _ 31 [Value.int IntKind.i64 0, Value.int IntKind.i64 0, Value.string { data := #[] }, Value.int IntKind.i64 0, Value.int IntKind.i64 0] := r9
  clear r5
  replace b2 := b2.grown b7 b2.size (by rintro k ⟨⟩; omega)
  replace h := h.gr b7 (by have := h.lt; omega)
  replace q := q.grown b7 q.size (by rintro k ⟨⟩; omega)
  have r5 := r9
  clear r9
  refine LL.val (R.assign rfl rfl) rfl rfl rfl ?_
  refine LL.nilS ?_
  refine CC.ret ?_
  refine EE.thenR ?_
  refine EE.ret2 rfl ⟨_, rfl, lvNc (RowL.cells0 (by assumption)) (by rfl) (by rfl)⟩ rfl ?_
  exact ⟨rfl, q⟩
theorem done_done (h : RowL w g 60 (wkL x0 true dir lv links fol true)) : Calls Tryd.prog 25 #[.pointer (some ⟨g, 0, none⟩)] w fun e w' => e = .returned (.tuple #[wdV x0, .bool true]) ∧ Below w.heap.size w w' := by
  have q := Below.refl w.heap.size w
  refine X.fn Tryd.func25 rfl (n := 20) rfl rfl ?_
  refine CC.seq ?_
  refine CC.region ?_
  have l1 := h.lt
  refine LL.alloc ([Value.int IntKind.i64 0, Value.int IntKind.i64 0, Value.string { data := { toList := [] } }, Value.int IntKind.i64 0, Value.int IntKind.i64 0]) rfl rfl rfl rfl rfl ?_
  intro W3 g4 eg4 r5 z6 b2
  replace h := h.up b2
  replace q := q.trans (b2.mono q.size)
  refine LL.val (R.assign rfl rfl) rfl rfl rfl ?_
  refine LL.nilS ?_
  refine CC.seq ?_
  refine CC.seq ?_
  refine CC.region ?_
  refine LL.val (R.move rfl rfl) rfl rfl rfl ?_
  refine LL.call (R.call rfl rfl rfl) rfl rfl rfl (none_any _ (by first | assumption | omega)) ?_
  rintro e W' ⟨rfl, rfl⟩
  refine ⟨_, rfl, ?_⟩
  refine LL.val (R.move rfl rfl) rfl rfl rfl ?_
  refine LL.val (R.move rfl rfl) rfl rfl rfl ?_
  refine LL.val (R.nil rfl rfl) rfl rfl rfl ?_
  refine LL.val (R.field rfl rfl (I.fld rfl)) rfl rfl rfl ?_
  refine LL.val (R.field rfl rfl (I.fld rfl)) rfl rfl rfl ?_
  refine LL.val (R.load rfl rfl (I.ld1 rfl (RowL.cell h rfl))) rfl rfl rfl ?_
  refine LL.val (R.not rfl rfl) rfl rfl rfl ?_
  refine LL.val (R.pick rfl rfl rfl) rfl rfl rfl ?_
  refine LL.nilS ?_
  refine CC.no rfl ?_
  refine CC.skip ?_
  refine EE.thenN ?_
  refine CC.seq ?_
  refine CC.region ?_
  refine LL.val (R.move rfl rfl) rfl rfl rfl ?_
  refine LL.val (R.nil rfl rfl) rfl rfl rfl ?_
  refine LL.val (R.field rfl rfl (I.fld rfl)) rfl rfl rfl ?_
  refine LL.val (R.field rfl rfl (I.fld rfl)) rfl rfl rfl ?_
  refine LL.val (R.load rfl rfl (I.ldNc (vs := [Value.int IntKind.i64 x0.1, Value.int IntKind.i64 x0.2.1, strV x0.2.2.1, Value.int IntKind.i64 x0.2.2.2.1, Value.int IntKind.i64 x0.2.2.2.2]) (RowL.cells h rfl) (by rfl) (by rfl))) rfl rfl rfl ?_
  refine LL.storeN (vs := [Value.int IntKind.i64 x0.1, Value.int IntKind.i64 x0.2.1, strV x0.2.2.1, Value.int IntKind.i64 x0.2.2.2.1, Value.int IntKind.i64 x0.2.2.2.2]) rfl rfl rfl rfl r5 (by exact Nat.le_of_ble_eq_true rfl) (ones_of rfl) rfl rfl ?_
  intro W8 r9 b7 z10
  have hlb7 := r5.lt
  replace r9 : RowL W8 _ 31 [Value.int IntKind.i64 x0.1, Value.int IntKind.i64 x0.2.1, strV x0.2.2.1, Value.int IntKind.i64 x0.2.2.2.1, Value.int IntKind.i64 x0.2.2.2.2] := r9
  clear r5
  replace b2 := b2.grown b7 b2.size (by rintro k ⟨⟩; omega)
  replace h := h.gr b7 (by have := h.lt; omega)
  replace q := q.grown b7 q.size (by rintro k ⟨⟩; omega)
  have r5 := r9
  clear r9
  refine LL.val (R.assign rfl rfl) rfl rfl rfl ?_
  refine LL.nilS ?_
  refine CC.ret ?_
  refine EE.ret2 rfl ⟨_, rfl, lvNc (RowL.cells0 (by assumption)) (by rfl) (by rfl)⟩ rfl ?_
  exact ⟨rfl, q⟩
theorem asks_run (p : Bs) (r : List Bs) (n c : Nat) (a : Option Addr) (hn : (p :: r).length = n) (h : RowL w g 60 (wkL x0 false dir (.slice a n c) links fol true)) (hl : ReadsT stE 1 w (.slice a n c) (p :: r)) : Calls Tryd.prog 24 #[.pointer (some ⟨g, 0, none⟩)] w fun e w' => e = .returned (.tuple #[.int .i64 dir, strV p, .bool true]) ∧ Below w.heap.size w w' := by
  have q := Below.refl w.heap.size w
  obtain ⟨b, off, rfl, hb, cs⟩ := hl.one stEnc (i := 0) rfl
  have c0 : ∀ W, Below w.heap.size w W → W.cell? ⟨b, off + 0, none⟩ = some (strV p) := fun W k => by
    obtain ⟨_, _, e, _, cs⟩ := (hl.up k).one stEnc (i := 0) (t := p) rfl
    cases e
    exact cs _ rfl
  have hn1 : 0 < n := by rw [← hn]; exact Nat.succ_pos _
  clear hl cs
  refine X.fn Tryd.func24 rfl (n := 24) rfl rfl ?_
  refine CC.seq ?_
  refine CC.region ?_
  refine LL.val (R.assign rfl rfl) rfl rfl rfl ?_
  refine LL.val (R.assign rfl rfl) rfl rfl rfl ?_
  refine LL.val (R.assign rfl rfl) rfl rfl rfl ?_
  refine LL.nilS ?_
  refine CC.seq ?_
  refine CC.seq ?_
  refine CC.region ?_
  refine LL.val (R.move rfl rfl) rfl rfl rfl ?_
  refine LL.call (R.call rfl rfl rfl) rfl rfl rfl (none_any _ (by first | assumption | omega)) ?_
  rintro e W' ⟨rfl, rfl⟩
  refine ⟨_, rfl, ?_⟩
  refine LL.val (R.move rfl rfl) rfl rfl rfl ?_
  refine LL.val (R.move rfl rfl) rfl rfl rfl ?_
  refine LL.val (R.nil rfl rfl) rfl rfl rfl ?_
  refine LL.val (R.field rfl rfl (I.fld rfl)) rfl rfl rfl ?_
  refine LL.val (R.field rfl rfl (I.fld rfl)) rfl rfl rfl ?_
  refine LL.val (R.load rfl rfl (I.ld1 rfl (RowL.cell h rfl))) rfl rfl rfl ?_
  refine LL.val (R.pick rfl rfl rfl) rfl rfl rfl ?_
  refine LL.nilS ?_
  refine CC.no rfl ?_
  refine CC.skip ?_
  refine EE.thenN ?_
  refine CC.seq ?_
  refine CC.quietB (by kernel_rfl) (by kernel_rfl) (fun W2 b1 z3 => ?_)
  replace q := q.trans (b1.mono q.size)
  replace h := h.up b1
  refine SS.val (R.move rfl rfl) rfl rfl ?_
  refine SS.val (R.nil rfl rfl) rfl rfl ?_
  refine SS.val (R.field rfl rfl (I.fld rfl)) rfl rfl ?_
  refine SS.val (R.load rfl rfl (I.ld1 rfl (RowL.cell h rfl))) rfl rfl ?_
  refine SS.val (R.move rfl rfl) rfl rfl ?_
  refine SS.val (R.nil rfl rfl) rfl rfl ?_
  refine SS.val (R.field rfl rfl (I.fld rfl)) rfl rfl ?_
  refine SS.val (R.load rfl rfl (I.ld1 rfl (RowL.cell h rfl))) rfl rfl ?_
  refine SS.val (R.index rfl rfl rfl (I.ixS1c rfl rfl (by omega))) rfl rfl ?_
  (refine SS.val (R.load rfl rfl (I.ld1 rfl (c0 _ q))) rfl rfl ?_)
  refine SS.val (R.assign rfl rfl) rfl rfl ?_
  refine SS.val (R.assign rfl rfl) rfl rfl ?_
  refine SS.val (R.assign rfl rfl) rfl rfl ?_
  refine SS.nilQ ?_
  refine EE.thenN ?_
  refine CC.ret ?_
  refine EE.ret _ rfl rfl ?_
  exact ⟨rfl, q⟩
theorem asks_done (h : RowL w g 60 (wkL x0 true dir lv links fol true)) : Calls Tryd.prog 24 #[.pointer (some ⟨g, 0, none⟩)] w fun e w' => e = .returned (.tuple #[.int .i64 0, strV [], .bool false]) ∧ Below w.heap.size w w' := by
  have q := Below.refl w.heap.size w
  refine X.fn Tryd.func24 rfl (n := 24) rfl rfl ?_
  refine CC.seq ?_
  refine CC.region ?_
  refine LL.val (R.assign rfl rfl) rfl rfl rfl ?_
  refine LL.val (R.assign rfl rfl) rfl rfl rfl ?_
  refine LL.val (R.assign rfl rfl) rfl rfl rfl ?_
  refine LL.nilS ?_
  refine CC.seq ?_
  refine CC.seq ?_
  refine CC.region ?_
  refine LL.val (R.move rfl rfl) rfl rfl rfl ?_
  refine LL.call (R.call rfl rfl rfl) rfl rfl rfl (none_any _ (by first | assumption | omega)) ?_
  rintro e W' ⟨rfl, rfl⟩
  refine ⟨_, rfl, ?_⟩
  refine LL.val (R.move rfl rfl) rfl rfl rfl ?_
  refine LL.val (R.move rfl rfl) rfl rfl rfl ?_
  refine LL.val (R.nil rfl rfl) rfl rfl rfl ?_
  refine LL.val (R.field rfl rfl (I.fld rfl)) rfl rfl rfl ?_
  refine LL.val (R.field rfl rfl (I.fld rfl)) rfl rfl rfl ?_
  refine LL.val (R.load rfl rfl (I.ld1 rfl (RowL.cell h rfl))) rfl rfl rfl ?_
  refine LL.val (R.pick rfl rfl rfl) rfl rfl rfl ?_
  refine LL.nilS ?_
  refine CC.yes rfl ?_
  refine CC.seq ?_
  refine CC.region ?_
  refine LL.val (R.assign rfl rfl) rfl rfl rfl ?_
  refine LL.val (R.assign rfl rfl) rfl rfl rfl ?_
  refine LL.val (R.assign rfl rfl) rfl rfl rfl ?_
  refine LL.nilS ?_
  refine CC.ret ?_
  refine EE.thenR ?_
  refine EE.ret _ rfl rfl ?_
  exact ⟨rfl, q⟩
end
end Go.Proofs.YtbbddpnjglijdaaDoor
/- walk: clone, together, lead, on (written by genwk3.py). -/
namespace Go.Proofs.YtbbddpnjglijdaaDoor
set_option linter.unusedVariables false
set_option linter.unusedSimpArgs false
open Go.RowKit Go.Shelf
set_option maxRecDepth 100000
set_option maxHeartbeats 8000000
theorem sclone_any (v : Value) (xs : List Bs) (w : World) (ha : ReadsT stE 1 w v xs) (hl : xs.length ≤ 1048576) :
    Calls Tryd.prog 37 #[v] w fun e w' => ∃ v', e = .returned v' ∧ OwnsT stE 1 w' w.heap.size 9 v' xs ∧ Below w.heap.size w w' := by
  have q := Below.refl w.heap.size w
  obtain ⟨N, hN⟩ : ∃ N, xs.length = N := ⟨_, rfl⟩
  obtain ⟨a, cap, rfl, hc⟩ := ha.form hN
  cases a with
  | none =>
    have hx : xs = [] := by
      obtain ⟨a', cap', e, _, h⟩ := ha
      cases e
      rcases Classical.em (xs = []) with h0 | h0
      · exact h0
      · obtain ⟨_, _, h1, _⟩ := h h0
        cases h1
    subst hx
    obtain rfl : 0 = N := hN
    refine X.fn Tryd.func37 rfl (n := 8) rfl rfl ?_
    refine CC.seq ?_
    refine CC.region ?_
    refine LL.val (R.assign rfl rfl) rfl rfl rfl ?_
    refine LL.nilS ?_
    refine CC.seq ?_
    refine CC.seq ?_
    refine CC.region ?_
    refine LL.val (R.move rfl rfl) rfl rfl rfl ?_
    refine LL.val (R.eqSl rfl rfl rfl rfl rfl) rfl rfl rfl ?_
    refine LL.nilS ?_
    refine CC.yes rfl ?_
    refine CC.seq ?_
    refine CC.region ?_
    refine LL.val (R.assign rfl rfl) rfl rfl rfl ?_
    refine LL.nilS ?_
    refine CC.ret ?_
    refine EE.thenR ?_
    refine EE.ret _ rfl rfl ?_
    exact ⟨_, rfl, OwnsT.none _ _ _, q⟩
  | some p =>
    have haF := fun X (b : Below w.heap.size w X) => ha.up b
    clear ha
    refine X.fn Tryd.func37 rfl (n := 8) rfl rfl ?_
    refine CC.seq ?_
    refine CC.region ?_
    refine LL.val (R.assign rfl rfl) rfl rfl rfl ?_
    refine LL.nilS ?_
    refine CC.seq ?_
    refine CC.seq ?_
    refine CC.region ?_
    refine LL.val (R.move rfl rfl) rfl rfl rfl ?_
    refine LL.val (R.eqSl rfl rfl rfl rfl rfl) rfl rfl rfl ?_
    refine LL.nilS ?_
    refine CC.no rfl ?_
    refine CC.skip ?_
    refine EE.thenN ?_
    refine CC.seq ?_
    refine CC.region ?_
    refine LL.lit (e := 9) [] 0 rfl rfl (fun _ => by kernel_rfl) rfl rfl ?_
    intro Wa2 ga3 ega3 ra4 za5 ba1
    replace q := q.trans (ba1.mono q.size)
    refine LL.val (R.move rfl rfl) rfl rfl rfl ?_
    (refine LL.appendT2 rfl rfl stEnc ElS (RowL.ownsT (base := w.heap.size) (ts := ([] : List Bs)) stEnc (by assumption) (by omega) (by simp)) (us := xs) (haF _ q) (by simp [maxLen]; omega) (by simp; omega) (by have := q.size; omega) rfl rfl ?_; intro v' Wz oz gra hva; rw [List.nil_append] at oz; have gsz := gra.size; replace q := q.grown gra q.size (by rintro k ⟨⟩; dsimp only; omega); obtain ⟨az, cz, rfl, hcz⟩ := (oz.reads stEnc).form hN; clear gra hva)
    refine LL.val (R.assign rfl rfl) rfl rfl rfl ?_
    refine LL.nilS ?_
    refine CC.ret ?_
    refine EE.ret _ rfl rfl ?_
    exact ⟨_, rfl, oz, q⟩
theorem together_any (v1 v2 : Value) (xs ys : List Bs) (w : World) (h1 : ReadsT stE 1 w v1 xs) (h2 : ReadsT stE 1 w v2 ys) (hl1 : xs.length ≤ 100000) (hl2 : ys.length ≤ 100000) :
    Calls Tryd.prog 49 #[v1, v2] w fun e w' => ∃ v', e = .returned v' ∧ OwnsT stE 1 w' w.heap.size 9 v' (xs ++ ys) ∧ Below w.heap.size w w' := by
  have q := Below.refl w.heap.size w
  obtain ⟨N, hN⟩ : ∃ N, xs.length = N := ⟨_, rfl⟩
  obtain ⟨N2, hN2⟩ : ∃ N, ys.length = N := ⟨_, rfl⟩
  obtain ⟨a, cap, rfl, hc⟩ := h1.form hN
  obtain ⟨a2, cap2, rfl, hc2⟩ := h2.form hN2
  have h2F := fun X (b : Below w.heap.size w X) => h2.up b
  have hcl := fun X (b : Below w.heap.size w X) => sclone_any _ xs X (h1.up b) (by omega)
  clear h1 h2
  refine X.fn Tryd.func49 rfl (n := 9) rfl rfl ?_
  refine CC.seq ?_
  refine CC.region ?_
  refine LL.val (R.assign rfl rfl) rfl rfl rfl ?_
  refine LL.nilS ?_
  refine CC.seq ?_
  refine CC.region ?_
  refine LL.val (R.move rfl rfl) rfl rfl rfl ?_
  (refine LL.call (R.call rfl rfl rfl) rfl rfl rfl (hcl _ q) ?_; rintro e W18 ⟨v', rfl, oc, b15⟩; refine ⟨_, rfl, ?_⟩; obtain ⟨az, cz, rfl, hcz⟩ := (oc.reads stEnc).form hN)
  have zb15 := b15.size
  replace q := q.trans (b15.mono q.size)
  refine LL.val (R.move rfl rfl) rfl rfl rfl ?_
  (refine LL.appendT2 rfl rfl stEnc ElS oc (us := ys) (h2F _ q) (by simp only [maxLen]; omega) (by omega) (by have := q.size; omega) rfl rfl ?_; intro v' Wz oz gra hva; have gsz := gra.size; replace q := q.grown gra q.size (fun k hk => by have := own_ge oc k hk; omega); obtain ⟨az, cz, rfl, hcz⟩ := (oz.reads stEnc).form (n := N + N2) (by rw [List.length_append]; omega); clear gra hva oc)
  refine LL.val (R.assign rfl rfl) rfl rfl rfl ?_
  refine LL.nilS ?_
  refine CC.ret ?_
  refine EE.ret _ rfl rfl ?_
  exact ⟨_, rfl, OwnsT.lower oz (by omega), q⟩
section
variable (g : Nat) {dn fol mk : Bool} {dir links : Int} {lv : Value} {w : World}
theorem lead_any (v : Value) (xs ys : List Bs) {B : Nat} (h : RowL w g 60 (wkL wdZ false dir lv links fol true)) (hv : ReadsT stE 1 w v xs) (hp : PsAt w B g lv ys) (hl1 : xs.length ≤ 100000) (hl2 : ys.length ≤ 100000) : Calls Tryd.prog 33 #[.pointer (some ⟨g, 0, none⟩), v] w fun e w' => e = .returned (.tuple #[]) ∧ (∃ v' B', RowL w' g 60 (wkL wdZ false dir v' links fol true) ∧ PsAt w' B' g v' (xs ++ ys)) ∧ Kept (fun j => j < w.heap.size ∧ j ≠ g) w w' := by
  have gw := Gw.refl g w
  have hg := h.lt
  obtain ⟨a, n, c, rfl⟩ : ∃ a n c, lv = .slice a n c := by
    obtain ⟨a, c, e, _⟩ := hp.r.form rfl
    exact ⟨_, _, _, e⟩
  obtain ⟨N, hN⟩ : ∃ N, xs.length = N := ⟨_, rfl⟩
  obtain ⟨a1, c1, rfl, hc1⟩ := hv.form hN
  have htg := fun X (b : Below w.heap.size w X) => together_any _ _ xs ys X (hv.up b) (hp.r.up b) hl1 hl2
  have q := Below.refl w.heap.size w
  clear hv hp
  refine X.fn Tryd.func33 rfl (n := 13) rfl rfl ?_
  refine CC.region ?_
  refine LL.val (R.move rfl rfl) rfl rfl rfl ?_
  refine LL.val (R.move rfl rfl) rfl rfl rfl ?_
  refine LL.val (R.move rfl rfl) rfl rfl rfl ?_
  refine LL.val (R.nil rfl rfl) rfl rfl rfl ?_
  refine LL.val (R.field rfl rfl (I.fld rfl)) rfl rfl rfl ?_
  refine LL.val (R.load rfl rfl (I.ld1 rfl (RowL.cell h rfl))) rfl rfl rfl ?_
  have l53 := h.lt
  (refine LL.call (R.call rfl rfl rfl) rfl rfl rfl (htg _ q) ?_; rintro e W52 ⟨v', rfl, oc, b49⟩; refine ⟨_, rfl, ?_⟩; obtain ⟨az, cz, rfl, hcz⟩ := (oc.reads stEnc).form rfl; clear q; have hp : PsAt W52 W52.heap.size g _ _ := ⟨oc.reads stEnc, fun x n c e _ => by cases e; have := own_ge oc x.block rfl; have hx := own_in oc rfl; exact ⟨hx, by omega⟩, Nat.le_refl _⟩; clear oc)
  have zb49 := b49.size
  replace gw := gw.up b49
  replace h := h.up b49
  refine LL.val (R.nil rfl rfl) rfl rfl rfl ?_
  refine LL.val (R.field rfl rfl (I.fld rfl)) rfl rfl rfl ?_
  refine LL.store rfl rfl rfl rfl h (by exact Nat.le_of_ble_eq_true rfl) rfl rfl rfl rfl ?_
  intro W82 r83 b81 z84
  have hlb81 := h.lt
  replace r83 : RowL W82 _ 60 [Value.int IntKind.i64 0, Value.int IntKind.i64 0, strV [], Value.int IntKind.i64 0, Value.int IntKind.i64 0, Value.bool false, Value.int IntKind.i64 dir, Value.slice az (xs ++ ys).length cz, Value.int IntKind.i64 links, Value.bool fol, Value.bool true] := r83
  clear h
  replace hp := hp.gr b81 (by omega)
  replace gw := gw.gr b81 (by omega)
  have h := r83
  clear r83
  refine LL.nil ?_
  refine EE.end _ rfl rfl ?_
  exact ⟨rfl, ⟨_, _, h, hp⟩, gw⟩
end
end Go.Proofs.YtbbddpnjglijdaaDoor
/- walk: on, stop, enter (written by genwk4.py). -/
namespace Go.Proofs.YtbbddpnjglijdaaDoor
set_option linter.unusedVariables false
set_option linter.unusedSimpArgs false
open Go.RowKit Go.Shelf
set_option maxRecDepth 100000
set_option maxHeartbeats 8000000
theorem I.slFromG {P : Program} {T e : TypeId} {k : Nat} {w : World} {a : Option Addr} {len cap lo : Nat} (h : slB P T = some (e, k)) (h1 : lo ≤ len) : (Instr.sliceAt T (.slice a len cap) (some (.int .i64 (lo : Int))) none none).run P w = .ok (.slice (if cap = lo then a else a.map fun p => p.add (lo * k)) (len - lo) (cap - lo)) w := by
  refine slAt_sl h ?_
  obtain ⟨hu, hs⟩ := sl_of h
  obtain ⟨i, hi', hsz⟩ : ∃ i, P.info? e = some i ∧ i.size = k := by
    unfold szB at hs
    cases hq : P.info? e with
    | none => rw [hq] at hs; cases hs
    | some i => rw [hq] at hs; exact ⟨i, rfl, by simpa using hs⟩
  simp [Instr.slice, run_underlying hu, Instr.sliceBounds, run_sliceBound, sizeOf, typeInfo, hi', hsz, (by omega : (lo : Int) ≤ (len : Int))]
/-- A walker in memory. -/
structure WkAt (w : World) (g : Nat) (s : Wk) : Prop where
  out : ∃ (dir links : Int) (lv : Value) (ls : List Bs) (B : Nat), RowL w g 60 (wkL (s.fin.getD wdZ) s.fin.isSome dir lv links s.fol true) ∧ PsAt w B g lv ls ∧ ls.length ≤ 100000 ∧ (s.fin = none → dir = s.dir ∧ links = s.links ∧ ls = s.ps)
section
variable {w w' : World} {g r B : Nat} {s : Wk}
theorem WkAt.up (h : WkAt w g s) (b : Below w.heap.size w w') : WkAt w' g s := by
  obtain ⟨d, k, lv, ls, B, h1, h2, h3⟩ := h.out
  exact ⟨d, k, lv, ls, B, h1.up b, h2.up b, h3⟩
theorem WkAt.lt (h : WkAt w g s) : g < w.heap.size := by
  obtain ⟨d, k, lv, ls, B, h1, h2, h3⟩ := h.out
  exact h1.lt
theorem WkAt.fin {x : Wd} {dir : Int} {lv : Value} {links : Int} {fol : Bool} {ls : List Bs} (h : RowL w g 60 (wkL x true dir lv links fol true)) (hp : PsAt w B g lv ls) (hl : ls.length ≤ 100000) (d : Int) (k : Nat) (ps : List Bs) (hs : s = ⟨d, ps, k, fol, some x⟩) : WkAt w g s := by
  subst hs
  exact ⟨dir, links, lv, ls, B, h, hp, hl, fun e => by cases e⟩
theorem WkAt.run {dir : Int} {lv : Value} {links : Nat} {fol : Bool} {ls : List Bs} (h : RowL w g 60 (wkL wdZ false dir lv (links : Int) fol true)) (hp : PsAt w B g lv ls) (hl : ls.length ≤ 100000) (hs : s = ⟨dir, ls, links, fol, none⟩) : WkAt w g s := by
  subst hs
  exact ⟨dir, links, lv, ls, B, h, hp, hl, fun _ => ⟨rfl, rfl, rfl⟩⟩
end
theorem tail_ex {w : World} {B g n c : Nat} {a : Option Addr} {p : Bs} {r : List Bs} (h : PsAt w B g (.slice a n c) (p :: r)) (hn : (p :: r).length = n) : ∃ a' c', (∀ (P : Program) (T e : TypeId) (w' : World), slB P T = some (e, 1) → (Instr.sliceAt T (.slice a n c) (some (.int .i64 1)) none none).run P w' = .ok (.slice a' (n - 1) c') w') ∧ ∀ X, PsAt X B g (.slice a n c) (p :: r) → PsAt X B g (.slice a' (n - 1) c') r := by
  have h1 : 1 ≤ n := by rw [← hn]; exact Nat.succ_le_succ (Nat.zero_le _)
  refine ⟨_, _, fun P T e w' hs => I.slFromG (lo := 1) hs h1, fun X hX => ⟨hX.r.from stEnc h1, fun x n' c' e h0 => ?_, hX.hB⟩⟩
  simp only [Value.slice.injEq] at e
  obtain ⟨e1, e2, e3⟩ := e
  cases a with
  | none => split at e1 <;> cases e1
  | some y =>
    have := hX.ne y n c rfl h1
    split at e1
    · cases e1
      exact this
    · cases e1
      exact this
section
variable (g : Nat) {fol : Bool} {dir : Int} {links : Nat} {lv : Value} {ls : List Bs} {w : World} {B : Nat}
theorem on_any (h : RowL w g 60 (wkL wdZ false dir lv links fol true)) (hp : PsAt w B g lv ls) (hl : ls.length ≤ 100000) : Calls Tryd.prog 34 #[.pointer (some ⟨g, 0, none⟩)] w fun e w' => e = .returned (.tuple #[]) ∧ WkAt w' g (Wk.on ⟨dir, ls, links, fol, none⟩) ∧ Kept (fun j => j < w.heap.size ∧ j ≠ g) w w' := by
  have gw := Gw.refl g w
  refine X.fn Tryd.func34 rfl (n := 32) rfl rfl ?_
  refine CC.jumps (α := List Bs × Value) (fun s => [(0, .pointer (some ⟨g, 0, none⟩))]) (fun s W => RowL W g 60 (wkL wdZ false dir s.2 links fol true) ∧ PsAt W B g s.2 s.1 ∧ s.1.length ≤ 100000 ∧ skipD s.1 = skipD ls ∧ Gw g w W) (fun s => s.1.length) (ls, lv) ⟨rfl, trivial⟩ ⟨h, hp, hl, rfl, gw⟩ ?_
  clear h hp hl gw
  rintro ⟨l, v⟩ W ⟨h, hp, hl, e, gw⟩
  dsimp only at h hp hl e
  show CC none Tryd.prog _ 32 [] (sl [(0, .pointer (some ⟨g, 0, none⟩))]) _ W
  have hB := hp.hB
  cases l with
  | nil =>
    obtain ⟨a, c, rfl⟩ : ∃ a c, v = .slice a 0 c := hp.len
    have es : Wk.on ⟨dir, ls, links, fol, none⟩ = ⟨dir, [], links, fol, some (0, 0, [], dir, 2)⟩ := by
      unfold Wk.on
      rw [show skipD (Wk.mk dir ls links fol none).ps = [] from e.symm]
      rfl
    rw [es]
    refine CC.block ?_
    refine CC.seq ?_
    refine CC.region ?_
    refine LL.val (R.move rfl rfl) rfl rfl rfl ?_
    refine LL.val (R.nil rfl rfl) rfl rfl rfl ?_
    refine LL.val (R.field rfl rfl (I.fld rfl)) rfl rfl rfl ?_
    refine LL.val (R.load rfl rfl (I.ld1 rfl (RowL.cell h rfl))) rfl rfl rfl ?_
    refine LL.val (R.len rfl rfl rfl rfl) rfl rfl rfl ?_
    refine LL.val (R.eqT rfl rfl rfl (by omega)) rfl rfl rfl ?_
    refine LL.val (R.assign rfl rfl) rfl rfl rfl ?_
    refine LL.nilS ?_
    refine CC.yes rfl ?_
    refine CC.region ?_
    refine LL.val (R.move rfl rfl) rfl rfl rfl ?_
    refine LL.val (R.move rfl rfl) rfl rfl rfl ?_
    refine LL.val (R.nil rfl rfl) rfl rfl rfl ?_
    refine LL.val (R.field rfl rfl (I.fld rfl)) rfl rfl rfl ?_
    refine LL.val (R.load rfl rfl (I.ld1 rfl (RowL.cell h rfl))) rfl rfl rfl ?_
    refine LL.val (R.buildV rfl rfl (v := .agg #[Value.int IntKind.i64 0, Value.int IntKind.i64 0, Value.string { data := #[] }, Value.int IntKind.i64 dir, Value.int IntKind.i64 2]) (fun _ => by kernel_rfl)) rfl rfl rfl ?_
    (refine LL.call (R.call rfl rfl rfl) rfl rfl rfl (end_any g (0, 0, [], dir, 2) h) ?_; rintro e Wa95 ⟨rfl, hN, ta94⟩; clear h; have h := hN; clear hN; refine ⟨_, rfl, ?_⟩)
    have zta94 := ta94.size
    replace gw := gw.kept ta94 ⟨by omega, by omega⟩
    replace hp := hp.kept ta94 ⟨by omega, by omega⟩
    refine LL.nil ?_
    refine EE.inN ?_
    refine EE.jumpN ?_
    refine EE.end _ rfl rfl ?_
    exact ⟨rfl, WkAt.fin h hp hl _ _ _ rfl, gw⟩
  | cons p r =>
    obtain ⟨a, c, rfl⟩ := hp.len
    obtain ⟨n, hn⟩ : ∃ n, (p :: r).length = n := ⟨_, rfl⟩
    rw [hn] at hl h hp
    have hn1 : 0 < n := by rw [← hn]; exact Nat.succ_pos _
    obtain ⟨b, off, rfl, hb, cs⟩ := hp.r.one stEnc (i := 0) rfl
    have c0 : W.cell? ⟨b, off + 0, none⟩ = some (strV p) := cs _ rfl
    have c1 : W.cell? ⟨b, off, none⟩ = some (strV p) := cs _ rfl
    clear cs
    by_cases h46 : p = [46]
    · obtain ⟨a', c', hsl, htl⟩ := tail_ex hp hn
      have hrn : r.length = n - 1 := by rw [← hn]; rfl
      have e2 : skipD r = skipD ls := by
        rw [← e]
        show _ = if p = [46] then skipD r else p :: r
        rw [if_pos h46]
      refine CC.block ?_
      refine CC.seq ?_
      refine CC.region ?_
      refine LL.val (R.move rfl rfl) rfl rfl rfl ?_
      refine LL.val (R.nil rfl rfl) rfl rfl rfl ?_
      refine LL.val (R.field rfl rfl (I.fld rfl)) rfl rfl rfl ?_
      refine LL.val (R.load rfl rfl (I.ld1 rfl (RowL.cell h rfl))) rfl rfl rfl ?_
      refine LL.val (R.len rfl rfl rfl rfl) rfl rfl rfl ?_
      refine LL.val (R.eqF rfl rfl rfl (by omega)) rfl rfl rfl ?_
      refine LL.val (R.assign rfl rfl) rfl rfl rfl ?_
      refine LL.nilS ?_
      refine CC.no rfl ?_
      refine CC.seq ?_
      refine CC.region ?_
      refine LL.val (R.move rfl rfl) rfl rfl rfl ?_
      refine LL.val (R.nil rfl rfl) rfl rfl rfl ?_
      refine LL.val (R.field rfl rfl (I.fld rfl)) rfl rfl rfl ?_
      refine LL.val (R.load rfl rfl (I.ld1 rfl (RowL.cell h rfl))) rfl rfl rfl ?_
      refine LL.val (R.index rfl rfl rfl (I.ixS1c rfl rfl (by omega))) rfl rfl rfl ?_
      refine LL.val (R.load rfl rfl (I.ld1 rfl (by assumption))) rfl rfl rfl ?_
      (refine LL.val (R.eqS (a := p) (b := [46]) (c := true) rfl rfl rfl (by simp [h46])) rfl rfl rfl ?_)
      refine LL.val (R.assign rfl rfl) rfl rfl rfl ?_
      refine LL.nilS ?_
      refine CC.yes rfl ?_
      refine CC.seq ?_
      refine CC.region ?_
      refine LL.val (R.move rfl rfl) rfl rfl rfl ?_
      refine LL.val (R.move rfl rfl) rfl rfl rfl ?_
      refine LL.val (R.nil rfl rfl) rfl rfl rfl ?_
      refine LL.val (R.field rfl rfl (I.fld rfl)) rfl rfl rfl ?_
      refine LL.val (R.load rfl rfl (I.ld1 rfl (RowL.cell h rfl))) rfl rfl rfl ?_
      (refine LL.val (R.slice rfl rfl rfl rfl rfl (hsl _ _ _ _ rfl)) rfl rfl rfl ?_)
      refine LL.val (R.nil rfl rfl) rfl rfl rfl ?_
      refine LL.val (R.field rfl rfl (I.fld rfl)) rfl rfl rfl ?_
      refine LL.store rfl rfl rfl rfl h (by exact Nat.le_of_ble_eq_true rfl) rfl rfl rfl rfl ?_
      intro Wb2 rb3 bb1 zb4
      have hlbb1 := h.lt
      replace rb3 : RowL Wb2 _ 60 [Value.int IntKind.i64 0, Value.int IntKind.i64 0, strV [], Value.int IntKind.i64 0, Value.int IntKind.i64 0, Value.bool false, Value.int IntKind.i64 dir, Value.slice a' (n - 1) c', Value.int IntKind.i64 ↑links, Value.bool fol, Value.bool true] := rb3
      clear h
      replace gw := gw.gr bb1 (by omega)
      replace hp := hp.gr bb1 (by omega)
      have h := rb3
      clear rb3
      refine LL.nilS ?_
      refine CC.goto ?_
      refine EE.inG ?_
      exact EE.jump (r, _) ⟨rfl, trivial⟩ ⟨h, htl _ hp, by show r.length ≤ 100000; omega, e2, gw⟩ (by show r.length < (p :: r).length; omega)
    · have es : Wk.on ⟨dir, ls, links, fol, none⟩ = ⟨dir, p :: r, links, fol, none⟩ := by
        unfold Wk.on
        rw [show skipD (Wk.mk dir ls links fol none).ps = p :: r from by
          show skipD ls = _
          rw [← e]
          show (if p = [46] then skipD r else p :: r) = _
          rw [if_neg h46]]
      rw [es]
      refine CC.block ?_
      refine CC.seq ?_
      refine CC.region ?_
      refine LL.val (R.move rfl rfl) rfl rfl rfl ?_
      refine LL.val (R.nil rfl rfl) rfl rfl rfl ?_
      refine LL.val (R.field rfl rfl (I.fld rfl)) rfl rfl rfl ?_
      refine LL.val (R.load rfl rfl (I.ld1 rfl (RowL.cell h rfl))) rfl rfl rfl ?_
      refine LL.val (R.len rfl rfl rfl rfl) rfl rfl rfl ?_
      refine LL.val (R.eqF rfl rfl rfl (by omega)) rfl rfl rfl ?_
      refine LL.val (R.assign rfl rfl) rfl rfl rfl ?_
      refine LL.nilS ?_
      refine CC.no rfl ?_
      refine CC.seq ?_
      refine CC.region ?_
      refine LL.val (R.move rfl rfl) rfl rfl rfl ?_
      refine LL.val (R.nil rfl rfl) rfl rfl rfl ?_
      refine LL.val (R.field rfl rfl (I.fld rfl)) rfl rfl rfl ?_
      refine LL.val (R.load rfl rfl (I.ld1 rfl (RowL.cell h rfl))) rfl rfl rfl ?_
      refine LL.val (R.index rfl rfl rfl (I.ixS1c rfl rfl (by omega))) rfl rfl rfl ?_
      refine LL.val (R.load rfl rfl (I.ld1 rfl (by assumption))) rfl rfl rfl ?_
      (refine LL.val (R.eqS (a := p) (b := [46]) (c := false) rfl rfl rfl (by simp [h46])) rfl rfl rfl ?_)
      refine LL.val (R.assign rfl rfl) rfl rfl rfl ?_
      refine LL.nilS ?_
      refine CC.no rfl ?_
      refine CC.skip ?_
      refine EE.inN ?_
      refine EE.jumpN ?_
      refine EE.end _ rfl rfl ?_
      exact ⟨rfl, WkAt.run h hp (by omega) rfl, gw⟩
theorem stop_yes (p : Bs) (f : Fd) (h : RowL w g 60 (wkL wdZ false dir lv links fol true)) (hp : PsAt w B g lv ls) (he : ls = []) : Calls Tryd.prog 41 #[.pointer (some ⟨g, 0, none⟩), strV p, fdV f] w fun e w' => e = .returned (.tuple #[]) ∧ WkAt w' g ⟨dir, [], links, fol, some (0, dir, p, f.1, f.2.1)⟩ ∧ Kept (fun j => j < w.heap.size ∧ j ≠ g) w w' := by
  subst he
  have gw := Gw.refl g w
  have hB := hp.hB
  have hg := h.lt
  obtain ⟨a, c, rfl⟩ : ∃ a c, lv = .slice a 0 c := hp.len
  refine X.fn Tryd.func41 rfl (n := 27) rfl rfl ?_
  refine CC.seq ?_
  refine CC.region ?_
  have l8 := h.lt
  refine LL.box [Value.int IntKind.i64 f.1, Value.int IntKind.i64 f.2.1, strV f.2.2] rfl rfl rfl rfl rfl ?_
  intro W10 g11 eg11 r12 z13 b9
  replace gw := gw.up b9
  replace h := h.up b9
  replace hp := hp.up b9
  refine LL.nilS ?_
  refine CC.seq ?_
  refine CC.seq ?_
  refine CC.region ?_
  refine LL.val (R.move rfl rfl) rfl rfl rfl ?_
  refine LL.val (R.nil rfl rfl) rfl rfl rfl ?_
  refine LL.val (R.field rfl rfl (I.fld rfl)) rfl rfl rfl ?_
  refine LL.val (R.load rfl rfl (I.ld1 rfl (RowL.cell h rfl))) rfl rfl rfl ?_
  refine LL.val (R.len rfl rfl rfl rfl) rfl rfl rfl ?_
  refine LL.val (R.gtF rfl rfl rfl (by omega)) rfl rfl rfl ?_
  refine LL.nilS ?_
  refine CC.no rfl ?_
  refine CC.skip ?_
  refine EE.thenN ?_
  refine CC.growT 11 (by kernel_rfl) (by kernel_rfl) ?_
  refine GG.val (fun w' b' => R.move rfl rfl) rfl rfl ?_
  refine GG.val (fun w' b' => R.move rfl rfl) rfl rfl ?_
  refine GG.val (fun w' b' => R.nil rfl rfl) rfl rfl ?_
  refine GG.val (fun w' b' => R.field rfl rfl (I.fld rfl)) rfl rfl ?_
  refine GG.val (fun w' b' => R.load rfl rfl (I.ld1 rfl (RowL.cell (h.up b') rfl))) rfl rfl ?_
  refine GG.val (fun w' b' => R.move rfl rfl) rfl rfl ?_
  refine GG.val (fun w' b' => R.field rfl rfl (I.fld rfl)) rfl rfl ?_
  refine GG.val (fun w' b' => R.load rfl rfl (I.ld1 rfl (RowL.cell (r12.up b') rfl))) rfl rfl ?_
  refine GG.val (fun w' b' => R.field rfl rfl (I.fld rfl)) rfl rfl ?_
  refine GG.val (fun w' b' => R.load rfl rfl (I.ld1 rfl (RowL.cell (r12.up b') rfl))) rfl rfl ?_
  refine GG.val (fun w' b' => R.buildV rfl rfl (v := .agg #[Value.int IntKind.i64 0, Value.int IntKind.i64 dir, Value.string { data := List.toArray p }, Value.int IntKind.i64 f.1, Value.int IntKind.i64 f.2.1]) (fun _ => by kernel_rfl)) rfl rfl ?_
  refine GG.nil (fun W137 b136 => ?_)
  have zb136 := b136.size
  replace r12 := r12.up b136
  replace b9 := b9.trans (b136.mono b9.size)
  replace gw := gw.up b136
  replace h := h.up b136
  replace hp := hp.up b136
  (refine LL.call (R.call rfl rfl rfl) rfl rfl rfl (end_any g (0, dir, p, f.1, f.2.1) h) ?_; rintro e W141 ⟨rfl, hN, t140⟩; clear h; have h := hN; clear hN; refine ⟨_, rfl, ?_⟩)
  have zt140 := t140.size
  replace r12 := r12.kept t140 ⟨r12.lt, by omega⟩
  replace gw := gw.kept t140 ⟨by omega, by omega⟩
  replace hp := hp.kept t140 ⟨by omega, by omega⟩
  refine LL.nil ?_
  refine EE.end _ rfl rfl ?_
  exact ⟨rfl, WkAt.fin h hp (Nat.zero_le _) _ _ _ rfl, gw⟩
theorem stop_no (p : Bs) (f : Fd) (h : RowL w g 60 (wkL wdZ false dir lv links fol true)) (hp : PsAt w B g lv ls) (hl : ls.length ≤ 100000) (he : ls ≠ []) : Calls Tryd.prog 41 #[.pointer (some ⟨g, 0, none⟩), strV p, fdV f] w fun e w' => e = .returned (.tuple #[]) ∧ WkAt w' g ⟨dir, [], links, fol, some (271, 0, [], 0, 0)⟩ ∧ Kept (fun j => j < w.heap.size ∧ j ≠ g) w w' := by
  have gw := Gw.refl g w
  have hB := hp.hB
  have hg := h.lt
  obtain ⟨a, c, rfl⟩ := hp.len
  have hn1 : 0 < ls.length := List.length_pos_iff.2 he
  refine X.fn Tryd.func41 rfl (n := 27) rfl rfl ?_
  refine CC.seq ?_
  refine CC.region ?_
  have l8 := h.lt
  refine LL.box [Value.int IntKind.i64 f.1, Value.int IntKind.i64 f.2.1, strV f.2.2] rfl rfl rfl rfl rfl ?_
  intro W10 g11 eg11 r12 z13 b9
  replace gw := gw.up b9
  replace h := h.up b9
  replace hp := hp.up b9
  refine LL.nilS ?_
  refine CC.seq ?_
  refine CC.seq ?_
  refine CC.region ?_
  refine LL.val (R.move rfl rfl) rfl rfl rfl ?_
  refine LL.val (R.nil rfl rfl) rfl rfl rfl ?_
  refine LL.val (R.field rfl rfl (I.fld rfl)) rfl rfl rfl ?_
  refine LL.val (R.load rfl rfl (I.ld1 rfl (RowL.cell h rfl))) rfl rfl rfl ?_
  refine LL.val (R.len rfl rfl rfl rfl) rfl rfl rfl ?_
  refine LL.val (R.gtT rfl rfl rfl (by omega)) rfl rfl rfl ?_
  refine LL.nilS ?_
  refine CC.yes rfl ?_
  refine CC.seq ?_
  refine CC.region ?_
  refine LL.val (R.move rfl rfl) rfl rfl rfl ?_
  refine LL.val (R.buildV rfl rfl (v := .agg #[Value.int IntKind.i64 271, Value.int IntKind.i64 0, Value.string { data := #[] }, Value.int IntKind.i64 0, Value.int IntKind.i64 0]) (fun _ => by kernel_rfl)) rfl rfl rfl ?_
  (refine LL.call (R.call rfl rfl rfl) rfl rfl rfl (end_any g (271, 0, [], 0, 0) h) ?_; rintro e W73 ⟨rfl, hN, t72⟩; clear h; have h := hN; clear hN; refine ⟨_, rfl, ?_⟩)
  have zt72 := t72.size
  replace r12 := r12.kept t72 ⟨r12.lt, by omega⟩
  replace gw := gw.kept t72 ⟨by omega, by omega⟩
  replace hp := hp.kept t72 ⟨by omega, by omega⟩
  refine LL.nilS ?_
  refine CC.ret ?_
  refine EE.thenR ?_
  refine EE.ret _ rfl rfl ?_
  exact ⟨rfl, WkAt.fin h hp hl _ _ _ rfl, gw⟩
theorem enter_stop (p : Bs) (f : Fd) (h : RowL w g 60 (wkL wdZ false dir lv links fol true)) (hp : PsAt w B g lv ls) (he : ls = []) : Calls Tryd.prog 51 #[.pointer (some ⟨g, 0, none⟩), strV p, fdV f] w fun e w' => e = .returned (.tuple #[]) ∧ WkAt w' g ⟨dir, [], links, fol, some (0, dir, p, f.1, f.2.1)⟩ ∧ Kept (fun j => j < w.heap.size ∧ j ≠ g) w w' := by
  subst he
  have gw := Gw.refl g w
  have hB := hp.hB
  have hg := h.lt
  obtain ⟨a, c, rfl⟩ : ∃ a c, lv = .slice a 0 c := hp.len
  refine X.fn Tryd.func51 rfl (n := 23) rfl rfl ?_
  refine CC.seq ?_
  refine CC.region ?_
  have l8 := h.lt
  refine LL.box [Value.int IntKind.i64 f.1, Value.int IntKind.i64 f.2.1, strV f.2.2] rfl rfl rfl rfl rfl ?_
  intro W10 g11 eg11 r12 z13 b9
  replace gw := gw.up b9
  replace h := h.up b9
  replace hp := hp.up b9
  refine LL.nilS ?_
  refine CC.seq ?_
  refine CC.seq ?_
  refine CC.region ?_
  refine LL.val (R.move rfl rfl) rfl rfl rfl ?_
  refine LL.val (R.nil rfl rfl) rfl rfl rfl ?_
  refine LL.val (R.field rfl rfl (I.fld rfl)) rfl rfl rfl ?_
  refine LL.val (R.load rfl rfl (I.ld1 rfl (RowL.cell h rfl))) rfl rfl rfl ?_
  refine LL.val (R.len rfl rfl rfl rfl) rfl rfl rfl ?_
  refine LL.val (R.eqT rfl rfl rfl (by omega)) rfl rfl rfl ?_
  refine LL.nilS ?_
  refine CC.yes rfl ?_
  refine CC.seq ?_
  refine CC.region ?_
  refine LL.val (R.move rfl rfl) rfl rfl rfl ?_
  refine LL.val (R.move rfl rfl) rfl rfl rfl ?_
  refine LL.val (R.load rfl rfl (I.ldNc (vs := [Value.int IntKind.i64 f.1, Value.int IntKind.i64 f.2.1, strV f.2.2]) (RowL.cells r12 rfl) (by rfl) (by rfl))) rfl rfl rfl ?_
  (refine LL.call (R.call rfl rfl rfl) rfl rfl rfl (stop_yes g p f h hp rfl) ?_; rintro e W80 ⟨rfl, hW, t79⟩; refine ⟨_, rfl, ?_⟩)
  have zt79 := t79.size
  replace r12 := r12.kept t79 ⟨r12.lt, by omega⟩
  replace gw := gw.kept t79 ⟨by omega, by omega⟩
  replace hp := hp.kept t79 ⟨by omega, by omega⟩
  refine LL.nilS ?_
  refine CC.ret ?_
  refine EE.thenR ?_
  refine EE.ret _ rfl rfl ?_
  exact ⟨rfl, hW, gw⟩
theorem enter_on (p : Bs) (f : Fd) (h : RowL w g 60 (wkL wdZ false dir lv links fol true)) (hp : PsAt w B g lv ls) (hl : ls.length ≤ 100000) (he : ls ≠ []) : Calls Tryd.prog 51 #[.pointer (some ⟨g, 0, none⟩), strV p, fdV f] w fun e w' => e = .returned (.tuple #[]) ∧ WkAt w' g (Wk.on ⟨f.1, ls, links, fol, none⟩) ∧ Kept (fun j => j < w.heap.size ∧ j ≠ g) w w' := by
  have gw := Gw.refl g w
  have hB := hp.hB
  have hg := h.lt
  obtain ⟨a, c, rfl⟩ := hp.len
  have hn1 : 0 < ls.length := List.length_pos_iff.2 he
  refine X.fn Tryd.func51 rfl (n := 23) rfl rfl ?_
  refine CC.seq ?_
  refine CC.region ?_
  have l8 := h.lt
  refine LL.box [Value.int IntKind.i64 f.1, Value.int IntKind.i64 f.2.1, strV f.2.2] rfl rfl rfl rfl rfl ?_
  intro W10 g11 eg11 r12 z13 b9
  replace gw := gw.up b9
  replace h := h.up b9
  replace hp := hp.up b9
  refine LL.nilS ?_
  refine CC.seq ?_
  refine CC.seq ?_
  refine CC.region ?_
  refine LL.val (R.move rfl rfl) rfl rfl rfl ?_
  refine LL.val (R.nil rfl rfl) rfl rfl rfl ?_
  refine LL.val (R.field rfl rfl (I.fld rfl)) rfl rfl rfl ?_
  refine LL.val (R.load rfl rfl (I.ld1 rfl (RowL.cell h rfl))) rfl rfl rfl ?_
  refine LL.val (R.len rfl rfl rfl rfl) rfl rfl rfl ?_
  refine LL.val (R.eqF rfl rfl rfl (by omega)) rfl rfl rfl ?_
  refine LL.nilS ?_
  refine CC.no rfl ?_
  refine CC.skip ?_
  refine EE.thenN ?_
  refine CC.seq ?_
  refine CC.region ?_
  refine LL.val (R.move rfl rfl) rfl rfl rfl ?_
  refine LL.val (R.field rfl rfl (I.fld rfl)) rfl rfl rfl ?_
  refine LL.val (R.load rfl rfl (I.ld1 rfl (RowL.cell r12 rfl))) rfl rfl rfl ?_
  refine LL.val (R.nil rfl rfl) rfl rfl rfl ?_
  refine LL.val (R.field rfl rfl (I.fld rfl)) rfl rfl rfl ?_
  refine LL.store rfl rfl rfl rfl h (by exact Nat.le_of_ble_eq_true rfl) rfl rfl rfl rfl ?_
  intro W99 r100 b98 z101
  have hlb98 := h.lt
  replace r100 : RowL W99 _ 60 [Value.int IntKind.i64 0, Value.int IntKind.i64 0, strV [], Value.int IntKind.i64 0, Value.int IntKind.i64 0, Value.bool false, Value.int IntKind.i64 f.1, Value.slice a ls.length c, Value.int IntKind.i64 ↑links, Value.bool fol, Value.bool true] := r100
  clear h
  replace r12 := r12.gr b98 (by have := r12.lt; omega)
  replace gw := gw.gr b98 (by omega)
  replace hp := hp.gr b98 (by omega)
  have h := r100
  clear r100
  refine LL.nilS ?_
  refine CC.region ?_
  refine LL.val (R.move rfl rfl) rfl rfl rfl ?_
  (refine LL.call (R.call rfl rfl rfl) rfl rfl rfl (on_any g h hp hl) ?_; rintro e W112 ⟨rfl, hW, t111⟩; refine ⟨_, rfl, ?_⟩)
  have zt111 := t111.size
  replace r12 := r12.kept t111 ⟨r12.lt, by omega⟩
  replace gw := gw.kept t111 ⟨by omega, by omega⟩
  replace hp := hp.kept t111 ⟨by omega, by omega⟩
  refine LL.nil ?_
  refine EE.end _ rfl rfl ?_
  exact ⟨rfl, hW, gw⟩
end
end Go.Proofs.YtbbddpnjglijdaaDoor
/- walk: link, doing, Give, Miss, Left, Copy, New (written by genwk5.py). -/
namespace Go.Proofs.YtbbddpnjglijdaaDoor
set_option linter.unusedVariables false
set_option linter.unusedSimpArgs false
open Go.RowKit Go.Shelf
set_option maxRecDepth 100000
set_option maxHeartbeats 8000000
theorem Mx.gr {w w' : World} {r : Nat} (h : Mx w) (hb : w.grownBy w' (some r)) (e : 0 < r) : Mx w' := by
  obtain ⟨m, hm⟩ := h.h
  exact ⟨⟨m, (World.cell?_of_block (hb.block 0 h.lt (by intro e2; cases e2; omega))).trans hm⟩, Nat.lt_of_lt_of_le h.lt hb.size⟩
theorem Mx.kept {w w' : World} {r : Nat} (h : Mx w) (hk : Kept (fun j => j < w.heap.size ∧ j ≠ r) w w') (e : r = r ∧ 0 < r) : Mx w' := by
  obtain ⟨m, hm⟩ := h.h
  exact ⟨⟨m, (World.cell?_of_block (hk.block 0 ⟨h.lt, by omega⟩)).trans hm⟩, Nat.lt_of_lt_of_le h.lt hk.size⟩
section
variable (g : Nat) {fol : Bool} {dir : Int} {links : Nat} {lv : Value} {ls : List Bs} {w : World} {B : Nat}
theorem link_stop (p : Bs) (f : Fd) (h : RowL w g 60 (wkL wdZ false dir lv links fol true)) (hp : PsAt w B g lv ls) (he : ls = []) (hf : fol = false) : Calls Tryd.prog 50 #[.pointer (some ⟨g, 0, none⟩), strV p, fdV f] w fun e w' => e = .returned (.tuple #[]) ∧ WkAt w' g ⟨dir, [], links, fol, some (0, dir, p, f.1, f.2.1)⟩ ∧ Kept (fun j => j < w.heap.size ∧ j ≠ g) w w' := by
  subst he hf
  have gw := Gw.refl g w
  have hB := hp.hB
  have hg := h.lt
  obtain ⟨a, c, rfl⟩ : ∃ a c, lv = .slice a 0 c := hp.len
  refine X.fn Tryd.func50 rfl (n := 66) rfl rfl ?_
  refine CC.seq ?_
  refine CC.region ?_
  have l8 := h.lt
  refine LL.box [Value.int IntKind.i64 f.1, Value.int IntKind.i64 f.2.1, strV f.2.2] rfl rfl rfl rfl rfl ?_
  intro W10 g11 eg11 r12 z13 b9
  replace gw := gw.up b9
  replace hp := hp.up b9
  replace h := h.up b9
  refine LL.nilS ?_
  refine CC.seq ?_
  refine CC.seq ?_
  refine CC.region ?_
  refine LL.val (R.move rfl rfl) rfl rfl rfl ?_
  refine LL.val (R.nil rfl rfl) rfl rfl rfl ?_
  refine LL.val (R.field rfl rfl (I.fld rfl)) rfl rfl rfl ?_
  refine LL.val (R.load rfl rfl (I.ld1 rfl (RowL.cell h rfl))) rfl rfl rfl ?_
  refine LL.val (R.len rfl rfl rfl rfl) rfl rfl rfl ?_
  refine LL.val (R.eqT rfl rfl rfl (by omega)) rfl rfl rfl ?_
  refine LL.val (R.move rfl rfl) rfl rfl rfl ?_
  refine LL.val (R.move rfl rfl) rfl rfl rfl ?_
  refine LL.val (R.nil rfl rfl) rfl rfl rfl ?_
  refine LL.val (R.field rfl rfl (I.fld rfl)) rfl rfl rfl ?_
  refine LL.val (R.load rfl rfl (I.ld1 rfl (RowL.cell h rfl))) rfl rfl rfl ?_
  refine LL.val (R.not rfl rfl) rfl rfl rfl ?_
  refine LL.val (R.pick rfl rfl rfl) rfl rfl rfl ?_
  refine LL.nilS ?_
  refine CC.yes rfl ?_
  refine CC.seq ?_
  refine CC.region ?_
  refine LL.val (R.move rfl rfl) rfl rfl rfl ?_
  refine LL.val (R.move rfl rfl) rfl rfl rfl ?_
  refine LL.val (R.load rfl rfl (I.ldNc (vs := [Value.int IntKind.i64 f.1, Value.int IntKind.i64 f.2.1, strV f.2.2]) (RowL.cells r12 rfl) (by rfl) (by rfl))) rfl rfl rfl ?_
  (refine LL.call (R.call rfl rfl rfl) rfl rfl rfl (stop_yes g p f h hp rfl) ?_; rintro e W129 ⟨rfl, hW, t128⟩; refine ⟨_, rfl, ?_⟩)
  have zt128 := t128.size
  replace r12 := r12.kept t128 ⟨r12.lt, by omega⟩
  replace gw := gw.kept t128 ⟨by omega, by omega⟩
  replace hp := hp.kept t128 ⟨by omega, by omega⟩
  refine LL.nilS ?_
  refine CC.ret ?_
  refine EE.thenR ?_
  refine EE.ret _ rfl rfl ?_
  exact ⟨rfl, hW, gw⟩
theorem link_go (p : Bs) (f : Fd) (h : RowL w g 60 (wkL wdZ false dir lv links fol true)) (hp : PsAt w B g lv ls) (hl : ls.length ≤ 50000) (he : ls ≠ [] ∨ fol = true) (hm : Mx w) (hg0 : 0 < g) (hk : links ≤ 8) (ht : f.2.2.length ≤ 1048576) : Calls Tryd.prog 50 #[.pointer (some ⟨g, 0, none⟩), strV p, fdV f] w fun e w' => e = .returned (.tuple #[]) ∧ WkAt w' g (Wk.link ⟨dir, ls, links, fol, none⟩ f.2.2) ∧ Kept (fun j => j < w.heap.size ∧ j ≠ g) w w' := by
  have gw := Gw.refl g w
  have hB := hp.hB
  have hg := h.lt
  obtain ⟨a, c, rfl⟩ := hp.len
  obtain ⟨n, hn⟩ : ∃ n, ls.length = n := ⟨_, rfl⟩
  rw [hn] at h hp hl
  obtain ⟨fi, fk, t⟩ := f
  dsimp only at ht ⊢
  have he' : fol = false → 0 < n := fun hf => by
    rcases he with he | he
    · rw [← hn]
      exact List.length_pos_iff.2 he
    · rw [hf] at he
      cases he
  clear he
  unfold Wk.link lpath
  dsimp only
  by_cases h8 : 8 < links + 1
  · rw [if_pos h8]
    cases fol with
    | true =>
      refine X.fn Tryd.func50 rfl (n := 66) rfl rfl ?_
      refine CC.seq ?_
      refine CC.region ?_
      have l8 := h.lt
      refine LL.box [Value.int IntKind.i64 fi, Value.int IntKind.i64 fk, strV t] rfl rfl rfl rfl rfl ?_
      intro W10 g11 eg11 r12 z13 b9
      replace hm := hm.up b9
      replace gw := gw.up b9
      replace hp := hp.up b9
      replace h := h.up b9
      refine LL.nilS ?_
      refine CC.seq ?_
      refine CC.seq ?_
      refine CC.region ?_
      refine LL.val (R.move rfl rfl) rfl rfl rfl ?_
      refine LL.val (R.nil rfl rfl) rfl rfl rfl ?_
      refine LL.val (R.field rfl rfl (I.fld rfl)) rfl rfl rfl ?_
      refine LL.val (R.load rfl rfl (I.ld1 rfl (RowL.cell h rfl))) rfl rfl rfl ?_
      refine LL.val (R.len rfl rfl rfl rfl) rfl rfl rfl ?_
      refine LL.vsplit (fun h => R.eqT rfl rfl rfl h) (fun h => R.eqF rfl rfl rfl h) rfl rfl rfl (fun c56 => ?_) (fun c56 => ?_)
      refine LL.val (R.move rfl rfl) rfl rfl rfl ?_
      refine LL.val (R.move rfl rfl) rfl rfl rfl ?_
      refine LL.val (R.nil rfl rfl) rfl rfl rfl ?_
      refine LL.val (R.field rfl rfl (I.fld rfl)) rfl rfl rfl ?_
      refine LL.val (R.load rfl rfl (I.ld1 rfl (RowL.cell h rfl))) rfl rfl rfl ?_
      refine LL.val (R.not rfl rfl) rfl rfl rfl ?_
      refine LL.val (R.pick rfl rfl rfl) rfl rfl rfl ?_
      refine LL.nilS ?_
      refine CC.no rfl ?_
      refine CC.skip ?_
      refine EE.thenN ?_
      refine CC.seq ?_
      refine CC.region ?_
      refine LL.val (R.move rfl rfl) rfl rfl rfl ?_
      refine LL.val (R.nil rfl rfl) rfl rfl rfl ?_
      refine LL.val (R.field rfl rfl (I.fld rfl)) rfl rfl rfl ?_
      refine LL.val (R.load rfl rfl (I.ld1 rfl (RowL.cell h rfl))) rfl rfl rfl ?_
      refine LL.val (R.addNc rfl rfl rfl rfl (by omega)) rfl rfl rfl ?_
      refine LL.val (R.nil rfl rfl) rfl rfl rfl ?_
      refine LL.val (R.field rfl rfl (I.fld rfl)) rfl rfl rfl ?_
      refine LL.store rfl rfl rfl rfl h (by exact Nat.le_of_ble_eq_true rfl) rfl rfl rfl rfl ?_
      intro W163 r164 b162 z165
      have hlb162 := h.lt
      replace r164 : RowL W163 _ 60 [Value.int IntKind.i64 0, Value.int IntKind.i64 0, strV [], Value.int IntKind.i64 0, Value.int IntKind.i64 0, Value.bool false, Value.int IntKind.i64 dir, Value.slice a n c, Value.int IntKind.i64 ↑(links + 1), Value.bool true, Value.bool true] := r164
      clear h
      replace r12 := r12.gr b162 (by have := r12.lt; omega)
      replace hm := hm.gr b162 (by have := hm.lt; omega)
      replace gw := gw.gr b162 (by omega)
      replace hp := hp.gr b162 (by omega)
      have h := r164
      clear r164
      refine LL.nilS ?_
      refine CC.seq ?_
      refine CC.seq ?_
      refine CC.region ?_
      refine LL.val (R.move rfl rfl) rfl rfl rfl ?_
      refine LL.val (R.nil rfl rfl) rfl rfl rfl ?_
      refine LL.val (R.field rfl rfl (I.fld rfl)) rfl rfl rfl ?_
      refine LL.val (R.load rfl rfl (I.ld1 rfl (RowL.cell h rfl))) rfl rfl rfl ?_
      refine LL.val (R.gtT rfl rfl rfl (by omega)) rfl rfl rfl ?_
      refine LL.nilS ?_
      refine CC.yes rfl ?_
      refine CC.seq ?_
      refine CC.region ?_
      refine LL.val (R.move rfl rfl) rfl rfl rfl ?_
      refine LL.val (R.buildV rfl rfl (v := .agg #[Value.int IntKind.i64 272, Value.int IntKind.i64 0, Value.string { data := #[] }, Value.int IntKind.i64 0, Value.int IntKind.i64 0]) (fun _ => by kernel_rfl)) rfl rfl rfl ?_
      (refine LL.call (R.call rfl rfl rfl) rfl rfl rfl (end_any g (272, 0, [], 0, 0) h) ?_; rintro e W218 ⟨rfl, hN, t217⟩; clear h; have h := hN; clear hN; refine ⟨_, rfl, ?_⟩)
      have zt217 := t217.size
      replace r12 := r12.kept t217 ⟨r12.lt, by omega⟩
      replace hm := hm.kept t217 ⟨by omega, by omega⟩
      replace gw := gw.kept t217 ⟨by omega, by omega⟩
      replace hp := hp.kept t217 ⟨by omega, by omega⟩
      refine LL.nilS ?_
      refine CC.ret ?_
      refine EE.thenR ?_
      refine EE.ret _ rfl rfl ?_
      exact ⟨rfl, WkAt.fin h hp (by omega) _ _ _ rfl, gw⟩
      refine LL.val (R.move rfl rfl) rfl rfl rfl ?_
      refine LL.skip rfl rfl ?_
      refine LL.skip rfl rfl ?_
      refine LL.skip rfl rfl ?_
      refine LL.skip rfl rfl ?_
      refine LL.skip rfl rfl ?_
      refine LL.val (R.pick rfl rfl rfl) rfl rfl rfl ?_
      refine LL.nilS ?_
      refine CC.no rfl ?_
      refine CC.skip ?_
      refine EE.thenN ?_
      refine CC.seq ?_
      refine CC.region ?_
      refine LL.val (R.move rfl rfl) rfl rfl rfl ?_
      refine LL.val (R.nil rfl rfl) rfl rfl rfl ?_
      refine LL.val (R.field rfl rfl (I.fld rfl)) rfl rfl rfl ?_
      refine LL.val (R.load rfl rfl (I.ld1 rfl (RowL.cell h rfl))) rfl rfl rfl ?_
      refine LL.val (R.addNc rfl rfl rfl rfl (by omega)) rfl rfl rfl ?_
      refine LL.val (R.nil rfl rfl) rfl rfl rfl ?_
      refine LL.val (R.field rfl rfl (I.fld rfl)) rfl rfl rfl ?_
      refine LL.store rfl rfl rfl rfl h (by exact Nat.le_of_ble_eq_true rfl) rfl rfl rfl rfl ?_
      intro W293 r294 b292 z295
      have hlb292 := h.lt
      replace r294 : RowL W293 _ 60 [Value.int IntKind.i64 0, Value.int IntKind.i64 0, strV [], Value.int IntKind.i64 0, Value.int IntKind.i64 0, Value.bool false, Value.int IntKind.i64 dir, Value.slice a n c, Value.int IntKind.i64 ↑(links + 1), Value.bool true, Value.bool true] := r294
      clear h
      replace r12 := r12.gr b292 (by have := r12.lt; omega)
      replace hm := hm.gr b292 (by have := hm.lt; omega)
      replace gw := gw.gr b292 (by omega)
      replace hp := hp.gr b292 (by omega)
      have h := r294
      clear r294
      refine LL.nilS ?_
      refine CC.seq ?_
      refine CC.seq ?_
      refine CC.region ?_
      refine LL.val (R.move rfl rfl) rfl rfl rfl ?_
      refine LL.val (R.nil rfl rfl) rfl rfl rfl ?_
      refine LL.val (R.field rfl rfl (I.fld rfl)) rfl rfl rfl ?_
      refine LL.val (R.load rfl rfl (I.ld1 rfl (RowL.cell h rfl))) rfl rfl rfl ?_
      refine LL.val (R.gtT rfl rfl rfl (by omega)) rfl rfl rfl ?_
      refine LL.nilS ?_
      refine CC.yes rfl ?_
      refine CC.seq ?_
      refine CC.region ?_
      refine LL.val (R.move rfl rfl) rfl rfl rfl ?_
      refine LL.val (R.buildV rfl rfl (v := .agg #[Value.int IntKind.i64 272, Value.int IntKind.i64 0, Value.string { data := #[] }, Value.int IntKind.i64 0, Value.int IntKind.i64 0]) (fun _ => by kernel_rfl)) rfl rfl rfl ?_
      (refine LL.call (R.call rfl rfl rfl) rfl rfl rfl (end_any g (272, 0, [], 0, 0) h) ?_; rintro e W348 ⟨rfl, hN, t347⟩; clear h; have h := hN; clear hN; refine ⟨_, rfl, ?_⟩)
      have zt347 := t347.size
      replace r12 := r12.kept t347 ⟨r12.lt, by omega⟩
      replace hm := hm.kept t347 ⟨by omega, by omega⟩
      replace gw := gw.kept t347 ⟨by omega, by omega⟩
      replace hp := hp.kept t347 ⟨by omega, by omega⟩
      refine LL.nilS ?_
      refine CC.ret ?_
      refine EE.thenR ?_
      refine EE.ret _ rfl rfl ?_
      exact ⟨rfl, WkAt.fin h hp (by omega) _ _ _ rfl, gw⟩
    | false =>
      have := he' rfl
      refine X.fn Tryd.func50 rfl (n := 66) rfl rfl ?_
      refine CC.seq ?_
      refine CC.region ?_
      have la8 := h.lt
      refine LL.box [Value.int IntKind.i64 fi, Value.int IntKind.i64 fk, strV t] rfl rfl rfl rfl rfl ?_
      intro Wa10 ga11 ega11 ra12 za13 ba9
      replace hm := hm.up ba9
      replace gw := gw.up ba9
      replace hp := hp.up ba9
      replace h := h.up ba9
      refine LL.nilS ?_
      refine CC.seq ?_
      refine CC.seq ?_
      refine CC.region ?_
      refine LL.val (R.move rfl rfl) rfl rfl rfl ?_
      refine LL.val (R.nil rfl rfl) rfl rfl rfl ?_
      refine LL.val (R.field rfl rfl (I.fld rfl)) rfl rfl rfl ?_
      refine LL.val (R.load rfl rfl (I.ld1 rfl (RowL.cell h rfl))) rfl rfl rfl ?_
      refine LL.val (R.len rfl rfl rfl rfl) rfl rfl rfl ?_
      refine LL.val (R.eqF rfl rfl rfl (by omega)) rfl rfl rfl ?_
      refine LL.val (R.move rfl rfl) rfl rfl rfl ?_
      refine LL.skip rfl rfl ?_
      refine LL.skip rfl rfl ?_
      refine LL.skip rfl rfl ?_
      refine LL.skip rfl rfl ?_
      refine LL.skip rfl rfl ?_
      refine LL.val (R.pick rfl rfl rfl) rfl rfl rfl ?_
      refine LL.nilS ?_
      refine CC.no rfl ?_
      refine CC.skip ?_
      refine EE.thenN ?_
      refine CC.seq ?_
      refine CC.region ?_
      refine LL.val (R.move rfl rfl) rfl rfl rfl ?_
      refine LL.val (R.nil rfl rfl) rfl rfl rfl ?_
      refine LL.val (R.field rfl rfl (I.fld rfl)) rfl rfl rfl ?_
      refine LL.val (R.load rfl rfl (I.ld1 rfl (RowL.cell h rfl))) rfl rfl rfl ?_
      refine LL.val (R.addNc rfl rfl rfl rfl (by omega)) rfl rfl rfl ?_
      refine LL.val (R.nil rfl rfl) rfl rfl rfl ?_
      refine LL.val (R.field rfl rfl (I.fld rfl)) rfl rfl rfl ?_
      refine LL.store rfl rfl rfl rfl h (by exact Nat.le_of_ble_eq_true rfl) rfl rfl rfl rfl ?_
      intro Wa127 ra128 ba126 za129
      have hlba126 := h.lt
      replace ra128 : RowL Wa127 _ 60 [Value.int IntKind.i64 0, Value.int IntKind.i64 0, strV [], Value.int IntKind.i64 0, Value.int IntKind.i64 0, Value.bool false, Value.int IntKind.i64 dir, Value.slice a n c, Value.int IntKind.i64 ↑(links + 1), Value.bool false, Value.bool true] := ra128
      clear h
      replace ra12 := ra12.gr ba126 (by have := ra12.lt; omega)
      replace hm := hm.gr ba126 (by have := hm.lt; omega)
      replace gw := gw.gr ba126 (by omega)
      replace hp := hp.gr ba126 (by omega)
      have h := ra128
      clear ra128
      refine LL.nilS ?_
      refine CC.seq ?_
      refine CC.seq ?_
      refine CC.region ?_
      refine LL.val (R.move rfl rfl) rfl rfl rfl ?_
      refine LL.val (R.nil rfl rfl) rfl rfl rfl ?_
      refine LL.val (R.field rfl rfl (I.fld rfl)) rfl rfl rfl ?_
      refine LL.val (R.load rfl rfl (I.ld1 rfl (RowL.cell h rfl))) rfl rfl rfl ?_
      refine LL.val (R.gtT rfl rfl rfl (by omega)) rfl rfl rfl ?_
      refine LL.nilS ?_
      refine CC.yes rfl ?_
      refine CC.seq ?_
      refine CC.region ?_
      refine LL.val (R.move rfl rfl) rfl rfl rfl ?_
      refine LL.val (R.buildV rfl rfl (v := .agg #[Value.int IntKind.i64 272, Value.int IntKind.i64 0, Value.string { data := #[] }, Value.int IntKind.i64 0, Value.int IntKind.i64 0]) (fun _ => by kernel_rfl)) rfl rfl rfl ?_
      (refine LL.call (R.call rfl rfl rfl) rfl rfl rfl (end_any g (272, 0, [], 0, 0) h) ?_; rintro e Wa182 ⟨rfl, hN, ta181⟩; clear h; have h := hN; clear hN; refine ⟨_, rfl, ?_⟩)
      have zta181 := ta181.size
      replace ra12 := ra12.kept ta181 ⟨ra12.lt, by omega⟩
      replace hm := hm.kept ta181 ⟨by omega, by omega⟩
      replace gw := gw.kept ta181 ⟨by omega, by omega⟩
      replace hp := hp.kept ta181 ⟨by omega, by omega⟩
      refine LL.nilS ?_
      refine CC.ret ?_
      refine EE.thenR ?_
      refine EE.ret _ rfl rfl ?_
      exact ⟨rfl, WkAt.fin h hp (by omega) _ _ _ rfl, gw⟩
  rw [if_neg h8]
  by_cases hh : t.head? = some 47
  case pos =>
    rw [if_pos hh, if_pos hh]
    obtain ⟨L, hL⟩ : ∃ L, t = L := ⟨_, rfl⟩
    have hLl : L.length ≤ 1048577 := by rw [← hL]; omega
    subst hL
    by_cases hz : pathN t = 0
    · rw [if_pos hz]
      have hpl := partsL_len0 hz
      have hpre := fun X => prefix_any t X
      rw [decide_eq_true hh] at hpre
      cases fol with
      | true =>
        refine X.fn Tryd.func50 rfl (n := 66) rfl rfl ?_
        refine CC.seq ?_
        refine CC.region ?_
        have lb23 := h.lt
        refine LL.box [Value.int IntKind.i64 fi, Value.int IntKind.i64 fk, strV t] rfl rfl rfl rfl rfl ?_
        intro Wb25 gb26 egb26 rb27 zb28 bb24
        replace hm := hm.up bb24
        replace gw := gw.up bb24
        replace hp := hp.up bb24
        replace h := h.up bb24
        refine LL.nilS ?_
        refine CC.seq ?_
        refine CC.seq ?_
        refine CC.region ?_
        refine LL.val (R.move rfl rfl) rfl rfl rfl ?_
        refine LL.val (R.nil rfl rfl) rfl rfl rfl ?_
        refine LL.val (R.field rfl rfl (I.fld rfl)) rfl rfl rfl ?_
        refine LL.val (R.load rfl rfl (I.ld1 rfl (RowL.cell h rfl))) rfl rfl rfl ?_
        refine LL.val (R.len rfl rfl rfl rfl) rfl rfl rfl ?_
        refine LL.vsplit (fun h => R.eqT rfl rfl rfl h) (fun h => R.eqF rfl rfl rfl h) rfl rfl rfl (fun cb167 => ?_) (fun cb167 => ?_)
        refine LL.val (R.move rfl rfl) rfl rfl rfl ?_
        refine LL.val (R.move rfl rfl) rfl rfl rfl ?_
        refine LL.val (R.nil rfl rfl) rfl rfl rfl ?_
        refine LL.val (R.field rfl rfl (I.fld rfl)) rfl rfl rfl ?_
        refine LL.val (R.load rfl rfl (I.ld1 rfl (RowL.cell h rfl))) rfl rfl rfl ?_
        refine LL.val (R.not rfl rfl) rfl rfl rfl ?_
        refine LL.val (R.pick rfl rfl rfl) rfl rfl rfl ?_
        refine LL.nilS ?_
        refine CC.no rfl ?_
        refine CC.skip ?_
        refine EE.thenN ?_
        refine CC.seq ?_
        refine CC.region ?_
        refine LL.val (R.move rfl rfl) rfl rfl rfl ?_
        refine LL.val (R.nil rfl rfl) rfl rfl rfl ?_
        refine LL.val (R.field rfl rfl (I.fld rfl)) rfl rfl rfl ?_
        refine LL.val (R.load rfl rfl (I.ld1 rfl (RowL.cell h rfl))) rfl rfl rfl ?_
        refine LL.val (R.addNc rfl rfl rfl rfl (by omega)) rfl rfl rfl ?_
        refine LL.val (R.nil rfl rfl) rfl rfl rfl ?_
        refine LL.val (R.field rfl rfl (I.fld rfl)) rfl rfl rfl ?_
        refine LL.store rfl rfl rfl rfl h (by exact Nat.le_of_ble_eq_true rfl) rfl rfl rfl rfl ?_
        intro Wb514 rb515 bb513 zb516
        have hlbb513 := h.lt
        replace rb515 : RowL Wb514 _ 60 [Value.int IntKind.i64 0, Value.int IntKind.i64 0, strV [], Value.int IntKind.i64 0, Value.int IntKind.i64 0, Value.bool false, Value.int IntKind.i64 dir, Value.slice a n c, Value.int IntKind.i64 ↑(links + 1), Value.bool true, Value.bool true] := rb515
        clear h
        replace rb27 := rb27.gr bb513 (by have := rb27.lt; omega)
        replace hm := hm.gr bb513 (by have := hm.lt; omega)
        replace gw := gw.gr bb513 (by omega)
        replace hp := hp.gr bb513 (by omega)
        have h := rb515
        clear rb515
        refine LL.nilS ?_
        refine CC.seq ?_
        refine CC.seq ?_
        refine CC.region ?_
        refine LL.val (R.move rfl rfl) rfl rfl rfl ?_
        refine LL.val (R.nil rfl rfl) rfl rfl rfl ?_
        refine LL.val (R.field rfl rfl (I.fld rfl)) rfl rfl rfl ?_
        refine LL.val (R.load rfl rfl (I.ld1 rfl (RowL.cell h rfl))) rfl rfl rfl ?_
        refine LL.val (R.gtF rfl rfl rfl (by omega)) rfl rfl rfl ?_
        refine LL.nilS ?_
        refine CC.no rfl ?_
        refine CC.skip ?_
        refine EE.thenN ?_
        refine CC.seq ?_
        refine CC.region ?_
        refine LL.val (R.field rfl rfl (I.fld rfl)) rfl rfl rfl ?_
        refine LL.val (R.load rfl rfl (I.ld1 rfl (RowL.cell rb27 rfl))) rfl rfl rfl ?_
        refine LL.val (R.assign rfl rfl) rfl rfl rfl ?_
        refine LL.nilS ?_
        refine CC.seq ?_
        refine CC.seq ?_
        refine CC.region ?_
        refine LL.val (R.move rfl rfl) rfl rfl rfl ?_
        (refine LL.call (R.call rfl rfl rfl) rfl rfl rfl (hpre _) ?_; rintro e W' ⟨rfl, rfl⟩; refine ⟨_, rfl, ?_⟩)
        refine LL.nilS ?_
        refine CC.yes rfl ?_
        refine CC.region ?_
        refine LL.val (R.move rfl rfl) rfl rfl rfl ?_
        refine LL.val (R.nil rfl rfl) rfl rfl rfl ?_
        refine LL.val (R.field rfl rfl (I.fld rfl)) rfl rfl rfl ?_
        refine LL.store rfl rfl rfl rfl h (by exact Nat.le_of_ble_eq_true rfl) rfl rfl rfl rfl ?_
        intro Wb817 rb818 bb816 zb819
        have hlbb816 := h.lt
        replace rb818 : RowL Wb817 _ 60 [Value.int IntKind.i64 0, Value.int IntKind.i64 0, strV [], Value.int IntKind.i64 0, Value.int IntKind.i64 0, Value.bool false, Value.int IntKind.i64 1, Value.slice a n c, Value.int IntKind.i64 ↑(links + 1), Value.bool true, Value.bool true] := rb818
        clear h
        replace rb27 := rb27.gr bb816 (by have := rb27.lt; omega)
        replace hm := hm.gr bb816 (by have := hm.lt; omega)
        replace gw := gw.gr bb816 (by omega)
        replace hp := hp.gr bb816 (by omega)
        have h := rb818
        clear rb818
        refine LL.nilS ?_
        refine CC.seq ?_
        refine CC.region ?_
        refine LL.val (R.move rfl rfl) rfl rfl rfl ?_
        have lb847 := rb27.lt
        have lb848 := h.lt
        (refine LL.call (R.call rfl rfl rfl) rfl rfl rfl (wparts_any t _ (by assumption) (by omega)) ?_; rintro e Wb846 ⟨vp, rfl, op, bb843⟩; refine ⟨_, rfl, ?_⟩; rw [if_pos hz] at op; rw [hz]; obtain ⟨ap, cp, rfl, hcp⟩ := (op.reads stEnc).form rfl)
        have zbb843 := bb843.size
        replace rb27 := rb27.up bb843
        replace hm := hm.up bb843
        replace gw := gw.up bb843
        replace hp := hp.up bb843
        replace h := h.up bb843
        refine LL.val (R.move rfl rfl) rfl rfl rfl ?_
        refine LL.val (R.extract rfl rfl rfl) rfl rfl rfl ?_
        refine LL.val (R.extract rfl rfl rfl) rfl rfl rfl ?_
        refine LL.val (R.assign rfl rfl) rfl rfl rfl ?_
        refine LL.val (R.assign rfl rfl) rfl rfl rfl ?_
        refine LL.nilS ?_
        refine CC.seq ?_
        refine CC.seq ?_
        refine CC.region ?_
        refine LL.val (R.move rfl rfl) rfl rfl rfl ?_
        refine LL.val (R.neF rfl rfl rfl (by omega)) rfl rfl rfl ?_
        refine LL.nilS ?_
        refine CC.no rfl ?_
        refine CC.skip ?_
        refine EE.thenN ?_
        refine CC.seq ?_
        refine CC.region ?_
        refine LL.val (R.move rfl rfl) rfl rfl rfl ?_
        refine LL.val (R.move rfl rfl) rfl rfl rfl ?_
        (refine LL.call (R.call rfl rfl rfl) rfl rfl rfl (lead_any g _ (partsL t) ls h (op.reads stEnc) hp (by omega) (by omega)) ?_; rintro e Wb1071 ⟨rfl, ⟨v2, B2, hN, hp2⟩, tb1070⟩; clear h; have h := hN; clear hN op; refine ⟨_, rfl, ?_⟩)
        have ztb1070 := tb1070.size
        replace rb27 := rb27.kept tb1070 ⟨rb27.lt, by omega⟩
        replace hm := hm.kept tb1070 ⟨by omega, by omega⟩
        replace gw := gw.kept tb1070 ⟨by omega, by omega⟩
        replace hp := hp.kept tb1070 ⟨by omega, by omega⟩
        refine LL.nilS ?_
        refine CC.region ?_
        refine LL.val (R.move rfl rfl) rfl rfl rfl ?_
        (refine LL.call (R.call rfl rfl rfl) rfl rfl rfl (on_any g h hp2 (by rw [List.length_append]; omega)) ?_; rintro e Wb1117 ⟨rfl, hW, tb1116⟩; refine ⟨_, rfl, ?_⟩)
        have ztb1116 := tb1116.size
        replace hp2 := hp2.kept tb1116 ⟨by omega, by omega⟩
        replace rb27 := rb27.kept tb1116 ⟨rb27.lt, by omega⟩
        replace hm := hm.kept tb1116 ⟨by omega, by omega⟩
        replace gw := gw.kept tb1116 ⟨by omega, by omega⟩
        replace hp := hp.kept tb1116 ⟨by omega, by omega⟩
        refine LL.nil ?_
        refine EE.end _ rfl rfl ?_
        exact ⟨rfl, hW, gw⟩
        refine LL.val (R.move rfl rfl) rfl rfl rfl ?_
        refine LL.skip rfl rfl ?_
        refine LL.skip rfl rfl ?_
        refine LL.skip rfl rfl ?_
        refine LL.skip rfl rfl ?_
        refine LL.skip rfl rfl ?_
        refine LL.val (R.pick rfl rfl rfl) rfl rfl rfl ?_
        refine LL.nilS ?_
        refine CC.no rfl ?_
        refine CC.skip ?_
        refine EE.thenN ?_
        refine CC.seq ?_
        refine CC.region ?_
        refine LL.val (R.move rfl rfl) rfl rfl rfl ?_
        refine LL.val (R.nil rfl rfl) rfl rfl rfl ?_
        refine LL.val (R.field rfl rfl (I.fld rfl)) rfl rfl rfl ?_
        refine LL.val (R.load rfl rfl (I.ld1 rfl (RowL.cell h rfl))) rfl rfl rfl ?_
        refine LL.val (R.addNc rfl rfl rfl rfl (by omega)) rfl rfl rfl ?_
        refine LL.val (R.nil rfl rfl) rfl rfl rfl ?_
        refine LL.val (R.field rfl rfl (I.fld rfl)) rfl rfl rfl ?_
        refine LL.store rfl rfl rfl rfl h (by exact Nat.le_of_ble_eq_true rfl) rfl rfl rfl rfl ?_
        intro Wb1352 rb1353 bb1351 zb1354
        have hlbb1351 := h.lt
        replace rb1353 : RowL Wb1352 _ 60 [Value.int IntKind.i64 0, Value.int IntKind.i64 0, strV [], Value.int IntKind.i64 0, Value.int IntKind.i64 0, Value.bool false, Value.int IntKind.i64 dir, Value.slice a n c, Value.int IntKind.i64 ↑(links + 1), Value.bool true, Value.bool true] := rb1353
        clear h
        replace rb27 := rb27.gr bb1351 (by have := rb27.lt; omega)
        replace hm := hm.gr bb1351 (by have := hm.lt; omega)
        replace gw := gw.gr bb1351 (by omega)
        replace hp := hp.gr bb1351 (by omega)
        have h := rb1353
        clear rb1353
        refine LL.nilS ?_
        refine CC.seq ?_
        refine CC.seq ?_
        refine CC.region ?_
        refine LL.val (R.move rfl rfl) rfl rfl rfl ?_
        refine LL.val (R.nil rfl rfl) rfl rfl rfl ?_
        refine LL.val (R.field rfl rfl (I.fld rfl)) rfl rfl rfl ?_
        refine LL.val (R.load rfl rfl (I.ld1 rfl (RowL.cell h rfl))) rfl rfl rfl ?_
        refine LL.val (R.gtF rfl rfl rfl (by omega)) rfl rfl rfl ?_
        refine LL.nilS ?_
        refine CC.no rfl ?_
        refine CC.skip ?_
        refine EE.thenN ?_
        refine CC.seq ?_
        refine CC.region ?_
        refine LL.val (R.field rfl rfl (I.fld rfl)) rfl rfl rfl ?_
        refine LL.val (R.load rfl rfl (I.ld1 rfl (RowL.cell rb27 rfl))) rfl rfl rfl ?_
        refine LL.val (R.assign rfl rfl) rfl rfl rfl ?_
        refine LL.nilS ?_
        refine CC.seq ?_
        refine CC.seq ?_
        refine CC.region ?_
        refine LL.val (R.move rfl rfl) rfl rfl rfl ?_
        (refine LL.call (R.call rfl rfl rfl) rfl rfl rfl (hpre _) ?_; rintro e W' ⟨rfl, rfl⟩; refine ⟨_, rfl, ?_⟩)
        refine LL.nilS ?_
        refine CC.yes rfl ?_
        refine CC.region ?_
        refine LL.val (R.move rfl rfl) rfl rfl rfl ?_
        refine LL.val (R.nil rfl rfl) rfl rfl rfl ?_
        refine LL.val (R.field rfl rfl (I.fld rfl)) rfl rfl rfl ?_
        refine LL.store rfl rfl rfl rfl h (by exact Nat.le_of_ble_eq_true rfl) rfl rfl rfl rfl ?_
        intro Wb1655 rb1656 bb1654 zb1657
        have hlbb1654 := h.lt
        replace rb1656 : RowL Wb1655 _ 60 [Value.int IntKind.i64 0, Value.int IntKind.i64 0, strV [], Value.int IntKind.i64 0, Value.int IntKind.i64 0, Value.bool false, Value.int IntKind.i64 1, Value.slice a n c, Value.int IntKind.i64 ↑(links + 1), Value.bool true, Value.bool true] := rb1656
        clear h
        replace rb27 := rb27.gr bb1654 (by have := rb27.lt; omega)
        replace hm := hm.gr bb1654 (by have := hm.lt; omega)
        replace gw := gw.gr bb1654 (by omega)
        replace hp := hp.gr bb1654 (by omega)
        have h := rb1656
        clear rb1656
        refine LL.nilS ?_
        refine CC.seq ?_
        refine CC.region ?_
        refine LL.val (R.move rfl rfl) rfl rfl rfl ?_
        have lb1685 := rb27.lt
        have lb1686 := h.lt
        (refine LL.call (R.call rfl rfl rfl) rfl rfl rfl (wparts_any t _ (by assumption) (by omega)) ?_; rintro e Wb1684 ⟨vp, rfl, op, bb1681⟩; refine ⟨_, rfl, ?_⟩; rw [if_pos hz] at op; rw [hz]; obtain ⟨ap, cp, rfl, hcp⟩ := (op.reads stEnc).form rfl)
        have zbb1681 := bb1681.size
        replace rb27 := rb27.up bb1681
        replace hm := hm.up bb1681
        replace gw := gw.up bb1681
        replace hp := hp.up bb1681
        replace h := h.up bb1681
        refine LL.val (R.move rfl rfl) rfl rfl rfl ?_
        refine LL.val (R.extract rfl rfl rfl) rfl rfl rfl ?_
        refine LL.val (R.extract rfl rfl rfl) rfl rfl rfl ?_
        refine LL.val (R.assign rfl rfl) rfl rfl rfl ?_
        refine LL.val (R.assign rfl rfl) rfl rfl rfl ?_
        refine LL.nilS ?_
        refine CC.seq ?_
        refine CC.seq ?_
        refine CC.region ?_
        refine LL.val (R.move rfl rfl) rfl rfl rfl ?_
        refine LL.val (R.neF rfl rfl rfl (by omega)) rfl rfl rfl ?_
        refine LL.nilS ?_
        refine CC.no rfl ?_
        refine CC.skip ?_
        refine EE.thenN ?_
        refine CC.seq ?_
        refine CC.region ?_
        refine LL.val (R.move rfl rfl) rfl rfl rfl ?_
        refine LL.val (R.move rfl rfl) rfl rfl rfl ?_
        (refine LL.call (R.call rfl rfl rfl) rfl rfl rfl (lead_any g _ (partsL t) ls h (op.reads stEnc) hp (by omega) (by omega)) ?_; rintro e Wb1909 ⟨rfl, ⟨v2, B2, hN, hp2⟩, tb1908⟩; clear h; have h := hN; clear hN op; refine ⟨_, rfl, ?_⟩)
        have ztb1908 := tb1908.size
        replace rb27 := rb27.kept tb1908 ⟨rb27.lt, by omega⟩
        replace hm := hm.kept tb1908 ⟨by omega, by omega⟩
        replace gw := gw.kept tb1908 ⟨by omega, by omega⟩
        replace hp := hp.kept tb1908 ⟨by omega, by omega⟩
        refine LL.nilS ?_
        refine CC.region ?_
        refine LL.val (R.move rfl rfl) rfl rfl rfl ?_
        (refine LL.call (R.call rfl rfl rfl) rfl rfl rfl (on_any g h hp2 (by rw [List.length_append]; omega)) ?_; rintro e Wb1955 ⟨rfl, hW, tb1954⟩; refine ⟨_, rfl, ?_⟩)
        have ztb1954 := tb1954.size
        replace hp2 := hp2.kept tb1954 ⟨by omega, by omega⟩
        replace rb27 := rb27.kept tb1954 ⟨rb27.lt, by omega⟩
        replace hm := hm.kept tb1954 ⟨by omega, by omega⟩
        replace gw := gw.kept tb1954 ⟨by omega, by omega⟩
        replace hp := hp.kept tb1954 ⟨by omega, by omega⟩
        refine LL.nil ?_
        refine EE.end _ rfl rfl ?_
        exact ⟨rfl, hW, gw⟩
      | false =>
        have := he' rfl
        refine X.fn Tryd.func50 rfl (n := 66) rfl rfl ?_
        refine CC.seq ?_
        refine CC.region ?_
        have lc23 := h.lt
        refine LL.box [Value.int IntKind.i64 fi, Value.int IntKind.i64 fk, strV t] rfl rfl rfl rfl rfl ?_
        intro Wc25 gc26 egc26 rc27 zc28 bc24
        replace hm := hm.up bc24
        replace gw := gw.up bc24
        replace hp := hp.up bc24
        replace h := h.up bc24
        refine LL.nilS ?_
        refine CC.seq ?_
        refine CC.seq ?_
        refine CC.region ?_
        refine LL.val (R.move rfl rfl) rfl rfl rfl ?_
        refine LL.val (R.nil rfl rfl) rfl rfl rfl ?_
        refine LL.val (R.field rfl rfl (I.fld rfl)) rfl rfl rfl ?_
        refine LL.val (R.load rfl rfl (I.ld1 rfl (RowL.cell h rfl))) rfl rfl rfl ?_
        refine LL.val (R.len rfl rfl rfl rfl) rfl rfl rfl ?_
        refine LL.val (R.eqF rfl rfl rfl (by omega)) rfl rfl rfl ?_
        refine LL.val (R.move rfl rfl) rfl rfl rfl ?_
        refine LL.skip rfl rfl ?_
        refine LL.skip rfl rfl ?_
        refine LL.skip rfl rfl ?_
        refine LL.skip rfl rfl ?_
        refine LL.skip rfl rfl ?_
        refine LL.val (R.pick rfl rfl rfl) rfl rfl rfl ?_
        refine LL.nilS ?_
        refine CC.no rfl ?_
        refine CC.skip ?_
        refine EE.thenN ?_
        refine CC.seq ?_
        refine CC.region ?_
        refine LL.val (R.move rfl rfl) rfl rfl rfl ?_
        refine LL.val (R.nil rfl rfl) rfl rfl rfl ?_
        refine LL.val (R.field rfl rfl (I.fld rfl)) rfl rfl rfl ?_
        refine LL.val (R.load rfl rfl (I.ld1 rfl (RowL.cell h rfl))) rfl rfl rfl ?_
        refine LL.val (R.addNc rfl rfl rfl rfl (by omega)) rfl rfl rfl ?_
        refine LL.val (R.nil rfl rfl) rfl rfl rfl ?_
        refine LL.val (R.field rfl rfl (I.fld rfl)) rfl rfl rfl ?_
        refine LL.store rfl rfl rfl rfl h (by exact Nat.le_of_ble_eq_true rfl) rfl rfl rfl rfl ?_
        intro Wc398 rc399 bc397 zc400
        have hlbc397 := h.lt
        replace rc399 : RowL Wc398 _ 60 [Value.int IntKind.i64 0, Value.int IntKind.i64 0, strV [], Value.int IntKind.i64 0, Value.int IntKind.i64 0, Value.bool false, Value.int IntKind.i64 dir, Value.slice a n c, Value.int IntKind.i64 ↑(links + 1), Value.bool false, Value.bool true] := rc399
        clear h
        replace rc27 := rc27.gr bc397 (by have := rc27.lt; omega)
        replace hm := hm.gr bc397 (by have := hm.lt; omega)
        replace gw := gw.gr bc397 (by omega)
        replace hp := hp.gr bc397 (by omega)
        have h := rc399
        clear rc399
        refine LL.nilS ?_
        refine CC.seq ?_
        refine CC.seq ?_
        refine CC.region ?_
        refine LL.val (R.move rfl rfl) rfl rfl rfl ?_
        refine LL.val (R.nil rfl rfl) rfl rfl rfl ?_
        refine LL.val (R.field rfl rfl (I.fld rfl)) rfl rfl rfl ?_
        refine LL.val (R.load rfl rfl (I.ld1 rfl (RowL.cell h rfl))) rfl rfl rfl ?_
        refine LL.val (R.gtF rfl rfl rfl (by omega)) rfl rfl rfl ?_
        refine LL.nilS ?_
        refine CC.no rfl ?_
        refine CC.skip ?_
        refine EE.thenN ?_
        refine CC.seq ?_
        refine CC.region ?_
        refine LL.val (R.field rfl rfl (I.fld rfl)) rfl rfl rfl ?_
        refine LL.val (R.load rfl rfl (I.ld1 rfl (RowL.cell rc27 rfl))) rfl rfl rfl ?_
        refine LL.val (R.assign rfl rfl) rfl rfl rfl ?_
        refine LL.nilS ?_
        refine CC.seq ?_
        refine CC.seq ?_
        refine CC.region ?_
        refine LL.val (R.move rfl rfl) rfl rfl rfl ?_
        (refine LL.call (R.call rfl rfl rfl) rfl rfl rfl (hpre _) ?_; rintro e W' ⟨rfl, rfl⟩; refine ⟨_, rfl, ?_⟩)
        refine LL.nilS ?_
        refine CC.yes rfl ?_
        refine CC.region ?_
        refine LL.val (R.move rfl rfl) rfl rfl rfl ?_
        refine LL.val (R.nil rfl rfl) rfl rfl rfl ?_
        refine LL.val (R.field rfl rfl (I.fld rfl)) rfl rfl rfl ?_
        refine LL.store rfl rfl rfl rfl h (by exact Nat.le_of_ble_eq_true rfl) rfl rfl rfl rfl ?_
        intro Wc701 rc702 bc700 zc703
        have hlbc700 := h.lt
        replace rc702 : RowL Wc701 _ 60 [Value.int IntKind.i64 0, Value.int IntKind.i64 0, strV [], Value.int IntKind.i64 0, Value.int IntKind.i64 0, Value.bool false, Value.int IntKind.i64 1, Value.slice a n c, Value.int IntKind.i64 ↑(links + 1), Value.bool false, Value.bool true] := rc702
        clear h
        replace rc27 := rc27.gr bc700 (by have := rc27.lt; omega)
        replace hm := hm.gr bc700 (by have := hm.lt; omega)
        replace gw := gw.gr bc700 (by omega)
        replace hp := hp.gr bc700 (by omega)
        have h := rc702
        clear rc702
        refine LL.nilS ?_
        refine CC.seq ?_
        refine CC.region ?_
        refine LL.val (R.move rfl rfl) rfl rfl rfl ?_
        have lc731 := rc27.lt
        have lc732 := h.lt
        (refine LL.call (R.call rfl rfl rfl) rfl rfl rfl (wparts_any t _ (by assumption) (by omega)) ?_; rintro e Wc730 ⟨vp, rfl, op, bc727⟩; refine ⟨_, rfl, ?_⟩; rw [if_pos hz] at op; rw [hz]; obtain ⟨ap, cp, rfl, hcp⟩ := (op.reads stEnc).form rfl)
        have zbc727 := bc727.size
        replace rc27 := rc27.up bc727
        replace hm := hm.up bc727
        replace gw := gw.up bc727
        replace hp := hp.up bc727
        replace h := h.up bc727
        refine LL.val (R.move rfl rfl) rfl rfl rfl ?_
        refine LL.val (R.extract rfl rfl rfl) rfl rfl rfl ?_
        refine LL.val (R.extract rfl rfl rfl) rfl rfl rfl ?_
        refine LL.val (R.assign rfl rfl) rfl rfl rfl ?_
        refine LL.val (R.assign rfl rfl) rfl rfl rfl ?_
        refine LL.nilS ?_
        refine CC.seq ?_
        refine CC.seq ?_
        refine CC.region ?_
        refine LL.val (R.move rfl rfl) rfl rfl rfl ?_
        refine LL.val (R.neF rfl rfl rfl (by omega)) rfl rfl rfl ?_
        refine LL.nilS ?_
        refine CC.no rfl ?_
        refine CC.skip ?_
        refine EE.thenN ?_
        refine CC.seq ?_
        refine CC.region ?_
        refine LL.val (R.move rfl rfl) rfl rfl rfl ?_
        refine LL.val (R.move rfl rfl) rfl rfl rfl ?_
        (refine LL.call (R.call rfl rfl rfl) rfl rfl rfl (lead_any g _ (partsL t) ls h (op.reads stEnc) hp (by omega) (by omega)) ?_; rintro e Wc955 ⟨rfl, ⟨v2, B2, hN, hp2⟩, tc954⟩; clear h; have h := hN; clear hN op; refine ⟨_, rfl, ?_⟩)
        have ztc954 := tc954.size
        replace rc27 := rc27.kept tc954 ⟨rc27.lt, by omega⟩
        replace hm := hm.kept tc954 ⟨by omega, by omega⟩
        replace gw := gw.kept tc954 ⟨by omega, by omega⟩
        replace hp := hp.kept tc954 ⟨by omega, by omega⟩
        refine LL.nilS ?_
        refine CC.region ?_
        refine LL.val (R.move rfl rfl) rfl rfl rfl ?_
        (refine LL.call (R.call rfl rfl rfl) rfl rfl rfl (on_any g h hp2 (by rw [List.length_append]; omega)) ?_; rintro e Wc1001 ⟨rfl, hW, tc1000⟩; refine ⟨_, rfl, ?_⟩)
        have ztc1000 := tc1000.size
        replace hp2 := hp2.kept tc1000 ⟨by omega, by omega⟩
        replace rc27 := rc27.kept tc1000 ⟨rc27.lt, by omega⟩
        replace hm := hm.kept tc1000 ⟨by omega, by omega⟩
        replace gw := gw.kept tc1000 ⟨by omega, by omega⟩
        replace hp := hp.kept tc1000 ⟨by omega, by omega⟩
        refine LL.nil ?_
        refine EE.end _ rfl rfl ?_
        exact ⟨rfl, hW, gw⟩
    · rw [if_neg hz]
      obtain ⟨e0, he0⟩ : ∃ e0, pathN t = e0 := ⟨_, rfl⟩
      have hz' : (e0 : Int) ≠ 0 := by rw [← he0]; omega
      have hpre := fun X => prefix_any t X
      rw [decide_eq_true hh] at hpre
      cases fol with
      | true =>
        refine X.fn Tryd.func50 rfl (n := 66) rfl rfl ?_
        refine CC.seq ?_
        refine CC.region ?_
        have ld16 := h.lt
        refine LL.box [Value.int IntKind.i64 fi, Value.int IntKind.i64 fk, strV t] rfl rfl rfl rfl rfl ?_
        intro Wd18 gd19 egd19 rd20 zd21 bd17
        replace hm := hm.up bd17
        replace gw := gw.up bd17
        replace hp := hp.up bd17
        replace h := h.up bd17
        refine LL.nilS ?_
        refine CC.seq ?_
        refine CC.seq ?_
        refine CC.region ?_
        refine LL.val (R.move rfl rfl) rfl rfl rfl ?_
        refine LL.val (R.nil rfl rfl) rfl rfl rfl ?_
        refine LL.val (R.field rfl rfl (I.fld rfl)) rfl rfl rfl ?_
        refine LL.val (R.load rfl rfl (I.ld1 rfl (RowL.cell h rfl))) rfl rfl rfl ?_
        refine LL.val (R.len rfl rfl rfl rfl) rfl rfl rfl ?_
        refine LL.vsplit (fun h => R.eqT rfl rfl rfl h) (fun h => R.eqF rfl rfl rfl h) rfl rfl rfl (fun cd118 => ?_) (fun cd118 => ?_)
        refine LL.val (R.move rfl rfl) rfl rfl rfl ?_
        refine LL.val (R.move rfl rfl) rfl rfl rfl ?_
        refine LL.val (R.nil rfl rfl) rfl rfl rfl ?_
        refine LL.val (R.field rfl rfl (I.fld rfl)) rfl rfl rfl ?_
        refine LL.val (R.load rfl rfl (I.ld1 rfl (RowL.cell h rfl))) rfl rfl rfl ?_
        refine LL.val (R.not rfl rfl) rfl rfl rfl ?_
        refine LL.val (R.pick rfl rfl rfl) rfl rfl rfl ?_
        refine LL.nilS ?_
        refine CC.no rfl ?_
        refine CC.skip ?_
        refine EE.thenN ?_
        refine CC.seq ?_
        refine CC.region ?_
        refine LL.val (R.move rfl rfl) rfl rfl rfl ?_
        refine LL.val (R.nil rfl rfl) rfl rfl rfl ?_
        refine LL.val (R.field rfl rfl (I.fld rfl)) rfl rfl rfl ?_
        refine LL.val (R.load rfl rfl (I.ld1 rfl (RowL.cell h rfl))) rfl rfl rfl ?_
        refine LL.val (R.addNc rfl rfl rfl rfl (by omega)) rfl rfl rfl ?_
        refine LL.val (R.nil rfl rfl) rfl rfl rfl ?_
        refine LL.val (R.field rfl rfl (I.fld rfl)) rfl rfl rfl ?_
        refine LL.store rfl rfl rfl rfl h (by exact Nat.le_of_ble_eq_true rfl) rfl rfl rfl rfl ?_
        intro Wd360 rd361 bd359 zd362
        have hlbd359 := h.lt
        replace rd361 : RowL Wd360 _ 60 [Value.int IntKind.i64 0, Value.int IntKind.i64 0, strV [], Value.int IntKind.i64 0, Value.int IntKind.i64 0, Value.bool false, Value.int IntKind.i64 dir, Value.slice a n c, Value.int IntKind.i64 ↑(links + 1), Value.bool true, Value.bool true] := rd361
        clear h
        replace rd20 := rd20.gr bd359 (by have := rd20.lt; omega)
        replace hm := hm.gr bd359 (by have := hm.lt; omega)
        replace gw := gw.gr bd359 (by omega)
        replace hp := hp.gr bd359 (by omega)
        have h := rd361
        clear rd361
        refine LL.nilS ?_
        refine CC.seq ?_
        refine CC.seq ?_
        refine CC.region ?_
        refine LL.val (R.move rfl rfl) rfl rfl rfl ?_
        refine LL.val (R.nil rfl rfl) rfl rfl rfl ?_
        refine LL.val (R.field rfl rfl (I.fld rfl)) rfl rfl rfl ?_
        refine LL.val (R.load rfl rfl (I.ld1 rfl (RowL.cell h rfl))) rfl rfl rfl ?_
        refine LL.val (R.gtF rfl rfl rfl (by omega)) rfl rfl rfl ?_
        refine LL.nilS ?_
        refine CC.no rfl ?_
        refine CC.skip ?_
        refine EE.thenN ?_
        refine CC.seq ?_
        refine CC.region ?_
        refine LL.val (R.field rfl rfl (I.fld rfl)) rfl rfl rfl ?_
        refine LL.val (R.load rfl rfl (I.ld1 rfl (RowL.cell rd20 rfl))) rfl rfl rfl ?_
        refine LL.val (R.assign rfl rfl) rfl rfl rfl ?_
        refine LL.nilS ?_
        refine CC.seq ?_
        refine CC.seq ?_
        refine CC.region ?_
        refine LL.val (R.move rfl rfl) rfl rfl rfl ?_
        (refine LL.call (R.call rfl rfl rfl) rfl rfl rfl (hpre _) ?_; rintro e W' ⟨rfl, rfl⟩; refine ⟨_, rfl, ?_⟩)
        refine LL.nilS ?_
        refine CC.yes rfl ?_
        refine CC.region ?_
        refine LL.val (R.move rfl rfl) rfl rfl rfl ?_
        refine LL.val (R.nil rfl rfl) rfl rfl rfl ?_
        refine LL.val (R.field rfl rfl (I.fld rfl)) rfl rfl rfl ?_
        refine LL.store rfl rfl rfl rfl h (by exact Nat.le_of_ble_eq_true rfl) rfl rfl rfl rfl ?_
        intro Wd572 rd573 bd571 zd574
        have hlbd571 := h.lt
        replace rd573 : RowL Wd572 _ 60 [Value.int IntKind.i64 0, Value.int IntKind.i64 0, strV [], Value.int IntKind.i64 0, Value.int IntKind.i64 0, Value.bool false, Value.int IntKind.i64 1, Value.slice a n c, Value.int IntKind.i64 ↑(links + 1), Value.bool true, Value.bool true] := rd573
        clear h
        replace rd20 := rd20.gr bd571 (by have := rd20.lt; omega)
        replace hm := hm.gr bd571 (by have := hm.lt; omega)
        replace gw := gw.gr bd571 (by omega)
        replace hp := hp.gr bd571 (by omega)
        have h := rd573
        clear rd573
        refine LL.nilS ?_
        refine CC.seq ?_
        refine CC.region ?_
        refine LL.val (R.move rfl rfl) rfl rfl rfl ?_
        have ld595 := rd20.lt
        have ld596 := h.lt
        (refine LL.call (R.call rfl rfl rfl) rfl rfl rfl (wparts_any t _ (by assumption) (by omega)) ?_; rintro e Wd594 ⟨vp, rfl, op, bd591⟩; refine ⟨_, rfl, ?_⟩; rw [if_neg hz] at op; rw [he0]; obtain ⟨ap, cp, rfl, hcp⟩ := (op.reads stEnc).form rfl)
        have zbd591 := bd591.size
        replace rd20 := rd20.up bd591
        replace hm := hm.up bd591
        replace gw := gw.up bd591
        replace hp := hp.up bd591
        replace h := h.up bd591
        refine LL.val (R.move rfl rfl) rfl rfl rfl ?_
        refine LL.val (R.extract rfl rfl rfl) rfl rfl rfl ?_
        refine LL.val (R.extract rfl rfl rfl) rfl rfl rfl ?_
        refine LL.val (R.assign rfl rfl) rfl rfl rfl ?_
        refine LL.val (R.assign rfl rfl) rfl rfl rfl ?_
        refine LL.nilS ?_
        refine CC.seq ?_
        refine CC.seq ?_
        refine CC.region ?_
        refine LL.val (R.move rfl rfl) rfl rfl rfl ?_
        refine LL.val (R.neT rfl rfl rfl (by omega)) rfl rfl rfl ?_
        refine LL.nilS ?_
        refine CC.yes rfl ?_
        refine CC.seq ?_
        refine CC.region ?_
        refine LL.val (R.move rfl rfl) rfl rfl rfl ?_
        refine LL.val (R.move rfl rfl) rfl rfl rfl ?_
        refine LL.val (R.buildV rfl rfl (v := .agg #[Value.int IntKind.i64 ↑e0, Value.int IntKind.i64 0, Value.string { data := #[] }, Value.int IntKind.i64 0, Value.int IntKind.i64 0]) (fun _ => by kernel_rfl)) rfl rfl rfl ?_
        (refine LL.call (R.call rfl rfl rfl) rfl rfl rfl (end_any g (e0, 0, [], 0, 0) h) ?_; rintro e Wd772 ⟨rfl, hN, td771⟩; clear h; have h := hN; clear hN; refine ⟨_, rfl, ?_⟩)
        have ztd771 := td771.size
        replace rd20 := rd20.kept td771 ⟨rd20.lt, by omega⟩
        replace hm := hm.kept td771 ⟨by omega, by omega⟩
        replace gw := gw.kept td771 ⟨by omega, by omega⟩
        replace hp := hp.kept td771 ⟨by omega, by omega⟩
        refine LL.nilS ?_
        refine CC.ret ?_
        refine EE.thenR ?_
        refine EE.ret _ rfl rfl ?_
        exact ⟨rfl, WkAt.fin h hp (by omega) _ _ _ rfl, gw⟩
        refine LL.val (R.move rfl rfl) rfl rfl rfl ?_
        refine LL.skip rfl rfl ?_
        refine LL.skip rfl rfl ?_
        refine LL.skip rfl rfl ?_
        refine LL.skip rfl rfl ?_
        refine LL.skip rfl rfl ?_
        refine LL.val (R.pick rfl rfl rfl) rfl rfl rfl ?_
        refine LL.nilS ?_
        refine CC.no rfl ?_
        refine CC.skip ?_
        refine EE.thenN ?_
        refine CC.seq ?_
        refine CC.region ?_
        refine LL.val (R.move rfl rfl) rfl rfl rfl ?_
        refine LL.val (R.nil rfl rfl) rfl rfl rfl ?_
        refine LL.val (R.field rfl rfl (I.fld rfl)) rfl rfl rfl ?_
        refine LL.val (R.load rfl rfl (I.ld1 rfl (RowL.cell h rfl))) rfl rfl rfl ?_
        refine LL.val (R.addNc rfl rfl rfl rfl (by omega)) rfl rfl rfl ?_
        refine LL.val (R.nil rfl rfl) rfl rfl rfl ?_
        refine LL.val (R.field rfl rfl (I.fld rfl)) rfl rfl rfl ?_
        refine LL.store rfl rfl rfl rfl h (by exact Nat.le_of_ble_eq_true rfl) rfl rfl rfl rfl ?_
        intro Wd937 rd938 bd936 zd939
        have hlbd936 := h.lt
        replace rd938 : RowL Wd937 _ 60 [Value.int IntKind.i64 0, Value.int IntKind.i64 0, strV [], Value.int IntKind.i64 0, Value.int IntKind.i64 0, Value.bool false, Value.int IntKind.i64 dir, Value.slice a n c, Value.int IntKind.i64 ↑(links + 1), Value.bool true, Value.bool true] := rd938
        clear h
        replace rd20 := rd20.gr bd936 (by have := rd20.lt; omega)
        replace hm := hm.gr bd936 (by have := hm.lt; omega)
        replace gw := gw.gr bd936 (by omega)
        replace hp := hp.gr bd936 (by omega)
        have h := rd938
        clear rd938
        refine LL.nilS ?_
        refine CC.seq ?_
        refine CC.seq ?_
        refine CC.region ?_
        refine LL.val (R.move rfl rfl) rfl rfl rfl ?_
        refine LL.val (R.nil rfl rfl) rfl rfl rfl ?_
        refine LL.val (R.field rfl rfl (I.fld rfl)) rfl rfl rfl ?_
        refine LL.val (R.load rfl rfl (I.ld1 rfl (RowL.cell h rfl))) rfl rfl rfl ?_
        refine LL.val (R.gtF rfl rfl rfl (by omega)) rfl rfl rfl ?_
        refine LL.nilS ?_
        refine CC.no rfl ?_
        refine CC.skip ?_
        refine EE.thenN ?_
        refine CC.seq ?_
        refine CC.region ?_
        refine LL.val (R.field rfl rfl (I.fld rfl)) rfl rfl rfl ?_
        refine LL.val (R.load rfl rfl (I.ld1 rfl (RowL.cell rd20 rfl))) rfl rfl rfl ?_
        refine LL.val (R.assign rfl rfl) rfl rfl rfl ?_
        refine LL.nilS ?_
        refine CC.seq ?_
        refine CC.seq ?_
        refine CC.region ?_
        refine LL.val (R.move rfl rfl) rfl rfl rfl ?_
        (refine LL.call (R.call rfl rfl rfl) rfl rfl rfl (hpre _) ?_; rintro e W' ⟨rfl, rfl⟩; refine ⟨_, rfl, ?_⟩)
        refine LL.nilS ?_
        refine CC.yes rfl ?_
        refine CC.region ?_
        refine LL.val (R.move rfl rfl) rfl rfl rfl ?_
        refine LL.val (R.nil rfl rfl) rfl rfl rfl ?_
        refine LL.val (R.field rfl rfl (I.fld rfl)) rfl rfl rfl ?_
        refine LL.store rfl rfl rfl rfl h (by exact Nat.le_of_ble_eq_true rfl) rfl rfl rfl rfl ?_
        intro Wd1149 rd1150 bd1148 zd1151
        have hlbd1148 := h.lt
        replace rd1150 : RowL Wd1149 _ 60 [Value.int IntKind.i64 0, Value.int IntKind.i64 0, strV [], Value.int IntKind.i64 0, Value.int IntKind.i64 0, Value.bool false, Value.int IntKind.i64 1, Value.slice a n c, Value.int IntKind.i64 ↑(links + 1), Value.bool true, Value.bool true] := rd1150
        clear h
        replace rd20 := rd20.gr bd1148 (by have := rd20.lt; omega)
        replace hm := hm.gr bd1148 (by have := hm.lt; omega)
        replace gw := gw.gr bd1148 (by omega)
        replace hp := hp.gr bd1148 (by omega)
        have h := rd1150
        clear rd1150
        refine LL.nilS ?_
        refine CC.seq ?_
        refine CC.region ?_
        refine LL.val (R.move rfl rfl) rfl rfl rfl ?_
        have ld1172 := rd20.lt
        have ld1173 := h.lt
        (refine LL.call (R.call rfl rfl rfl) rfl rfl rfl (wparts_any t _ (by assumption) (by omega)) ?_; rintro e Wd1171 ⟨vp, rfl, op, bd1168⟩; refine ⟨_, rfl, ?_⟩; rw [if_neg hz] at op; rw [he0]; obtain ⟨ap, cp, rfl, hcp⟩ := (op.reads stEnc).form rfl)
        have zbd1168 := bd1168.size
        replace rd20 := rd20.up bd1168
        replace hm := hm.up bd1168
        replace gw := gw.up bd1168
        replace hp := hp.up bd1168
        replace h := h.up bd1168
        refine LL.val (R.move rfl rfl) rfl rfl rfl ?_
        refine LL.val (R.extract rfl rfl rfl) rfl rfl rfl ?_
        refine LL.val (R.extract rfl rfl rfl) rfl rfl rfl ?_
        refine LL.val (R.assign rfl rfl) rfl rfl rfl ?_
        refine LL.val (R.assign rfl rfl) rfl rfl rfl ?_
        refine LL.nilS ?_
        refine CC.seq ?_
        refine CC.seq ?_
        refine CC.region ?_
        refine LL.val (R.move rfl rfl) rfl rfl rfl ?_
        refine LL.val (R.neT rfl rfl rfl (by omega)) rfl rfl rfl ?_
        refine LL.nilS ?_
        refine CC.yes rfl ?_
        refine CC.seq ?_
        refine CC.region ?_
        refine LL.val (R.move rfl rfl) rfl rfl rfl ?_
        refine LL.val (R.move rfl rfl) rfl rfl rfl ?_
        refine LL.val (R.buildV rfl rfl (v := .agg #[Value.int IntKind.i64 ↑e0, Value.int IntKind.i64 0, Value.string { data := #[] }, Value.int IntKind.i64 0, Value.int IntKind.i64 0]) (fun _ => by kernel_rfl)) rfl rfl rfl ?_
        (refine LL.call (R.call rfl rfl rfl) rfl rfl rfl (end_any g (e0, 0, [], 0, 0) h) ?_; rintro e Wd1349 ⟨rfl, hN, td1348⟩; clear h; have h := hN; clear hN; refine ⟨_, rfl, ?_⟩)
        have ztd1348 := td1348.size
        replace rd20 := rd20.kept td1348 ⟨rd20.lt, by omega⟩
        replace hm := hm.kept td1348 ⟨by omega, by omega⟩
        replace gw := gw.kept td1348 ⟨by omega, by omega⟩
        replace hp := hp.kept td1348 ⟨by omega, by omega⟩
        refine LL.nilS ?_
        refine CC.ret ?_
        refine EE.thenR ?_
        refine EE.ret _ rfl rfl ?_
        exact ⟨rfl, WkAt.fin h hp (by omega) _ _ _ rfl, gw⟩
      | false =>
        have := he' rfl
        refine X.fn Tryd.func50 rfl (n := 66) rfl rfl ?_
        refine CC.seq ?_
        refine CC.region ?_
        have le16 := h.lt
        refine LL.box [Value.int IntKind.i64 fi, Value.int IntKind.i64 fk, strV t] rfl rfl rfl rfl rfl ?_
        intro We18 ge19 ege19 re20 ze21 be17
        replace hm := hm.up be17
        replace gw := gw.up be17
        replace hp := hp.up be17
        replace h := h.up be17
        refine LL.nilS ?_
        refine CC.seq ?_
        refine CC.seq ?_
        refine CC.region ?_
        refine LL.val (R.move rfl rfl) rfl rfl rfl ?_
        refine LL.val (R.nil rfl rfl) rfl rfl rfl ?_
        refine LL.val (R.field rfl rfl (I.fld rfl)) rfl rfl rfl ?_
        refine LL.val (R.load rfl rfl (I.ld1 rfl (RowL.cell h rfl))) rfl rfl rfl ?_
        refine LL.val (R.len rfl rfl rfl rfl) rfl rfl rfl ?_
        refine LL.val (R.eqF rfl rfl rfl (by omega)) rfl rfl rfl ?_
        refine LL.val (R.move rfl rfl) rfl rfl rfl ?_
        refine LL.skip rfl rfl ?_
        refine LL.skip rfl rfl ?_
        refine LL.skip rfl rfl ?_
        refine LL.skip rfl rfl ?_
        refine LL.skip rfl rfl ?_
        refine LL.val (R.pick rfl rfl rfl) rfl rfl rfl ?_
        refine LL.nilS ?_
        refine CC.no rfl ?_
        refine CC.skip ?_
        refine EE.thenN ?_
        refine CC.seq ?_
        refine CC.region ?_
        refine LL.val (R.move rfl rfl) rfl rfl rfl ?_
        refine LL.val (R.nil rfl rfl) rfl rfl rfl ?_
        refine LL.val (R.field rfl rfl (I.fld rfl)) rfl rfl rfl ?_
        refine LL.val (R.load rfl rfl (I.ld1 rfl (RowL.cell h rfl))) rfl rfl rfl ?_
        refine LL.val (R.addNc rfl rfl rfl rfl (by omega)) rfl rfl rfl ?_
        refine LL.val (R.nil rfl rfl) rfl rfl rfl ?_
        refine LL.val (R.field rfl rfl (I.fld rfl)) rfl rfl rfl ?_
        refine LL.store rfl rfl rfl rfl h (by exact Nat.le_of_ble_eq_true rfl) rfl rfl rfl rfl ?_
        intro We279 re280 be278 ze281
        have hlbe278 := h.lt
        replace re280 : RowL We279 _ 60 [Value.int IntKind.i64 0, Value.int IntKind.i64 0, strV [], Value.int IntKind.i64 0, Value.int IntKind.i64 0, Value.bool false, Value.int IntKind.i64 dir, Value.slice a n c, Value.int IntKind.i64 ↑(links + 1), Value.bool false, Value.bool true] := re280
        clear h
        replace re20 := re20.gr be278 (by have := re20.lt; omega)
        replace hm := hm.gr be278 (by have := hm.lt; omega)
        replace gw := gw.gr be278 (by omega)
        replace hp := hp.gr be278 (by omega)
        have h := re280
        clear re280
        refine LL.nilS ?_
        refine CC.seq ?_
        refine CC.seq ?_
        refine CC.region ?_
        refine LL.val (R.move rfl rfl) rfl rfl rfl ?_
        refine LL.val (R.nil rfl rfl) rfl rfl rfl ?_
        refine LL.val (R.field rfl rfl (I.fld rfl)) rfl rfl rfl ?_
        refine LL.val (R.load rfl rfl (I.ld1 rfl (RowL.cell h rfl))) rfl rfl rfl ?_
        refine LL.val (R.gtF rfl rfl rfl (by omega)) rfl rfl rfl ?_
        refine LL.nilS ?_
        refine CC.no rfl ?_
        refine CC.skip ?_
        refine EE.thenN ?_
        refine CC.seq ?_
        refine CC.region ?_
        refine LL.val (R.field rfl rfl (I.fld rfl)) rfl rfl rfl ?_
        refine LL.val (R.load rfl rfl (I.ld1 rfl (RowL.cell re20 rfl))) rfl rfl rfl ?_
        refine LL.val (R.assign rfl rfl) rfl rfl rfl ?_
        refine LL.nilS ?_
        refine CC.seq ?_
        refine CC.seq ?_
        refine CC.region ?_
        refine LL.val (R.move rfl rfl) rfl rfl rfl ?_
        (refine LL.call (R.call rfl rfl rfl) rfl rfl rfl (hpre _) ?_; rintro e W' ⟨rfl, rfl⟩; refine ⟨_, rfl, ?_⟩)
        refine LL.nilS ?_
        refine CC.yes rfl ?_
        refine CC.region ?_
        refine LL.val (R.move rfl rfl) rfl rfl rfl ?_
        refine LL.val (R.nil rfl rfl) rfl rfl rfl ?_
        refine LL.val (R.field rfl rfl (I.fld rfl)) rfl rfl rfl ?_
        refine LL.store rfl rfl rfl rfl h (by exact Nat.le_of_ble_eq_true rfl) rfl rfl rfl rfl ?_
        intro We491 re492 be490 ze493
        have hlbe490 := h.lt
        replace re492 : RowL We491 _ 60 [Value.int IntKind.i64 0, Value.int IntKind.i64 0, strV [], Value.int IntKind.i64 0, Value.int IntKind.i64 0, Value.bool false, Value.int IntKind.i64 1, Value.slice a n c, Value.int IntKind.i64 ↑(links + 1), Value.bool false, Value.bool true] := re492
        clear h
        replace re20 := re20.gr be490 (by have := re20.lt; omega)
        replace hm := hm.gr be490 (by have := hm.lt; omega)
        replace gw := gw.gr be490 (by omega)
        replace hp := hp.gr be490 (by omega)
        have h := re492
        clear re492
        refine LL.nilS ?_
        refine CC.seq ?_
        refine CC.region ?_
        refine LL.val (R.move rfl rfl) rfl rfl rfl ?_
        have le514 := re20.lt
        have le515 := h.lt
        (refine LL.call (R.call rfl rfl rfl) rfl rfl rfl (wparts_any t _ (by assumption) (by omega)) ?_; rintro e We513 ⟨vp, rfl, op, be510⟩; refine ⟨_, rfl, ?_⟩; rw [if_neg hz] at op; rw [he0]; obtain ⟨ap, cp, rfl, hcp⟩ := (op.reads stEnc).form rfl)
        have zbe510 := be510.size
        replace re20 := re20.up be510
        replace hm := hm.up be510
        replace gw := gw.up be510
        replace hp := hp.up be510
        replace h := h.up be510
        refine LL.val (R.move rfl rfl) rfl rfl rfl ?_
        refine LL.val (R.extract rfl rfl rfl) rfl rfl rfl ?_
        refine LL.val (R.extract rfl rfl rfl) rfl rfl rfl ?_
        refine LL.val (R.assign rfl rfl) rfl rfl rfl ?_
        refine LL.val (R.assign rfl rfl) rfl rfl rfl ?_
        refine LL.nilS ?_
        refine CC.seq ?_
        refine CC.seq ?_
        refine CC.region ?_
        refine LL.val (R.move rfl rfl) rfl rfl rfl ?_
        refine LL.val (R.neT rfl rfl rfl (by omega)) rfl rfl rfl ?_
        refine LL.nilS ?_
        refine CC.yes rfl ?_
        refine CC.seq ?_
        refine CC.region ?_
        refine LL.val (R.move rfl rfl) rfl rfl rfl ?_
        refine LL.val (R.move rfl rfl) rfl rfl rfl ?_
        refine LL.val (R.buildV rfl rfl (v := .agg #[Value.int IntKind.i64 ↑e0, Value.int IntKind.i64 0, Value.string { data := #[] }, Value.int IntKind.i64 0, Value.int IntKind.i64 0]) (fun _ => by kernel_rfl)) rfl rfl rfl ?_
        (refine LL.call (R.call rfl rfl rfl) rfl rfl rfl (end_any g (e0, 0, [], 0, 0) h) ?_; rintro e We691 ⟨rfl, hN, te690⟩; clear h; have h := hN; clear hN; refine ⟨_, rfl, ?_⟩)
        have zte690 := te690.size
        replace re20 := re20.kept te690 ⟨re20.lt, by omega⟩
        replace hm := hm.kept te690 ⟨by omega, by omega⟩
        replace gw := gw.kept te690 ⟨by omega, by omega⟩
        replace hp := hp.kept te690 ⟨by omega, by omega⟩
        refine LL.nilS ?_
        refine CC.ret ?_
        refine EE.thenR ?_
        refine EE.ret _ rfl rfl ?_
        exact ⟨rfl, WkAt.fin h hp (by omega) _ _ _ rfl, gw⟩
  case neg =>
    rw [if_neg hh, if_neg hh]
    obtain ⟨L, hL⟩ : ∃ L, (47 :: t) = L := ⟨_, rfl⟩
    have hLl : L.length ≤ 1048577 := by rw [← hL]; simp only [List.length_cons]; omega
    rw [hL]
    by_cases hz : pathN L = 0
    · rw [if_pos hz]
      have hpl := partsL_len0 hz
      have hpre := fun X => prefix_any t X
      rw [decide_eq_false hh] at hpre
      cases fol with
      | true =>
        refine X.fn Tryd.func50 rfl (n := 66) rfl rfl ?_
        refine CC.seq ?_
        refine CC.region ?_
        have lf23 := h.lt
        refine LL.box [Value.int IntKind.i64 fi, Value.int IntKind.i64 fk, strV t] rfl rfl rfl rfl rfl ?_
        intro Wf25 gf26 egf26 rf27 zf28 bf24
        replace hm := hm.up bf24
        replace gw := gw.up bf24
        replace hp := hp.up bf24
        replace h := h.up bf24
        refine LL.nilS ?_
        refine CC.seq ?_
        refine CC.seq ?_
        refine CC.region ?_
        refine LL.val (R.move rfl rfl) rfl rfl rfl ?_
        refine LL.val (R.nil rfl rfl) rfl rfl rfl ?_
        refine LL.val (R.field rfl rfl (I.fld rfl)) rfl rfl rfl ?_
        refine LL.val (R.load rfl rfl (I.ld1 rfl (RowL.cell h rfl))) rfl rfl rfl ?_
        refine LL.val (R.len rfl rfl rfl rfl) rfl rfl rfl ?_
        refine LL.vsplit (fun h => R.eqT rfl rfl rfl h) (fun h => R.eqF rfl rfl rfl h) rfl rfl rfl (fun cf167 => ?_) (fun cf167 => ?_)
        refine LL.val (R.move rfl rfl) rfl rfl rfl ?_
        refine LL.val (R.move rfl rfl) rfl rfl rfl ?_
        refine LL.val (R.nil rfl rfl) rfl rfl rfl ?_
        refine LL.val (R.field rfl rfl (I.fld rfl)) rfl rfl rfl ?_
        refine LL.val (R.load rfl rfl (I.ld1 rfl (RowL.cell h rfl))) rfl rfl rfl ?_
        refine LL.val (R.not rfl rfl) rfl rfl rfl ?_
        refine LL.val (R.pick rfl rfl rfl) rfl rfl rfl ?_
        refine LL.nilS ?_
        refine CC.no rfl ?_
        refine CC.skip ?_
        refine EE.thenN ?_
        refine CC.seq ?_
        refine CC.region ?_
        refine LL.val (R.move rfl rfl) rfl rfl rfl ?_
        refine LL.val (R.nil rfl rfl) rfl rfl rfl ?_
        refine LL.val (R.field rfl rfl (I.fld rfl)) rfl rfl rfl ?_
        refine LL.val (R.load rfl rfl (I.ld1 rfl (RowL.cell h rfl))) rfl rfl rfl ?_
        refine LL.val (R.addNc rfl rfl rfl rfl (by omega)) rfl rfl rfl ?_
        refine LL.val (R.nil rfl rfl) rfl rfl rfl ?_
        refine LL.val (R.field rfl rfl (I.fld rfl)) rfl rfl rfl ?_
        refine LL.store rfl rfl rfl rfl h (by exact Nat.le_of_ble_eq_true rfl) rfl rfl rfl rfl ?_
        intro Wf514 rf515 bf513 zf516
        have hlbf513 := h.lt
        replace rf515 : RowL Wf514 _ 60 [Value.int IntKind.i64 0, Value.int IntKind.i64 0, strV [], Value.int IntKind.i64 0, Value.int IntKind.i64 0, Value.bool false, Value.int IntKind.i64 dir, Value.slice a n c, Value.int IntKind.i64 ↑(links + 1), Value.bool true, Value.bool true] := rf515
        clear h
        replace rf27 := rf27.gr bf513 (by have := rf27.lt; omega)
        replace hm := hm.gr bf513 (by have := hm.lt; omega)
        replace gw := gw.gr bf513 (by omega)
        replace hp := hp.gr bf513 (by omega)
        have h := rf515
        clear rf515
        refine LL.nilS ?_
        refine CC.seq ?_
        refine CC.seq ?_
        refine CC.region ?_
        refine LL.val (R.move rfl rfl) rfl rfl rfl ?_
        refine LL.val (R.nil rfl rfl) rfl rfl rfl ?_
        refine LL.val (R.field rfl rfl (I.fld rfl)) rfl rfl rfl ?_
        refine LL.val (R.load rfl rfl (I.ld1 rfl (RowL.cell h rfl))) rfl rfl rfl ?_
        refine LL.val (R.gtF rfl rfl rfl (by omega)) rfl rfl rfl ?_
        refine LL.nilS ?_
        refine CC.no rfl ?_
        refine CC.skip ?_
        refine EE.thenN ?_
        refine CC.seq ?_
        refine CC.region ?_
        refine LL.val (R.field rfl rfl (I.fld rfl)) rfl rfl rfl ?_
        refine LL.val (R.load rfl rfl (I.ld1 rfl (RowL.cell rf27 rfl))) rfl rfl rfl ?_
        refine LL.val (R.assign rfl rfl) rfl rfl rfl ?_
        refine LL.nilS ?_
        refine CC.seq ?_
        refine CC.seq ?_
        refine CC.region ?_
        refine LL.val (R.move rfl rfl) rfl rfl rfl ?_
        (refine LL.call (R.call rfl rfl rfl) rfl rfl rfl (hpre _) ?_; rintro e W' ⟨rfl, rfl⟩; refine ⟨_, rfl, ?_⟩)
        refine LL.nilS ?_
        refine CC.no rfl ?_
        refine CC.region ?_
        refine LL.val (R.move rfl rfl) rfl rfl rfl ?_
        (refine LL.val (R.addS (a := [47]) (b := t) rfl rfl rfl (by simp only [List.length_cons, List.length_nil]; omega)) rfl rfl rfl ?_; rw [show ([47] : Bs) ++ t = L from hL])
        refine LL.val (R.assign rfl rfl) rfl rfl rfl ?_
        refine LL.nilS ?_
        refine CC.seq ?_
        refine CC.region ?_
        refine LL.val (R.move rfl rfl) rfl rfl rfl ?_
        have lf797 := rf27.lt
        have lf798 := h.lt
        (refine LL.call (R.call rfl rfl rfl) rfl rfl rfl (wparts_any L _ (by assumption) (by omega)) ?_; rintro e Wf796 ⟨vp, rfl, op, bf793⟩; refine ⟨_, rfl, ?_⟩; rw [if_pos hz] at op; rw [hz]; obtain ⟨ap, cp, rfl, hcp⟩ := (op.reads stEnc).form rfl)
        have zbf793 := bf793.size
        replace rf27 := rf27.up bf793
        replace hm := hm.up bf793
        replace gw := gw.up bf793
        replace hp := hp.up bf793
        replace h := h.up bf793
        refine LL.val (R.move rfl rfl) rfl rfl rfl ?_
        refine LL.val (R.extract rfl rfl rfl) rfl rfl rfl ?_
        refine LL.val (R.extract rfl rfl rfl) rfl rfl rfl ?_
        refine LL.val (R.assign rfl rfl) rfl rfl rfl ?_
        refine LL.val (R.assign rfl rfl) rfl rfl rfl ?_
        refine LL.nilS ?_
        refine CC.seq ?_
        refine CC.seq ?_
        refine CC.region ?_
        refine LL.val (R.move rfl rfl) rfl rfl rfl ?_
        refine LL.val (R.neF rfl rfl rfl (by omega)) rfl rfl rfl ?_
        refine LL.nilS ?_
        refine CC.no rfl ?_
        refine CC.skip ?_
        refine EE.thenN ?_
        refine CC.seq ?_
        refine CC.region ?_
        refine LL.val (R.move rfl rfl) rfl rfl rfl ?_
        refine LL.val (R.move rfl rfl) rfl rfl rfl ?_
        (refine LL.call (R.call rfl rfl rfl) rfl rfl rfl (lead_any g _ (partsL L) ls h (op.reads stEnc) hp (by omega) (by omega)) ?_; rintro e Wf1021 ⟨rfl, ⟨v2, B2, hN, hp2⟩, tf1020⟩; clear h; have h := hN; clear hN op; refine ⟨_, rfl, ?_⟩)
        have ztf1020 := tf1020.size
        replace rf27 := rf27.kept tf1020 ⟨rf27.lt, by omega⟩
        replace hm := hm.kept tf1020 ⟨by omega, by omega⟩
        replace gw := gw.kept tf1020 ⟨by omega, by omega⟩
        replace hp := hp.kept tf1020 ⟨by omega, by omega⟩
        refine LL.nilS ?_
        refine CC.region ?_
        refine LL.val (R.move rfl rfl) rfl rfl rfl ?_
        (refine LL.call (R.call rfl rfl rfl) rfl rfl rfl (on_any g h hp2 (by rw [List.length_append]; omega)) ?_; rintro e Wf1067 ⟨rfl, hW, tf1066⟩; refine ⟨_, rfl, ?_⟩)
        have ztf1066 := tf1066.size
        replace hp2 := hp2.kept tf1066 ⟨by omega, by omega⟩
        replace rf27 := rf27.kept tf1066 ⟨rf27.lt, by omega⟩
        replace hm := hm.kept tf1066 ⟨by omega, by omega⟩
        replace gw := gw.kept tf1066 ⟨by omega, by omega⟩
        replace hp := hp.kept tf1066 ⟨by omega, by omega⟩
        refine LL.nil ?_
        refine EE.end _ rfl rfl ?_
        exact ⟨rfl, hW, gw⟩
        refine LL.val (R.move rfl rfl) rfl rfl rfl ?_
        refine LL.skip rfl rfl ?_
        refine LL.skip rfl rfl ?_
        refine LL.skip rfl rfl ?_
        refine LL.skip rfl rfl ?_
        refine LL.skip rfl rfl ?_
        refine LL.val (R.pick rfl rfl rfl) rfl rfl rfl ?_
        refine LL.nilS ?_
        refine CC.no rfl ?_
        refine CC.skip ?_
        refine EE.thenN ?_
        refine CC.seq ?_
        refine CC.region ?_
        refine LL.val (R.move rfl rfl) rfl rfl rfl ?_
        refine LL.val (R.nil rfl rfl) rfl rfl rfl ?_
        refine LL.val (R.field rfl rfl (I.fld rfl)) rfl rfl rfl ?_
        refine LL.val (R.load rfl rfl (I.ld1 rfl (RowL.cell h rfl))) rfl rfl rfl ?_
        refine LL.val (R.addNc rfl rfl rfl rfl (by omega)) rfl rfl rfl ?_
        refine LL.val (R.nil rfl rfl) rfl rfl rfl ?_
        refine LL.val (R.field rfl rfl (I.fld rfl)) rfl rfl rfl ?_
        refine LL.store rfl rfl rfl rfl h (by exact Nat.le_of_ble_eq_true rfl) rfl rfl rfl rfl ?_
        intro Wf1302 rf1303 bf1301 zf1304
        have hlbf1301 := h.lt
        replace rf1303 : RowL Wf1302 _ 60 [Value.int IntKind.i64 0, Value.int IntKind.i64 0, strV [], Value.int IntKind.i64 0, Value.int IntKind.i64 0, Value.bool false, Value.int IntKind.i64 dir, Value.slice a n c, Value.int IntKind.i64 ↑(links + 1), Value.bool true, Value.bool true] := rf1303
        clear h
        replace rf27 := rf27.gr bf1301 (by have := rf27.lt; omega)
        replace hm := hm.gr bf1301 (by have := hm.lt; omega)
        replace gw := gw.gr bf1301 (by omega)
        replace hp := hp.gr bf1301 (by omega)
        have h := rf1303
        clear rf1303
        refine LL.nilS ?_
        refine CC.seq ?_
        refine CC.seq ?_
        refine CC.region ?_
        refine LL.val (R.move rfl rfl) rfl rfl rfl ?_
        refine LL.val (R.nil rfl rfl) rfl rfl rfl ?_
        refine LL.val (R.field rfl rfl (I.fld rfl)) rfl rfl rfl ?_
        refine LL.val (R.load rfl rfl (I.ld1 rfl (RowL.cell h rfl))) rfl rfl rfl ?_
        refine LL.val (R.gtF rfl rfl rfl (by omega)) rfl rfl rfl ?_
        refine LL.nilS ?_
        refine CC.no rfl ?_
        refine CC.skip ?_
        refine EE.thenN ?_
        refine CC.seq ?_
        refine CC.region ?_
        refine LL.val (R.field rfl rfl (I.fld rfl)) rfl rfl rfl ?_
        refine LL.val (R.load rfl rfl (I.ld1 rfl (RowL.cell rf27 rfl))) rfl rfl rfl ?_
        refine LL.val (R.assign rfl rfl) rfl rfl rfl ?_
        refine LL.nilS ?_
        refine CC.seq ?_
        refine CC.seq ?_
        refine CC.region ?_
        refine LL.val (R.move rfl rfl) rfl rfl rfl ?_
        (refine LL.call (R.call rfl rfl rfl) rfl rfl rfl (hpre _) ?_; rintro e W' ⟨rfl, rfl⟩; refine ⟨_, rfl, ?_⟩)
        refine LL.nilS ?_
        refine CC.no rfl ?_
        refine CC.region ?_
        refine LL.val (R.move rfl rfl) rfl rfl rfl ?_
        (refine LL.val (R.addS (a := [47]) (b := t) rfl rfl rfl (by simp only [List.length_cons, List.length_nil]; omega)) rfl rfl rfl ?_; rw [show ([47] : Bs) ++ t = L from hL])
        refine LL.val (R.assign rfl rfl) rfl rfl rfl ?_
        refine LL.nilS ?_
        refine CC.seq ?_
        refine CC.region ?_
        refine LL.val (R.move rfl rfl) rfl rfl rfl ?_
        have lf1585 := rf27.lt
        have lf1586 := h.lt
        (refine LL.call (R.call rfl rfl rfl) rfl rfl rfl (wparts_any L _ (by assumption) (by omega)) ?_; rintro e Wf1584 ⟨vp, rfl, op, bf1581⟩; refine ⟨_, rfl, ?_⟩; rw [if_pos hz] at op; rw [hz]; obtain ⟨ap, cp, rfl, hcp⟩ := (op.reads stEnc).form rfl)
        have zbf1581 := bf1581.size
        replace rf27 := rf27.up bf1581
        replace hm := hm.up bf1581
        replace gw := gw.up bf1581
        replace hp := hp.up bf1581
        replace h := h.up bf1581
        refine LL.val (R.move rfl rfl) rfl rfl rfl ?_
        refine LL.val (R.extract rfl rfl rfl) rfl rfl rfl ?_
        refine LL.val (R.extract rfl rfl rfl) rfl rfl rfl ?_
        refine LL.val (R.assign rfl rfl) rfl rfl rfl ?_
        refine LL.val (R.assign rfl rfl) rfl rfl rfl ?_
        refine LL.nilS ?_
        refine CC.seq ?_
        refine CC.seq ?_
        refine CC.region ?_
        refine LL.val (R.move rfl rfl) rfl rfl rfl ?_
        refine LL.val (R.neF rfl rfl rfl (by omega)) rfl rfl rfl ?_
        refine LL.nilS ?_
        refine CC.no rfl ?_
        refine CC.skip ?_
        refine EE.thenN ?_
        refine CC.seq ?_
        refine CC.region ?_
        refine LL.val (R.move rfl rfl) rfl rfl rfl ?_
        refine LL.val (R.move rfl rfl) rfl rfl rfl ?_
        (refine LL.call (R.call rfl rfl rfl) rfl rfl rfl (lead_any g _ (partsL L) ls h (op.reads stEnc) hp (by omega) (by omega)) ?_; rintro e Wf1809 ⟨rfl, ⟨v2, B2, hN, hp2⟩, tf1808⟩; clear h; have h := hN; clear hN op; refine ⟨_, rfl, ?_⟩)
        have ztf1808 := tf1808.size
        replace rf27 := rf27.kept tf1808 ⟨rf27.lt, by omega⟩
        replace hm := hm.kept tf1808 ⟨by omega, by omega⟩
        replace gw := gw.kept tf1808 ⟨by omega, by omega⟩
        replace hp := hp.kept tf1808 ⟨by omega, by omega⟩
        refine LL.nilS ?_
        refine CC.region ?_
        refine LL.val (R.move rfl rfl) rfl rfl rfl ?_
        (refine LL.call (R.call rfl rfl rfl) rfl rfl rfl (on_any g h hp2 (by rw [List.length_append]; omega)) ?_; rintro e Wf1855 ⟨rfl, hW, tf1854⟩; refine ⟨_, rfl, ?_⟩)
        have ztf1854 := tf1854.size
        replace hp2 := hp2.kept tf1854 ⟨by omega, by omega⟩
        replace rf27 := rf27.kept tf1854 ⟨rf27.lt, by omega⟩
        replace hm := hm.kept tf1854 ⟨by omega, by omega⟩
        replace gw := gw.kept tf1854 ⟨by omega, by omega⟩
        replace hp := hp.kept tf1854 ⟨by omega, by omega⟩
        refine LL.nil ?_
        refine EE.end _ rfl rfl ?_
        exact ⟨rfl, hW, gw⟩
      | false =>
        have := he' rfl
        refine X.fn Tryd.func50 rfl (n := 66) rfl rfl ?_
        refine CC.seq ?_
        refine CC.region ?_
        have lg23 := h.lt
        refine LL.box [Value.int IntKind.i64 fi, Value.int IntKind.i64 fk, strV t] rfl rfl rfl rfl rfl ?_
        intro Wg25 gg26 egg26 rg27 zg28 bg24
        replace hm := hm.up bg24
        replace gw := gw.up bg24
        replace hp := hp.up bg24
        replace h := h.up bg24
        refine LL.nilS ?_
        refine CC.seq ?_
        refine CC.seq ?_
        refine CC.region ?_
        refine LL.val (R.move rfl rfl) rfl rfl rfl ?_
        refine LL.val (R.nil rfl rfl) rfl rfl rfl ?_
        refine LL.val (R.field rfl rfl (I.fld rfl)) rfl rfl rfl ?_
        refine LL.val (R.load rfl rfl (I.ld1 rfl (RowL.cell h rfl))) rfl rfl rfl ?_
        refine LL.val (R.len rfl rfl rfl rfl) rfl rfl rfl ?_
        refine LL.val (R.eqF rfl rfl rfl (by omega)) rfl rfl rfl ?_
        refine LL.val (R.move rfl rfl) rfl rfl rfl ?_
        refine LL.skip rfl rfl ?_
        refine LL.skip rfl rfl ?_
        refine LL.skip rfl rfl ?_
        refine LL.skip rfl rfl ?_
        refine LL.skip rfl rfl ?_
        refine LL.val (R.pick rfl rfl rfl) rfl rfl rfl ?_
        refine LL.nilS ?_
        refine CC.no rfl ?_
        refine CC.skip ?_
        refine EE.thenN ?_
        refine CC.seq ?_
        refine CC.region ?_
        refine LL.val (R.move rfl rfl) rfl rfl rfl ?_
        refine LL.val (R.nil rfl rfl) rfl rfl rfl ?_
        refine LL.val (R.field rfl rfl (I.fld rfl)) rfl rfl rfl ?_
        refine LL.val (R.load rfl rfl (I.ld1 rfl (RowL.cell h rfl))) rfl rfl rfl ?_
        refine LL.val (R.addNc rfl rfl rfl rfl (by omega)) rfl rfl rfl ?_
        refine LL.val (R.nil rfl rfl) rfl rfl rfl ?_
        refine LL.val (R.field rfl rfl (I.fld rfl)) rfl rfl rfl ?_
        refine LL.store rfl rfl rfl rfl h (by exact Nat.le_of_ble_eq_true rfl) rfl rfl rfl rfl ?_
        intro Wg398 rg399 bg397 zg400
        have hlbg397 := h.lt
        replace rg399 : RowL Wg398 _ 60 [Value.int IntKind.i64 0, Value.int IntKind.i64 0, strV [], Value.int IntKind.i64 0, Value.int IntKind.i64 0, Value.bool false, Value.int IntKind.i64 dir, Value.slice a n c, Value.int IntKind.i64 ↑(links + 1), Value.bool false, Value.bool true] := rg399
        clear h
        replace rg27 := rg27.gr bg397 (by have := rg27.lt; omega)
        replace hm := hm.gr bg397 (by have := hm.lt; omega)
        replace gw := gw.gr bg397 (by omega)
        replace hp := hp.gr bg397 (by omega)
        have h := rg399
        clear rg399
        refine LL.nilS ?_
        refine CC.seq ?_
        refine CC.seq ?_
        refine CC.region ?_
        refine LL.val (R.move rfl rfl) rfl rfl rfl ?_
        refine LL.val (R.nil rfl rfl) rfl rfl rfl ?_
        refine LL.val (R.field rfl rfl (I.fld rfl)) rfl rfl rfl ?_
        refine LL.val (R.load rfl rfl (I.ld1 rfl (RowL.cell h rfl))) rfl rfl rfl ?_
        refine LL.val (R.gtF rfl rfl rfl (by omega)) rfl rfl rfl ?_
        refine LL.nilS ?_
        refine CC.no rfl ?_
        refine CC.skip ?_
        refine EE.thenN ?_
        refine CC.seq ?_
        refine CC.region ?_
        refine LL.val (R.field rfl rfl (I.fld rfl)) rfl rfl rfl ?_
        refine LL.val (R.load rfl rfl (I.ld1 rfl (RowL.cell rg27 rfl))) rfl rfl rfl ?_
        refine LL.val (R.assign rfl rfl) rfl rfl rfl ?_
        refine LL.nilS ?_
        refine CC.seq ?_
        refine CC.seq ?_
        refine CC.region ?_
        refine LL.val (R.move rfl rfl) rfl rfl rfl ?_
        (refine LL.call (R.call rfl rfl rfl) rfl rfl rfl (hpre _) ?_; rintro e W' ⟨rfl, rfl⟩; refine ⟨_, rfl, ?_⟩)
        refine LL.nilS ?_
        refine CC.no rfl ?_
        refine CC.region ?_
        refine LL.val (R.move rfl rfl) rfl rfl rfl ?_
        (refine LL.val (R.addS (a := [47]) (b := t) rfl rfl rfl (by simp only [List.length_cons, List.length_nil]; omega)) rfl rfl rfl ?_; rw [show ([47] : Bs) ++ t = L from hL])
        refine LL.val (R.assign rfl rfl) rfl rfl rfl ?_
        refine LL.nilS ?_
        refine CC.seq ?_
        refine CC.region ?_
        refine LL.val (R.move rfl rfl) rfl rfl rfl ?_
        have lg681 := rg27.lt
        have lg682 := h.lt
        (refine LL.call (R.call rfl rfl rfl) rfl rfl rfl (wparts_any L _ (by assumption) (by omega)) ?_; rintro e Wg680 ⟨vp, rfl, op, bg677⟩; refine ⟨_, rfl, ?_⟩; rw [if_pos hz] at op; rw [hz]; obtain ⟨ap, cp, rfl, hcp⟩ := (op.reads stEnc).form rfl)
        have zbg677 := bg677.size
        replace rg27 := rg27.up bg677
        replace hm := hm.up bg677
        replace gw := gw.up bg677
        replace hp := hp.up bg677
        replace h := h.up bg677
        refine LL.val (R.move rfl rfl) rfl rfl rfl ?_
        refine LL.val (R.extract rfl rfl rfl) rfl rfl rfl ?_
        refine LL.val (R.extract rfl rfl rfl) rfl rfl rfl ?_
        refine LL.val (R.assign rfl rfl) rfl rfl rfl ?_
        refine LL.val (R.assign rfl rfl) rfl rfl rfl ?_
        refine LL.nilS ?_
        refine CC.seq ?_
        refine CC.seq ?_
        refine CC.region ?_
        refine LL.val (R.move rfl rfl) rfl rfl rfl ?_
        refine LL.val (R.neF rfl rfl rfl (by omega)) rfl rfl rfl ?_
        refine LL.nilS ?_
        refine CC.no rfl ?_
        refine CC.skip ?_
        refine EE.thenN ?_
        refine CC.seq ?_
        refine CC.region ?_
        refine LL.val (R.move rfl rfl) rfl rfl rfl ?_
        refine LL.val (R.move rfl rfl) rfl rfl rfl ?_
        (refine LL.call (R.call rfl rfl rfl) rfl rfl rfl (lead_any g _ (partsL L) ls h (op.reads stEnc) hp (by omega) (by omega)) ?_; rintro e Wg905 ⟨rfl, ⟨v2, B2, hN, hp2⟩, tg904⟩; clear h; have h := hN; clear hN op; refine ⟨_, rfl, ?_⟩)
        have ztg904 := tg904.size
        replace rg27 := rg27.kept tg904 ⟨rg27.lt, by omega⟩
        replace hm := hm.kept tg904 ⟨by omega, by omega⟩
        replace gw := gw.kept tg904 ⟨by omega, by omega⟩
        replace hp := hp.kept tg904 ⟨by omega, by omega⟩
        refine LL.nilS ?_
        refine CC.region ?_
        refine LL.val (R.move rfl rfl) rfl rfl rfl ?_
        (refine LL.call (R.call rfl rfl rfl) rfl rfl rfl (on_any g h hp2 (by rw [List.length_append]; omega)) ?_; rintro e Wg951 ⟨rfl, hW, tg950⟩; refine ⟨_, rfl, ?_⟩)
        have ztg950 := tg950.size
        replace hp2 := hp2.kept tg950 ⟨by omega, by omega⟩
        replace rg27 := rg27.kept tg950 ⟨rg27.lt, by omega⟩
        replace hm := hm.kept tg950 ⟨by omega, by omega⟩
        replace gw := gw.kept tg950 ⟨by omega, by omega⟩
        replace hp := hp.kept tg950 ⟨by omega, by omega⟩
        refine LL.nil ?_
        refine EE.end _ rfl rfl ?_
        exact ⟨rfl, hW, gw⟩
    · rw [if_neg hz]
      obtain ⟨e0, he0⟩ : ∃ e0, pathN L = e0 := ⟨_, rfl⟩
      have hz' : (e0 : Int) ≠ 0 := by rw [← he0]; omega
      have hpre := fun X => prefix_any t X
      rw [decide_eq_false hh] at hpre
      cases fol with
      | true =>
        refine X.fn Tryd.func50 rfl (n := 66) rfl rfl ?_
        refine CC.seq ?_
        refine CC.region ?_
        have lh16 := h.lt
        refine LL.box [Value.int IntKind.i64 fi, Value.int IntKind.i64 fk, strV t] rfl rfl rfl rfl rfl ?_
        intro Wh18 gh19 egh19 rh20 zh21 bh17
        replace hm := hm.up bh17
        replace gw := gw.up bh17
        replace hp := hp.up bh17
        replace h := h.up bh17
        refine LL.nilS ?_
        refine CC.seq ?_
        refine CC.seq ?_
        refine CC.region ?_
        refine LL.val (R.move rfl rfl) rfl rfl rfl ?_
        refine LL.val (R.nil rfl rfl) rfl rfl rfl ?_
        refine LL.val (R.field rfl rfl (I.fld rfl)) rfl rfl rfl ?_
        refine LL.val (R.load rfl rfl (I.ld1 rfl (RowL.cell h rfl))) rfl rfl rfl ?_
        refine LL.val (R.len rfl rfl rfl rfl) rfl rfl rfl ?_
        refine LL.vsplit (fun h => R.eqT rfl rfl rfl h) (fun h => R.eqF rfl rfl rfl h) rfl rfl rfl (fun ch118 => ?_) (fun ch118 => ?_)
        refine LL.val (R.move rfl rfl) rfl rfl rfl ?_
        refine LL.val (R.move rfl rfl) rfl rfl rfl ?_
        refine LL.val (R.nil rfl rfl) rfl rfl rfl ?_
        refine LL.val (R.field rfl rfl (I.fld rfl)) rfl rfl rfl ?_
        refine LL.val (R.load rfl rfl (I.ld1 rfl (RowL.cell h rfl))) rfl rfl rfl ?_
        refine LL.val (R.not rfl rfl) rfl rfl rfl ?_
        refine LL.val (R.pick rfl rfl rfl) rfl rfl rfl ?_
        refine LL.nilS ?_
        refine CC.no rfl ?_
        refine CC.skip ?_
        refine EE.thenN ?_
        refine CC.seq ?_
        refine CC.region ?_
        refine LL.val (R.move rfl rfl) rfl rfl rfl ?_
        refine LL.val (R.nil rfl rfl) rfl rfl rfl ?_
        refine LL.val (R.field rfl rfl (I.fld rfl)) rfl rfl rfl ?_
        refine LL.val (R.load rfl rfl (I.ld1 rfl (RowL.cell h rfl))) rfl rfl rfl ?_
        refine LL.val (R.addNc rfl rfl rfl rfl (by omega)) rfl rfl rfl ?_
        refine LL.val (R.nil rfl rfl) rfl rfl rfl ?_
        refine LL.val (R.field rfl rfl (I.fld rfl)) rfl rfl rfl ?_
        refine LL.store rfl rfl rfl rfl h (by exact Nat.le_of_ble_eq_true rfl) rfl rfl rfl rfl ?_
        intro Wh360 rh361 bh359 zh362
        have hlbh359 := h.lt
        replace rh361 : RowL Wh360 _ 60 [Value.int IntKind.i64 0, Value.int IntKind.i64 0, strV [], Value.int IntKind.i64 0, Value.int IntKind.i64 0, Value.bool false, Value.int IntKind.i64 dir, Value.slice a n c, Value.int IntKind.i64 ↑(links + 1), Value.bool true, Value.bool true] := rh361
        clear h
        replace rh20 := rh20.gr bh359 (by have := rh20.lt; omega)
        replace hm := hm.gr bh359 (by have := hm.lt; omega)
        replace gw := gw.gr bh359 (by omega)
        replace hp := hp.gr bh359 (by omega)
        have h := rh361
        clear rh361
        refine LL.nilS ?_
        refine CC.seq ?_
        refine CC.seq ?_
        refine CC.region ?_
        refine LL.val (R.move rfl rfl) rfl rfl rfl ?_
        refine LL.val (R.nil rfl rfl) rfl rfl rfl ?_
        refine LL.val (R.field rfl rfl (I.fld rfl)) rfl rfl rfl ?_
        refine LL.val (R.load rfl rfl (I.ld1 rfl (RowL.cell h rfl))) rfl rfl rfl ?_
        refine LL.val (R.gtF rfl rfl rfl (by omega)) rfl rfl rfl ?_
        refine LL.nilS ?_
        refine CC.no rfl ?_
        refine CC.skip ?_
        refine EE.thenN ?_
        refine CC.seq ?_
        refine CC.region ?_
        refine LL.val (R.field rfl rfl (I.fld rfl)) rfl rfl rfl ?_
        refine LL.val (R.load rfl rfl (I.ld1 rfl (RowL.cell rh20 rfl))) rfl rfl rfl ?_
        refine LL.val (R.assign rfl rfl) rfl rfl rfl ?_
        refine LL.nilS ?_
        refine CC.seq ?_
        refine CC.seq ?_
        refine CC.region ?_
        refine LL.val (R.move rfl rfl) rfl rfl rfl ?_
        (refine LL.call (R.call rfl rfl rfl) rfl rfl rfl (hpre _) ?_; rintro e W' ⟨rfl, rfl⟩; refine ⟨_, rfl, ?_⟩)
        refine LL.nilS ?_
        refine CC.no rfl ?_
        refine CC.region ?_
        refine LL.val (R.move rfl rfl) rfl rfl rfl ?_
        (refine LL.val (R.addS (a := [47]) (b := t) rfl rfl rfl (by simp only [List.length_cons, List.length_nil]; omega)) rfl rfl rfl ?_; rw [show ([47] : Bs) ++ t = L from hL])
        refine LL.val (R.assign rfl rfl) rfl rfl rfl ?_
        refine LL.nilS ?_
        refine CC.seq ?_
        refine CC.region ?_
        refine LL.val (R.move rfl rfl) rfl rfl rfl ?_
        have lh559 := rh20.lt
        have lh560 := h.lt
        (refine LL.call (R.call rfl rfl rfl) rfl rfl rfl (wparts_any L _ (by assumption) (by omega)) ?_; rintro e Wh558 ⟨vp, rfl, op, bh555⟩; refine ⟨_, rfl, ?_⟩; rw [if_neg hz] at op; rw [he0]; obtain ⟨ap, cp, rfl, hcp⟩ := (op.reads stEnc).form rfl)
        have zbh555 := bh555.size
        replace rh20 := rh20.up bh555
        replace hm := hm.up bh555
        replace gw := gw.up bh555
        replace hp := hp.up bh555
        replace h := h.up bh555
        refine LL.val (R.move rfl rfl) rfl rfl rfl ?_
        refine LL.val (R.extract rfl rfl rfl) rfl rfl rfl ?_
        refine LL.val (R.extract rfl rfl rfl) rfl rfl rfl ?_
        refine LL.val (R.assign rfl rfl) rfl rfl rfl ?_
        refine LL.val (R.assign rfl rfl) rfl rfl rfl ?_
        refine LL.nilS ?_
        refine CC.seq ?_
        refine CC.seq ?_
        refine CC.region ?_
        refine LL.val (R.move rfl rfl) rfl rfl rfl ?_
        refine LL.val (R.neT rfl rfl rfl (by omega)) rfl rfl rfl ?_
        refine LL.nilS ?_
        refine CC.yes rfl ?_
        refine CC.seq ?_
        refine CC.region ?_
        refine LL.val (R.move rfl rfl) rfl rfl rfl ?_
        refine LL.val (R.move rfl rfl) rfl rfl rfl ?_
        refine LL.val (R.buildV rfl rfl (v := .agg #[Value.int IntKind.i64 ↑e0, Value.int IntKind.i64 0, Value.string { data := #[] }, Value.int IntKind.i64 0, Value.int IntKind.i64 0]) (fun _ => by kernel_rfl)) rfl rfl rfl ?_
        (refine LL.call (R.call rfl rfl rfl) rfl rfl rfl (end_any g (e0, 0, [], 0, 0) h) ?_; rintro e Wh736 ⟨rfl, hN, th735⟩; clear h; have h := hN; clear hN; refine ⟨_, rfl, ?_⟩)
        have zth735 := th735.size
        replace rh20 := rh20.kept th735 ⟨rh20.lt, by omega⟩
        replace hm := hm.kept th735 ⟨by omega, by omega⟩
        replace gw := gw.kept th735 ⟨by omega, by omega⟩
        replace hp := hp.kept th735 ⟨by omega, by omega⟩
        refine LL.nilS ?_
        refine CC.ret ?_
        refine EE.thenR ?_
        refine EE.ret _ rfl rfl ?_
        exact ⟨rfl, WkAt.fin h hp (by omega) _ _ _ rfl, gw⟩
        refine LL.val (R.move rfl rfl) rfl rfl rfl ?_
        refine LL.skip rfl rfl ?_
        refine LL.skip rfl rfl ?_
        refine LL.skip rfl rfl ?_
        refine LL.skip rfl rfl ?_
        refine LL.skip rfl rfl ?_
        refine LL.val (R.pick rfl rfl rfl) rfl rfl rfl ?_
        refine LL.nilS ?_
        refine CC.no rfl ?_
        refine CC.skip ?_
        refine EE.thenN ?_
        refine CC.seq ?_
        refine CC.region ?_
        refine LL.val (R.move rfl rfl) rfl rfl rfl ?_
        refine LL.val (R.nil rfl rfl) rfl rfl rfl ?_
        refine LL.val (R.field rfl rfl (I.fld rfl)) rfl rfl rfl ?_
        refine LL.val (R.load rfl rfl (I.ld1 rfl (RowL.cell h rfl))) rfl rfl rfl ?_
        refine LL.val (R.addNc rfl rfl rfl rfl (by omega)) rfl rfl rfl ?_
        refine LL.val (R.nil rfl rfl) rfl rfl rfl ?_
        refine LL.val (R.field rfl rfl (I.fld rfl)) rfl rfl rfl ?_
        refine LL.store rfl rfl rfl rfl h (by exact Nat.le_of_ble_eq_true rfl) rfl rfl rfl rfl ?_
        intro Wh901 rh902 bh900 zh903
        have hlbh900 := h.lt
        replace rh902 : RowL Wh901 _ 60 [Value.int IntKind.i64 0, Value.int IntKind.i64 0, strV [], Value.int IntKind.i64 0, Value.int IntKind.i64 0, Value.bool false, Value.int IntKind.i64 dir, Value.slice a n c, Value.int IntKind.i64 ↑(links + 1), Value.bool true, Value.bool true] := rh902
        clear h
        replace rh20 := rh20.gr bh900 (by have := rh20.lt; omega)
        replace hm := hm.gr bh900 (by have := hm.lt; omega)
        replace gw := gw.gr bh900 (by omega)
        replace hp := hp.gr bh900 (by omega)
        have h := rh902
        clear rh902
        refine LL.nilS ?_
        refine CC.seq ?_
        refine CC.seq ?_
        refine CC.region ?_
        refine LL.val (R.move rfl rfl) rfl rfl rfl ?_
        refine LL.val (R.nil rfl rfl) rfl rfl rfl ?_
        refine LL.val (R.field rfl rfl (I.fld rfl)) rfl rfl rfl ?_
        refine LL.val (R.load rfl rfl (I.ld1 rfl (RowL.cell h rfl))) rfl rfl rfl ?_
        refine LL.val (R.gtF rfl rfl rfl (by omega)) rfl rfl rfl ?_
        refine LL.nilS ?_
        refine CC.no rfl ?_
        refine CC.skip ?_
        refine EE.thenN ?_
        refine CC.seq ?_
        refine CC.region ?_
        refine LL.val (R.field rfl rfl (I.fld rfl)) rfl rfl rfl ?_
        refine LL.val (R.load rfl rfl (I.ld1 rfl (RowL.cell rh20 rfl))) rfl rfl rfl ?_
        refine LL.val (R.assign rfl rfl) rfl rfl rfl ?_
        refine LL.nilS ?_
        refine CC.seq ?_
        refine CC.seq ?_
        refine CC.region ?_
        refine LL.val (R.move rfl rfl) rfl rfl rfl ?_
        (refine LL.call (R.call rfl rfl rfl) rfl rfl rfl (hpre _) ?_; rintro e W' ⟨rfl, rfl⟩; refine ⟨_, rfl, ?_⟩)
        refine LL.nilS ?_
        refine CC.no rfl ?_
        refine CC.region ?_
        refine LL.val (R.move rfl rfl) rfl rfl rfl ?_
        (refine LL.val (R.addS (a := [47]) (b := t) rfl rfl rfl (by simp only [List.length_cons, List.length_nil]; omega)) rfl rfl rfl ?_; rw [show ([47] : Bs) ++ t = L from hL])
        refine LL.val (R.assign rfl rfl) rfl rfl rfl ?_
        refine LL.nilS ?_
        refine CC.seq ?_
        refine CC.region ?_
        refine LL.val (R.move rfl rfl) rfl rfl rfl ?_
        have lh1100 := rh20.lt
        have lh1101 := h.lt
        (refine LL.call (R.call rfl rfl rfl) rfl rfl rfl (wparts_any L _ (by assumption) (by omega)) ?_; rintro e Wh1099 ⟨vp, rfl, op, bh1096⟩; refine ⟨_, rfl, ?_⟩; rw [if_neg hz] at op; rw [he0]; obtain ⟨ap, cp, rfl, hcp⟩ := (op.reads stEnc).form rfl)
        have zbh1096 := bh1096.size
        replace rh20 := rh20.up bh1096
        replace hm := hm.up bh1096
        replace gw := gw.up bh1096
        replace hp := hp.up bh1096
        replace h := h.up bh1096
        refine LL.val (R.move rfl rfl) rfl rfl rfl ?_
        refine LL.val (R.extract rfl rfl rfl) rfl rfl rfl ?_
        refine LL.val (R.extract rfl rfl rfl) rfl rfl rfl ?_
        refine LL.val (R.assign rfl rfl) rfl rfl rfl ?_
        refine LL.val (R.assign rfl rfl) rfl rfl rfl ?_
        refine LL.nilS ?_
        refine CC.seq ?_
        refine CC.seq ?_
        refine CC.region ?_
        refine LL.val (R.move rfl rfl) rfl rfl rfl ?_
        refine LL.val (R.neT rfl rfl rfl (by omega)) rfl rfl rfl ?_
        refine LL.nilS ?_
        refine CC.yes rfl ?_
        refine CC.seq ?_
        refine CC.region ?_
        refine LL.val (R.move rfl rfl) rfl rfl rfl ?_
        refine LL.val (R.move rfl rfl) rfl rfl rfl ?_
        refine LL.val (R.buildV rfl rfl (v := .agg #[Value.int IntKind.i64 ↑e0, Value.int IntKind.i64 0, Value.string { data := #[] }, Value.int IntKind.i64 0, Value.int IntKind.i64 0]) (fun _ => by kernel_rfl)) rfl rfl rfl ?_
        (refine LL.call (R.call rfl rfl rfl) rfl rfl rfl (end_any g (e0, 0, [], 0, 0) h) ?_; rintro e Wh1277 ⟨rfl, hN, th1276⟩; clear h; have h := hN; clear hN; refine ⟨_, rfl, ?_⟩)
        have zth1276 := th1276.size
        replace rh20 := rh20.kept th1276 ⟨rh20.lt, by omega⟩
        replace hm := hm.kept th1276 ⟨by omega, by omega⟩
        replace gw := gw.kept th1276 ⟨by omega, by omega⟩
        replace hp := hp.kept th1276 ⟨by omega, by omega⟩
        refine LL.nilS ?_
        refine CC.ret ?_
        refine EE.thenR ?_
        refine EE.ret _ rfl rfl ?_
        exact ⟨rfl, WkAt.fin h hp (by omega) _ _ _ rfl, gw⟩
      | false =>
        have := he' rfl
        refine X.fn Tryd.func50 rfl (n := 66) rfl rfl ?_
        refine CC.seq ?_
        refine CC.region ?_
        have li16 := h.lt
        refine LL.box [Value.int IntKind.i64 fi, Value.int IntKind.i64 fk, strV t] rfl rfl rfl rfl rfl ?_
        intro Wi18 gi19 egi19 ri20 zi21 bi17
        replace hm := hm.up bi17
        replace gw := gw.up bi17
        replace hp := hp.up bi17
        replace h := h.up bi17
        refine LL.nilS ?_
        refine CC.seq ?_
        refine CC.seq ?_
        refine CC.region ?_
        refine LL.val (R.move rfl rfl) rfl rfl rfl ?_
        refine LL.val (R.nil rfl rfl) rfl rfl rfl ?_
        refine LL.val (R.field rfl rfl (I.fld rfl)) rfl rfl rfl ?_
        refine LL.val (R.load rfl rfl (I.ld1 rfl (RowL.cell h rfl))) rfl rfl rfl ?_
        refine LL.val (R.len rfl rfl rfl rfl) rfl rfl rfl ?_
        refine LL.val (R.eqF rfl rfl rfl (by omega)) rfl rfl rfl ?_
        refine LL.val (R.move rfl rfl) rfl rfl rfl ?_
        refine LL.skip rfl rfl ?_
        refine LL.skip rfl rfl ?_
        refine LL.skip rfl rfl ?_
        refine LL.skip rfl rfl ?_
        refine LL.skip rfl rfl ?_
        refine LL.val (R.pick rfl rfl rfl) rfl rfl rfl ?_
        refine LL.nilS ?_
        refine CC.no rfl ?_
        refine CC.skip ?_
        refine EE.thenN ?_
        refine CC.seq ?_
        refine CC.region ?_
        refine LL.val (R.move rfl rfl) rfl rfl rfl ?_
        refine LL.val (R.nil rfl rfl) rfl rfl rfl ?_
        refine LL.val (R.field rfl rfl (I.fld rfl)) rfl rfl rfl ?_
        refine LL.val (R.load rfl rfl (I.ld1 rfl (RowL.cell h rfl))) rfl rfl rfl ?_
        refine LL.val (R.addNc rfl rfl rfl rfl (by omega)) rfl rfl rfl ?_
        refine LL.val (R.nil rfl rfl) rfl rfl rfl ?_
        refine LL.val (R.field rfl rfl (I.fld rfl)) rfl rfl rfl ?_
        refine LL.store rfl rfl rfl rfl h (by exact Nat.le_of_ble_eq_true rfl) rfl rfl rfl rfl ?_
        intro Wi279 ri280 bi278 zi281
        have hlbi278 := h.lt
        replace ri280 : RowL Wi279 _ 60 [Value.int IntKind.i64 0, Value.int IntKind.i64 0, strV [], Value.int IntKind.i64 0, Value.int IntKind.i64 0, Value.bool false, Value.int IntKind.i64 dir, Value.slice a n c, Value.int IntKind.i64 ↑(links + 1), Value.bool false, Value.bool true] := ri280
        clear h
        replace ri20 := ri20.gr bi278 (by have := ri20.lt; omega)
        replace hm := hm.gr bi278 (by have := hm.lt; omega)
        replace gw := gw.gr bi278 (by omega)
        replace hp := hp.gr bi278 (by omega)
        have h := ri280
        clear ri280
        refine LL.nilS ?_
        refine CC.seq ?_
        refine CC.seq ?_
        refine CC.region ?_
        refine LL.val (R.move rfl rfl) rfl rfl rfl ?_
        refine LL.val (R.nil rfl rfl) rfl rfl rfl ?_
        refine LL.val (R.field rfl rfl (I.fld rfl)) rfl rfl rfl ?_
        refine LL.val (R.load rfl rfl (I.ld1 rfl (RowL.cell h rfl))) rfl rfl rfl ?_
        refine LL.val (R.gtF rfl rfl rfl (by omega)) rfl rfl rfl ?_
        refine LL.nilS ?_
        refine CC.no rfl ?_
        refine CC.skip ?_
        refine EE.thenN ?_
        refine CC.seq ?_
        refine CC.region ?_
        refine LL.val (R.field rfl rfl (I.fld rfl)) rfl rfl rfl ?_
        refine LL.val (R.load rfl rfl (I.ld1 rfl (RowL.cell ri20 rfl))) rfl rfl rfl ?_
        refine LL.val (R.assign rfl rfl) rfl rfl rfl ?_
        refine LL.nilS ?_
        refine CC.seq ?_
        refine CC.seq ?_
        refine CC.region ?_
        refine LL.val (R.move rfl rfl) rfl rfl rfl ?_
        (refine LL.call (R.call rfl rfl rfl) rfl rfl rfl (hpre _) ?_; rintro e W' ⟨rfl, rfl⟩; refine ⟨_, rfl, ?_⟩)
        refine LL.nilS ?_
        refine CC.no rfl ?_
        refine CC.region ?_
        refine LL.val (R.move rfl rfl) rfl rfl rfl ?_
        (refine LL.val (R.addS (a := [47]) (b := t) rfl rfl rfl (by simp only [List.length_cons, List.length_nil]; omega)) rfl rfl rfl ?_; rw [show ([47] : Bs) ++ t = L from hL])
        refine LL.val (R.assign rfl rfl) rfl rfl rfl ?_
        refine LL.nilS ?_
        refine CC.seq ?_
        refine CC.region ?_
        refine LL.val (R.move rfl rfl) rfl rfl rfl ?_
        have li478 := ri20.lt
        have li479 := h.lt
        (refine LL.call (R.call rfl rfl rfl) rfl rfl rfl (wparts_any L _ (by assumption) (by omega)) ?_; rintro e Wi477 ⟨vp, rfl, op, bi474⟩; refine ⟨_, rfl, ?_⟩; rw [if_neg hz] at op; rw [he0]; obtain ⟨ap, cp, rfl, hcp⟩ := (op.reads stEnc).form rfl)
        have zbi474 := bi474.size
        replace ri20 := ri20.up bi474
        replace hm := hm.up bi474
        replace gw := gw.up bi474
        replace hp := hp.up bi474
        replace h := h.up bi474
        refine LL.val (R.move rfl rfl) rfl rfl rfl ?_
        refine LL.val (R.extract rfl rfl rfl) rfl rfl rfl ?_
        refine LL.val (R.extract rfl rfl rfl) rfl rfl rfl ?_
        refine LL.val (R.assign rfl rfl) rfl rfl rfl ?_
        refine LL.val (R.assign rfl rfl) rfl rfl rfl ?_
        refine LL.nilS ?_
        refine CC.seq ?_
        refine CC.seq ?_
        refine CC.region ?_
        refine LL.val (R.move rfl rfl) rfl rfl rfl ?_
        refine LL.val (R.neT rfl rfl rfl (by omega)) rfl rfl rfl ?_
        refine LL.nilS ?_
        refine CC.yes rfl ?_
        refine CC.seq ?_
        refine CC.region ?_
        refine LL.val (R.move rfl rfl) rfl rfl rfl ?_
        refine LL.val (R.move rfl rfl) rfl rfl rfl ?_
        refine LL.val (R.buildV rfl rfl (v := .agg #[Value.int IntKind.i64 ↑e0, Value.int IntKind.i64 0, Value.string { data := #[] }, Value.int IntKind.i64 0, Value.int IntKind.i64 0]) (fun _ => by kernel_rfl)) rfl rfl rfl ?_
        (refine LL.call (R.call rfl rfl rfl) rfl rfl rfl (end_any g (e0, 0, [], 0, 0) h) ?_; rintro e Wi655 ⟨rfl, hN, ti654⟩; clear h; have h := hN; clear hN; refine ⟨_, rfl, ?_⟩)
        have zti654 := ti654.size
        replace ri20 := ri20.kept ti654 ⟨ri20.lt, by omega⟩
        replace hm := hm.kept ti654 ⟨by omega, by omega⟩
        replace gw := gw.kept ti654 ⟨by omega, by omega⟩
        replace hp := hp.kept ti654 ⟨by omega, by omega⟩
        refine LL.nilS ?_
        refine CC.ret ?_
        refine EE.thenR ?_
        refine EE.ret _ rfl rfl ?_
        exact ⟨rfl, WkAt.fin h hp (by omega) _ _ _ rfl, gw⟩
end
end Go.Proofs.YtbbddpnjglijdaaDoor
/- walk: doing, Give, Miss (written by genwk6.py). -/
namespace Go.Proofs.YtbbddpnjglijdaaDoor
set_option linter.unusedVariables false
set_option linter.unusedSimpArgs false
open Go.RowKit Go.Shelf
set_option maxRecDepth 100000
set_option maxHeartbeats 8000000
theorem zKeys : KeyE Tryd.prog 29 (.int .i64) (fun z : Int => .int .i64 z) := ⟨by kernel_rfl, fun _ => rfl, fun a b h => by
  simp only [Value.int.injEq, true_and] at h
  exact h⟩
def fK (f : Nat) : Value := .func (.func f) #[] #[]
def doF : Int → Option Nat := putMap (putMap (fun _ => none) 3 (some 50)) 2 (some 51)
theorem doing_any (w : World) : Calls Tryd.prog 40 #[] w fun e w' => ∃ m n, e = .returned (.map (some m)) ∧ MapK (.int .i64) (fun z : Int => .int .i64 z) fK w' m n doF ∧ Below w.heap.size w w' := by
  have q := Below.refl w.heap.size w
  refine X.fn Tryd.func40 rfl (n := 3) rfl rfl ?_
  refine CC.seq ?_
  refine CC.region ?_
  refine LL.val (R.assign rfl rfl) rfl rfl rfl ?_
  refine LL.nilS ?_
  refine CC.seq ?_
  refine CC.region ?_
  (refine LL.makeMap (R.makeMap0 rfl) rfl rfl rfl ?_; intro W25 qb eqb mk zqb b22; replace mk := mk Int Nat (.int .i64) (fun z : Int => .int .i64 z) fK)
  have zb22 := b22.size
  replace q := q.trans (b22.mono q.size)
  (refine LL.mput (.inr rfl) rfl zKeys rfl mk (3 : Int) 50 rfl rfl rfl rfl rfl ?_; intro W39 mq gr37 zz5; replace mk := mq; clear mq)
  have zgr37 := gr37.size
  replace b22 := b22.grown gr37 b22.size (by rintro k ⟨⟩; omega)
  replace q := q.grown gr37 q.size (by rintro k ⟨⟩; omega)
  (refine LL.mput (.inr rfl) rfl zKeys rfl mk (2 : Int) 51 rfl rfl rfl rfl rfl ?_; intro W60 mq gr58 zz5; replace mk := mq; clear mq)
  have zgr58 := gr58.size
  replace b22 := b22.grown gr58 b22.size (by rintro k ⟨⟩; omega)
  replace q := q.grown gr58 q.size (by rintro k ⟨⟩; omega)
  refine LL.val (R.move rfl rfl) rfl rfl rfl ?_
  refine LL.val (R.assign rfl rfl) rfl rfl rfl ?_
  refine LL.nilS ?_
  refine CC.ret ?_
  refine EE.ret _ rfl rfl ?_
  exact ⟨_, _, rfl, mk, q⟩
theorem PsAt.head {w : World} {B g n c : Nat} {a : Option Addr} {p : Bs} {r : List Bs} (h : PsAt w B g (.slice a n c) (p :: r)) : ∃ b off, a = some ⟨b, off, none⟩ ∧ b < B ∧ b ≠ g ∧ ∀ X, PsAt X B g (.slice a n c) (p :: r) → X.cell? ⟨b, off + 0, none⟩ = some (strV p) := by
  obtain ⟨b, off, rfl, hb, cs⟩ := h.r.one stEnc (i := 0) (t := p) rfl
  have hn : 0 < n := by
    obtain ⟨a', c', e, _⟩ := h.r.form rfl
    cases e
    exact Nat.succ_pos _
  have := h.ne _ _ _ rfl hn
  refine ⟨b, off, rfl, this.1, this.2, fun X hX => ?_⟩
  obtain ⟨_, _, e, _, cs⟩ := hX.r.one stEnc (i := 0) (t := p) rfl
  cases e
  exact cs _ rfl
section
variable (g : Nat) {fol : Bool} {dir : Int} {links : Nat} {lv : Value} {p : Bs} {r : List Bs} {w : World} {B : Nat}
theorem miss_run (h : RowL w g 60 (wkL wdZ false dir lv links fol true)) (hp : PsAt w B g lv (p :: r)) (hl : r.length ≤ 50000) : Calls Tryd.prog 13 #[.pointer (some ⟨g, 0, none⟩)] w fun e w' => e = .returned (.int .i64 0) ∧ WkAt w' g (Wk.miss ⟨dir, p :: r, links, fol, none⟩) ∧ Kept (fun j => j < w.heap.size ∧ j ≠ g) w w' := by
  have gw := Gw.refl g w
  have hB := hp.hB
  have hg := h.lt
  obtain ⟨a, c, rfl⟩ := hp.len
  obtain ⟨n, hn⟩ : ∃ n, (p :: r).length = n := ⟨_, rfl⟩
  rw [hn] at h hp
  have hn1 : 0 < n := by rw [← hn]; exact Nat.succ_pos _
  have hrn : r.length = n - 1 := by rw [← hn]; rfl
  obtain ⟨b, off, rfl, hbB, hbg, hc0⟩ := hp.head
  cases r with
  | nil =>
    obtain rfl : 1 = n := hn
    refine X.fn Tryd.func13 rfl (n := 32) rfl rfl ?_
    refine CC.seq ?_
    refine CC.region ?_
    refine LL.val (R.assign rfl rfl) rfl rfl rfl ?_
    refine LL.nilS ?_
    refine CC.seq ?_
    refine CC.seq ?_
    refine CC.region ?_
    refine LL.val (R.move rfl rfl) rfl rfl rfl ?_
    (refine LL.call (R.call rfl rfl rfl) rfl rfl rfl (answered_run g (by assumption)) ?_; rintro e W' ⟨rfl, rfl⟩; refine ⟨_, rfl, ?_⟩)
    refine LL.val (R.assign rfl rfl) rfl rfl rfl ?_
    refine LL.nilS ?_
    refine CC.seq ?_
    refine CC.region ?_
    refine LL.val (R.move rfl rfl) rfl rfl rfl ?_
    refine LL.val (R.neF rfl rfl rfl (by omega)) rfl rfl rfl ?_
    refine LL.nilS ?_
    refine CC.no rfl ?_
    refine CC.skip ?_
    refine EE.thenN ?_
    refine CC.seq ?_
    refine CC.region ?_
    refine LL.val (R.buildV rfl rfl (v := .agg #[Value.int IntKind.i64 270, Value.int IntKind.i64 0, Value.string { data := #[] }, Value.int IntKind.i64 0, Value.int IntKind.i64 0]) (fun _ => by kernel_rfl)) rfl rfl rfl ?_
    have l50 := h.lt
    refine LL.alloc ([Value.int IntKind.i64 0, Value.int IntKind.i64 0, Value.string { data := { toList := [] } }, Value.int IntKind.i64 0, Value.int IntKind.i64 0]) rfl rfl rfl rfl rfl ?_
    intro W52 g53 eg53 r54 z55 b51
    replace gw := gw.up b51
    replace h := h.up b51
    replace hp := hp.up b51
    refine LL.storeN (vs := [Value.int IntKind.i64 270, Value.int IntKind.i64 0, Value.string { data := #[] }, Value.int IntKind.i64 0, Value.int IntKind.i64 0]) rfl rfl rfl rfl r54 (by exact Nat.le_of_ble_eq_true rfl) (ones_of rfl) rfl rfl ?_
    intro W64 r65 b63 z66
    have hlb63 := r54.lt
    replace r65 : RowL W64 _ 31 [Value.int IntKind.i64 270, Value.int IntKind.i64 0, Value.string { data := #[] }, Value.int IntKind.i64 0, Value.int IntKind.i64 0] := r65
    clear r54
    replace b51 := b51.grown b63 b51.size (by rintro k ⟨⟩; omega)
    replace gw := gw.gr b63 (by omega)
    replace h := h.gr b63 (by have := h.lt; omega)
    replace hp := hp.gr b63 (by omega)
    have r54 := r65
    clear r65
    refine LL.nilS ?_
    refine CC.seq ?_
    refine CC.seq ?_
    refine CC.region ?_
    refine LL.val (R.move rfl rfl) rfl rfl rfl ?_
    refine LL.val (R.nil rfl rfl) rfl rfl rfl ?_
    refine LL.val (R.field rfl rfl (I.fld rfl)) rfl rfl rfl ?_
    refine LL.val (R.load rfl rfl (I.ld1 rfl (RowL.cell h rfl))) rfl rfl rfl ?_
    refine LL.val (R.len rfl rfl rfl rfl) rfl rfl rfl ?_
    refine LL.val (R.eqT rfl rfl rfl (by omega)) rfl rfl rfl ?_
    refine LL.nilS ?_
    refine CC.yes rfl ?_
    refine CC.freeZ (fun W_ j => j < W_.heap.size ∧ (j ≠ g53)) (by kernel_rfl) (by kernel_rfl) (fun W110 b109 z111 => ?_)
    replace b51 := b51.trans (b109.mono b51.size)
    replace gw := gw.up b109
    replace h := h.up b109
    replace hp := hp.up b109
    replace r54 := r54.up b109
    have hok : Kept (fun j => j < W110.heap.size ∧ (j ≠ g53)) W110 W110 := Kept.refl _ _
    have fzh := fzRow (K := fun j => j < W110.heap.size ∧ (j ≠ g53)) h ⟨h.lt, (by first | trivial | omega)⟩
    refine AA.pure 0 rfl hok (by kernel_rfl) (fun w' b' => R.move rfl rfl) rfl rfl ?_
    refine AA.pure 1 rfl hok (by kernel_rfl) (fun w' b' => R.nil rfl rfl) rfl rfl ?_
    refine AA.pure 2 rfl hok (by kernel_rfl) (fun w' b' => R.field rfl rfl (I.fld rfl)) rfl rfl ?_
    refine AA.pure 3 rfl hok (by kernel_rfl) (fun w' b' => R.load rfl rfl (I.ld1 rfl (RowL.cell (fzh w' b') rfl))) rfl rfl ?_
    refine AA.pure 4 rfl hok (by kernel_rfl) (fun w' b' => R.move rfl rfl) rfl rfl ?_
    refine AA.pure 5 rfl hok (by kernel_rfl) (fun w' b' => R.nil rfl rfl) rfl rfl ?_
    refine AA.pure 6 rfl hok (by kernel_rfl) (fun w' b' => R.field rfl rfl (I.fld rfl)) rfl rfl ?_
    refine AA.pure 7 rfl hok (by kernel_rfl) (fun w' b' => R.load rfl rfl (I.ld1 rfl (RowL.cell (fzh w' b') rfl))) rfl rfl ?_
    refine AA.pure 8 rfl hok (by kernel_rfl) (fun w' b' => R.index rfl rfl rfl (I.ixS1c rfl rfl (by omega))) rfl rfl ?_
    refine AA.pure 9 rfl hok (by kernel_rfl) (fun w' b' => R.load rfl rfl (I.ld1 rfl (hc0 _ (hp.keepG b' fun j h1 h2 => ⟨by omega, by omega⟩)))) rfl rfl ?_
    refine AA.pure 10 rfl hok (by kernel_rfl) (fun w' b' => R.field rfl rfl (I.fld rfl)) rfl rfl ?_
    refine AA.one 11 (by kernel_rfl) ?_
    refine ZR.store rfl rfl rfl rfl rfl r54 (by exact Nat.le_of_ble_eq_true rfl) rfl rfl rfl rfl ?_
    intro W120 r121 b119 z122
    have hlb119 := r54.lt
    replace r121 : RowL W120 _ 31 [Value.int IntKind.i64 270, Value.int IntKind.i64 dir, Value.string { data := #[] }, Value.int IntKind.i64 0, Value.int IntKind.i64 0] := r121
    clear r54
    replace b51 := b51.grown b119 b51.size (by rintro k ⟨⟩; omega)
    replace gw := gw.gr b119 (by omega)
    replace h := h.gr b119 (by have := h.lt; omega)
    replace hp := hp.gr b119 (by omega)
    replace hok := hok.trans (grown_kept b119 (fun j h => by have := h.1; have := hok.size; omega) (fun j h e => by cases e; have h2 := h.1; have h3 := h.2; omega))
    have r54 := r121
    clear r121
    refine ⟨hok, ?_⟩
    refine AA.pure 12 rfl hok (by kernel_rfl) (fun w' b' => R.field rfl rfl (I.fld rfl)) rfl rfl ?_
    refine AA.one 13 (by kernel_rfl) ?_
    refine ZR.store rfl rfl rfl rfl rfl r54 (by exact Nat.le_of_ble_eq_true rfl) rfl rfl rfl rfl ?_
    intro W131 r132 b130 z133
    have hlb130 := r54.lt
    replace r132 : RowL W131 _ 31 [Value.int IntKind.i64 270, Value.int IntKind.i64 dir, Value.string { data := List.toArray p }, Value.int IntKind.i64 0, Value.int IntKind.i64 0] := r132
    clear r54
    replace b51 := b51.grown b130 b51.size (by rintro k ⟨⟩; omega)
    replace gw := gw.gr b130 (by omega)
    replace h := h.gr b130 (by have := h.lt; omega)
    replace hp := hp.gr b130 (by omega)
    replace hok := hok.trans (grown_kept b130 (fun j h => by have := h.1; have := hok.size; omega) (fun j h e => by cases e; have h2 := h.1; have h3 := h.2; omega))
    have r54 := r132
    clear r132
    refine ⟨hok, ?_⟩
    refine AA.done rfl ?_
    clear fzh hok
    refine EE.thenN ?_
    refine CC.seq ?_
    refine CC.region ?_
    refine LL.val (R.move rfl rfl) rfl rfl rfl ?_
    refine LL.val (R.load rfl rfl (I.ldNc (vs := [Value.int IntKind.i64 270, Value.int IntKind.i64 dir, Value.string { data := List.toArray p }, Value.int IntKind.i64 0, Value.int IntKind.i64 0]) (RowL.cells r54 rfl) (by rfl) (by rfl))) rfl rfl rfl ?_
    (refine LL.call (R.call rfl rfl rfl) rfl rfl rfl (end_any g (270, dir, p, 0, 0) h) ?_; rintro e W151 ⟨rfl, hN, t150⟩; clear h; have h := hN; clear hN; refine ⟨_, rfl, ?_⟩)
    have zt150 := t150.size
    replace gw := gw.kept t150 ⟨by omega, by omega⟩
    replace hp := hp.kept t150 ⟨by omega, by omega⟩
    replace r54 := r54.kept t150 ⟨r54.lt, by omega⟩
    refine LL.nilS ?_
    refine CC.seq ?_
    refine CC.region ?_
    refine LL.val (R.assign rfl rfl) rfl rfl rfl ?_
    refine LL.nilS ?_
    refine CC.ret ?_
    refine EE.ret _ rfl rfl ?_
    exact ⟨rfl, WkAt.fin h hp (by simp) _ _ _ rfl, gw⟩
  | cons p2 r2 =>
    have hn2 : 1 < n := by rw [← hn]; simp
    refine X.fn Tryd.func13 rfl (n := 32) rfl rfl ?_
    refine CC.seq ?_
    refine CC.region ?_
    refine LL.val (R.assign rfl rfl) rfl rfl rfl ?_
    refine LL.nilS ?_
    refine CC.seq ?_
    refine CC.seq ?_
    refine CC.region ?_
    refine LL.val (R.move rfl rfl) rfl rfl rfl ?_
    (refine LL.call (R.call rfl rfl rfl) rfl rfl rfl (answered_run g (by assumption)) ?_; rintro e W' ⟨rfl, rfl⟩; refine ⟨_, rfl, ?_⟩)
    refine LL.val (R.assign rfl rfl) rfl rfl rfl ?_
    refine LL.nilS ?_
    refine CC.seq ?_
    refine CC.region ?_
    refine LL.val (R.move rfl rfl) rfl rfl rfl ?_
    refine LL.val (R.neF rfl rfl rfl (by omega)) rfl rfl rfl ?_
    refine LL.nilS ?_
    refine CC.no rfl ?_
    refine CC.skip ?_
    refine EE.thenN ?_
    refine CC.seq ?_
    refine CC.region ?_
    refine LL.val (R.buildV rfl rfl (v := .agg #[Value.int IntKind.i64 270, Value.int IntKind.i64 0, Value.string { data := #[] }, Value.int IntKind.i64 0, Value.int IntKind.i64 0]) (fun _ => by kernel_rfl)) rfl rfl rfl ?_
    have la50 := h.lt
    refine LL.alloc ([Value.int IntKind.i64 0, Value.int IntKind.i64 0, Value.string { data := { toList := [] } }, Value.int IntKind.i64 0, Value.int IntKind.i64 0]) rfl rfl rfl rfl rfl ?_
    intro Wa52 ga53 ega53 ra54 za55 ba51
    replace gw := gw.up ba51
    replace h := h.up ba51
    replace hp := hp.up ba51
    refine LL.storeN (vs := [Value.int IntKind.i64 270, Value.int IntKind.i64 0, Value.string { data := #[] }, Value.int IntKind.i64 0, Value.int IntKind.i64 0]) rfl rfl rfl rfl ra54 (by exact Nat.le_of_ble_eq_true rfl) (ones_of rfl) rfl rfl ?_
    intro Wa64 ra65 ba63 za66
    have hlba63 := ra54.lt
    replace ra65 : RowL Wa64 _ 31 [Value.int IntKind.i64 270, Value.int IntKind.i64 0, Value.string { data := #[] }, Value.int IntKind.i64 0, Value.int IntKind.i64 0] := ra65
    clear ra54
    replace ba51 := ba51.grown ba63 ba51.size (by rintro k ⟨⟩; omega)
    replace gw := gw.gr ba63 (by omega)
    replace h := h.gr ba63 (by have := h.lt; omega)
    replace hp := hp.gr ba63 (by omega)
    have ra54 := ra65
    clear ra65
    refine LL.nilS ?_
    refine CC.seq ?_
    refine CC.seq ?_
    refine CC.region ?_
    refine LL.val (R.move rfl rfl) rfl rfl rfl ?_
    refine LL.val (R.nil rfl rfl) rfl rfl rfl ?_
    refine LL.val (R.field rfl rfl (I.fld rfl)) rfl rfl rfl ?_
    refine LL.val (R.load rfl rfl (I.ld1 rfl (RowL.cell h rfl))) rfl rfl rfl ?_
    refine LL.val (R.len rfl rfl rfl rfl) rfl rfl rfl ?_
    refine LL.val (R.eqF rfl rfl rfl (by omega)) rfl rfl rfl ?_
    refine LL.nilS ?_
    refine CC.no rfl ?_
    refine CC.skip ?_
    refine EE.thenN ?_
    refine CC.seq ?_
    refine CC.region ?_
    refine LL.val (R.move rfl rfl) rfl rfl rfl ?_
    refine LL.val (R.load rfl rfl (I.ldNc (vs := [Value.int IntKind.i64 270, Value.int IntKind.i64 0, Value.string { data := #[] }, Value.int IntKind.i64 0, Value.int IntKind.i64 0]) (RowL.cells ra54 rfl) (by rfl) (by rfl))) rfl rfl rfl ?_
    (refine LL.call (R.call rfl rfl rfl) rfl rfl rfl (end_any g (270, 0, [], 0, 0) h) ?_; rintro e Wa126 ⟨rfl, hN, ta125⟩; clear h; have h := hN; clear hN; refine ⟨_, rfl, ?_⟩)
    have zta125 := ta125.size
    replace gw := gw.kept ta125 ⟨by omega, by omega⟩
    replace hp := hp.kept ta125 ⟨by omega, by omega⟩
    replace ra54 := ra54.kept ta125 ⟨ra54.lt, by omega⟩
    refine LL.nilS ?_
    refine CC.seq ?_
    refine CC.region ?_
    refine LL.val (R.assign rfl rfl) rfl rfl rfl ?_
    refine LL.nilS ?_
    refine CC.ret ?_
    refine EE.ret _ rfl rfl ?_
    exact ⟨rfl, WkAt.fin h hp (by rw [hn]; omega) _ _ _ rfl, gw⟩
theorem give_run (f : Fd) (h : RowL w g 60 (wkL wdZ false dir lv links fol true)) (hp : PsAt w B g lv (p :: r)) (hl : r.length ≤ 40000) (hm : Mx w) (hg0 : 0 < g) (hk : links ≤ 8) (ht : f.2.1 = 3 → f.2.2.length ≤ 1048576) : Calls Tryd.prog 14 #[.pointer (some ⟨g, 0, none⟩), fdV f] w fun e w' => e = .returned (.int .i64 0) ∧ WkAt w' g (Wk.give ⟨dir, p :: r, links, fol, none⟩ f) ∧ Kept (fun j => j < w.heap.size ∧ j ≠ g) w w' := by
  have gw := Gw.refl g w
  have hB := hp.hB
  have hg := h.lt
  obtain ⟨a, c, rfl⟩ := hp.len
  obtain ⟨n, hn⟩ : ∃ n, (p :: r).length = n := ⟨_, rfl⟩
  rw [hn] at h hp
  have hn1 : 0 < n := by rw [← hn]; exact Nat.succ_pos _
  have hrn : r.length = n - 1 := by rw [← hn]; rfl
  obtain ⟨b, off, rfl, hbB, hbg, hc0⟩ := hp.head
  obtain ⟨a', c', hsl, htl⟩ := tail_ex hp hn
  unfold Wk.give
  dsimp only
  by_cases hup : p = [46, 46]
  · rw [if_pos hup]
    refine X.fn Tryd.func14 rfl (n := 51) rfl rfl ?_
    refine CC.seq ?_
    refine CC.region ?_
    have l8 := h.lt
    refine LL.box [Value.int IntKind.i64 f.1, Value.int IntKind.i64 f.2.1, strV f.2.2] rfl rfl rfl rfl rfl ?_
    intro W10 g11 eg11 r12 z13 b9
    replace hm := hm.up b9
    replace gw := gw.up b9
    replace hp := hp.up b9
    replace h := h.up b9
    refine LL.val (R.assign rfl rfl) rfl rfl rfl ?_
    refine LL.nilS ?_
    refine CC.seq ?_
    refine CC.seq ?_
    refine CC.region ?_
    refine LL.val (R.move rfl rfl) rfl rfl rfl ?_
    (refine LL.call (R.call rfl rfl rfl) rfl rfl rfl (answered_run g (by assumption)) ?_; rintro e W' ⟨rfl, rfl⟩; refine ⟨_, rfl, ?_⟩)
    refine LL.val (R.assign rfl rfl) rfl rfl rfl ?_
    refine LL.nilS ?_
    refine CC.seq ?_
    refine CC.region ?_
    refine LL.val (R.move rfl rfl) rfl rfl rfl ?_
    refine LL.val (R.neF rfl rfl rfl (by omega)) rfl rfl rfl ?_
    refine LL.nilS ?_
    refine CC.no rfl ?_
    refine CC.skip ?_
    refine EE.thenN ?_
    refine CC.seq ?_
    refine CC.region ?_
    refine LL.val (R.move rfl rfl) rfl rfl rfl ?_
    refine LL.val (R.nil rfl rfl) rfl rfl rfl ?_
    refine LL.val (R.field rfl rfl (I.fld rfl)) rfl rfl rfl ?_
    refine LL.val (R.load rfl rfl (I.ld1 rfl (RowL.cell h rfl))) rfl rfl rfl ?_
    refine LL.val (R.index rfl rfl rfl (I.ixS1c rfl rfl (by omega))) rfl rfl rfl ?_
    (refine LL.val (R.load rfl rfl (I.ld1 rfl (hc0 _ hp))) rfl rfl rfl ?_)
    refine LL.val (R.assign rfl rfl) rfl rfl rfl ?_
    refine LL.nilS ?_
    refine CC.seq ?_
    refine CC.region ?_
    refine LL.val (R.move rfl rfl) rfl rfl rfl ?_
    refine LL.val (R.move rfl rfl) rfl rfl rfl ?_
    refine LL.val (R.nil rfl rfl) rfl rfl rfl ?_
    refine LL.val (R.field rfl rfl (I.fld rfl)) rfl rfl rfl ?_
    refine LL.val (R.load rfl rfl (I.ld1 rfl (RowL.cell h rfl))) rfl rfl rfl ?_
    (refine LL.val (R.slice rfl rfl rfl rfl rfl (hsl _ _ _ _ rfl)) rfl rfl rfl ?_)
    refine LL.val (R.nil rfl rfl) rfl rfl rfl ?_
    refine LL.val (R.field rfl rfl (I.fld rfl)) rfl rfl rfl ?_
    refine LL.store rfl rfl rfl rfl h (by exact Nat.le_of_ble_eq_true rfl) rfl rfl rfl rfl ?_
    intro W155 r156 b154 z157
    have hlb154 := h.lt
    replace r156 : RowL W155 _ 60 [Value.int IntKind.i64 0, Value.int IntKind.i64 0, strV [], Value.int IntKind.i64 0, Value.int IntKind.i64 0, Value.bool false, Value.int IntKind.i64 dir, Value.slice a' (n - 1) c', Value.int IntKind.i64 ↑links, Value.bool fol, Value.bool true] := r156
    clear h
    replace r12 := r12.gr b154 (by have := r12.lt; omega)
    replace hm := hm.gr b154 (by have := hm.lt; omega)
    replace gw := gw.gr b154 (by omega)
    replace hp := hp.gr b154 (by omega)
    have h := r156
    clear r156
    refine LL.nilS ?_
    refine CC.seq ?_
    refine CC.seq ?_
    refine CC.region ?_
    refine LL.val (R.move rfl rfl) rfl rfl rfl ?_
    (refine LL.val (R.eqS (a := p) (b := [46, 46]) (c := true) rfl rfl rfl (by simp [hup])) rfl rfl rfl ?_)
    refine LL.nilS ?_
    refine CC.yes rfl ?_
    refine CC.seq ?_
    refine CC.region ?_
    refine LL.val (R.move rfl rfl) rfl rfl rfl ?_
    refine LL.val (R.field rfl rfl (I.fld rfl)) rfl rfl rfl ?_
    refine LL.val (R.load rfl rfl (I.ld1 rfl (RowL.cell r12 rfl))) rfl rfl rfl ?_
    refine LL.val (R.nil rfl rfl) rfl rfl rfl ?_
    refine LL.val (R.field rfl rfl (I.fld rfl)) rfl rfl rfl ?_
    refine LL.store rfl rfl rfl rfl h (by exact Nat.le_of_ble_eq_true rfl) rfl rfl rfl rfl ?_
    intro W208 r209 b207 z210
    have hlb207 := h.lt
    replace r209 : RowL W208 _ 60 [Value.int IntKind.i64 0, Value.int IntKind.i64 0, strV [], Value.int IntKind.i64 0, Value.int IntKind.i64 0, Value.bool false, Value.int IntKind.i64 f.1, Value.slice a' (n - 1) c', Value.int IntKind.i64 ↑links, Value.bool fol, Value.bool true] := r209
    clear h
    replace r12 := r12.gr b207 (by have := r12.lt; omega)
    replace hm := hm.gr b207 (by have := hm.lt; omega)
    replace gw := gw.gr b207 (by omega)
    replace hp := hp.gr b207 (by omega)
    have h := r209
    clear r209
    refine LL.nilS ?_
    refine CC.seq ?_
    refine CC.region ?_
    refine LL.val (R.move rfl rfl) rfl rfl rfl ?_
    (refine LL.call (R.call rfl rfl rfl) rfl rfl rfl (on_any g h (htl _ hp) (by omega)) ?_; rintro e W221 ⟨rfl, hW, t220⟩; refine ⟨_, rfl, ?_⟩)
    have zt220 := t220.size
    replace r12 := r12.kept t220 ⟨r12.lt, by omega⟩
    replace hm := hm.kept t220 ⟨by omega, by omega⟩
    replace gw := gw.kept t220 ⟨by omega, by omega⟩
    replace hp := hp.kept t220 ⟨by omega, by omega⟩
    refine LL.nilS ?_
    refine CC.seq ?_
    refine CC.region ?_
    refine LL.val (R.assign rfl rfl) rfl rfl rfl ?_
    refine LL.nilS ?_
    refine CC.ret ?_
    refine EE.thenR ?_
    refine EE.ret _ rfl rfl ?_
    exact ⟨rfl, hW, gw⟩
  rw [if_neg hup]
  have L3 : doF 3 = some 50 := rfl
  have L2 : doF 2 = some 51 := rfl
  by_cases h3 : f.2.1 = 3
  · by_cases hg2 : r ≠ [] ∨ fol = true
    · rw [if_pos ⟨h3, hg2⟩]
      refine X.fn Tryd.func14 rfl (n := 51) rfl rfl ?_
      refine CC.seq ?_
      refine CC.region ?_
      have la8 := h.lt
      refine LL.box [Value.int IntKind.i64 f.1, Value.int IntKind.i64 f.2.1, strV f.2.2] rfl rfl rfl rfl rfl ?_
      intro Wa10 ga11 ega11 ra12 za13 ba9
      replace hm := hm.up ba9
      replace gw := gw.up ba9
      replace hp := hp.up ba9
      replace h := h.up ba9
      refine LL.val (R.assign rfl rfl) rfl rfl rfl ?_
      refine LL.nilS ?_
      refine CC.seq ?_
      refine CC.seq ?_
      refine CC.region ?_
      refine LL.val (R.move rfl rfl) rfl rfl rfl ?_
      (refine LL.call (R.call rfl rfl rfl) rfl rfl rfl (answered_run g (by assumption)) ?_; rintro e W' ⟨rfl, rfl⟩; refine ⟨_, rfl, ?_⟩)
      refine LL.val (R.assign rfl rfl) rfl rfl rfl ?_
      refine LL.nilS ?_
      refine CC.seq ?_
      refine CC.region ?_
      refine LL.val (R.move rfl rfl) rfl rfl rfl ?_
      refine LL.val (R.neF rfl rfl rfl (by omega)) rfl rfl rfl ?_
      refine LL.nilS ?_
      refine CC.no rfl ?_
      refine CC.skip ?_
      refine EE.thenN ?_
      refine CC.seq ?_
      refine CC.region ?_
      refine LL.val (R.move rfl rfl) rfl rfl rfl ?_
      refine LL.val (R.nil rfl rfl) rfl rfl rfl ?_
      refine LL.val (R.field rfl rfl (I.fld rfl)) rfl rfl rfl ?_
      refine LL.val (R.load rfl rfl (I.ld1 rfl (RowL.cell h rfl))) rfl rfl rfl ?_
      refine LL.val (R.index rfl rfl rfl (I.ixS1c rfl rfl (by omega))) rfl rfl rfl ?_
      (refine LL.val (R.load rfl rfl (I.ld1 rfl (hc0 _ hp))) rfl rfl rfl ?_)
      refine LL.val (R.assign rfl rfl) rfl rfl rfl ?_
      refine LL.nilS ?_
      refine CC.seq ?_
      refine CC.region ?_
      refine LL.val (R.move rfl rfl) rfl rfl rfl ?_
      refine LL.val (R.move rfl rfl) rfl rfl rfl ?_
      refine LL.val (R.nil rfl rfl) rfl rfl rfl ?_
      refine LL.val (R.field rfl rfl (I.fld rfl)) rfl rfl rfl ?_
      refine LL.val (R.load rfl rfl (I.ld1 rfl (RowL.cell h rfl))) rfl rfl rfl ?_
      (refine LL.val (R.slice rfl rfl rfl rfl rfl (hsl _ _ _ _ rfl)) rfl rfl rfl ?_)
      refine LL.val (R.nil rfl rfl) rfl rfl rfl ?_
      refine LL.val (R.field rfl rfl (I.fld rfl)) rfl rfl rfl ?_
      refine LL.store rfl rfl rfl rfl h (by exact Nat.le_of_ble_eq_true rfl) rfl rfl rfl rfl ?_
      intro Wa155 ra156 ba154 za157
      have hlba154 := h.lt
      replace ra156 : RowL Wa155 _ 60 [Value.int IntKind.i64 0, Value.int IntKind.i64 0, strV [], Value.int IntKind.i64 0, Value.int IntKind.i64 0, Value.bool false, Value.int IntKind.i64 dir, Value.slice a' (n - 1) c', Value.int IntKind.i64 ↑links, Value.bool fol, Value.bool true] := ra156
      clear h
      replace ra12 := ra12.gr ba154 (by have := ra12.lt; omega)
      replace hm := hm.gr ba154 (by have := hm.lt; omega)
      replace gw := gw.gr ba154 (by omega)
      replace hp := hp.gr ba154 (by omega)
      have h := ra156
      clear ra156
      refine LL.nilS ?_
      refine CC.seq ?_
      refine CC.seq ?_
      refine CC.region ?_
      refine LL.val (R.move rfl rfl) rfl rfl rfl ?_
      (refine LL.val (R.eqS (a := p) (b := [46, 46]) (c := false) rfl rfl rfl (by simp [hup])) rfl rfl rfl ?_)
      refine LL.nilS ?_
      refine CC.no rfl ?_
      refine CC.skip ?_
      refine EE.thenN ?_
      refine CC.seq ?_
      refine CC.freeZ (fun W_ j => j < W_.heap.size ∧ (True)) (by kernel_rfl) (by kernel_rfl) (fun Wa166 ba165 za167 => ?_)
      replace ra12 := ra12.up ba165
      replace hm := hm.up ba165
      replace gw := gw.up ba165
      replace hp := hp.up ba165
      replace h := h.up ba165
      have hok : Kept (fun j => j < Wa166.heap.size ∧ (True)) Wa166 Wa166 := Kept.refl _ _
      have fzra12 := fzRow (K := fun j => j < Wa166.heap.size ∧ (True)) ra12 ⟨ra12.lt, (by first | trivial | omega)⟩
      have fzh := fzRow (K := fun j => j < Wa166.heap.size ∧ (True)) h ⟨h.lt, (by first | trivial | omega)⟩
      refine AA.pure 1 rfl hok (by kernel_rfl) (fun w' b' => R.field rfl rfl (I.fld rfl)) rfl rfl ?_
      refine AA.pure 2 rfl hok (by kernel_rfl) (fun w' b' => R.load rfl rfl (I.ld1 rfl (RowL.cell (fzra12 w' b') rfl))) rfl rfl ?_
      refine AA.one 0 (by kernel_rfl) ?_
      refine SR.call rfl (R.call rfl rfl rfl) rfl rfl (doing_any _) ?_
      rintro e Wa176 ⟨ga178, ka179, rfl, ha177, ba175⟩
      have zba175 := ba175.size
      replace ba165 := ba165.trans (ba175.mono ba165.size)
      replace ra12 := ra12.up ba175
      replace hm := hm.up ba175
      replace gw := gw.up ba175
      replace hp := hp.up ba175
      replace h := h.up ba175
      replace hok := hok.trans (bkept ba175 (fun j h => by have := h.1; have := hok.size; omega))
      have ya180 := hok.size
      refine ⟨_, rfl, hok, ?_⟩
      refine AA.one 3 (by kernel_rfl) ?_
      (refine SR.val rfl (R.lookKT rfl rfl zKeys rfl rfl (by assumption) (3 : Int) (by first | rfl | (show _ = some (Value.int .i64 3); rw [← h3]; rfl)) (v := 50) L3) rfl rfl hok ?_)
      refine AA.pure 4 rfl hok (by kernel_rfl) (fun w' b' => R.move rfl rfl) rfl rfl ?_
      refine AA.pure 5 rfl hok (by kernel_rfl) (fun w' b' => R.extract rfl rfl rfl) rfl rfl ?_
      refine AA.pure 6 rfl hok (by kernel_rfl) (fun w' b' => R.extract rfl rfl rfl) rfl rfl ?_
      refine AA.pure 7 rfl hok (by kernel_rfl) (fun w' b' => R.assign rfl rfl) rfl rfl ?_
      refine AA.pure 8 rfl hok (by kernel_rfl) (fun w' b' => R.assign rfl rfl) rfl rfl ?_
      refine AA.done rfl ?_
      clear fzra12 fzh hok
      refine EE.thenN ?_
      refine CC.seq ?_
      refine CC.seq ?_
      refine CC.region ?_
      refine LL.val (R.move rfl rfl) rfl rfl rfl ?_
      refine LL.val (R.not rfl rfl) rfl rfl rfl ?_
      refine LL.nilS ?_
      refine CC.no rfl ?_
      refine CC.skip ?_
      refine EE.thenN ?_
      refine CC.seq ?_
      refine CC.region ?_
      refine LL.val (R.move rfl rfl) rfl rfl rfl ?_
      refine LL.val (R.move rfl rfl) rfl rfl rfl ?_
      refine LL.val (R.move rfl rfl) rfl rfl rfl ?_
      refine LL.val (R.load rfl rfl (I.ldNc (vs := [Value.int IntKind.i64 f.1, Value.int IntKind.i64 f.2.1, strV f.2.2]) (RowL.cells ra12 rfl) (by rfl) (by rfl))) rfl rfl rfl ?_
      (refine LL.call (R.callV rfl rfl rfl rfl) rfl rfl rfl (link_go g p f h (htl _ hp) (by omega) hg2 (by assumption) hg0 hk (ht h3)) ?_; rintro e Wa240 ⟨rfl, hW, ta239⟩; refine ⟨_, rfl, ?_⟩)
      have zta239 := ta239.size
      replace ra12 := ra12.kept ta239 ⟨ra12.lt, by omega⟩
      replace hm := hm.kept ta239 ⟨by omega, by omega⟩
      replace gw := gw.kept ta239 ⟨by omega, by omega⟩
      replace hp := hp.kept ta239 ⟨by omega, by omega⟩
      refine LL.nilS ?_
      refine CC.seq ?_
      refine CC.region ?_
      refine LL.val (R.assign rfl rfl) rfl rfl rfl ?_
      refine LL.nilS ?_
      refine CC.ret ?_
      refine EE.ret _ rfl rfl ?_
      exact ⟨rfl, hW, gw⟩
    · rw [if_neg fun k => hg2 k.2, if_neg fun k => by rw [h3] at k; exact absurd k.1 (by decide)]
      have hr : r = [] := Classical.not_not.1 fun k => hg2 (.inl k)
      have hf : fol = false := by cases fol with | false => rfl | true => exact absurd (.inr rfl) hg2
      rw [if_neg fun k => k hr]
      refine X.fn Tryd.func14 rfl (n := 51) rfl rfl ?_
      refine CC.seq ?_
      refine CC.region ?_
      have lb8 := h.lt
      refine LL.box [Value.int IntKind.i64 f.1, Value.int IntKind.i64 f.2.1, strV f.2.2] rfl rfl rfl rfl rfl ?_
      intro Wb10 gb11 egb11 rb12 zb13 bb9
      replace hm := hm.up bb9
      replace gw := gw.up bb9
      replace hp := hp.up bb9
      replace h := h.up bb9
      refine LL.val (R.assign rfl rfl) rfl rfl rfl ?_
      refine LL.nilS ?_
      refine CC.seq ?_
      refine CC.seq ?_
      refine CC.region ?_
      refine LL.val (R.move rfl rfl) rfl rfl rfl ?_
      (refine LL.call (R.call rfl rfl rfl) rfl rfl rfl (answered_run g (by assumption)) ?_; rintro e W' ⟨rfl, rfl⟩; refine ⟨_, rfl, ?_⟩)
      refine LL.val (R.assign rfl rfl) rfl rfl rfl ?_
      refine LL.nilS ?_
      refine CC.seq ?_
      refine CC.region ?_
      refine LL.val (R.move rfl rfl) rfl rfl rfl ?_
      refine LL.val (R.neF rfl rfl rfl (by omega)) rfl rfl rfl ?_
      refine LL.nilS ?_
      refine CC.no rfl ?_
      refine CC.skip ?_
      refine EE.thenN ?_
      refine CC.seq ?_
      refine CC.region ?_
      refine LL.val (R.move rfl rfl) rfl rfl rfl ?_
      refine LL.val (R.nil rfl rfl) rfl rfl rfl ?_
      refine LL.val (R.field rfl rfl (I.fld rfl)) rfl rfl rfl ?_
      refine LL.val (R.load rfl rfl (I.ld1 rfl (RowL.cell h rfl))) rfl rfl rfl ?_
      refine LL.val (R.index rfl rfl rfl (I.ixS1c rfl rfl (by omega))) rfl rfl rfl ?_
      (refine LL.val (R.load rfl rfl (I.ld1 rfl (hc0 _ hp))) rfl rfl rfl ?_)
      refine LL.val (R.assign rfl rfl) rfl rfl rfl ?_
      refine LL.nilS ?_
      refine CC.seq ?_
      refine CC.region ?_
      refine LL.val (R.move rfl rfl) rfl rfl rfl ?_
      refine LL.val (R.move rfl rfl) rfl rfl rfl ?_
      refine LL.val (R.nil rfl rfl) rfl rfl rfl ?_
      refine LL.val (R.field rfl rfl (I.fld rfl)) rfl rfl rfl ?_
      refine LL.val (R.load rfl rfl (I.ld1 rfl (RowL.cell h rfl))) rfl rfl rfl ?_
      (refine LL.val (R.slice rfl rfl rfl rfl rfl (hsl _ _ _ _ rfl)) rfl rfl rfl ?_)
      refine LL.val (R.nil rfl rfl) rfl rfl rfl ?_
      refine LL.val (R.field rfl rfl (I.fld rfl)) rfl rfl rfl ?_
      refine LL.store rfl rfl rfl rfl h (by exact Nat.le_of_ble_eq_true rfl) rfl rfl rfl rfl ?_
      intro Wb155 rb156 bb154 zb157
      have hlbb154 := h.lt
      replace rb156 : RowL Wb155 _ 60 [Value.int IntKind.i64 0, Value.int IntKind.i64 0, strV [], Value.int IntKind.i64 0, Value.int IntKind.i64 0, Value.bool false, Value.int IntKind.i64 dir, Value.slice a' (n - 1) c', Value.int IntKind.i64 ↑links, Value.bool fol, Value.bool true] := rb156
      clear h
      replace rb12 := rb12.gr bb154 (by have := rb12.lt; omega)
      replace hm := hm.gr bb154 (by have := hm.lt; omega)
      replace gw := gw.gr bb154 (by omega)
      replace hp := hp.gr bb154 (by omega)
      have h := rb156
      clear rb156
      refine LL.nilS ?_
      refine CC.seq ?_
      refine CC.seq ?_
      refine CC.region ?_
      refine LL.val (R.move rfl rfl) rfl rfl rfl ?_
      (refine LL.val (R.eqS (a := p) (b := [46, 46]) (c := false) rfl rfl rfl (by simp [hup])) rfl rfl rfl ?_)
      refine LL.nilS ?_
      refine CC.no rfl ?_
      refine CC.skip ?_
      refine EE.thenN ?_
      refine CC.seq ?_
      refine CC.freeZ (fun W_ j => j < W_.heap.size ∧ (True)) (by kernel_rfl) (by kernel_rfl) (fun Wb166 bb165 zb167 => ?_)
      replace rb12 := rb12.up bb165
      replace hm := hm.up bb165
      replace gw := gw.up bb165
      replace hp := hp.up bb165
      replace h := h.up bb165
      have hok : Kept (fun j => j < Wb166.heap.size ∧ (True)) Wb166 Wb166 := Kept.refl _ _
      have fzrb12 := fzRow (K := fun j => j < Wb166.heap.size ∧ (True)) rb12 ⟨rb12.lt, (by first | trivial | omega)⟩
      have fzh := fzRow (K := fun j => j < Wb166.heap.size ∧ (True)) h ⟨h.lt, (by first | trivial | omega)⟩
      refine AA.pure 1 rfl hok (by kernel_rfl) (fun w' b' => R.field rfl rfl (I.fld rfl)) rfl rfl ?_
      refine AA.pure 2 rfl hok (by kernel_rfl) (fun w' b' => R.load rfl rfl (I.ld1 rfl (RowL.cell (fzrb12 w' b') rfl))) rfl rfl ?_
      refine AA.one 0 (by kernel_rfl) ?_
      refine SR.call rfl (R.call rfl rfl rfl) rfl rfl (doing_any _) ?_
      rintro e Wb176 ⟨gb178, kb179, rfl, hb177, bb175⟩
      have zbb175 := bb175.size
      replace bb165 := bb165.trans (bb175.mono bb165.size)
      replace rb12 := rb12.up bb175
      replace hm := hm.up bb175
      replace gw := gw.up bb175
      replace hp := hp.up bb175
      replace h := h.up bb175
      replace hok := hok.trans (bkept bb175 (fun j h => by have := h.1; have := hok.size; omega))
      have yb180 := hok.size
      refine ⟨_, rfl, hok, ?_⟩
      refine AA.one 3 (by kernel_rfl) ?_
      (refine SR.val rfl (R.lookKT rfl rfl zKeys rfl rfl (by assumption) (3 : Int) (by first | rfl | (show _ = some (Value.int .i64 3); rw [← h3]; rfl)) (v := 50) L3) rfl rfl hok ?_)
      refine AA.pure 4 rfl hok (by kernel_rfl) (fun w' b' => R.move rfl rfl) rfl rfl ?_
      refine AA.pure 5 rfl hok (by kernel_rfl) (fun w' b' => R.extract rfl rfl rfl) rfl rfl ?_
      refine AA.pure 6 rfl hok (by kernel_rfl) (fun w' b' => R.extract rfl rfl rfl) rfl rfl ?_
      refine AA.pure 7 rfl hok (by kernel_rfl) (fun w' b' => R.assign rfl rfl) rfl rfl ?_
      refine AA.pure 8 rfl hok (by kernel_rfl) (fun w' b' => R.assign rfl rfl) rfl rfl ?_
      refine AA.done rfl ?_
      clear fzrb12 fzh hok
      refine EE.thenN ?_
      refine CC.seq ?_
      refine CC.seq ?_
      refine CC.region ?_
      refine LL.val (R.move rfl rfl) rfl rfl rfl ?_
      refine LL.val (R.not rfl rfl) rfl rfl rfl ?_
      refine LL.nilS ?_
      refine CC.no rfl ?_
      refine CC.skip ?_
      refine EE.thenN ?_
      refine CC.seq ?_
      refine CC.region ?_
      refine LL.val (R.move rfl rfl) rfl rfl rfl ?_
      refine LL.val (R.move rfl rfl) rfl rfl rfl ?_
      refine LL.val (R.move rfl rfl) rfl rfl rfl ?_
      refine LL.val (R.load rfl rfl (I.ldNc (vs := [Value.int IntKind.i64 f.1, Value.int IntKind.i64 f.2.1, strV f.2.2]) (RowL.cells rb12 rfl) (by rfl) (by rfl))) rfl rfl rfl ?_
      (refine LL.call (R.callV rfl rfl rfl rfl) rfl rfl rfl (link_stop g p f h (htl _ hp) hr hf) ?_; rintro e Wb240 ⟨rfl, hW, tb239⟩; refine ⟨_, rfl, ?_⟩)
      have ztb239 := tb239.size
      replace rb12 := rb12.kept tb239 ⟨rb12.lt, by omega⟩
      replace hm := hm.kept tb239 ⟨by omega, by omega⟩
      replace gw := gw.kept tb239 ⟨by omega, by omega⟩
      replace hp := hp.kept tb239 ⟨by omega, by omega⟩
      refine LL.nilS ?_
      refine CC.seq ?_
      refine CC.region ?_
      refine LL.val (R.assign rfl rfl) rfl rfl rfl ?_
      refine LL.nilS ?_
      refine CC.ret ?_
      refine EE.ret _ rfl rfl ?_
      exact ⟨rfl, hW, gw⟩
  rw [if_neg fun k => h3 k.1]
  by_cases h2 : f.2.1 = 2
  · by_cases hr : r = []
    · rw [if_neg fun k => k.2 hr, if_neg fun k => k hr]
      refine X.fn Tryd.func14 rfl (n := 51) rfl rfl ?_
      refine CC.seq ?_
      refine CC.region ?_
      have lc8 := h.lt
      refine LL.box [Value.int IntKind.i64 f.1, Value.int IntKind.i64 f.2.1, strV f.2.2] rfl rfl rfl rfl rfl ?_
      intro Wc10 gc11 egc11 rc12 zc13 bc9
      replace hm := hm.up bc9
      replace gw := gw.up bc9
      replace hp := hp.up bc9
      replace h := h.up bc9
      refine LL.val (R.assign rfl rfl) rfl rfl rfl ?_
      refine LL.nilS ?_
      refine CC.seq ?_
      refine CC.seq ?_
      refine CC.region ?_
      refine LL.val (R.move rfl rfl) rfl rfl rfl ?_
      (refine LL.call (R.call rfl rfl rfl) rfl rfl rfl (answered_run g (by assumption)) ?_; rintro e W' ⟨rfl, rfl⟩; refine ⟨_, rfl, ?_⟩)
      refine LL.val (R.assign rfl rfl) rfl rfl rfl ?_
      refine LL.nilS ?_
      refine CC.seq ?_
      refine CC.region ?_
      refine LL.val (R.move rfl rfl) rfl rfl rfl ?_
      refine LL.val (R.neF rfl rfl rfl (by omega)) rfl rfl rfl ?_
      refine LL.nilS ?_
      refine CC.no rfl ?_
      refine CC.skip ?_
      refine EE.thenN ?_
      refine CC.seq ?_
      refine CC.region ?_
      refine LL.val (R.move rfl rfl) rfl rfl rfl ?_
      refine LL.val (R.nil rfl rfl) rfl rfl rfl ?_
      refine LL.val (R.field rfl rfl (I.fld rfl)) rfl rfl rfl ?_
      refine LL.val (R.load rfl rfl (I.ld1 rfl (RowL.cell h rfl))) rfl rfl rfl ?_
      refine LL.val (R.index rfl rfl rfl (I.ixS1c rfl rfl (by omega))) rfl rfl rfl ?_
      (refine LL.val (R.load rfl rfl (I.ld1 rfl (hc0 _ hp))) rfl rfl rfl ?_)
      refine LL.val (R.assign rfl rfl) rfl rfl rfl ?_
      refine LL.nilS ?_
      refine CC.seq ?_
      refine CC.region ?_
      refine LL.val (R.move rfl rfl) rfl rfl rfl ?_
      refine LL.val (R.move rfl rfl) rfl rfl rfl ?_
      refine LL.val (R.nil rfl rfl) rfl rfl rfl ?_
      refine LL.val (R.field rfl rfl (I.fld rfl)) rfl rfl rfl ?_
      refine LL.val (R.load rfl rfl (I.ld1 rfl (RowL.cell h rfl))) rfl rfl rfl ?_
      (refine LL.val (R.slice rfl rfl rfl rfl rfl (hsl _ _ _ _ rfl)) rfl rfl rfl ?_)
      refine LL.val (R.nil rfl rfl) rfl rfl rfl ?_
      refine LL.val (R.field rfl rfl (I.fld rfl)) rfl rfl rfl ?_
      refine LL.store rfl rfl rfl rfl h (by exact Nat.le_of_ble_eq_true rfl) rfl rfl rfl rfl ?_
      intro Wc155 rc156 bc154 zc157
      have hlbc154 := h.lt
      replace rc156 : RowL Wc155 _ 60 [Value.int IntKind.i64 0, Value.int IntKind.i64 0, strV [], Value.int IntKind.i64 0, Value.int IntKind.i64 0, Value.bool false, Value.int IntKind.i64 dir, Value.slice a' (n - 1) c', Value.int IntKind.i64 ↑links, Value.bool fol, Value.bool true] := rc156
      clear h
      replace rc12 := rc12.gr bc154 (by have := rc12.lt; omega)
      replace hm := hm.gr bc154 (by have := hm.lt; omega)
      replace gw := gw.gr bc154 (by omega)
      replace hp := hp.gr bc154 (by omega)
      have h := rc156
      clear rc156
      refine LL.nilS ?_
      refine CC.seq ?_
      refine CC.seq ?_
      refine CC.region ?_
      refine LL.val (R.move rfl rfl) rfl rfl rfl ?_
      (refine LL.val (R.eqS (a := p) (b := [46, 46]) (c := false) rfl rfl rfl (by simp [hup])) rfl rfl rfl ?_)
      refine LL.nilS ?_
      refine CC.no rfl ?_
      refine CC.skip ?_
      refine EE.thenN ?_
      refine CC.seq ?_
      refine CC.freeZ (fun W_ j => j < W_.heap.size ∧ (True)) (by kernel_rfl) (by kernel_rfl) (fun Wc166 bc165 zc167 => ?_)
      replace rc12 := rc12.up bc165
      replace hm := hm.up bc165
      replace gw := gw.up bc165
      replace hp := hp.up bc165
      replace h := h.up bc165
      have hok : Kept (fun j => j < Wc166.heap.size ∧ (True)) Wc166 Wc166 := Kept.refl _ _
      have fzrc12 := fzRow (K := fun j => j < Wc166.heap.size ∧ (True)) rc12 ⟨rc12.lt, (by first | trivial | omega)⟩
      have fzh := fzRow (K := fun j => j < Wc166.heap.size ∧ (True)) h ⟨h.lt, (by first | trivial | omega)⟩
      refine AA.pure 1 rfl hok (by kernel_rfl) (fun w' b' => R.field rfl rfl (I.fld rfl)) rfl rfl ?_
      refine AA.pure 2 rfl hok (by kernel_rfl) (fun w' b' => R.load rfl rfl (I.ld1 rfl (RowL.cell (fzrc12 w' b') rfl))) rfl rfl ?_
      refine AA.one 0 (by kernel_rfl) ?_
      refine SR.call rfl (R.call rfl rfl rfl) rfl rfl (doing_any _) ?_
      rintro e Wc176 ⟨gc178, kc179, rfl, hc177, bc175⟩
      have zbc175 := bc175.size
      replace bc165 := bc165.trans (bc175.mono bc165.size)
      replace rc12 := rc12.up bc175
      replace hm := hm.up bc175
      replace gw := gw.up bc175
      replace hp := hp.up bc175
      replace h := h.up bc175
      replace hok := hok.trans (bkept bc175 (fun j h => by have := h.1; have := hok.size; omega))
      have yc180 := hok.size
      refine ⟨_, rfl, hok, ?_⟩
      refine AA.one 3 (by kernel_rfl) ?_
      (refine SR.val rfl (R.lookKT rfl rfl zKeys rfl rfl (by assumption) (2 : Int) (by first | rfl | (show _ = some (Value.int .i64 2); rw [← h2]; rfl)) (v := 51) L2) rfl rfl hok ?_)
      refine AA.pure 4 rfl hok (by kernel_rfl) (fun w' b' => R.move rfl rfl) rfl rfl ?_
      refine AA.pure 5 rfl hok (by kernel_rfl) (fun w' b' => R.extract rfl rfl rfl) rfl rfl ?_
      refine AA.pure 6 rfl hok (by kernel_rfl) (fun w' b' => R.extract rfl rfl rfl) rfl rfl ?_
      refine AA.pure 7 rfl hok (by kernel_rfl) (fun w' b' => R.assign rfl rfl) rfl rfl ?_
      refine AA.pure 8 rfl hok (by kernel_rfl) (fun w' b' => R.assign rfl rfl) rfl rfl ?_
      refine AA.done rfl ?_
      clear fzrc12 fzh hok
      refine EE.thenN ?_
      refine CC.seq ?_
      refine CC.seq ?_
      refine CC.region ?_
      refine LL.val (R.move rfl rfl) rfl rfl rfl ?_
      refine LL.val (R.not rfl rfl) rfl rfl rfl ?_
      refine LL.nilS ?_
      refine CC.no rfl ?_
      refine CC.skip ?_
      refine EE.thenN ?_
      refine CC.seq ?_
      refine CC.region ?_
      refine LL.val (R.move rfl rfl) rfl rfl rfl ?_
      refine LL.val (R.move rfl rfl) rfl rfl rfl ?_
      refine LL.val (R.move rfl rfl) rfl rfl rfl ?_
      refine LL.val (R.load rfl rfl (I.ldNc (vs := [Value.int IntKind.i64 f.1, Value.int IntKind.i64 f.2.1, strV f.2.2]) (RowL.cells rc12 rfl) (by rfl) (by rfl))) rfl rfl rfl ?_
      (refine LL.call (R.callV rfl rfl rfl rfl) rfl rfl rfl (enter_stop g p f h (htl _ hp) hr) ?_; rintro e Wc240 ⟨rfl, hW, tc239⟩; refine ⟨_, rfl, ?_⟩)
      have ztc239 := tc239.size
      replace rc12 := rc12.kept tc239 ⟨rc12.lt, by omega⟩
      replace hm := hm.kept tc239 ⟨by omega, by omega⟩
      replace gw := gw.kept tc239 ⟨by omega, by omega⟩
      replace hp := hp.kept tc239 ⟨by omega, by omega⟩
      refine LL.nilS ?_
      refine CC.seq ?_
      refine CC.region ?_
      refine LL.val (R.assign rfl rfl) rfl rfl rfl ?_
      refine LL.nilS ?_
      refine CC.ret ?_
      refine EE.ret _ rfl rfl ?_
      exact ⟨rfl, hW, gw⟩
    · rw [if_pos ⟨h2, hr⟩]
      refine X.fn Tryd.func14 rfl (n := 51) rfl rfl ?_
      refine CC.seq ?_
      refine CC.region ?_
      have ld8 := h.lt
      refine LL.box [Value.int IntKind.i64 f.1, Value.int IntKind.i64 f.2.1, strV f.2.2] rfl rfl rfl rfl rfl ?_
      intro Wd10 gd11 egd11 rd12 zd13 bd9
      replace hm := hm.up bd9
      replace gw := gw.up bd9
      replace hp := hp.up bd9
      replace h := h.up bd9
      refine LL.val (R.assign rfl rfl) rfl rfl rfl ?_
      refine LL.nilS ?_
      refine CC.seq ?_
      refine CC.seq ?_
      refine CC.region ?_
      refine LL.val (R.move rfl rfl) rfl rfl rfl ?_
      (refine LL.call (R.call rfl rfl rfl) rfl rfl rfl (answered_run g (by assumption)) ?_; rintro e W' ⟨rfl, rfl⟩; refine ⟨_, rfl, ?_⟩)
      refine LL.val (R.assign rfl rfl) rfl rfl rfl ?_
      refine LL.nilS ?_
      refine CC.seq ?_
      refine CC.region ?_
      refine LL.val (R.move rfl rfl) rfl rfl rfl ?_
      refine LL.val (R.neF rfl rfl rfl (by omega)) rfl rfl rfl ?_
      refine LL.nilS ?_
      refine CC.no rfl ?_
      refine CC.skip ?_
      refine EE.thenN ?_
      refine CC.seq ?_
      refine CC.region ?_
      refine LL.val (R.move rfl rfl) rfl rfl rfl ?_
      refine LL.val (R.nil rfl rfl) rfl rfl rfl ?_
      refine LL.val (R.field rfl rfl (I.fld rfl)) rfl rfl rfl ?_
      refine LL.val (R.load rfl rfl (I.ld1 rfl (RowL.cell h rfl))) rfl rfl rfl ?_
      refine LL.val (R.index rfl rfl rfl (I.ixS1c rfl rfl (by omega))) rfl rfl rfl ?_
      (refine LL.val (R.load rfl rfl (I.ld1 rfl (hc0 _ hp))) rfl rfl rfl ?_)
      refine LL.val (R.assign rfl rfl) rfl rfl rfl ?_
      refine LL.nilS ?_
      refine CC.seq ?_
      refine CC.region ?_
      refine LL.val (R.move rfl rfl) rfl rfl rfl ?_
      refine LL.val (R.move rfl rfl) rfl rfl rfl ?_
      refine LL.val (R.nil rfl rfl) rfl rfl rfl ?_
      refine LL.val (R.field rfl rfl (I.fld rfl)) rfl rfl rfl ?_
      refine LL.val (R.load rfl rfl (I.ld1 rfl (RowL.cell h rfl))) rfl rfl rfl ?_
      (refine LL.val (R.slice rfl rfl rfl rfl rfl (hsl _ _ _ _ rfl)) rfl rfl rfl ?_)
      refine LL.val (R.nil rfl rfl) rfl rfl rfl ?_
      refine LL.val (R.field rfl rfl (I.fld rfl)) rfl rfl rfl ?_
      refine LL.store rfl rfl rfl rfl h (by exact Nat.le_of_ble_eq_true rfl) rfl rfl rfl rfl ?_
      intro Wd155 rd156 bd154 zd157
      have hlbd154 := h.lt
      replace rd156 : RowL Wd155 _ 60 [Value.int IntKind.i64 0, Value.int IntKind.i64 0, strV [], Value.int IntKind.i64 0, Value.int IntKind.i64 0, Value.bool false, Value.int IntKind.i64 dir, Value.slice a' (n - 1) c', Value.int IntKind.i64 ↑links, Value.bool fol, Value.bool true] := rd156
      clear h
      replace rd12 := rd12.gr bd154 (by have := rd12.lt; omega)
      replace hm := hm.gr bd154 (by have := hm.lt; omega)
      replace gw := gw.gr bd154 (by omega)
      replace hp := hp.gr bd154 (by omega)
      have h := rd156
      clear rd156
      refine LL.nilS ?_
      refine CC.seq ?_
      refine CC.seq ?_
      refine CC.region ?_
      refine LL.val (R.move rfl rfl) rfl rfl rfl ?_
      (refine LL.val (R.eqS (a := p) (b := [46, 46]) (c := false) rfl rfl rfl (by simp [hup])) rfl rfl rfl ?_)
      refine LL.nilS ?_
      refine CC.no rfl ?_
      refine CC.skip ?_
      refine EE.thenN ?_
      refine CC.seq ?_
      refine CC.freeZ (fun W_ j => j < W_.heap.size ∧ (True)) (by kernel_rfl) (by kernel_rfl) (fun Wd166 bd165 zd167 => ?_)
      replace rd12 := rd12.up bd165
      replace hm := hm.up bd165
      replace gw := gw.up bd165
      replace hp := hp.up bd165
      replace h := h.up bd165
      have hok : Kept (fun j => j < Wd166.heap.size ∧ (True)) Wd166 Wd166 := Kept.refl _ _
      have fzrd12 := fzRow (K := fun j => j < Wd166.heap.size ∧ (True)) rd12 ⟨rd12.lt, (by first | trivial | omega)⟩
      have fzh := fzRow (K := fun j => j < Wd166.heap.size ∧ (True)) h ⟨h.lt, (by first | trivial | omega)⟩
      refine AA.pure 1 rfl hok (by kernel_rfl) (fun w' b' => R.field rfl rfl (I.fld rfl)) rfl rfl ?_
      refine AA.pure 2 rfl hok (by kernel_rfl) (fun w' b' => R.load rfl rfl (I.ld1 rfl (RowL.cell (fzrd12 w' b') rfl))) rfl rfl ?_
      refine AA.one 0 (by kernel_rfl) ?_
      refine SR.call rfl (R.call rfl rfl rfl) rfl rfl (doing_any _) ?_
      rintro e Wd176 ⟨gd178, kd179, rfl, hd177, bd175⟩
      have zbd175 := bd175.size
      replace bd165 := bd165.trans (bd175.mono bd165.size)
      replace rd12 := rd12.up bd175
      replace hm := hm.up bd175
      replace gw := gw.up bd175
      replace hp := hp.up bd175
      replace h := h.up bd175
      replace hok := hok.trans (bkept bd175 (fun j h => by have := h.1; have := hok.size; omega))
      have yd180 := hok.size
      refine ⟨_, rfl, hok, ?_⟩
      refine AA.one 3 (by kernel_rfl) ?_
      (refine SR.val rfl (R.lookKT rfl rfl zKeys rfl rfl (by assumption) (2 : Int) (by first | rfl | (show _ = some (Value.int .i64 2); rw [← h2]; rfl)) (v := 51) L2) rfl rfl hok ?_)
      refine AA.pure 4 rfl hok (by kernel_rfl) (fun w' b' => R.move rfl rfl) rfl rfl ?_
      refine AA.pure 5 rfl hok (by kernel_rfl) (fun w' b' => R.extract rfl rfl rfl) rfl rfl ?_
      refine AA.pure 6 rfl hok (by kernel_rfl) (fun w' b' => R.extract rfl rfl rfl) rfl rfl ?_
      refine AA.pure 7 rfl hok (by kernel_rfl) (fun w' b' => R.assign rfl rfl) rfl rfl ?_
      refine AA.pure 8 rfl hok (by kernel_rfl) (fun w' b' => R.assign rfl rfl) rfl rfl ?_
      refine AA.done rfl ?_
      clear fzrd12 fzh hok
      refine EE.thenN ?_
      refine CC.seq ?_
      refine CC.seq ?_
      refine CC.region ?_
      refine LL.val (R.move rfl rfl) rfl rfl rfl ?_
      refine LL.val (R.not rfl rfl) rfl rfl rfl ?_
      refine LL.nilS ?_
      refine CC.no rfl ?_
      refine CC.skip ?_
      refine EE.thenN ?_
      refine CC.seq ?_
      refine CC.region ?_
      refine LL.val (R.move rfl rfl) rfl rfl rfl ?_
      refine LL.val (R.move rfl rfl) rfl rfl rfl ?_
      refine LL.val (R.move rfl rfl) rfl rfl rfl ?_
      refine LL.val (R.load rfl rfl (I.ldNc (vs := [Value.int IntKind.i64 f.1, Value.int IntKind.i64 f.2.1, strV f.2.2]) (RowL.cells rd12 rfl) (by rfl) (by rfl))) rfl rfl rfl ?_
      (refine LL.call (R.callV rfl rfl rfl rfl) rfl rfl rfl (enter_on g p f h (htl _ hp) (by omega) hr) ?_; rintro e Wd240 ⟨rfl, hW, td239⟩; refine ⟨_, rfl, ?_⟩)
      have ztd239 := td239.size
      replace rd12 := rd12.kept td239 ⟨rd12.lt, by omega⟩
      replace hm := hm.kept td239 ⟨by omega, by omega⟩
      replace gw := gw.kept td239 ⟨by omega, by omega⟩
      replace hp := hp.kept td239 ⟨by omega, by omega⟩
      refine LL.nilS ?_
      refine CC.seq ?_
      refine CC.region ?_
      refine LL.val (R.assign rfl rfl) rfl rfl rfl ?_
      refine LL.nilS ?_
      refine CC.ret ?_
      refine EE.ret _ rfl rfl ?_
      exact ⟨rfl, hW, gw⟩
  rw [if_neg fun k => h2 k.1]
  have LF : doF f.2.1 = none := by
    unfold doF putMap
    simp [h2, h3]
  by_cases hr : r = []
  · rw [if_neg fun k => k hr]
    refine X.fn Tryd.func14 rfl (n := 51) rfl rfl ?_
    refine CC.seq ?_
    refine CC.region ?_
    have le8 := h.lt
    refine LL.box [Value.int IntKind.i64 f.1, Value.int IntKind.i64 f.2.1, strV f.2.2] rfl rfl rfl rfl rfl ?_
    intro We10 ge11 ege11 re12 ze13 be9
    replace hm := hm.up be9
    replace gw := gw.up be9
    replace hp := hp.up be9
    replace h := h.up be9
    refine LL.val (R.assign rfl rfl) rfl rfl rfl ?_
    refine LL.nilS ?_
    refine CC.seq ?_
    refine CC.seq ?_
    refine CC.region ?_
    refine LL.val (R.move rfl rfl) rfl rfl rfl ?_
    (refine LL.call (R.call rfl rfl rfl) rfl rfl rfl (answered_run g (by assumption)) ?_; rintro e W' ⟨rfl, rfl⟩; refine ⟨_, rfl, ?_⟩)
    refine LL.val (R.assign rfl rfl) rfl rfl rfl ?_
    refine LL.nilS ?_
    refine CC.seq ?_
    refine CC.region ?_
    refine LL.val (R.move rfl rfl) rfl rfl rfl ?_
    refine LL.val (R.neF rfl rfl rfl (by omega)) rfl rfl rfl ?_
    refine LL.nilS ?_
    refine CC.no rfl ?_
    refine CC.skip ?_
    refine EE.thenN ?_
    refine CC.seq ?_
    refine CC.region ?_
    refine LL.val (R.move rfl rfl) rfl rfl rfl ?_
    refine LL.val (R.nil rfl rfl) rfl rfl rfl ?_
    refine LL.val (R.field rfl rfl (I.fld rfl)) rfl rfl rfl ?_
    refine LL.val (R.load rfl rfl (I.ld1 rfl (RowL.cell h rfl))) rfl rfl rfl ?_
    refine LL.val (R.index rfl rfl rfl (I.ixS1c rfl rfl (by omega))) rfl rfl rfl ?_
    (refine LL.val (R.load rfl rfl (I.ld1 rfl (hc0 _ hp))) rfl rfl rfl ?_)
    refine LL.val (R.assign rfl rfl) rfl rfl rfl ?_
    refine LL.nilS ?_
    refine CC.seq ?_
    refine CC.region ?_
    refine LL.val (R.move rfl rfl) rfl rfl rfl ?_
    refine LL.val (R.move rfl rfl) rfl rfl rfl ?_
    refine LL.val (R.nil rfl rfl) rfl rfl rfl ?_
    refine LL.val (R.field rfl rfl (I.fld rfl)) rfl rfl rfl ?_
    refine LL.val (R.load rfl rfl (I.ld1 rfl (RowL.cell h rfl))) rfl rfl rfl ?_
    (refine LL.val (R.slice rfl rfl rfl rfl rfl (hsl _ _ _ _ rfl)) rfl rfl rfl ?_)
    refine LL.val (R.nil rfl rfl) rfl rfl rfl ?_
    refine LL.val (R.field rfl rfl (I.fld rfl)) rfl rfl rfl ?_
    refine LL.store rfl rfl rfl rfl h (by exact Nat.le_of_ble_eq_true rfl) rfl rfl rfl rfl ?_
    intro We155 re156 be154 ze157
    have hlbe154 := h.lt
    replace re156 : RowL We155 _ 60 [Value.int IntKind.i64 0, Value.int IntKind.i64 0, strV [], Value.int IntKind.i64 0, Value.int IntKind.i64 0, Value.bool false, Value.int IntKind.i64 dir, Value.slice a' (n - 1) c', Value.int IntKind.i64 ↑links, Value.bool fol, Value.bool true] := re156
    clear h
    replace re12 := re12.gr be154 (by have := re12.lt; omega)
    replace hm := hm.gr be154 (by have := hm.lt; omega)
    replace gw := gw.gr be154 (by omega)
    replace hp := hp.gr be154 (by omega)
    have h := re156
    clear re156
    refine LL.nilS ?_
    refine CC.seq ?_
    refine CC.seq ?_
    refine CC.region ?_
    refine LL.val (R.move rfl rfl) rfl rfl rfl ?_
    (refine LL.val (R.eqS (a := p) (b := [46, 46]) (c := false) rfl rfl rfl (by simp [hup])) rfl rfl rfl ?_)
    refine LL.nilS ?_
    refine CC.no rfl ?_
    refine CC.skip ?_
    refine EE.thenN ?_
    refine CC.seq ?_
    refine CC.freeZ (fun W_ j => j < W_.heap.size ∧ (True)) (by kernel_rfl) (by kernel_rfl) (fun We166 be165 ze167 => ?_)
    replace re12 := re12.up be165
    replace hm := hm.up be165
    replace gw := gw.up be165
    replace hp := hp.up be165
    replace h := h.up be165
    have hok : Kept (fun j => j < We166.heap.size ∧ (True)) We166 We166 := Kept.refl _ _
    have fzre12 := fzRow (K := fun j => j < We166.heap.size ∧ (True)) re12 ⟨re12.lt, (by first | trivial | omega)⟩
    have fzh := fzRow (K := fun j => j < We166.heap.size ∧ (True)) h ⟨h.lt, (by first | trivial | omega)⟩
    refine AA.pure 1 rfl hok (by kernel_rfl) (fun w' b' => R.field rfl rfl (I.fld rfl)) rfl rfl ?_
    refine AA.pure 2 rfl hok (by kernel_rfl) (fun w' b' => R.load rfl rfl (I.ld1 rfl (RowL.cell (fzre12 w' b') rfl))) rfl rfl ?_
    refine AA.one 0 (by kernel_rfl) ?_
    refine SR.call rfl (R.call rfl rfl rfl) rfl rfl (doing_any _) ?_
    rintro e We176 ⟨ge178, ke179, rfl, he177, be175⟩
    have zbe175 := be175.size
    replace be165 := be165.trans (be175.mono be165.size)
    replace re12 := re12.up be175
    replace hm := hm.up be175
    replace gw := gw.up be175
    replace hp := hp.up be175
    replace h := h.up be175
    replace hok := hok.trans (bkept be175 (fun j h => by have := h.1; have := hok.size; omega))
    have ye180 := hok.size
    refine ⟨_, rfl, hok, ?_⟩
    refine AA.one 3 (by kernel_rfl) ?_
    (refine SR.val rfl (R.lookKF rfl rfl zKeys rfl rfl (by assumption) (f.2.1 : Int) rfl LF) rfl rfl hok ?_)
    refine AA.pure 4 rfl hok (by kernel_rfl) (fun w' b' => R.move rfl rfl) rfl rfl ?_
    refine AA.pure 5 rfl hok (by kernel_rfl) (fun w' b' => R.extract rfl rfl rfl) rfl rfl ?_
    refine AA.pure 6 rfl hok (by kernel_rfl) (fun w' b' => R.extract rfl rfl rfl) rfl rfl ?_
    refine AA.pure 7 rfl hok (by kernel_rfl) (fun w' b' => R.assign rfl rfl) rfl rfl ?_
    refine AA.pure 8 rfl hok (by kernel_rfl) (fun w' b' => R.assign rfl rfl) rfl rfl ?_
    refine AA.done rfl ?_
    clear fzre12 fzh hok
    refine EE.thenN ?_
    refine CC.seq ?_
    refine CC.seq ?_
    refine CC.region ?_
    refine LL.val (R.move rfl rfl) rfl rfl rfl ?_
    refine LL.val (R.not rfl rfl) rfl rfl rfl ?_
    refine LL.nilS ?_
    refine CC.yes rfl ?_
    refine CC.region ?_
    refine LL.val (R.assign rfl rfl) rfl rfl rfl ?_
    refine LL.nilS ?_
    refine CC.seq ?_
    refine CC.region ?_
    refine LL.val (R.move rfl rfl) rfl rfl rfl ?_
    refine LL.val (R.move rfl rfl) rfl rfl rfl ?_
    refine LL.val (R.move rfl rfl) rfl rfl rfl ?_
    refine LL.val (R.load rfl rfl (I.ldNc (vs := [Value.int IntKind.i64 f.1, Value.int IntKind.i64 f.2.1, strV f.2.2]) (RowL.cells re12 rfl) (by rfl) (by rfl))) rfl rfl rfl ?_
    (refine LL.call (R.callV rfl rfl rfl rfl) rfl rfl rfl (stop_yes g p f h (htl _ hp) hr) ?_; rintro e We247 ⟨rfl, hW, te246⟩; refine ⟨_, rfl, ?_⟩)
    have zte246 := te246.size
    replace re12 := re12.kept te246 ⟨re12.lt, by omega⟩
    replace hm := hm.kept te246 ⟨by omega, by omega⟩
    replace gw := gw.kept te246 ⟨by omega, by omega⟩
    replace hp := hp.kept te246 ⟨by omega, by omega⟩
    refine LL.nilS ?_
    refine CC.seq ?_
    refine CC.region ?_
    refine LL.val (R.assign rfl rfl) rfl rfl rfl ?_
    refine LL.nilS ?_
    refine CC.ret ?_
    refine EE.ret _ rfl rfl ?_
    exact ⟨rfl, hW, gw⟩
  · rw [if_pos hr]
    refine X.fn Tryd.func14 rfl (n := 51) rfl rfl ?_
    refine CC.seq ?_
    refine CC.region ?_
    have lf8 := h.lt
    refine LL.box [Value.int IntKind.i64 f.1, Value.int IntKind.i64 f.2.1, strV f.2.2] rfl rfl rfl rfl rfl ?_
    intro Wf10 gf11 egf11 rf12 zf13 bf9
    replace hm := hm.up bf9
    replace gw := gw.up bf9
    replace hp := hp.up bf9
    replace h := h.up bf9
    refine LL.val (R.assign rfl rfl) rfl rfl rfl ?_
    refine LL.nilS ?_
    refine CC.seq ?_
    refine CC.seq ?_
    refine CC.region ?_
    refine LL.val (R.move rfl rfl) rfl rfl rfl ?_
    (refine LL.call (R.call rfl rfl rfl) rfl rfl rfl (answered_run g (by assumption)) ?_; rintro e W' ⟨rfl, rfl⟩; refine ⟨_, rfl, ?_⟩)
    refine LL.val (R.assign rfl rfl) rfl rfl rfl ?_
    refine LL.nilS ?_
    refine CC.seq ?_
    refine CC.region ?_
    refine LL.val (R.move rfl rfl) rfl rfl rfl ?_
    refine LL.val (R.neF rfl rfl rfl (by omega)) rfl rfl rfl ?_
    refine LL.nilS ?_
    refine CC.no rfl ?_
    refine CC.skip ?_
    refine EE.thenN ?_
    refine CC.seq ?_
    refine CC.region ?_
    refine LL.val (R.move rfl rfl) rfl rfl rfl ?_
    refine LL.val (R.nil rfl rfl) rfl rfl rfl ?_
    refine LL.val (R.field rfl rfl (I.fld rfl)) rfl rfl rfl ?_
    refine LL.val (R.load rfl rfl (I.ld1 rfl (RowL.cell h rfl))) rfl rfl rfl ?_
    refine LL.val (R.index rfl rfl rfl (I.ixS1c rfl rfl (by omega))) rfl rfl rfl ?_
    (refine LL.val (R.load rfl rfl (I.ld1 rfl (hc0 _ hp))) rfl rfl rfl ?_)
    refine LL.val (R.assign rfl rfl) rfl rfl rfl ?_
    refine LL.nilS ?_
    refine CC.seq ?_
    refine CC.region ?_
    refine LL.val (R.move rfl rfl) rfl rfl rfl ?_
    refine LL.val (R.move rfl rfl) rfl rfl rfl ?_
    refine LL.val (R.nil rfl rfl) rfl rfl rfl ?_
    refine LL.val (R.field rfl rfl (I.fld rfl)) rfl rfl rfl ?_
    refine LL.val (R.load rfl rfl (I.ld1 rfl (RowL.cell h rfl))) rfl rfl rfl ?_
    (refine LL.val (R.slice rfl rfl rfl rfl rfl (hsl _ _ _ _ rfl)) rfl rfl rfl ?_)
    refine LL.val (R.nil rfl rfl) rfl rfl rfl ?_
    refine LL.val (R.field rfl rfl (I.fld rfl)) rfl rfl rfl ?_
    refine LL.store rfl rfl rfl rfl h (by exact Nat.le_of_ble_eq_true rfl) rfl rfl rfl rfl ?_
    intro Wf155 rf156 bf154 zf157
    have hlbf154 := h.lt
    replace rf156 : RowL Wf155 _ 60 [Value.int IntKind.i64 0, Value.int IntKind.i64 0, strV [], Value.int IntKind.i64 0, Value.int IntKind.i64 0, Value.bool false, Value.int IntKind.i64 dir, Value.slice a' (n - 1) c', Value.int IntKind.i64 ↑links, Value.bool fol, Value.bool true] := rf156
    clear h
    replace rf12 := rf12.gr bf154 (by have := rf12.lt; omega)
    replace hm := hm.gr bf154 (by have := hm.lt; omega)
    replace gw := gw.gr bf154 (by omega)
    replace hp := hp.gr bf154 (by omega)
    have h := rf156
    clear rf156
    refine LL.nilS ?_
    refine CC.seq ?_
    refine CC.seq ?_
    refine CC.region ?_
    refine LL.val (R.move rfl rfl) rfl rfl rfl ?_
    (refine LL.val (R.eqS (a := p) (b := [46, 46]) (c := false) rfl rfl rfl (by simp [hup])) rfl rfl rfl ?_)
    refine LL.nilS ?_
    refine CC.no rfl ?_
    refine CC.skip ?_
    refine EE.thenN ?_
    refine CC.seq ?_
    refine CC.freeZ (fun W_ j => j < W_.heap.size ∧ (True)) (by kernel_rfl) (by kernel_rfl) (fun Wf166 bf165 zf167 => ?_)
    replace rf12 := rf12.up bf165
    replace hm := hm.up bf165
    replace gw := gw.up bf165
    replace hp := hp.up bf165
    replace h := h.up bf165
    have hok : Kept (fun j => j < Wf166.heap.size ∧ (True)) Wf166 Wf166 := Kept.refl _ _
    have fzrf12 := fzRow (K := fun j => j < Wf166.heap.size ∧ (True)) rf12 ⟨rf12.lt, (by first | trivial | omega)⟩
    have fzh := fzRow (K := fun j => j < Wf166.heap.size ∧ (True)) h ⟨h.lt, (by first | trivial | omega)⟩
    refine AA.pure 1 rfl hok (by kernel_rfl) (fun w' b' => R.field rfl rfl (I.fld rfl)) rfl rfl ?_
    refine AA.pure 2 rfl hok (by kernel_rfl) (fun w' b' => R.load rfl rfl (I.ld1 rfl (RowL.cell (fzrf12 w' b') rfl))) rfl rfl ?_
    refine AA.one 0 (by kernel_rfl) ?_
    refine SR.call rfl (R.call rfl rfl rfl) rfl rfl (doing_any _) ?_
    rintro e Wf176 ⟨gf178, kf179, rfl, hf177, bf175⟩
    have zbf175 := bf175.size
    replace bf165 := bf165.trans (bf175.mono bf165.size)
    replace rf12 := rf12.up bf175
    replace hm := hm.up bf175
    replace gw := gw.up bf175
    replace hp := hp.up bf175
    replace h := h.up bf175
    replace hok := hok.trans (bkept bf175 (fun j h => by have := h.1; have := hok.size; omega))
    have yf180 := hok.size
    refine ⟨_, rfl, hok, ?_⟩
    refine AA.one 3 (by kernel_rfl) ?_
    (refine SR.val rfl (R.lookKF rfl rfl zKeys rfl rfl (by assumption) (f.2.1 : Int) rfl LF) rfl rfl hok ?_)
    refine AA.pure 4 rfl hok (by kernel_rfl) (fun w' b' => R.move rfl rfl) rfl rfl ?_
    refine AA.pure 5 rfl hok (by kernel_rfl) (fun w' b' => R.extract rfl rfl rfl) rfl rfl ?_
    refine AA.pure 6 rfl hok (by kernel_rfl) (fun w' b' => R.extract rfl rfl rfl) rfl rfl ?_
    refine AA.pure 7 rfl hok (by kernel_rfl) (fun w' b' => R.assign rfl rfl) rfl rfl ?_
    refine AA.pure 8 rfl hok (by kernel_rfl) (fun w' b' => R.assign rfl rfl) rfl rfl ?_
    refine AA.done rfl ?_
    clear fzrf12 fzh hok
    refine EE.thenN ?_
    refine CC.seq ?_
    refine CC.seq ?_
    refine CC.region ?_
    refine LL.val (R.move rfl rfl) rfl rfl rfl ?_
    refine LL.val (R.not rfl rfl) rfl rfl rfl ?_
    refine LL.nilS ?_
    refine CC.yes rfl ?_
    refine CC.region ?_
    refine LL.val (R.assign rfl rfl) rfl rfl rfl ?_
    refine LL.nilS ?_
    refine CC.seq ?_
    refine CC.region ?_
    refine LL.val (R.move rfl rfl) rfl rfl rfl ?_
    refine LL.val (R.move rfl rfl) rfl rfl rfl ?_
    refine LL.val (R.move rfl rfl) rfl rfl rfl ?_
    refine LL.val (R.load rfl rfl (I.ldNc (vs := [Value.int IntKind.i64 f.1, Value.int IntKind.i64 f.2.1, strV f.2.2]) (RowL.cells rf12 rfl) (by rfl) (by rfl))) rfl rfl rfl ?_
    (refine LL.call (R.callV rfl rfl rfl rfl) rfl rfl rfl (stop_no g p f h (htl _ hp) (by omega) hr) ?_; rintro e Wf247 ⟨rfl, hW, tf246⟩; refine ⟨_, rfl, ?_⟩)
    have ztf246 := tf246.size
    replace rf12 := rf12.kept tf246 ⟨rf12.lt, by omega⟩
    replace hm := hm.kept tf246 ⟨by omega, by omega⟩
    replace gw := gw.kept tf246 ⟨by omega, by omega⟩
    replace hp := hp.kept tf246 ⟨by omega, by omega⟩
    refine LL.nilS ?_
    refine CC.seq ?_
    refine CC.region ?_
    refine LL.val (R.assign rfl rfl) rfl rfl rfl ?_
    refine LL.nilS ?_
    refine CC.ret ?_
    refine EE.ret _ rfl rfl ?_
    exact ⟨rfl, hW, gw⟩
end
end Go.Proofs.YtbbddpnjglijdaaDoor
/- walk: Left, Copy, New; calls over a walker's state (written by genwk7.py). -/
namespace Go.Proofs.YtbbddpnjglijdaaDoor
set_option linter.unusedVariables false
set_option linter.unusedSimpArgs false
open Go.RowKit Go.Shelf
set_option maxRecDepth 100000
set_option maxHeartbeats 8000000
section
variable (g : Nat) {x0 : Wd} {dn fol mk : Bool} {dir links : Int} {lv : Value} {ls : List Bs} {w : World} {B : Nat}
theorem left_run (h : RowL w g 60 (wkL x0 false dir lv links fol true)) (hp : ReadsT stE 1 w lv ls) (hl : ls.length ≤ 100000) : Calls Tryd.prog 26 #[.pointer (some ⟨g, 0, none⟩)] w fun e w' => ∃ v, e = .returned v ∧ OwnsT stE 1 w' w.heap.size 9 v ls ∧ Below w.heap.size w w' := by
  have q := Below.refl w.heap.size w
  obtain ⟨n, hn⟩ : ∃ n, ls.length = n := ⟨_, rfl⟩
  obtain ⟨a, c, rfl, _⟩ := hp.form hn
  have hcl := fun X (b : Below w.heap.size w X) => sclone_any _ ls X (hp.up b) (by omega)
  clear hp
  refine X.fn Tryd.func26 rfl (n := 17) rfl rfl ?_
  refine CC.seq ?_
  refine CC.region ?_
  refine LL.val (R.assign rfl rfl) rfl rfl rfl ?_
  refine LL.nilS ?_
  refine CC.seq ?_
  refine CC.seq ?_
  refine CC.region ?_
  refine LL.val (R.move rfl rfl) rfl rfl rfl ?_
  refine LL.call (R.call rfl rfl rfl) rfl rfl rfl (none_any _ (by first | assumption | omega)) ?_
  rintro e W' ⟨rfl, rfl⟩
  refine ⟨_, rfl, ?_⟩
  refine LL.val (R.move rfl rfl) rfl rfl rfl ?_
  refine LL.val (R.move rfl rfl) rfl rfl rfl ?_
  refine LL.val (R.nil rfl rfl) rfl rfl rfl ?_
  refine LL.val (R.field rfl rfl (I.fld rfl)) rfl rfl rfl ?_
  refine LL.val (R.field rfl rfl (I.fld rfl)) rfl rfl rfl ?_
  refine LL.val (R.load rfl rfl (I.ld1 rfl (RowL.cell h rfl))) rfl rfl rfl ?_
  refine LL.val (R.pick rfl rfl rfl) rfl rfl rfl ?_
  refine LL.nilS ?_
  refine CC.no rfl ?_
  refine CC.skip ?_
  refine EE.thenN ?_
  refine CC.seq ?_
  refine CC.region ?_
  refine LL.val (R.move rfl rfl) rfl rfl rfl ?_
  refine LL.val (R.nil rfl rfl) rfl rfl rfl ?_
  refine LL.val (R.field rfl rfl (I.fld rfl)) rfl rfl rfl ?_
  refine LL.val (R.load rfl rfl (I.ld1 rfl (RowL.cell h rfl))) rfl rfl rfl ?_
  have l117 := h.lt
  (refine LL.call (R.call rfl rfl rfl) rfl rfl rfl (hcl _ q) ?_; rintro e W116 ⟨v', rfl, oc, b113⟩; refine ⟨_, rfl, ?_⟩; obtain ⟨az, cz, rfl, hcz⟩ := (oc.reads stEnc).form hn)
  have zb113 := b113.size
  replace q := q.trans (b113.mono q.size)
  replace h := h.up b113
  refine LL.val (R.assign rfl rfl) rfl rfl rfl ?_
  refine LL.nilS ?_
  refine CC.ret ?_
  refine EE.ret _ rfl rfl ?_
  exact ⟨_, rfl, OwnsT.lower oc (by omega), q⟩
theorem left_done (h : RowL w g 60 (wkL x0 true dir lv links fol true)) : Calls Tryd.prog 26 #[.pointer (some ⟨g, 0, none⟩)] w fun e w' => ∃ v, e = .returned v ∧ OwnsT stE 1 w' w.heap.size 9 v [] ∧ Below w.heap.size w w' := by
  have q := Below.refl w.heap.size w
  refine X.fn Tryd.func26 rfl (n := 17) rfl rfl ?_
  refine CC.seq ?_
  refine CC.region ?_
  refine LL.val (R.assign rfl rfl) rfl rfl rfl ?_
  refine LL.nilS ?_
  refine CC.seq ?_
  refine CC.seq ?_
  refine CC.region ?_
  refine LL.val (R.move rfl rfl) rfl rfl rfl ?_
  refine LL.call (R.call rfl rfl rfl) rfl rfl rfl (none_any _ (by first | assumption | omega)) ?_
  rintro e W' ⟨rfl, rfl⟩
  refine ⟨_, rfl, ?_⟩
  refine LL.val (R.move rfl rfl) rfl rfl rfl ?_
  refine LL.val (R.move rfl rfl) rfl rfl rfl ?_
  refine LL.val (R.nil rfl rfl) rfl rfl rfl ?_
  refine LL.val (R.field rfl rfl (I.fld rfl)) rfl rfl rfl ?_
  refine LL.val (R.field rfl rfl (I.fld rfl)) rfl rfl rfl ?_
  refine LL.val (R.load rfl rfl (I.ld1 rfl (RowL.cell h rfl))) rfl rfl rfl ?_
  refine LL.val (R.pick rfl rfl rfl) rfl rfl rfl ?_
  refine LL.nilS ?_
  refine CC.yes rfl ?_
  refine CC.seq ?_
  refine CC.region ?_
  refine LL.val (R.assign rfl rfl) rfl rfl rfl ?_
  refine LL.nilS ?_
  refine CC.ret ?_
  refine EE.thenR ?_
  refine EE.ret _ rfl rfl ?_
  exact ⟨_, rfl, OwnsT.none _ _ _, q⟩
theorem new_bad (path : Bs) (er : Nat) (he : pathN path = er) (h0 : er ≠ 0) (hm : Mx w) (hl : path.length ≤ 9223372036854775807) : Calls Tryd.prog 9 #[strV path, .bool fol] w fun e w' => e = .returned (.tuple #[.pointer none, .int .i64 (er : Int)]) ∧ Below w.heap.size w w' := by
  have q := Below.refl w.heap.size w
  have he' : (er : Int) ≠ 0 := by omega
  refine X.fn Tryd.func9 rfl (n := 26) rfl rfl ?_
  refine CC.seq ?_
  refine CC.region ?_
  refine LL.val (R.assign rfl rfl) rfl rfl rfl ?_
  refine LL.val (R.assign rfl rfl) rfl rfl rfl ?_
  refine LL.nilS ?_
  refine CC.seq ?_
  refine CC.region ?_
  refine LL.val (R.move rfl rfl) rfl rfl rfl ?_
  (refine LL.call (R.call rfl rfl rfl) rfl rfl rfl (wparts_any path _ (by assumption) hl) ?_; rintro e W25 ⟨vp, rfl, op, b22⟩; refine ⟨_, rfl, ?_⟩; rw [he, if_neg h0] at op; rw [he]; obtain ⟨ap, cp, rfl, hcp⟩ := (op.reads stEnc).form rfl)
  have zb22 := b22.size
  replace hm := hm.up b22
  replace q := q.trans (b22.mono q.size)
  refine LL.val (R.move rfl rfl) rfl rfl rfl ?_
  refine LL.val (R.extract rfl rfl rfl) rfl rfl rfl ?_
  refine LL.val (R.extract rfl rfl rfl) rfl rfl rfl ?_
  refine LL.val (R.assign rfl rfl) rfl rfl rfl ?_
  refine LL.val (R.assign rfl rfl) rfl rfl rfl ?_
  refine LL.nilS ?_
  refine CC.seq ?_
  refine CC.seq ?_
  refine CC.region ?_
  refine LL.val (R.move rfl rfl) rfl rfl rfl ?_
  refine LL.val (R.neT rfl rfl rfl (by omega)) rfl rfl rfl ?_
  refine LL.nilS ?_
  refine CC.yes rfl ?_
  refine CC.seq ?_
  refine CC.region ?_
  refine LL.val (R.move rfl rfl) rfl rfl rfl ?_
  refine LL.val (R.assign rfl rfl) rfl rfl rfl ?_
  refine LL.val (R.assign rfl rfl) rfl rfl rfl ?_
  refine LL.nilS ?_
  refine CC.ret ?_
  refine EE.thenR ?_
  refine EE.ret _ rfl rfl ?_
  exact ⟨rfl, q⟩
theorem new_yes (path : Bs) (hz : pathN path = 0) (hm : Mx w) (hl : path.length ≤ 9223372036854775807) : Calls Tryd.prog 9 #[strV path, .bool fol] w fun e w' => ∃ g, e = .returned (.tuple #[.pointer (some ⟨g, 0, none⟩), .int .i64 0]) ∧ WkAt w' g (newW path fol) ∧ w.heap.size ≤ g ∧ Below w.heap.size w w' := by
  have q := Below.refl w.heap.size w
  have hpl := partsL_len0 hz
  refine X.fn Tryd.func9 rfl (n := 26) rfl rfl ?_
  refine CC.seq ?_
  refine CC.region ?_
  refine LL.val (R.assign rfl rfl) rfl rfl rfl ?_
  refine LL.val (R.assign rfl rfl) rfl rfl rfl ?_
  refine LL.nilS ?_
  refine CC.seq ?_
  refine CC.region ?_
  refine LL.val (R.move rfl rfl) rfl rfl rfl ?_
  (refine LL.call (R.call rfl rfl rfl) rfl rfl rfl (wparts_any path _ (by assumption) hl) ?_; rintro e W67 ⟨vp, rfl, op, b64⟩; refine ⟨_, rfl, ?_⟩; rw [hz, if_pos rfl] at op; rw [hz]; obtain ⟨ap, cp, rfl, hcp⟩ := (op.reads stEnc).form rfl)
  have zb64 := b64.size
  replace hm := hm.up b64
  replace q := q.trans (b64.mono q.size)
  refine LL.val (R.move rfl rfl) rfl rfl rfl ?_
  refine LL.val (R.extract rfl rfl rfl) rfl rfl rfl ?_
  refine LL.val (R.extract rfl rfl rfl) rfl rfl rfl ?_
  refine LL.val (R.assign rfl rfl) rfl rfl rfl ?_
  refine LL.val (R.assign rfl rfl) rfl rfl rfl ?_
  refine LL.nilS ?_
  refine CC.seq ?_
  refine CC.seq ?_
  refine CC.region ?_
  refine LL.val (R.move rfl rfl) rfl rfl rfl ?_
  refine LL.val (R.neF rfl rfl rfl (by omega)) rfl rfl rfl ?_
  refine LL.nilS ?_
  refine CC.no rfl ?_
  refine CC.skip ?_
  refine EE.thenN ?_
  refine CC.seq ?_
  refine CC.region ?_
  refine LL.val (R.move rfl rfl) rfl rfl rfl ?_
  refine LL.val (R.buildV rfl rfl (v := .agg #[Value.int IntKind.i64 0, Value.int IntKind.i64 0, Value.string { data := #[] }, Value.int IntKind.i64 0, Value.int IntKind.i64 0, Value.bool false, Value.int IntKind.i64 1, Value.slice none 0 0, Value.int IntKind.i64 0, Value.bool fol, Value.bool true]) (fun _ => by kernel_rfl)) rfl rfl rfl ?_
  refine LL.box [Value.int IntKind.i64 0, Value.int IntKind.i64 0, Value.string { data := #[] }, Value.int IntKind.i64 0, Value.int IntKind.i64 0, Value.bool false, Value.int IntKind.i64 1, Value.slice none 0 0, Value.int IntKind.i64 0, Value.bool fol, Value.bool true] rfl rfl rfl rfl rfl ?_
  intro W282 g283 eg283 r284 z285 b281
  replace b64 := b64.trans (b281.mono b64.size)
  replace op := op.up b281
  replace hm := hm.up b281
  replace q := q.trans (b281.mono q.size)
  refine LL.val (R.assign rfl rfl) rfl rfl rfl ?_
  refine LL.nilS ?_
  refine CC.seq ?_
  refine CC.region ?_
  refine LL.val (R.move rfl rfl) rfl rfl rfl ?_
  refine LL.val (R.move rfl rfl) rfl rfl rfl ?_
  (refine LL.call (R.call rfl rfl rfl) rfl rfl rfl (lead_any _ _ (partsL path) [] (by assumption) (op.reads stEnc) (B := 0) ⟨ReadsT.nil _, (fun x n c e => by cases e), Nat.zero_le _⟩ (by omega) (Nat.zero_le _)) ?_; rintro e W363 ⟨rfl, ⟨v2, B2, hN, hp2⟩, t362⟩; refine ⟨_, rfl, ?_⟩; rw [List.append_nil] at hp2; clear op)
  have zt362 := t362.size
  replace b281 := t362.onB b281 (fun j hj => ⟨by have := b281.size; omega, by omega⟩)
  replace b64 := t362.onB b64 (fun j hj => ⟨by have := b64.size; omega, by omega⟩)
  replace q := t362.onB q (fun j hj => ⟨by have := q.size; omega, by omega⟩)
  refine LL.nilS ?_
  refine CC.seq ?_
  refine CC.region ?_
  refine LL.val (R.move rfl rfl) rfl rfl rfl ?_
  (refine LL.call (R.call rfl rfl rfl) rfl rfl rfl (on_any _ (links := 0) hN hp2 (by omega)) ?_; rintro e W407 ⟨rfl, hW, t406⟩; refine ⟨_, rfl, ?_⟩)
  have zt406 := t406.size
  replace hp2 := hp2.kept t406 ⟨by omega, by omega⟩
  replace b281 := t406.onB b281 (fun j hj => ⟨by have := b281.size; omega, by omega⟩)
  replace b64 := t406.onB b64 (fun j hj => ⟨by have := b64.size; omega, by omega⟩)
  replace q := t406.onB q (fun j hj => ⟨by have := q.size; omega, by omega⟩)
  refine LL.nilS ?_
  refine CC.seq ?_
  refine CC.region ?_
  refine LL.val (R.move rfl rfl) rfl rfl rfl ?_
  refine LL.val (R.assign rfl rfl) rfl rfl rfl ?_
  refine LL.val (R.assign rfl rfl) rfl rfl rfl ?_
  refine LL.nilS ?_
  refine CC.ret ?_
  refine EE.ret _ rfl rfl ?_
  exact ⟨_, rfl, hW, by omega, q⟩
end
end Go.Proofs.YtbbddpnjglijdaaDoor
/- clear behind the end of a slice of structs that the call owns; s[lo:hi]. -/
namespace Go.Proofs.YtbbddpnjglijdaaDoor
set_option linter.unusedVariables false
set_option linter.unusedSimpArgs false
open Go.RowKit Go.Shelf

section
variable {α : Type} {enc : α → List Value} {k : Nat} {P : Program} {T e : TypeId} {z : Value} {bytes : Nat}
end
end Go.Proofs.YtbbddpnjglijdaaDoor
/- An element of a slice of structs that the call owns, stored anew; the first elements of one. -/
namespace Go.Proofs.YtbbddpnjglijdaaDoor
set_option linter.unusedVariables false
set_option linter.unusedSimpArgs false
open Go.RowKit Go.Shelf

section
variable {α : Type} {enc : α → List Value} {k : Nat}
theorem Enc.set (E : Enc enc k) (ts : List α) (i : Nat) (t : α) (h : i < ts.length) : (ts.set i t).flatMap enc = (ts.flatMap enc).take (i * k) ++ enc t ++ (ts.flatMap enc).drop (i * k + k) := by
  have hp : i * k + k = (i + 1) * k := by rw [Nat.add_mul]; omega
  rw [List.set_eq_take_append_cons_drop, if_pos h, List.flatMap_append, List.flatMap_cons, hp, E.drop, E.take, List.append_assoc]
theorem OwnsT.block {w : World} {base e : Nat} {v : Value} {ts : List α} (h : OwnsT enc k w base e v ts) : (v = .slice Option.none 0 0 ∧ ts = []) ∨ ∃ g cap, v = .slice (some ⟨g, 0, Option.none⟩) ts.length cap ∧ ts.length ≤ cap ∧ base ≤ g ∧ g < w.heap.size := by
  rcases h.2 with ⟨e1, h0⟩ | ⟨g, cap, cur, e1, hbg, hg, hnc, _⟩
  · exact .inl ⟨e1, List.eq_nil_of_length_eq_zero h0⟩
  · exact .inr ⟨g, cap, e1, hnc, hbg, (Array.getElem?_eq_some_iff.1 hg).1⟩
end

section
variable {α : Type} {enc : α → List Value} {k : Nat} {P : Program} {w : World} {o : Oper} {n : Nat} {D : List Deferred} {M : Slots} {T e : TypeId} {z : Value} {bytes : Nat} {r : Option Nat} {ops : Array Oper} {Q : Exit → Act → World → Prop} {rest : List Oper}
end
end Go.Proofs.YtbbddpnjglijdaaDoor
/- A field of an element of a slice of structs that the call owns, stored anew. -/
namespace Go.Proofs.YtbbddpnjglijdaaDoor
set_option linter.unusedVariables false
set_option linter.unusedSimpArgs false
open Go.RowKit Go.Shelf

section
variable {α : Type} {enc : α → List Value} {k : Nat} {P : Program} {e : TypeId} {r : Option Nat} {ops : Array Oper} {Q : Exit → Act → World → Prop} {rest : List Oper} {w : World} {n : Nat} {D : List Deferred} {M : Slots} {o : Oper}
end
end Go.Proofs.YtbbddpnjglijdaaDoor
/- Slices whose elements have many cells: made, copied; parts of elements loaded and stored. Over any program. -/
namespace Go.Proofs.YtbbddpnjglijdaaDoor
set_option linter.unusedVariables false
set_option linter.unusedSimpArgs false
open Go.RowKit Go.Shelf

/-- k cells from a place on. -/
structure CellsN (w : World) (p : Addr) (k : Nat) (vs : List Value) : Prop where
  at' : Cells w p vs
  len : vs.length = k
section
variable {w w' : World} {p : Addr} {k b o : Nat} {vs : List Value} {P : Program} {t : TypeId}
theorem CellsN.lt (h : CellsN w ⟨b, o, none⟩ k vs) (hk : 0 < k) : b < w.heap.size := by
  have hl := h.len
  obtain ⟨u, hu⟩ : ∃ u, vs[0]? = some u := ⟨_, List.getElem?_eq_getElem (by omega)⟩
  have := h.at' 0 u hu
  rw [add_plain] at this
  exact World.block_lt_of_cell? _ _ this
theorem CellsN.up (h : CellsN w ⟨b, o, none⟩ k vs) (hb : Below w.heap.size w w') : CellsN w' ⟨b, o, none⟩ k vs := ⟨fun j u hu => by
  have h1 := h.at' j u hu
  rw [add_plain] at *
  exact (hb.cell (p := ⟨b, o + j, none⟩) (World.block_lt_of_cell? _ _ h1)).trans h1, h.len⟩
theorem CellsN.gr {r : Nat} (h : CellsN w ⟨b, o, none⟩ k vs) (hg : w.grownBy w' (some r)) (hne : b ≠ r) : CellsN w' ⟨b, o, none⟩ k vs := ⟨fun j u hu => by
  have h1 := h.at' j u hu
  rw [add_plain] at *
  exact (World.cell?_of_block (hg.block b (World.block_lt_of_cell? _ _ h1) (by simpa using hne))).trans h1, h.len⟩
theorem CellsN.kept {K : Nat → Prop} (h : CellsN w ⟨b, o, none⟩ k vs) (hk : Kept K w w') (hb : K b) : CellsN w' ⟨b, o, none⟩ k vs := ⟨fun j u hu => by
  have h1 := h.at' j u hu
  rw [add_plain] at *
  exact (World.cell?_of_block (hk.block b hb)).trans h1, h.len⟩
/-- A part. -/
theorem CellsN.part {us : List Value} (h : CellsN w ⟨b, o, none⟩ k vs) (c : Nat) {k' : Nat} (hu : (vs.drop c).take k' = us) (hl : c + k' ≤ k) : CellsN w ⟨b, o + c, none⟩ k' us := by
  have hv := h.len
  subst hu
  refine ⟨fun j u hj => ?_, by rw [List.length_take, List.length_drop]; omega⟩
  have hlt := (List.getElem?_eq_some_iff.1 hj).1
  rw [List.length_take, List.length_drop] at hlt
  rw [List.getElem?_take, if_pos (by omega), List.getElem?_drop] at hj
  have := h.at' _ u hj
  rw [add_plain] at *
  rw [Nat.add_assoc]
  exact this
theorem CellsN.cell {u : Value} (h : CellsN w ⟨b, o, none⟩ k vs) {j : Nat} (hu : vs[j]? = some u) : w.cell? ⟨b, o + j, none⟩ = some u := by
  have := h.at' j u hu
  rwa [add_plain] at this
theorem I.ldM (h : CellsN w p k vs) (hT : aggB P t = true) (hz : szB P t = some k) : (Instr.loadAt t (.pointer (some p))).run P w = .ok (.agg vs.toArray) w := I.ldN hT (by rw [hz, h.len]) h.at'
theorem RowL.cellsN {g e off : Nat} {xs : List Value} (h : RowL w g e xs) (hv : (xs.drop off).take k = vs) (hl : off + k ≤ xs.length) : CellsN w ⟨g, off, none⟩ k vs := by
  have hlen : vs.length = k := by rw [← hv, List.length_take, List.length_drop]; omega
  exact ⟨h.cells (by rw [hlen]; exact hv), hlen⟩
theorem RowL.elemN {α : Type} {enc : α → List Value} {g e i : Nat} {ts : List α} {x : α} (E : Enc enc k) (h : RowL w g e (ts.flatMap enc)) (hx : ts[i]? = some x) : CellsN w ⟨g, i * k, none⟩ k (enc x) := by
  have hi := (List.getElem?_eq_some_iff.1 hx).1
  have hf := E.flat ts
  have hin : i * k + k ≤ ts.length * k := by
    have : (i + 1) * k ≤ ts.length * k := Nat.mul_le_mul_right _ hi
    rw [Nat.add_mul] at this
    omega
  refine h.cellsN ?_ (by omega)
  rw [E.drop, ← Nat.one_mul k, E.take]
  rw [show ts.drop i = x :: ts.drop (i + 1) by rw [← (List.getElem?_eq_some_iff.1 hx).2]; exact List.drop_eq_getElem_cons hi]
  simp
theorem ReadsT.elemN {α : Type} {enc : α → List Value} (E : Enc enc k) {off n cap i : Nat} {ts : List α} {x : α} (h : ReadsT enc k w (.slice (some ⟨b, off, none⟩) n cap) ts) (hx : ts[i]? = some x) : CellsN w ⟨b, off + i * k, none⟩ k (enc x) := by
  obtain ⟨b', off', e, _, hc⟩ := h.get E hx
  simp only [Option.some.injEq, Addr.mk.injEq] at e
  obtain ⟨rfl, rfl, _⟩ := e
  exact ⟨hc, E.len x⟩
end

section
variable {α : Type} {enc : α → List Value} {k : Nat} {P : Program} {w : World} {o : Oper} {n : Nat} {D : List Deferred} {M : Slots} {T e : TypeId} {z : Value} {bytes : Nat} {r : Option Nat} {ops : Array Oper} {Q : Exit → Act → World → Prop} {rest : List Oper}
end
end Go.Proofs.YtbbddpnjglijdaaDoor
