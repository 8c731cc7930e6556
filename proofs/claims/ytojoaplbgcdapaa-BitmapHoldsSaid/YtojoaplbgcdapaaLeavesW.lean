/- The walk of BitmapLeaves. -/
import Derived.Test.YtojoaplbgcdapaaNoneW
namespace Go.Proofs.Ytojoaplbgcdapaa
set_option linter.unusedVariables false
set_option linter.unusedSimpArgs false
open Go.RowKit Go.Shelf

theorem SpAt.up {w w' : World} {g b3 b4 bits : Nat} {v : Value} {ws : List Nat} {set : Bool} (h : SpAt w g b3 b4 v bits ws set) (hb : Below w.heap.size w w') : SpAt w' g b3 b4 v bits ws set := h.below hb
/-- What lies between two ranges. -/
structure LvB (W w : World) (g3 g4 g9 gt b3 b4 b5 gm bits : Nat) (many : Int) (v9 vm : Value) (ws : List Nat) (tv : Int) : Prop where
  r3 : RowL W g3 3 [.int .i64 many]
  r4 : RowL W g4 4 [.bool false]
  r9 : RowL W g9 54 [v9]
  rt : RowL W gt 3 [.int .i64 tv]
  h9 : ReadsT rE 2 W v9 (runsP (wb ws) 0 bits)
  hS : SpAt W gm b3 b4 vm bits ws true
  h5 : RowL W b5 3 [.int .i64 ((0 : Nat) : Int)]
  bel : Below w.heap.size w W
  l4 : w.heap.size ≤ g4
theorem LvB.up {W W' w : World} {g3 g4 g9 gt b3 b4 b5 gm bits : Nat} {many : Int} {v9 vm : Value} {ws : List Nat} {tv : Int} (h : LvB W w g3 g4 g9 gt b3 b4 b5 gm bits many v9 vm ws tv) (hb : Below W.heap.size W W') : LvB W' w g3 g4 g9 gt b3 b4 b5 gm bits many v9 vm ws tv :=
  ⟨h.r3.up hb, h.r4.up hb, h.r9.up hb, h.rt.up hb, h.h9.up hb, h.hS.up hb, h.h5.up hb, h.bel.trans (hb.mono h.bel.size), h.l4⟩
theorem LvB.turn {W W' w : World} {g3 g4 g9 gt gt' b3 b4 b5 gm bits : Nat} {many : Int} {v9 vm : Value} {ws : List Nat} {tv tv' : Int} (h : LvB W w g3 g4 g9 gt b3 b4 b5 gm bits many v9 vm ws tv) (hb : Below W.heap.size W W') (rt : RowL W' gt' 3 [.int .i64 tv']) : LvB W' w g3 g4 g9 gt' b3 b4 b5 gm bits many v9 vm ws tv' :=
  let h' := h.up hb
  ⟨h'.r3, h'.r4, h'.r9, rt, h'.h9, h'.hS, h'.h5, h'.bel, h'.l4⟩

set_option maxRecDepth 100000 in
set_option maxHeartbeats 8000000 in
theorem leaves_walk (va : Value) (l : List Nat) (many : Int) (w : World) (ha : ReadsT uE 1 w va l) (hwf : ∀ x ∈ l, x < 18446744073709551616) (hlx : l.length ≤ 9223372036854775807) :
    Calls Try.prog 5 #[va, .int .i64 many] w fun e w' => e = .returned (.bool true) ∧ Below w.heap.size w w' := by
  obtain ⟨N, hN⟩ : ∃ N, l.length = N := ⟨_, rfl⟩
  obtain ⟨a, cap, rfl, hc⟩ := ha.form hN
  rw [hN] at hlx
  have q := Below.refl w.heap.size w
  refine X.fnM Try.func5 rfl (n := 102) rfl rfl ?_
  (refine CC.seq ?_; refine CC.region ?_)
  refine LL.box [.int .i64 many] rfl rfl rfl rfl rfl ?_
  intro W g3 eg r3 zg b
  have hsz_ := b.size
  replace q := q.trans (b.mono q.size)
  replace ha := ha.up b
  skip
  refine LL.alloc [.bool false] rfl rfl rfl rfl rfl ?_
  intro W g4 eg r4 zg b
  have hsz_ := b.size
  replace q := q.trans (b.mono q.size)
  replace ha := ha.up b
  replace r3 := r3.up b
  have l4 : w.heap.size ≤ g4 := by omega
  by_cases hbad : N < 1 ∨ 5 < N
  · have e1 : ∀ c : Bool, c = c := fun _ => rfl
    rcases hbad with hbad | hbad
    all_goals
      (repeat (first | (first | refine CC.seq ?_ | refine CC.region ?_ | refine LL.nilS ?_ | refine CC.yes rfl ?_ | refine CC.no rfl ?_ | refine CC.block ?_ | refine EE.thenN ?_ | refine LL.nil ?_ | refine CC.exit ?_ | refine CC.ret ?_ | refine CC.skip ?_ | refine EE.thenX ?_ | refine EE.thenR ?_ | refine EE.inN ?_ | refine EE.inX ?_ | refine EE.inX' rfl ?_ | refine EE.inR ?_ | refine CC.label ?_ | refine EE.thenG ?_ | refine EE.inG ?_) | (first | refine LL.val (R.move rfl rfl) rfl rfl rfl ?_ | refine LL.val (R.assign rfl rfl) rfl rfl rfl ?_ | refine LL.val (R.nil rfl rfl) rfl rfl rfl ?_ | refine LL.val (R.field rfl rfl (I.fld rfl)) rfl rfl rfl ?_ | refine LL.val (R.load rfl rfl (I.ld1 rfl (by assumption))) rfl rfl rfl ?_ | refine LL.val (R.load rfl rfl (I.ld1 rfl (RowL.cell (by assumption) rfl))) rfl rfl rfl ?_ | refine LL.val (R.index rfl rfl rfl (I.ixA1c rfl rfl (by first | omega | decide))) rfl rfl rfl ?_ | refine LL.val (R.index rfl rfl rfl (I.ixS1c rfl rfl (by omega))) rfl rfl rfl ?_ | refine LL.val (R.index rfl rfl rfl (I.ixAc rfl rfl (by first | omega | decide))) rfl rfl rfl ?_ | refine LL.val (R.index rfl rfl rfl (I.ixSc rfl rfl (by omega))) rfl rfl rfl ?_ | refine LL.val (R.index rfl rfl rfl (I.ixA1 rfl (by omega))) rfl rfl rfl ?_ | refine LL.val (R.index rfl rfl rfl (I.ixS1 rfl (by omega))) rfl rfl rfl ?_ | refine LL.val (R.index rfl rfl rfl (I.ixA rfl (by omega))) rfl rfl rfl ?_ | refine LL.val (R.index rfl rfl rfl (I.ixS rfl (by omega))) rfl rfl rfl ?_ | refine LL.val (R.ltT rfl rfl rfl (by omega)) rfl rfl rfl ?_ | refine LL.val (R.ltF rfl rfl rfl (by omega)) rfl rfl rfl ?_ | refine LL.val (R.addNc rfl rfl rfl rfl (by omega)) rfl rfl rfl ?_ | refine LL.val (R.subNc rfl rfl rfl rfl (by omega) (by omega)) rfl rfl rfl ?_ | refine LL.val (R.addN rfl rfl rfl (by omega)) rfl rfl rfl ?_ | refine LL.val (R.subN rfl rfl rfl (by omega) (by omega)) rfl rfl rfl ?_ | refine LL.val (R.subcN rfl rfl rfl rfl (by omega) (by omega)) rfl rfl rfl ?_ | refine LL.val (R.addI rfl rfl rfl (by omega)) rfl rfl rfl ?_ | refine LL.val (R.subI rfl rfl rfl (by omega)) rfl rfl rfl ?_ | refine LL.val (R.mulNc rfl rfl rfl rfl (by omega)) rfl rfl rfl ?_ | refine LL.val (R.mulcN rfl rfl rfl rfl (by omega)) rfl rfl rfl ?_ | refine LL.val (R.quoNc rfl rfl rfl rfl (by omega) (by omega)) rfl rfl rfl ?_ | refine LL.val (R.remNc rfl rfl rfl rfl (by omega)) rfl rfl rfl ?_ | refine LL.val (R.mulN rfl rfl rfl (by omega)) rfl rfl rfl ?_ | refine LL.val (R.quoN rfl rfl rfl (by omega) (by omega)) rfl rfl rfl ?_ | refine LL.val (R.remN rfl rfl rfl (by omega)) rfl rfl rfl ?_ | refine LL.val (R.leT rfl rfl rfl (by omega)) rfl rfl rfl ?_ | refine LL.val (R.leF rfl rfl rfl (by omega)) rfl rfl rfl ?_ | refine LL.val (R.gtT rfl rfl rfl (by omega)) rfl rfl rfl ?_ | refine LL.val (R.gtF rfl rfl rfl (by omega)) rfl rfl rfl ?_ | refine LL.val (R.geT rfl rfl rfl (by omega)) rfl rfl rfl ?_ | refine LL.val (R.geF rfl rfl rfl (by omega)) rfl rfl rfl ?_ | refine LL.val (R.eqT rfl rfl rfl (by omega)) rfl rfl rfl ?_ | refine LL.val (R.eqF rfl rfl rfl (by omega)) rfl rfl rfl ?_ | refine LL.val (R.neT rfl rfl rfl (by omega)) rfl rfl rfl ?_ | refine LL.val (R.neF rfl rfl rfl (by omega)) rfl rfl rfl ?_ | refine LL.val (R.eqPtr rfl rfl rfl rfl rfl) rfl rfl rfl ?_ | refine LL.val (R.nePtr rfl rfl rfl rfl rfl) rfl rfl rfl ?_ | refine LL.val (R.eqSl rfl rfl rfl rfl rfl) rfl rfl rfl ?_ | refine LL.val (R.neSl rfl rfl rfl rfl rfl) rfl rfl rfl ?_ | refine LL.val (R.eqFn rfl rfl rfl rfl) rfl rfl rfl ?_ | refine LL.val (R.eqBool rfl rfl rfl rfl rfl) rfl rfl rfl ?_ | refine LL.val (R.neBool rfl rfl rfl rfl rfl) rfl rfl rfl ?_ | refine LL.val (R.xorU rfl rfl rfl (by first | omega | decide) (by first | omega | decide)) rfl rfl rfl ?_ | refine LL.val (R.addUN rfl rfl rfl (by omega)) rfl rfl rfl ?_ | refine LL.val (R.not rfl rfl) rfl rfl rfl ?_ | refine LL.val (R.len rfl rfl rfl rfl) rfl rfl rfl ?_ | refine LL.val (R.pick rfl rfl rfl) rfl rfl rfl ?_ | refine LL.val (R.extract rfl rfl rfl) rfl rfl rfl ?_ | refine LL.val (R.func rfl rfl rfl) rfl rfl rfl ?_ | refine LL.val (R.slice rfl rfl rfl rfl rfl (I.slA rfl)) rfl rfl rfl ?_ | refine LL.val (R.slice rfl rfl rfl rfl rfl (I.slAto rfl (by omega))) rfl rfl rfl ?_) | refine LL.skip rfl rfl ?_))
      refine LL.call (R.call rfl rfl rfl) rfl rfl rfl (works_any _) ?_
      rintro e W ⟨rfl, b⟩
      refine ⟨_, rfl, ?_⟩
      have hsz_ := b.size
      replace q := q.trans (b.mono q.size)
      replace r4 := r4.up b
      (repeat (first | (first | refine CC.seq ?_ | refine CC.region ?_ | refine LL.nilS ?_ | refine CC.yes rfl ?_ | refine CC.no rfl ?_ | refine CC.block ?_ | refine EE.thenN ?_ | refine LL.nil ?_ | refine CC.exit ?_ | refine CC.ret ?_ | refine CC.skip ?_ | refine EE.thenX ?_ | refine EE.thenR ?_ | refine EE.inN ?_ | refine EE.inX ?_ | refine EE.inX' rfl ?_ | refine EE.inR ?_ | refine CC.label ?_ | refine EE.thenG ?_ | refine EE.inG ?_) | (first | refine LL.val (R.move rfl rfl) rfl rfl rfl ?_ | refine LL.val (R.assign rfl rfl) rfl rfl rfl ?_ | refine LL.val (R.nil rfl rfl) rfl rfl rfl ?_ | refine LL.val (R.field rfl rfl (I.fld rfl)) rfl rfl rfl ?_ | refine LL.val (R.load rfl rfl (I.ld1 rfl (by assumption))) rfl rfl rfl ?_ | refine LL.val (R.load rfl rfl (I.ld1 rfl (RowL.cell (by assumption) rfl))) rfl rfl rfl ?_ | refine LL.val (R.index rfl rfl rfl (I.ixA1c rfl rfl (by first | omega | decide))) rfl rfl rfl ?_ | refine LL.val (R.index rfl rfl rfl (I.ixS1c rfl rfl (by omega))) rfl rfl rfl ?_ | refine LL.val (R.index rfl rfl rfl (I.ixAc rfl rfl (by first | omega | decide))) rfl rfl rfl ?_ | refine LL.val (R.index rfl rfl rfl (I.ixSc rfl rfl (by omega))) rfl rfl rfl ?_ | refine LL.val (R.index rfl rfl rfl (I.ixA1 rfl (by omega))) rfl rfl rfl ?_ | refine LL.val (R.index rfl rfl rfl (I.ixS1 rfl (by omega))) rfl rfl rfl ?_ | refine LL.val (R.index rfl rfl rfl (I.ixA rfl (by omega))) rfl rfl rfl ?_ | refine LL.val (R.index rfl rfl rfl (I.ixS rfl (by omega))) rfl rfl rfl ?_ | refine LL.val (R.ltT rfl rfl rfl (by omega)) rfl rfl rfl ?_ | refine LL.val (R.ltF rfl rfl rfl (by omega)) rfl rfl rfl ?_ | refine LL.val (R.addNc rfl rfl rfl rfl (by omega)) rfl rfl rfl ?_ | refine LL.val (R.subNc rfl rfl rfl rfl (by omega) (by omega)) rfl rfl rfl ?_ | refine LL.val (R.addN rfl rfl rfl (by omega)) rfl rfl rfl ?_ | refine LL.val (R.subN rfl rfl rfl (by omega) (by omega)) rfl rfl rfl ?_ | refine LL.val (R.subcN rfl rfl rfl rfl (by omega) (by omega)) rfl rfl rfl ?_ | refine LL.val (R.addI rfl rfl rfl (by omega)) rfl rfl rfl ?_ | refine LL.val (R.subI rfl rfl rfl (by omega)) rfl rfl rfl ?_ | refine LL.val (R.mulNc rfl rfl rfl rfl (by omega)) rfl rfl rfl ?_ | refine LL.val (R.mulcN rfl rfl rfl rfl (by omega)) rfl rfl rfl ?_ | refine LL.val (R.quoNc rfl rfl rfl rfl (by omega) (by omega)) rfl rfl rfl ?_ | refine LL.val (R.remNc rfl rfl rfl rfl (by omega)) rfl rfl rfl ?_ | refine LL.val (R.mulN rfl rfl rfl (by omega)) rfl rfl rfl ?_ | refine LL.val (R.quoN rfl rfl rfl (by omega) (by omega)) rfl rfl rfl ?_ | refine LL.val (R.remN rfl rfl rfl (by omega)) rfl rfl rfl ?_ | refine LL.val (R.leT rfl rfl rfl (by omega)) rfl rfl rfl ?_ | refine LL.val (R.leF rfl rfl rfl (by omega)) rfl rfl rfl ?_ | refine LL.val (R.gtT rfl rfl rfl (by omega)) rfl rfl rfl ?_ | refine LL.val (R.gtF rfl rfl rfl (by omega)) rfl rfl rfl ?_ | refine LL.val (R.geT rfl rfl rfl (by omega)) rfl rfl rfl ?_ | refine LL.val (R.geF rfl rfl rfl (by omega)) rfl rfl rfl ?_ | refine LL.val (R.eqT rfl rfl rfl (by omega)) rfl rfl rfl ?_ | refine LL.val (R.eqF rfl rfl rfl (by omega)) rfl rfl rfl ?_ | refine LL.val (R.neT rfl rfl rfl (by omega)) rfl rfl rfl ?_ | refine LL.val (R.neF rfl rfl rfl (by omega)) rfl rfl rfl ?_ | refine LL.val (R.eqPtr rfl rfl rfl rfl rfl) rfl rfl rfl ?_ | refine LL.val (R.nePtr rfl rfl rfl rfl rfl) rfl rfl rfl ?_ | refine LL.val (R.eqSl rfl rfl rfl rfl rfl) rfl rfl rfl ?_ | refine LL.val (R.neSl rfl rfl rfl rfl rfl) rfl rfl rfl ?_ | refine LL.val (R.eqFn rfl rfl rfl rfl) rfl rfl rfl ?_ | refine LL.val (R.eqBool rfl rfl rfl rfl rfl) rfl rfl rfl ?_ | refine LL.val (R.neBool rfl rfl rfl rfl rfl) rfl rfl rfl ?_ | refine LL.val (R.xorU rfl rfl rfl (by first | omega | decide) (by first | omega | decide)) rfl rfl rfl ?_ | refine LL.val (R.addUN rfl rfl rfl (by omega)) rfl rfl rfl ?_ | refine LL.val (R.not rfl rfl) rfl rfl rfl ?_ | refine LL.val (R.len rfl rfl rfl rfl) rfl rfl rfl ?_ | refine LL.val (R.pick rfl rfl rfl) rfl rfl rfl ?_ | refine LL.val (R.extract rfl rfl rfl) rfl rfl rfl ?_ | refine LL.val (R.func rfl rfl rfl) rfl rfl rfl ?_ | refine LL.val (R.slice rfl rfl rfl rfl rfl (I.slA rfl)) rfl rfl rfl ?_ | refine LL.val (R.slice rfl rfl rfl rfl rfl (I.slAto rfl (by omega))) rfl rfl rfl ?_) | refine LL.skip rfl rfl ?_))
      refine LL.store  rfl rfl rfl rfl r4 (by exact Nat.le_of_ble_eq_true rfl) rfl rfl rfl rfl ?_
      intro W r_ gr_ zr_
      have hgl_ := r4.lt
      replace q := q.grown gr_ q.size (by rintro k ⟨⟩; omega)
      replace r4 := r_
      (repeat (first | (first | refine CC.seq ?_ | refine CC.region ?_ | refine LL.nilS ?_ | refine CC.yes rfl ?_ | refine CC.no rfl ?_ | refine CC.block ?_ | refine EE.thenN ?_ | refine LL.nil ?_ | refine CC.exit ?_ | refine CC.ret ?_ | refine CC.skip ?_ | refine EE.thenX ?_ | refine EE.thenR ?_ | refine EE.inN ?_ | refine EE.inX ?_ | refine EE.inX' rfl ?_ | refine EE.inR ?_ | refine CC.label ?_ | refine EE.thenG ?_ | refine EE.inG ?_) | (first | refine LL.val (R.move rfl rfl) rfl rfl rfl ?_ | refine LL.val (R.assign rfl rfl) rfl rfl rfl ?_ | refine LL.val (R.nil rfl rfl) rfl rfl rfl ?_ | refine LL.val (R.field rfl rfl (I.fld rfl)) rfl rfl rfl ?_ | refine LL.val (R.load rfl rfl (I.ld1 rfl (by assumption))) rfl rfl rfl ?_ | refine LL.val (R.load rfl rfl (I.ld1 rfl (RowL.cell (by assumption) rfl))) rfl rfl rfl ?_ | refine LL.val (R.index rfl rfl rfl (I.ixA1c rfl rfl (by first | omega | decide))) rfl rfl rfl ?_ | refine LL.val (R.index rfl rfl rfl (I.ixS1c rfl rfl (by omega))) rfl rfl rfl ?_ | refine LL.val (R.index rfl rfl rfl (I.ixAc rfl rfl (by first | omega | decide))) rfl rfl rfl ?_ | refine LL.val (R.index rfl rfl rfl (I.ixSc rfl rfl (by omega))) rfl rfl rfl ?_ | refine LL.val (R.index rfl rfl rfl (I.ixA1 rfl (by omega))) rfl rfl rfl ?_ | refine LL.val (R.index rfl rfl rfl (I.ixS1 rfl (by omega))) rfl rfl rfl ?_ | refine LL.val (R.index rfl rfl rfl (I.ixA rfl (by omega))) rfl rfl rfl ?_ | refine LL.val (R.index rfl rfl rfl (I.ixS rfl (by omega))) rfl rfl rfl ?_ | refine LL.val (R.ltT rfl rfl rfl (by omega)) rfl rfl rfl ?_ | refine LL.val (R.ltF rfl rfl rfl (by omega)) rfl rfl rfl ?_ | refine LL.val (R.addNc rfl rfl rfl rfl (by omega)) rfl rfl rfl ?_ | refine LL.val (R.subNc rfl rfl rfl rfl (by omega) (by omega)) rfl rfl rfl ?_ | refine LL.val (R.addN rfl rfl rfl (by omega)) rfl rfl rfl ?_ | refine LL.val (R.subN rfl rfl rfl (by omega) (by omega)) rfl rfl rfl ?_ | refine LL.val (R.subcN rfl rfl rfl rfl (by omega) (by omega)) rfl rfl rfl ?_ | refine LL.val (R.addI rfl rfl rfl (by omega)) rfl rfl rfl ?_ | refine LL.val (R.subI rfl rfl rfl (by omega)) rfl rfl rfl ?_ | refine LL.val (R.mulNc rfl rfl rfl rfl (by omega)) rfl rfl rfl ?_ | refine LL.val (R.mulcN rfl rfl rfl rfl (by omega)) rfl rfl rfl ?_ | refine LL.val (R.quoNc rfl rfl rfl rfl (by omega) (by omega)) rfl rfl rfl ?_ | refine LL.val (R.remNc rfl rfl rfl rfl (by omega)) rfl rfl rfl ?_ | refine LL.val (R.mulN rfl rfl rfl (by omega)) rfl rfl rfl ?_ | refine LL.val (R.quoN rfl rfl rfl (by omega) (by omega)) rfl rfl rfl ?_ | refine LL.val (R.remN rfl rfl rfl (by omega)) rfl rfl rfl ?_ | refine LL.val (R.leT rfl rfl rfl (by omega)) rfl rfl rfl ?_ | refine LL.val (R.leF rfl rfl rfl (by omega)) rfl rfl rfl ?_ | refine LL.val (R.gtT rfl rfl rfl (by omega)) rfl rfl rfl ?_ | refine LL.val (R.gtF rfl rfl rfl (by omega)) rfl rfl rfl ?_ | refine LL.val (R.geT rfl rfl rfl (by omega)) rfl rfl rfl ?_ | refine LL.val (R.geF rfl rfl rfl (by omega)) rfl rfl rfl ?_ | refine LL.val (R.eqT rfl rfl rfl (by omega)) rfl rfl rfl ?_ | refine LL.val (R.eqF rfl rfl rfl (by omega)) rfl rfl rfl ?_ | refine LL.val (R.neT rfl rfl rfl (by omega)) rfl rfl rfl ?_ | refine LL.val (R.neF rfl rfl rfl (by omega)) rfl rfl rfl ?_ | refine LL.val (R.eqPtr rfl rfl rfl rfl rfl) rfl rfl rfl ?_ | refine LL.val (R.nePtr rfl rfl rfl rfl rfl) rfl rfl rfl ?_ | refine LL.val (R.eqSl rfl rfl rfl rfl rfl) rfl rfl rfl ?_ | refine LL.val (R.neSl rfl rfl rfl rfl rfl) rfl rfl rfl ?_ | refine LL.val (R.eqFn rfl rfl rfl rfl) rfl rfl rfl ?_ | refine LL.val (R.eqBool rfl rfl rfl rfl rfl) rfl rfl rfl ?_ | refine LL.val (R.neBool rfl rfl rfl rfl rfl) rfl rfl rfl ?_ | refine LL.val (R.xorU rfl rfl rfl (by first | omega | decide) (by first | omega | decide)) rfl rfl rfl ?_ | refine LL.val (R.addUN rfl rfl rfl (by omega)) rfl rfl rfl ?_ | refine LL.val (R.not rfl rfl) rfl rfl rfl ?_ | refine LL.val (R.len rfl rfl rfl rfl) rfl rfl rfl ?_ | refine LL.val (R.pick rfl rfl rfl) rfl rfl rfl ?_ | refine LL.val (R.extract rfl rfl rfl) rfl rfl rfl ?_ | refine LL.val (R.func rfl rfl rfl) rfl rfl rfl ?_ | refine LL.val (R.slice rfl rfl rfl rfl rfl (I.slA rfl)) rfl rfl rfl ?_ | refine LL.val (R.slice rfl rfl rfl rfl rfl (I.slAto rfl (by omega))) rfl rfl rfl ?_) | refine LL.skip rfl rfl ?_))
      refine EE.retM1 rfl ⟨_, rfl, lv1 rfl (r4.cell rfl)⟩ ?_
      exact ⟨rfl, q⟩
  obtain ⟨bits, hbits⟩ : ∃ bits, 64 * N = bits := ⟨_, rfl⟩
  have hofm := of_full W hN (by omega) (by omega) ha hwf
  have hok := ofok_full hN (show 1 ≤ N by omega) (by omega)
  have hblen : l.length = (bits + 63) / 64 := by omega
  have hrf := rof_any ((64 * N : Nat) : Int) (.slice a N cap) l
  rw [hbits] at hofm hok hrf
  (refine LL.nilS ?_; refine CC.seq ?_; refine CC.seq ?_; refine CC.region ?_; refine LL.val (R.move rfl rfl) rfl rfl rfl ?_; refine LL.val (R.len rfl rfl rfl rfl) rfl rfl rfl ?_; refine LL.val (R.ltF rfl rfl rfl (by omega)) rfl rfl rfl ?_; refine LL.val (R.move rfl rfl) rfl rfl rfl ?_; refine LL.val (R.move rfl rfl) rfl rfl rfl ?_; refine LL.val (R.len rfl rfl rfl rfl) rfl rfl rfl ?_; refine LL.val (R.gtF rfl rfl rfl (by omega)) rfl rfl rfl ?_; refine LL.val (R.pick rfl rfl rfl) rfl rfl rfl ?_; refine LL.nilS ?_; refine CC.no rfl ?_; refine CC.skip ?_; refine EE.thenN ?_; refine CC.seq ?_; refine CC.region ?_; refine LL.val (R.move rfl rfl) rfl rfl rfl ?_; refine LL.val (R.len rfl rfl rfl rfl) rfl rfl rfl ?_; refine LL.val (R.mulcN rfl rfl rfl rfl (by omega)) rfl rfl rfl ?_; refine LL.val (R.move rfl rfl) rfl rfl rfl ?_)
  rw [hbits]
  skip
  refine LL.call (R.call rfl rfl rfl) rfl rfl rfl (hofm) ?_
  rintro e W ⟨gm, vm, rfl, h, _, b⟩
  refine ⟨_, rfl, ?_⟩
  have hsz_ := b.size
  replace q := q.trans (b.mono q.size)
  replace ha := ha.up b
  replace r3 := r3.up b
  replace r4 := r4.up b
  (refine LL.val (R.move rfl rfl) rfl rfl rfl ?_; refine LL.val (R.extract rfl rfl rfl) rfl rfl rfl ?_; refine LL.val (R.extract rfl rfl rfl) rfl rfl rfl ?_; refine LL.val (R.assign rfl rfl) rfl rfl rfl ?_; refine LL.val (R.assign rfl rfl) rfl rfl rfl ?_; refine LL.nilS ?_; refine CC.seq ?_; refine CC.region ?_; refine LL.val (R.move rfl rfl) rfl rfl rfl ?_; refine LL.val (R.len rfl rfl rfl rfl) rfl rfl rfl ?_; refine LL.val (R.mulcN rfl rfl rfl rfl (by omega)) rfl rfl rfl ?_; refine LL.val (R.move rfl rfl) rfl rfl rfl ?_)
  rw [hbits]
  refine LL.call (R.call rfl rfl rfl) rfl rfl rfl (hrf W (by omega) ha (by omega) hwf) ?_
  rintro e W ⟨hcase, b⟩
  have hsz_ := b.size
  replace q := q.trans (b.mono q.size)
  replace h := h.up b
  replace r3 := r3.up b
  replace r4 := r4.up b
  obtain ⟨vb, rfl, ob⟩ : ∃ v, e = .returned (.tuple #[v, .int .i64 0]) ∧ OwnsT bE 1 W _ 4 v (mapB l bits) := by
    rcases hcase with ⟨_, v, he, hB⟩ | ⟨hno, _⟩
    · exact ⟨v, he, hB⟩
    · exact absurd hok hno
  clear hcase hofm hrf
  have hb := ob.reads bEnc
  refine ⟨_, rfl, ?_⟩
  (refine LL.val (R.move rfl rfl) rfl rfl rfl ?_; refine LL.val (R.extract rfl rfl rfl) rfl rfl rfl ?_; refine LL.val (R.extract rfl rfl rfl) rfl rfl rfl ?_; refine LL.val (R.assign rfl rfl) rfl rfl rfl ?_; refine LL.val (R.assign rfl rfl) rfl rfl rfl ?_; refine LL.nilS ?_; refine CC.seq ?_; refine CC.seq ?_; refine CC.region ?_; refine LL.val (R.move rfl rfl) rfl rfl rfl ?_)
  refine LL.call (R.call rfl rfl rfl) rfl rfl rfl (num_any _ _) ?_
  rintro e W ⟨rfl, rfl⟩
  refine ⟨_, rfl, ?_⟩
  (refine LL.val (R.neF rfl rfl rfl (by omega)) rfl rfl rfl ?_; refine LL.val (R.move rfl rfl) rfl rfl rfl ?_; refine LL.val (R.move rfl rfl) rfl rfl rfl ?_; refine LL.val (R.neF rfl rfl rfl (by omega)) rfl rfl rfl ?_; refine LL.val (R.pick rfl rfl rfl) rfl rfl rfl ?_; refine LL.nilS ?_; refine CC.no rfl ?_; refine CC.skip ?_; refine EE.thenN ?_; refine CC.seq ?_; refine CC.region ?_; refine LL.val (R.move rfl rfl) rfl rfl rfl ?_)
  refine LL.call (R.call rfl rfl rfl) rfl rfl rfl (rruns_any _ (wb l) bits _ hb (by omega)) ?_
  rintro e W ⟨v9, rfl, o9, b⟩
  refine ⟨_, rfl, ?_⟩
  have hsz_ := b.size
  replace q := q.trans (b.mono q.size)
  replace h := h.up b
  replace r3 := r3.up b
  replace r4 := r4.up b
  have h9 := o9.reads rEnc
  obtain ⟨L, hL⟩ : ∃ L, (runsP (wb l) 0 bits).length = L := ⟨_, rfl⟩
  have hLb : L ≤ bits := by rw [← hL]; exact runsP_len _ _
  obtain ⟨a9, cp9, rfl, _⟩ := h9.form hL
  skip
  refine LL.alloc [.slice none 0 0] rfl rfl rfl rfl rfl ?_
  intro W_ g9 eg r9 zg b_
  skip
  refine LL.store  rfl rfl rfl rfl r9 (by exact Nat.le_of_ble_eq_true rfl) rfl rfl rfl rfl ?_
  clear r9
  intro W r9 gr_ zr_
  have b := b_.grown gr_ b_.size (by rintro k ⟨⟩; omega)
  clear b_ gr_
  have hsz_ := b.size
  replace q := q.trans (b.mono q.size)
  replace h := h.up b
  replace r3 := r3.up b
  replace r4 := r4.up b
  replace h9 := h9.up b
  (refine LL.nilS ?_; refine CC.seq ?_; refine CC.region ?_; refine LL.val (R.move rfl rfl) rfl rfl rfl ?_)
  refine LL.call (R.call rfl rfl rfl) rfl rfl rfl (runs_made _ h) ?_
  rintro e W ⟨gm', vm', b3, b4, b5, rfl, hS, h5, _, _, b⟩
  refine ⟨_, rfl, ?_⟩
  have hsz_ := b.size
  replace q := q.trans (b.mono q.size)
  replace r3 := r3.up b
  replace r4 := r4.up b
  replace r9 := r9.up b
  replace h9 := h9.up b
  (refine LL.val (R.assign rfl rfl) rfl rfl rfl ?_; refine LL.nilS ?_; refine CC.seq ?_; refine CC.seq ?_; refine CC.region ?_; refine LL.val (R.move rfl rfl) rfl rfl rfl ?_; refine LL.val (R.eqFn rfl rfl rfl rfl) rfl rfl rfl ?_; refine LL.nilS ?_; refine CC.no rfl ?_; refine CC.skip ?_; refine EE.thenN ?_; refine CC.seq ?_; refine CC.seq ?_; refine CC.region ?_)
  refine LL.alloc [.int .i64 0] rfl rfl rfl rfl rfl ?_
  intro W_ gt eg rt zg b_
  skip
  refine LL.store (v := .int .i64 0) rfl rfl rfl rfl rt (by exact Nat.le_of_ble_eq_true rfl) rfl rfl rfl rfl ?_
  clear rt
  intro W rt gr_ zr_
  have b := b_.grown gr_ b_.size (by rintro k ⟨⟩; omega)
  clear b_ gr_
  have hsz_ := b.size
  replace q := q.trans (b.mono q.size)
  replace r3 := r3.up b
  replace r4 := r4.up b
  replace r9 := r9.up b
  replace h9 := h9.up b
  replace hS := hS.up b
  replace h5 := h5.up b
  have hV : LvB W w g3 g4 g9 gt b3 b4 b5 gm' bits many (.slice a9 L cp9) vm' l 0 := ⟨r3, r4, r9, rt, h9, hS, h5, q, l4⟩
  obtain ⟨W0, rfl⟩ : ∃ X, X = W := ⟨_, rfl⟩
  clear h hb ob o9 r3 r4 r9 rt h9 hS h5
  (refine LL.nilS ?_; refine CC.block ?_)
  refine CC.keep [(3, .pointer (some ⟨g3, 0, none⟩)), (4, .pointer (some ⟨g4, 0, none⟩)), (9, .pointer (some ⟨g9, 0, none⟩)), (10, .func (.func 50) #[] [Value.pointer (some ⟨b5, 0, none⟩), .pointer (some ⟨b3, 0, none⟩), .pointer (some ⟨b4, 0, none⟩)].toArray), (11, .pointer (some ⟨gt, 0, none⟩))] ⟨rfl, rfl, rfl, rfl, rfl, trivial⟩ ?_
  refine CC.loopN 3 ?_
  refine RN.step ?_
  -- turn 0
  have hT := hV.rt
  have hG := spans_gives 0 W0 hV.hS hV.h5 (by omega)
  rw [runs_eqP, Nat.sub_zero] at hG
  have hSl := hV.hS.lt
  have qB := Below.refl W0.heap.size W0
  have q := hV.bel
  (refine CC.seq ?_; refine CC.seq ?_; refine CC.region ?_; refine LL.val (R.load rfl rfl (I.ld1 rfl (RowL.cell (by assumption) rfl))) rfl rfl rfl ?_; refine LL.val (R.ltT rfl rfl rfl (by omega)) rfl rfl rfl ?_; refine LL.nilS ?_; refine CC.yes rfl ?_; refine CC.skip ?_; refine EE.thenN ?_; refine CC.seq ?_; refine CC.block ?_; refine CC.seq ?_; refine CC.region ?_)
  refine LL.alloc [.int .i64 0] rfl rfl rfl rfl rfl ?_
  intro W_ g12 eg r12 zg b_
  skip
  refine LL.store (v := .int .i64 0) rfl rfl rfl rfl r12 (by exact Nat.le_of_ble_eq_true rfl) rfl rfl rfl rfl ?_
  clear r12
  intro W r12 gr_ zr_
  have b := b_.grown gr_ b_.size (by rintro k ⟨⟩; omega)
  clear b_ gr_
  have hsz_ := b.size
  replace q := q.trans (b.mono q.size)
  replace qB := qB.trans (b.mono qB.size)
  obtain ⟨X0, rfl⟩ : ∃ X, X = W := ⟨_, rfl⟩
  have yB := qB.size
  have hg12 := r12.lt
  (refine LL.nilS ?_; refine CC.seq ?_; refine CC.seq ?_; refine CC.region ?_; refine LL.val (R.move rfl rfl) rfl rfl rfl ?_; refine LL.nilS ?_; refine CC.block ?_)
  refine CC.rangeM (γ := Nat) (gf := 50) (lb := [Value.pointer (some ⟨b5, 0, none⟩), .pointer (some ⟨b3, 0, none⟩), .pointer (some ⟨b4, 0, none⟩)]) (encs := encR) rfl rfl hG qB (fun k hk => by have := hSl k hk; omega) (fun _ => rfl) rfl
    (fun m pre W' => Below W0.heap.size W0 W' ∧ RowL W' g12 3 [.int .i64 (pre.length : Int)] ∧ (pre.length = 0 ∨ (pre.length : Int) < many))
    (fun m pre W' => Below W0.heap.size W0 W' ∧ RowL W' g12 3 [.int .i64 (pre.length : Int)] ∧ (many ≤ pre.length ∧ (pre.length = 1 ∨ (pre.length : Int) - 1 < many) ∧ 1 ≤ pre.length ∧ pre.length ≤ L))
    (fun W' => Below W0.heap.size W0 W' ∧ ∃ p : Nat, RowL W' g12 3 [.int .i64 (p : Int)] ∧ ((p : Int) = if (if 1 < many then many else 1) < (L : Int) then (if 1 < many then many else 1) else (L : Int)))
    (fun m s X Y hs ht => ⟨hs.1.trans (ht.below yB hs.1.size), ht.same g12 _ hs.2.1 (.inl hg12), hs.2.2⟩)
    (fun m s X Y hs ht => ⟨hs.1.trans (ht.below yB hs.1.size), ht.same g12 _ hs.2.1 (.inl hg12), hs.2.2⟩)
    (fun m => ⟨qB, r12, .inl rfl⟩)
    ?hIA ?hIxA
    (fun x g13 => sl [(3, .pointer (some ⟨g3, 0, none⟩)), (9, .pointer (some ⟨g9, 0, none⟩)), (11, .pointer (some ⟨gt, 0, none⟩)), (12, .pointer (some ⟨g12, 0, none⟩)), (13, .pointer (some ⟨g13, 0, none⟩))]) (fun x g13 W' => RowL W' g13 57 (rE x)) (fun x g13 => RowL.own) ?assign ?body ?after
  case hIA =>
    rintro m xs W' rfl ⟨h1, h2, h3⟩
    exact ⟨h1, _, h2, by rw [hL] at *; rcases h3 with h3 | h3 <;> split <;> split <;> omega⟩
  case hIxA =>
    rintro m pre W' hp ⟨h1, h2, h3⟩
    exact ⟨h1, pre.length, h2, by split <;> split <;> omega⟩
  case assign =>
    intro l' m pre x W K hm hm2 hi hK
    obtain ⟨h1, h2, h3⟩ := hi
    (refine CC.region ?_)
    refine LL.alloc (rE (0, 0)) rfl rfl rfl rfl rfl ?_
    intro w5 g5' e5 r5' z5 b5'
    skip
    refine LL.storeN (vs := rE x) rfl rfl rfl rfl r5' (Nat.le_of_ble_eq_true rfl) (rEnc.one x) rfl rfl ?_
    intro w6 r6 g6' z6
    have q6 : Below W.heap.size W w6 := b5'.grown g6' (by omega) (by rintro k ⟨⟩; omega)
    (refine LL.nil ?_)
    exact EE.thenK fun a' F => hK a' w6 g5' (Stays.of_below q6) (Keeps.of_below (fun k hk => by have := hSl k hk; have := h1.size; omega) q6) ⟨h1.trans (q6.mono h1.size), h2.up q6, h3⟩ (F.keep _ ⟨rfl, rfl, rfl, rfl, rfl, trivial⟩) r6
  case body =>
    intro l' m pre x g13 W hm hm2 hl' hrl hi hax hp
    obtain ⟨h1, h2, h3⟩ := hi
    obtain ⟨hx, hpl⟩ := hp.idx
    rw [hL] at hpl
    have h1d := h1.drew
    have hVr := hV.up h1d
    obtain ⟨bl, off, ea, hbl, hcs⟩ := hVr.h9.get rEnc hx
    subst ea
    have c12 : W.drew.cell? ⟨g12, 0, none⟩ = some (.int .i64 (pre.length : Int)) := h2.drew.cell rfl
    have c9 := hVr.r9.cell (j := 0) rfl
    (refine CC.block ?_; refine CC.seq ?_; refine CC.seq ?_)
    refine CC.quiet (by kernel_rfl) (by kernel_rfl) ?_
    (refine SS.val (R.load rfl rfl (I.ld1 rfl (by assumption))) rfl rfl ?_; refine SS.val (R.load rfl rfl (I.ld1 rfl (by assumption))) rfl rfl ?_; refine SS.val (R.len rfl rfl rfl rfl) rfl rfl ?_; refine SS.val (R.geF rfl rfl rfl (by omega)) rfl rfl ?_; refine SS.val (R.move rfl rfl) rfl rfl ?_)
    refine SS.val (R.load rfl rfl (I.ldN (vs := rE x) rfl rfl (hax.drew.cells rfl))) rfl rfl ?_
    (refine SS.val (R.load rfl rfl (I.ld1 rfl (by assumption))) rfl rfl ?_; refine SS.val (R.load rfl rfl (I.ld1 rfl (by assumption))) rfl rfl ?_; refine SS.val (R.index rfl rfl rfl (I.ixS rfl (by omega))) rfl rfl ?_)
    refine SS.val (R.load rfl rfl (I.ldN (vs := rE x) rfl rfl hcs)) rfl rfl ?_
    refine SS.val (R.neRun (b := false) rfl rfl rfl (by simp)) rfl rfl ?_
    (refine SS.val (R.pick rfl rfl rfl) rfl rfl ?_; refine SS.nilQ ?_)
    (refine EE.thenN ?_; refine CC.no rfl ?_; refine CC.skip ?_; refine EE.thenN ?_; refine CC.seq ?_; refine CC.region ?_; refine LL.val (R.load rfl rfl (I.ld1 rfl (by assumption))) rfl rfl rfl ?_; refine LL.val (R.addNc rfl rfl rfl rfl (by omega)) rfl rfl rfl ?_)
    refine LL.store rfl rfl rfl rfl h2.drew (by exact Nat.le_of_ble_eq_true rfl) rfl rfl rfl rfl ?_
    intro w7 r7' g7' z7
    have hb7 : Below W0.heap.size W0 w7 := h1d.grown g7' h1d.size (by rintro k ⟨⟩; omega)
    have hV7 := hV.up hb7
    have hst7 : Stays X0.heap.size m W w7 := (Stays.of_below below_drew).trans (Stays.of_grown g7' hg12)
    have hkp7 : Keeps (spD gm' b3 b4 vm') W w7 := (Keeps.of_below (fun k hk => by have := hSl k hk; have := h1.size; omega) below_drew).trans (Keeps.of_grown g7' fun k hk => ⟨by have := hSl k hk; have := h1.size; show k < W.heap.size; omega, by have := hSl k hk; omega⟩)
    have hlen' : (pre ++ [x]).length = pre.length + 1 := by simp
    have d12 : w7.cell? ⟨g12, 0, none⟩ = some (.int .i64 ((pre.length + 1 : Nat) : Int)) := r7'.cell rfl
    have r7 : RowL w7 g12 3 [.int .i64 ((pre ++ [x]).length : Int)] := by rw [hlen']; exact r7'
    have d11 := hV7.rt.cell (j := 0) rfl
    have d3 := hV7.r3.cell (j := 0) rfl
    by_cases hmany : many ≤ (pre.length : Int) + 1
    · (refine LL.nilS ?_; refine CC.seq ?_; refine CC.region ?_; refine LL.val (R.load rfl rfl (I.ld1 rfl (by assumption))) rfl rfl rfl ?_; refine LL.val (R.eqT rfl rfl rfl (by omega)) rfl rfl rfl ?_; refine LL.val (R.move rfl rfl) rfl rfl rfl ?_; refine LL.val (R.load rfl rfl (I.ld1 rfl (by assumption))) rfl rfl rfl ?_; refine LL.val (R.load rfl rfl (I.ld1 rfl (by assumption))) rfl rfl rfl ?_; refine LL.val (R.geT rfl rfl rfl (by omega)) rfl rfl rfl ?_; refine LL.val (R.pick rfl rfl rfl) rfl rfl rfl ?_; refine LL.nilS ?_; refine CC.yes rfl ?_; refine CC.exit ?_; refine EE.inX' rfl ?_)
      exact EE.roundX ⟨hst7, rfl, hb7, r7, by rw [hlen']; omega, by rw [hlen']; omega, by rw [hlen']; omega, by rw [hlen']; omega⟩
    · (refine LL.nilS ?_; refine CC.seq ?_; refine CC.region ?_; refine LL.val (R.load rfl rfl (I.ld1 rfl (by assumption))) rfl rfl rfl ?_; refine LL.val (R.eqT rfl rfl rfl (by omega)) rfl rfl rfl ?_; refine LL.val (R.move rfl rfl) rfl rfl rfl ?_; refine LL.val (R.load rfl rfl (I.ld1 rfl (by assumption))) rfl rfl rfl ?_; refine LL.val (R.load rfl rfl (I.ld1 rfl (by assumption))) rfl rfl rfl ?_; refine LL.val (R.geF rfl rfl rfl (by omega)) rfl rfl rfl ?_; refine LL.val (R.pick rfl rfl rfl) rfl rfl rfl ?_; refine LL.nilS ?_; refine CC.no rfl ?_; refine CC.skip ?_; refine EE.inN ?_)
      exact EE.roundN ⟨hst7, hkp7, hb7, r7, .inr (by rw [hlen']; omega)⟩
  case after =>
    rintro E1 W hE ⟨h1, p, hrp, hcp⟩ hK
    have hVd := hV.up h1
    have c12 : W.cell? ⟨g12, 0, none⟩ = some (.int .i64 (p : Int)) := hrp.cell rfl
    have c9 := hVd.r9.cell (j := 0) rfl
    have c11 := hVd.rt.cell (j := 0) rfl
    have c3 := hVd.r3.cell (j := 0) rfl
    (refine EE.thenN ?_; refine CC.seq ?_; refine CC.region ?_; refine LL.val (R.load rfl rfl (I.ld1 rfl (by assumption))) rfl rfl rfl ?_; refine LL.val (R.eqT rfl rfl rfl (by omega)) rfl rfl rfl ?_; refine LL.val (R.move rfl rfl) rfl rfl rfl ?_; refine LL.val (R.load rfl rfl (I.ld1 rfl (by assumption))) rfl rfl rfl ?_; refine LL.val (R.load rfl rfl (I.ld1 rfl (by assumption))) rfl rfl rfl ?_; refine LL.val (R.len rfl rfl rfl rfl) rfl rfl rfl ?_; refine LL.val (R.load rfl rfl (I.ld1 rfl (by assumption))) rfl rfl rfl ?_)
    refine LL.val (R.max rfl rfl) rfl rfl rfl ?_
    refine LL.val (R.min rfl rfl) rfl rfl rfl ?_
    obtain ⟨zz, hzz⟩ : ∃ zz : Int, (if (if 1 < many then many else 1) < (L : Int) then (if 1 < many then many else 1) else (L : Int)) = zz := ⟨_, rfl⟩
    rw [hzz] at hcp ⊢
    have q := hVd.bel
    have hq0 := hVd.bel.size
    have qv := Below.refl W.heap.size W
    have hE1 := hK
    (refine LL.val (R.neF rfl rfl rfl (by omega)) rfl rfl rfl ?_; refine LL.val (R.pick rfl rfl rfl) rfl rfl rfl ?_; refine LL.val (R.move rfl rfl) rfl rfl rfl ?_; refine LL.val (R.load rfl rfl (I.ld1 rfl (by assumption))) rfl rfl rfl ?_; refine LL.val (R.eqF rfl rfl rfl (by omega)) rfl rfl rfl ?_; refine LL.val (R.move rfl rfl) rfl rfl rfl ?_; refine LL.skip rfl rfl ?_; refine LL.skip rfl rfl ?_; refine LL.skip rfl rfl ?_; refine LL.skip rfl rfl ?_; refine LL.val (R.pick rfl rfl rfl) rfl rfl rfl ?_; refine LL.val (R.pick rfl rfl rfl) rfl rfl rfl ?_; refine LL.nilS ?_; refine CC.no rfl ?_; refine CC.skip ?_; refine EE.inN ?_; refine EE.thenN ?_; refine CC.seq ?_; refine CC.seq ?_; refine CC.region ?_; refine LL.val (R.load rfl rfl (I.ld1 rfl (by assumption))) rfl rfl rfl ?_; refine LL.nilS ?_; refine CC.region ?_)
    refine LL.alloc [.int .i64 0] rfl rfl rfl rfl rfl ?_
    intro W_ gu eg ru zg b_
    skip
    refine LL.store (v := .int .i64 0) rfl rfl rfl rfl ru (by exact Nat.le_of_ble_eq_true rfl) rfl rfl rfl rfl ?_
    clear ru
    intro W ru gr_ zr_
    have b := b_.grown gr_ b_.size (by rintro k ⟨⟩; omega)
    clear b_ gr_
    have hsz_ := b.size
    replace q := q.trans (b.mono q.size)
    replace qv := qv.trans (b.mono qv.size)
    replace hE1 := defer_up hE1 b
    have hE1l := (Array.getElem?_eq_some_iff.1 hK).1
    (refine LL.nilS ?_; refine CC.region ?_; refine LL.val (R.load rfl rfl (I.ld1 rfl (RowL.cell (by assumption) rfl))) rfl rfl rfl ?_; refine LL.val (R.addI rfl rfl rfl (by omega)) rfl rfl rfl ?_)
    refine LL.store (v := .int .i64 1) rfl rfl rfl rfl ru (by exact Nat.le_of_ble_eq_true rfl) rfl rfl rfl rfl ?_
    intro W r_ gr_ zr_
    have hgl_ := ru.lt
    replace q := q.grown gr_ q.size (by rintro k ⟨⟩; omega)
    replace qv := qv.grown gr_ qv.size (by rintro k ⟨⟩; omega)
    replace ru := r_
    replace hE1 := (gr_.block E1 (by omega) (by simp; omega)).trans hE1
    replace hV := hVd.turn qv ru
    have hE1l := (Array.getElem?_eq_some_iff.1 hE1).1
    have hg4l := hV.r4.lt
    have hE14 : g4 < E1 := by have := hVd.r4.lt; have := yB; omega
    clear hVd c12 c9 c11 c3 hcp hrp h1 r12 hT qB
    obtain ⟨W1, rfl⟩ : ∃ X, X = W := ⟨_, rfl⟩
    (refine LL.nil ?_)
    refine EE.again ?_
    refine RN.keep [(3, .pointer (some ⟨g3, 0, none⟩)), (4, .pointer (some ⟨g4, 0, none⟩)), (9, .pointer (some ⟨g9, 0, none⟩)), (10, .func (.func 50) #[] [Value.pointer (some ⟨b5, 0, none⟩), .pointer (some ⟨b3, 0, none⟩), .pointer (some ⟨b4, 0, none⟩)].toArray), (11, .pointer (some ⟨gu, 0, none⟩))] ⟨rfl, rfl, rfl, rfl, rfl, trivial⟩ ?_
    refine RN.step ?_
    -- turn 1
    have hT := hV.rt
    have hG := spans_gives 0 W1 hV.hS hV.h5 (by omega)
    rw [runs_eqP, Nat.sub_zero] at hG
    have hSl := hV.hS.lt
    have qB := Below.refl W1.heap.size W1
    have q := hV.bel
    (refine CC.seq ?_; refine CC.seq ?_; refine CC.region ?_; refine LL.val (R.load rfl rfl (I.ld1 rfl (RowL.cell (by assumption) rfl))) rfl rfl rfl ?_; refine LL.val (R.ltT rfl rfl rfl (by omega)) rfl rfl rfl ?_; refine LL.nilS ?_; refine CC.yes rfl ?_; refine CC.skip ?_; refine EE.thenN ?_; refine CC.seq ?_; refine CC.block ?_; refine CC.seq ?_; refine CC.region ?_)
    refine LL.alloc [.int .i64 0] rfl rfl rfl rfl rfl ?_
    intro W_ g12 eg r12 zg b_
    skip
    refine LL.store (v := .int .i64 0) rfl rfl rfl rfl r12 (by exact Nat.le_of_ble_eq_true rfl) rfl rfl rfl rfl ?_
    clear r12
    intro W r12 gr_ zr_
    have b := b_.grown gr_ b_.size (by rintro k ⟨⟩; omega)
    clear b_ gr_
    have hsz_ := b.size
    replace q := q.trans (b.mono q.size)
    replace qB := qB.trans (b.mono qB.size)
    obtain ⟨X1, rfl⟩ : ∃ X, X = W := ⟨_, rfl⟩
    have yB := qB.size
    have hg12 := r12.lt
    (refine LL.nilS ?_; refine CC.seq ?_; refine CC.seq ?_; refine CC.region ?_; refine LL.val (R.move rfl rfl) rfl rfl rfl ?_; refine LL.nilS ?_; refine CC.block ?_)
    refine CC.rangeM (γ := Nat) (gf := 50) (lb := [Value.pointer (some ⟨b5, 0, none⟩), .pointer (some ⟨b3, 0, none⟩), .pointer (some ⟨b4, 0, none⟩)]) (encs := encR) rfl rfl hG qB (fun k hk => by have := hSl k hk; omega) (fun _ => rfl) rfl
      (fun m pre W' => Below W1.heap.size W1 W' ∧ RowL W' g12 3 [.int .i64 (pre.length : Int)] ∧ True)
      (fun m pre W' => Below W1.heap.size W1 W' ∧ RowL W' g12 3 [.int .i64 (pre.length : Int)] ∧ False)
      (fun W' => Below W1.heap.size W1 W' ∧ ∃ p : Nat, RowL W' g12 3 [.int .i64 (p : Int)] ∧ p = L)
      (fun m s X Y hs ht => ⟨hs.1.trans (ht.below yB hs.1.size), ht.same g12 _ hs.2.1 (.inl hg12), hs.2.2⟩)
      (fun m s X Y hs ht => ⟨hs.1.trans (ht.below yB hs.1.size), ht.same g12 _ hs.2.1 (.inl hg12), hs.2.2⟩)
      (fun m => ⟨qB, r12, trivial⟩)
      ?hIA ?hIxA
      (fun x g13 => sl [(3, .pointer (some ⟨g3, 0, none⟩)), (9, .pointer (some ⟨g9, 0, none⟩)), (11, .pointer (some ⟨gu, 0, none⟩)), (12, .pointer (some ⟨g12, 0, none⟩)), (13, .pointer (some ⟨g13, 0, none⟩))]) (fun x g13 W' => RowL W' g13 57 (rE x)) (fun x g13 => RowL.own) ?assign ?body ?after
    case hIA =>
      rintro m xs W' rfl ⟨h1, h2, h3⟩
      exact ⟨h1, _, h2, hL⟩
    case hIxA =>
      rintro m pre W' hp ⟨h1, h2, h3⟩
      exact ⟨h1, pre.length, h2, by exact h3.elim⟩
    case assign =>
      intro l' m pre x W K hm hm2 hi hK
      obtain ⟨h1, h2, h3⟩ := hi
      (refine CC.region ?_)
      refine LL.alloc (rE (0, 0)) rfl rfl rfl rfl rfl ?_
      intro w5 g5' e5 r5' z5 b5'
      skip
      refine LL.storeN (vs := rE x) rfl rfl rfl rfl r5' (Nat.le_of_ble_eq_true rfl) (rEnc.one x) rfl rfl ?_
      intro w6 r6 g6' z6
      have q6 : Below W.heap.size W w6 := b5'.grown g6' (by omega) (by rintro k ⟨⟩; omega)
      (refine LL.nil ?_)
      exact EE.thenK fun a' F => hK a' w6 g5' (Stays.of_below q6) (Keeps.of_below (fun k hk => by have := hSl k hk; have := h1.size; omega) q6) ⟨h1.trans (q6.mono h1.size), h2.up q6, h3⟩ (F.keep _ ⟨rfl, rfl, rfl, rfl, rfl, trivial⟩) r6
    case body =>
      intro l' m pre x g13 W hm hm2 hl' hrl hi hax hp
      obtain ⟨h1, h2, h3⟩ := hi
      obtain ⟨hx, hpl⟩ := hp.idx
      rw [hL] at hpl
      have h1d := h1.drew
      have hVr := hV.up h1d
      obtain ⟨bl, off, ea, hbl, hcs⟩ := hVr.h9.get rEnc hx
      subst ea
      have c12 : W.drew.cell? ⟨g12, 0, none⟩ = some (.int .i64 (pre.length : Int)) := h2.drew.cell rfl
      have c9 := hVr.r9.cell (j := 0) rfl
      (refine CC.block ?_; refine CC.seq ?_; refine CC.seq ?_)
      refine CC.quiet (by kernel_rfl) (by kernel_rfl) ?_
      (refine SS.val (R.load rfl rfl (I.ld1 rfl (by assumption))) rfl rfl ?_; refine SS.val (R.load rfl rfl (I.ld1 rfl (by assumption))) rfl rfl ?_; refine SS.val (R.len rfl rfl rfl rfl) rfl rfl ?_; refine SS.val (R.geF rfl rfl rfl (by omega)) rfl rfl ?_; refine SS.val (R.move rfl rfl) rfl rfl ?_)
      refine SS.val (R.load rfl rfl (I.ldN (vs := rE x) rfl rfl (hax.drew.cells rfl))) rfl rfl ?_
      (refine SS.val (R.load rfl rfl (I.ld1 rfl (by assumption))) rfl rfl ?_; refine SS.val (R.load rfl rfl (I.ld1 rfl (by assumption))) rfl rfl ?_; refine SS.val (R.index rfl rfl rfl (I.ixS rfl (by omega))) rfl rfl ?_)
      refine SS.val (R.load rfl rfl (I.ldN (vs := rE x) rfl rfl hcs)) rfl rfl ?_
      refine SS.val (R.neRun (b := false) rfl rfl rfl (by simp)) rfl rfl ?_
      (refine SS.val (R.pick rfl rfl rfl) rfl rfl ?_; refine SS.nilQ ?_)
      (refine EE.thenN ?_; refine CC.no rfl ?_; refine CC.skip ?_; refine EE.thenN ?_; refine CC.seq ?_; refine CC.region ?_; refine LL.val (R.load rfl rfl (I.ld1 rfl (by assumption))) rfl rfl rfl ?_; refine LL.val (R.addNc rfl rfl rfl rfl (by omega)) rfl rfl rfl ?_)
      refine LL.store rfl rfl rfl rfl h2.drew (by exact Nat.le_of_ble_eq_true rfl) rfl rfl rfl rfl ?_
      intro w7 r7' g7' z7
      have hb7 : Below W1.heap.size W1 w7 := h1d.grown g7' h1d.size (by rintro k ⟨⟩; omega)
      have hV7 := hV.up hb7
      have hst7 : Stays X1.heap.size m W w7 := (Stays.of_below below_drew).trans (Stays.of_grown g7' hg12)
      have hkp7 : Keeps (spD gm' b3 b4 vm') W w7 := (Keeps.of_below (fun k hk => by have := hSl k hk; have := h1.size; omega) below_drew).trans (Keeps.of_grown g7' fun k hk => ⟨by have := hSl k hk; have := h1.size; show k < W.heap.size; omega, by have := hSl k hk; omega⟩)
      have hlen' : (pre ++ [x]).length = pre.length + 1 := by simp
      have d12 : w7.cell? ⟨g12, 0, none⟩ = some (.int .i64 ((pre.length + 1 : Nat) : Int)) := r7'.cell rfl
      have r7 : RowL w7 g12 3 [.int .i64 ((pre ++ [x]).length : Int)] := by rw [hlen']; exact r7'
      have d11 := hV7.rt.cell (j := 0) rfl
      have d3 := hV7.r3.cell (j := 0) rfl
      (refine LL.nilS ?_; refine CC.seq ?_; refine CC.region ?_; refine LL.val (R.load rfl rfl (I.ld1 rfl (by assumption))) rfl rfl rfl ?_; refine LL.val (R.eqF rfl rfl rfl (by omega)) rfl rfl rfl ?_; refine LL.val (R.move rfl rfl) rfl rfl rfl ?_; refine LL.skip rfl rfl ?_; refine LL.skip rfl rfl ?_; refine LL.skip rfl rfl ?_; refine LL.val (R.pick rfl rfl rfl) rfl rfl rfl ?_; refine LL.nilS ?_; refine CC.no rfl ?_; refine CC.skip ?_; refine EE.inN ?_)
      exact EE.roundN ⟨hst7, hkp7, hb7, r7, trivial⟩
    case after =>
      rintro E2 W hE ⟨h1, p, hrp, hcp⟩ hK
      have hVd := hV.up h1
      have c12 : W.cell? ⟨g12, 0, none⟩ = some (.int .i64 (p : Int)) := hrp.cell rfl
      have c9 := hVd.r9.cell (j := 0) rfl
      have c11 := hVd.rt.cell (j := 0) rfl
      have c3 := hVd.r3.cell (j := 0) rfl
      (refine EE.thenN ?_; refine CC.seq ?_; refine CC.region ?_; refine LL.val (R.load rfl rfl (I.ld1 rfl (by assumption))) rfl rfl rfl ?_; refine LL.val (R.eqF rfl rfl rfl (by omega)) rfl rfl rfl ?_; refine LL.val (R.move rfl rfl) rfl rfl rfl ?_; refine LL.skip rfl rfl ?_; refine LL.skip rfl rfl ?_; refine LL.skip rfl rfl ?_; refine LL.skip rfl rfl ?_; refine LL.skip rfl rfl ?_; refine LL.skip rfl rfl ?_; refine LL.skip rfl rfl ?_; refine LL.val (R.pick rfl rfl rfl) rfl rfl rfl ?_; refine LL.val (R.move rfl rfl) rfl rfl rfl ?_; refine LL.val (R.load rfl rfl (I.ld1 rfl (by assumption))) rfl rfl rfl ?_; refine LL.val (R.eqT rfl rfl rfl (by omega)) rfl rfl rfl ?_; refine LL.val (R.move rfl rfl) rfl rfl rfl ?_; refine LL.val (R.load rfl rfl (I.ld1 rfl (by assumption))) rfl rfl rfl ?_; refine LL.val (R.load rfl rfl (I.ld1 rfl (by assumption))) rfl rfl rfl ?_; refine LL.val (R.len rfl rfl rfl rfl) rfl rfl rfl ?_; refine LL.val (R.neF rfl rfl rfl (by omega)) rfl rfl rfl ?_; refine LL.val (R.pick rfl rfl rfl) rfl rfl rfl ?_; refine LL.val (R.pick rfl rfl rfl) rfl rfl rfl ?_; refine LL.nilS ?_; refine CC.no rfl ?_; refine CC.skip ?_; refine EE.inN ?_; refine EE.thenN ?_; refine CC.seq ?_; refine CC.seq ?_; refine CC.region ?_; refine LL.val (R.load rfl rfl (I.ld1 rfl (by assumption))) rfl rfl rfl ?_; refine LL.nilS ?_; refine CC.region ?_)
      have q := hVd.bel
      have hq0 := hVd.bel.size
      have qv := Below.refl W.heap.size W
      have hE2 := hK
      replace hE1 := defer_up hE1 h1
      have hE12 : E1 ≠ E2 := by have := h1.size; omega
      skip
      refine LL.alloc [.int .i64 0] rfl rfl rfl rfl rfl ?_
      intro W_ gu2 eg ru zg b_
      skip
      refine LL.store (v := .int .i64 1) rfl rfl rfl rfl ru (by exact Nat.le_of_ble_eq_true rfl) rfl rfl rfl rfl ?_
      clear ru
      intro W ru gr_ zr_
      have b := b_.grown gr_ b_.size (by rintro k ⟨⟩; omega)
      clear b_ gr_
      have hsz_ := b.size
      replace q := q.trans (b.mono q.size)
      replace qv := qv.trans (b.mono qv.size)
      replace hE1 := defer_up hE1 b
      replace hE2 := defer_up hE2 b
      have hE2l := (Array.getElem?_eq_some_iff.1 hK).1
      have hE1l' : E1 < W_.heap.size := by have := h1.size; omega
      (refine LL.nilS ?_; refine CC.region ?_; refine LL.val (R.load rfl rfl (I.ld1 rfl (RowL.cell (by assumption) rfl))) rfl rfl rfl ?_; refine LL.val (R.addI rfl rfl rfl (by omega)) rfl rfl rfl ?_)
      refine LL.store (v := .int .i64 2) rfl rfl rfl rfl ru (by exact Nat.le_of_ble_eq_true rfl) rfl rfl rfl rfl ?_
      intro W r_ gr_ zr_
      have hgl_ := ru.lt
      replace q := q.grown gr_ q.size (by rintro k ⟨⟩; omega)
      replace qv := qv.grown gr_ qv.size (by rintro k ⟨⟩; omega)
      replace ru := r_
      replace hE1 := (gr_.block E1 (Array.getElem?_eq_some_iff.1 hE1).1 (by simp; have := h1.size; omega)).trans hE1
      replace hE2 := (gr_.block E2 (Array.getElem?_eq_some_iff.1 hE2).1 (by simp; omega)).trans hE2
      replace hVd := hVd.up qv
      (refine LL.nil ?_)
      refine EE.again ?_
      refine RN.step ?_
      (refine CC.seq ?_; refine CC.seq ?_; refine CC.region ?_; refine LL.val (R.load rfl rfl (I.ld1 rfl (RowL.cell (by assumption) rfl))) rfl rfl rfl ?_; refine LL.val (R.ltF rfl rfl rfl (by omega)) rfl rfl rfl ?_; refine LL.nilS ?_; refine CC.no rfl ?_; refine CC.exit ?_; refine EE.thenX ?_; refine EE.thenX ?_; refine EE.inX ?_; refine EE.thenN ?_; refine CC.seq ?_; refine CC.region ?_)
      refine LL.call (R.call rfl rfl rfl) rfl rfl rfl (works_any _) ?_
      rintro e W ⟨rfl, b⟩
      refine ⟨_, rfl, ?_⟩
      have hsz_ := b.size
      replace q := q.trans (b.mono q.size)
      replace hVd := hVd.up b
      replace hE1 := defer_up hE1 b
      replace hE2 := defer_up hE2 b
      have r4 := hVd.r4
      have hl4 := hVd.l4
      have hE1z := (Array.getElem?_eq_some_iff.1 hE1).1
      have hE2z := (Array.getElem?_eq_some_iff.1 hE2).1
      have hE24 : g4 ≠ E2 := by have := hV.r4.lt; have := yB; omega
      have hwE1 : w.heap.size ≤ E1 := by omega
      have hwE2 : w.heap.size ≤ E2 := by have := hV.bel.size; omega
      skip
      refine LL.store  rfl rfl rfl rfl r4 (by exact Nat.le_of_ble_eq_true rfl) rfl rfl rfl rfl ?_
      intro W r_ gr_ zr_
      have hgl_ := r4.lt
      replace q := q.grown gr_ q.size (by rintro k ⟨⟩; omega)
      replace r4 := r_
      replace hE1 := (gr_.block E1 hE1z (by simp; omega)).trans hE1
      replace hE2 := (gr_.block E2 hE2z (by simp; omega)).trans hE2
      (refine LL.nilS ?_; refine CC.ret ?_)
      refine EE.retNN hE1 hE2 hE12 rfl ⟨_, rfl, lv1 rfl ((taken_up (taken_up r4 hE24) (by omega)).cell rfl)⟩ ?_
      exact ⟨rfl, taken_bel (taken_bel q hwE2 (Nat.le_refl _)) hwE1 (Nat.le_refl _)⟩
end Go.Proofs.Ytojoaplbgcdapaa

