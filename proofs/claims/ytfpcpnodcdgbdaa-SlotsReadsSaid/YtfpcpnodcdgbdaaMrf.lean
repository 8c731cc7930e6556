/- What the statements' walks use: So36, Open, OpenI, SoS, SoV. -/
import Derived.Test.YtfpcpnodcdgbdaaRows
import Derived.ProofKit
import Derived.OpenShut
import Derived.ShutString
import Derived.ChangeOld
import Derived.ChangeSame
import Derived.Test.YtfpcpnodcdgbdaaMra
import Derived.Test.YtfpcpnodcdgbdaaMre
/- slots: SlotsReads: the walk of what is no row (gen35.py writes this). -/
namespace Go.Proofs.Ytfpcpnodcdgbdaa
set_option linter.unusedVariables false
set_option linter.unusedSimpArgs false
open Go.RowKit Go.Shelf
set_option maxRecDepth 100000
set_option maxHeartbeats 16000000
theorem reads_F (left n : Nat) (many : Int) (v : Value) (s : List Nat) (w : World) (hv : ReadsT uE 1 w v s) (hn : s.length = n) (h80 : n ≤ 80) (hrow' : noRow left n) : Calls Try.prog 3 #[.int .u64 (left : Int), v, .int .i64 many] w fun e w' => e = .returned (.bool true) ∧ Below w.heap.size w w' := by
  have q := Below.refl w.heap.size w
  obtain ⟨a, c, rfl, hc⟩ := hv.form hn
  have hvF : ∀ X, Below w.heap.size w X → ReadsT uE 1 X (.slice a n c) s := fun X b => hv.up b
  clear hv
  have h : n ≤ 1048576 := by omega
  obtain ⟨L, eL⟩ : ∃ L, ([] : List (Nat × Pr)) = L := ⟨_, rfl⟩
  have eR : readF left s = L.map (·.2) := by rw [← eL]; unfold readF; rw [hn, if_pos hrow']; rfl
  have eE : pairS left (eachS left s) = L := by unfold eachS; rw [hn, if_pos hrow', ← eL]; rfl
  have hLL : L.map (·.2) = L.map (·.2) := rfl
  have hLl : L.length ≤ n := by rw [← eL]; simp
  refine X.fnM Try.func3 rfl (n := 122) rfl rfl ?_
  refine CC.seq ?_
  refine CC.region ?_
  refine LL.box [Value.int IntKind.i64 many] rfl rfl rfl rfl rfl ?_
  intro W16 g17 eg17 r18 z19 b15
  replace q := q.trans (b15.mono q.size)
  have l36 := r18.lt
  refine LL.alloc ([Value.bool false]) rfl rfl rfl rfl rfl ?_
  intro W38 g39 eg39 r40 z41 b37
  replace r18 := r18.up b37
  replace b15 := b15.trans (b37.mono b15.size)
  replace q := q.trans (b37.mono q.size)
  refine LL.nilS ?_
  refine CC.seq ?_
  refine CC.seq ?_
  refine CC.region ?_
  refine LL.val (R.move rfl rfl) rfl rfl rfl ?_
  refine LL.val (R.len rfl rfl rfl rfl) rfl rfl rfl ?_
  refine LL.val (R.gtF rfl rfl rfl (by omega)) rfl rfl rfl ?_
  refine LL.nilS ?_
  refine CC.no rfl ?_
  refine CC.skip ?_
  refine EE.thenN ?_
  refine CC.seq ?_
  refine CC.region ?_
  have l114 := r40.lt
  have l115 := r18.lt
  refine LL.alloc ([Value.slice none 0 0]) rfl rfl rfl rfl rfl ?_
  intro W117 g118 eg118 r119 z120 b116
  replace r40 := r40.up b116
  replace b37 := b37.trans (b116.mono b37.size)
  replace r18 := r18.up b116
  replace b15 := b15.trans (b116.mono b15.size)
  replace q := q.trans (b116.mono q.size)
  refine LL.nilS ?_
  refine CC.seq ?_
  refine CC.region ?_
  have l141 := r119.lt
  have l142 := r40.lt
  have l143 := r18.lt
  refine LL.alloc ([Value.slice none 0 0]) rfl rfl rfl rfl rfl ?_
  intro W145 g146 eg146 r147 z148 b144
  replace r119 := r119.up b144
  replace b116 := b116.trans (b144.mono b116.size)
  replace r40 := r40.up b144
  replace b37 := b37.trans (b144.mono b37.size)
  replace r18 := r18.up b144
  replace b15 := b15.trans (b144.mono b15.size)
  replace q := q.trans (b144.mono q.size)
  refine LL.nilS ?_
  refine CC.seq ?_
  refine CC.seq ?_
  refine CC.region ?_
  refine LL.val (R.move rfl rfl) rfl rfl rfl ?_
  refine LL.val (R.move rfl rfl) rfl rfl rfl ?_
  refine LL.call (R.call rfl rfl rfl) rfl rfl rfl (dright_F _ _ _ _ _ (by first | assumption | omega) (by first | assumption | omega)) ?_
  rintro e W' ⟨rfl, rfl⟩
  refine ⟨_, rfl, ?_⟩
  refine LL.nilS ?_
  refine CC.no rfl ?_
  refine CC.skip ?_
  refine EE.thenN ?_
  refine CC.seq ?_
  refine CC.region ?_
  refine LL.val (R.move rfl rfl) rfl rfl rfl ?_
  have l241 := r147.lt
  have l242 := r119.lt
  have l243 := r40.lt
  have l244 := r18.lt
  (refine LL.call (R.call rfl rfl rfl) rfl rfl rfl (lent_any n _ s _ (hvF _ q) hn h) ?_; rintro e W240 ⟨gL, cL, rfl, hL, hcL, hgL, b237⟩; obtain ⟨X3, hzX3, h3F, q3⟩ := exposeT hL; clear hL; obtain ⟨X1, hzX1, h1F, q1⟩ := exposeT (W := W240) (nilR eL); obtain ⟨X2, hzX2, h2F, q2⟩ := exposeT (W := W240) (nilI eL); refine ⟨_, rfl, ?_⟩)
  have zb237 := b237.size
  replace r147 := r147.up b237
  replace b144 := b144.trans (b237.mono b144.size)
  replace r119 := r119.up b237
  replace b116 := b116.trans (b237.mono b116.size)
  replace r40 := r40.up b237
  replace b37 := b37.trans (b237.mono b37.size)
  replace r18 := r18.up b237
  replace b15 := b15.trans (b237.mono b15.size)
  replace q := q.trans (b237.mono q.size)
  refine LL.val (R.assign rfl rfl) rfl rfl rfl ?_
  refine LL.nilS ?_
  refine CC.seq ?_
  refine CC.seq ?_
  refine CC.freeZ (fun W_ j => j < W_.heap.size ∧ (True)) (by kernel_rfl) (by kernel_rfl) (fun W271 b270 z272 => ?_)
  replace b237 := b237.trans (b270.mono b237.size)
  replace q3 := q3.trans (b270.mono q3.size)
  replace q1 := q1.trans (b270.mono q1.size)
  replace q2 := q2.trans (b270.mono q2.size)
  replace r147 := r147.up b270
  replace b144 := b144.trans (b270.mono b144.size)
  replace r119 := r119.up b270
  replace b116 := b116.trans (b270.mono b116.size)
  replace r40 := r40.up b270
  replace b37 := b37.trans (b270.mono b37.size)
  replace r18 := r18.up b270
  replace b15 := b15.trans (b270.mono b15.size)
  replace q := q.trans (b270.mono q.size)
  have hok : Kept (fun j => j < W271.heap.size ∧ (True)) W271 W271 := Kept.refl _ _
  have fzr147 := fzRow (K := fun j => j < W271.heap.size ∧ (True)) r147 ⟨r147.lt, (by first | trivial | omega)⟩
  have fzr119 := fzRow (K := fun j => j < W271.heap.size ∧ (True)) r119 ⟨r119.lt, (by first | trivial | omega)⟩
  have fzr40 := fzRow (K := fun j => j < W271.heap.size ∧ (True)) r40 ⟨r40.lt, (by first | trivial | omega)⟩
  have fzr18 := fzRow (K := fun j => j < W271.heap.size ∧ (True)) r18 ⟨r18.lt, (by first | trivial | omega)⟩
  refine AA.pure 0 rfl hok (by kernel_rfl) (fun w' b' => R.move rfl rfl) rfl rfl ?_
  refine AA.pure 1 rfl hok (by kernel_rfl) (fun w' b' => R.move rfl rfl) rfl rfl ?_
  refine AA.pure 3 rfl hok (by kernel_rfl) (fun w' b' => R.load rfl rfl (I.ld1 rfl (RowL.cell (fzr119 w' b') rfl))) rfl rfl ?_
  refine AA.one 2 (by kernel_rfl) ?_
  refine SR.call rfl (R.call rfl rfl rfl) rfl rfl (read_any left n _ s _ (lentR hn (h3F _ q3) hcL) hn h) ?_
  rintro e W296 ⟨v298, rfl, o297, b295⟩
  have zb295 := b295.size
  replace b270 := b270.trans (b295.mono b270.size)
  replace b237 := b237.trans (b295.mono b237.size)
  replace q3 := q3.trans (b295.mono q3.size)
  replace q1 := q1.trans (b295.mono q1.size)
  replace q2 := q2.trans (b295.mono q2.size)
  replace r147 := r147.up b295
  replace b144 := b144.trans (b295.mono b144.size)
  replace r119 := r119.up b295
  replace b116 := b116.trans (b295.mono b116.size)
  replace r40 := r40.up b295
  replace b37 := b37.trans (b295.mono b37.size)
  replace r18 := r18.up b295
  replace b15 := b15.trans (b295.mono b15.size)
  replace q := q.trans (b295.mono q.size)
  replace hok := hok.trans (bkept b295 (fun j h => by have := h.1; have := hok.size; omega))
  have y299 := hok.size
  refine ⟨_, rfl, hok, ?_⟩
  refine AA.one 4 (by kernel_rfl) ?_
  refine ZR.callBT rfl (R.call rfl rfl rfl) rfl rfl (dprsame_any _ _ (L.map (·.2)) (L.map (·.2)) _ (ownR (by assumption) eR) (h1F _ q1) (by simp; omega) (by simp; omega)) (by first | assumption | omega) (fun W323 b322 => ?_)
  have zb322 := b322.size
  replace o297 := o297.up b322
  replace b295 := b295.trans (b322.mono b295.size)
  replace b270 := b270.trans (b322.mono b270.size)
  replace b237 := b237.trans (b322.mono b237.size)
  replace q3 := q3.trans (b322.mono q3.size)
  replace q1 := q1.trans (b322.mono q1.size)
  replace q2 := q2.trans (b322.mono q2.size)
  replace r147 := r147.up b322
  replace b144 := b144.trans (b322.mono b144.size)
  replace r119 := r119.up b322
  replace b116 := b116.trans (b322.mono b116.size)
  replace r40 := r40.up b322
  replace b37 := b37.trans (b322.mono b37.size)
  replace r18 := r18.up b322
  replace b15 := b15.trans (b322.mono b15.size)
  replace q := q.trans (b322.mono q.size)
  replace hok := hok.trans (bkept b322 (fun j h => by have := h.1; have := hok.size; omega))
  have y324 := hok.size
  refine ⟨hok, ?_⟩
  refine AA.pure 5 rfl hok (by kernel_rfl) (fun w' b' => R.not rfl rfl) rfl rfl ?_
  refine AA.pure 6 rfl hok (by kernel_rfl) (fun w' b' => R.move rfl rfl) rfl rfl ?_
  refine AA.pure 7 rfl hok (by kernel_rfl) (fun w' b' => R.move rfl rfl) rfl rfl ?_
  refine AA.pure 8 rfl hok (by kernel_rfl) (fun w' b' => R.move rfl rfl) rfl rfl ?_
  refine AA.pure 11 rfl hok (by kernel_rfl) (fun w' b' => R.move rfl rfl) rfl rfl ?_
  refine AA.pure 12 rfl hok (by kernel_rfl) (fun w' b' => R.move rfl rfl) rfl rfl ?_
  refine AA.one 9 (by kernel_rfl) ?_
  refine SR.call rfl (R.call rfl rfl rfl) rfl rfl (check_any left n _ s _ (lentR hn (h3F _ q3) hcL) hn h) ?_
  rintro e W348 ⟨rfl, b347⟩
  have zb347 := b347.size
  replace b322 := b322.trans (b347.mono b322.size)
  replace o297 := o297.up b347
  replace b295 := b295.trans (b347.mono b295.size)
  replace b270 := b270.trans (b347.mono b270.size)
  replace b237 := b237.trans (b347.mono b237.size)
  replace q3 := q3.trans (b347.mono q3.size)
  replace q1 := q1.trans (b347.mono q1.size)
  replace q2 := q2.trans (b347.mono q2.size)
  replace r147 := r147.up b347
  replace b144 := b144.trans (b347.mono b144.size)
  replace r119 := r119.up b347
  replace b116 := b116.trans (b347.mono b116.size)
  replace r40 := r40.up b347
  replace b37 := b37.trans (b347.mono b37.size)
  replace r18 := r18.up b347
  replace b15 := b15.trans (b347.mono b15.size)
  replace q := q.trans (b347.mono q.size)
  replace hok := hok.trans (bkept b347 (fun j h => by have := h.1; have := hok.size; omega))
  have y349 := hok.size
  refine ⟨_, rfl, hok, ?_⟩
  refine AA.pureC 10 rfl hok (by kernel_rfl) (fun w' => (R.call rfl rfl rfl)) (fun w' b' => num_any _ w') rfl rfl ?_
  refine AA.one 13 (by kernel_rfl) ?_
  refine SR.call rfl (R.call rfl rfl rfl) rfl rfl (dcheck_any left n _ s _ (hvF _ q) hn h) ?_
  rintro e W373 ⟨rfl, b372⟩
  have zb372 := b372.size
  replace b347 := b347.trans (b372.mono b347.size)
  replace b322 := b322.trans (b372.mono b322.size)
  replace o297 := o297.up b372
  replace b295 := b295.trans (b372.mono b295.size)
  replace b270 := b270.trans (b372.mono b270.size)
  replace b237 := b237.trans (b372.mono b237.size)
  replace q3 := q3.trans (b372.mono q3.size)
  replace q1 := q1.trans (b372.mono q1.size)
  replace q2 := q2.trans (b372.mono q2.size)
  replace r147 := r147.up b372
  replace b144 := b144.trans (b372.mono b144.size)
  replace r119 := r119.up b372
  replace b116 := b116.trans (b372.mono b116.size)
  replace r40 := r40.up b372
  replace b37 := b37.trans (b372.mono b37.size)
  replace r18 := r18.up b372
  replace b15 := b15.trans (b372.mono b15.size)
  replace q := q.trans (b372.mono q.size)
  replace hok := hok.trans (bkept b372 (fun j h => by have := h.1; have := hok.size; omega))
  have y374 := hok.size
  refine ⟨_, rfl, hok, ?_⟩
  refine AA.pure 14 rfl hok (by kernel_rfl) (fun w' b' => R.neF rfl rfl rfl (by omega)) rfl rfl ?_
  refine AA.pure 15 rfl hok (by kernel_rfl) (fun w' b' => R.pick rfl rfl rfl) rfl rfl ?_
  refine AA.done rfl ?_
  clear fzr147 fzr119 fzr40 fzr18 hok
  refine EE.thenN ?_
  refine CC.no rfl ?_
  refine CC.skip ?_
  refine EE.thenN ?_
  refine CC.seq ?_
  refine CC.region ?_
  refine LL.val (R.move rfl rfl) rfl rfl rfl ?_
  refine LL.val (R.move rfl rfl) rfl rfl rfl ?_
  have l434 := r147.lt
  have l435 := r119.lt
  have l436 := r40.lt
  have l437 := r18.lt
  (refine LL.call (R.call rfl rfl rfl) rfl rfl rfl (peach_any left n _ s _ (lentR hn (h3F _ q3) hcL) hn h) ?_; rintro e W433 ⟨bk, a5, c5, rfl, rb, oE, hbk, b430⟩; refine ⟨_, rfl, ?_⟩; obtain ⟨bkl, hbl, hblt⟩ := bkl_row (oE.reads uEnc) bk; obtain ⟨X5, hzX5, h5F, q5⟩ := exposeT (oE.reads uEnc); have lb5 := rb.lt; have zq1 := q1.size; have zq2 := q2.size; have zq3 := q3.size; have zq5 := q5.size; clear oE)
  have zb430 := b430.size
  replace b372 := b372.trans (b430.mono b372.size)
  replace b347 := b347.trans (b430.mono b347.size)
  replace b322 := b322.trans (b430.mono b322.size)
  replace o297 := o297.up b430
  replace b295 := b295.trans (b430.mono b295.size)
  replace b270 := b270.trans (b430.mono b270.size)
  replace b237 := b237.trans (b430.mono b237.size)
  replace q3 := q3.trans (b430.mono q3.size)
  replace q1 := q1.trans (b430.mono q1.size)
  replace q2 := q2.trans (b430.mono q2.size)
  replace r147 := r147.up b430
  replace b144 := b144.trans (b430.mono b144.size)
  replace r119 := r119.up b430
  replace b116 := b116.trans (b430.mono b116.size)
  replace r40 := r40.up b430
  replace b37 := b37.trans (b430.mono b37.size)
  replace r18 := r18.up b430
  replace b15 := b15.trans (b430.mono b15.size)
  replace q := q.trans (b430.mono q.size)
  refine LL.val (R.assign rfl rfl) rfl rfl rfl ?_
  refine LL.nilS ?_
  refine CC.seq ?_
  refine CC.seq ?_
  refine CC.region ?_
  refine LL.val (R.move rfl rfl) rfl rfl rfl ?_
  refine LL.val (R.eqFn rfl rfl rfl rfl) rfl rfl rfl ?_
  refine LL.nilS ?_
  refine CC.no rfl ?_
  refine CC.skip ?_
  refine EE.thenN ?_
  refine CC.seq ?_
  refine CC.seq ?_
  refine CC.region ?_
  have l537 := rb.lt
  have l538 := r147.lt
  have l539 := r119.lt
  have l540 := r40.lt
  have l541 := r18.lt
  refine LL.alloc ([Value.int IntKind.i64 0]) rfl rfl rfl rfl rfl ?_
  intro W543 g544 eg544 r545 z546 b542
  replace rb := rb.up b542
  replace b430 := b430.trans (b542.mono b430.size)
  replace q5 := q5.trans (b542.mono q5.size)
  replace b372 := b372.trans (b542.mono b372.size)
  replace b347 := b347.trans (b542.mono b347.size)
  replace b322 := b322.trans (b542.mono b322.size)
  replace o297 := o297.up b542
  replace b295 := b295.trans (b542.mono b295.size)
  replace b270 := b270.trans (b542.mono b270.size)
  replace b237 := b237.trans (b542.mono b237.size)
  replace q3 := q3.trans (b542.mono q3.size)
  replace q1 := q1.trans (b542.mono q1.size)
  replace q2 := q2.trans (b542.mono q2.size)
  replace r147 := r147.up b542
  replace b144 := b144.trans (b542.mono b144.size)
  replace r119 := r119.up b542
  replace b116 := b116.trans (b542.mono b116.size)
  replace r40 := r40.up b542
  replace b37 := b37.trans (b542.mono b37.size)
  replace r18 := r18.up b542
  replace b15 := b15.trans (b542.mono b15.size)
  replace q := q.trans (b542.mono q.size)
  refine LL.store rfl rfl rfl rfl r545 (by exact Nat.le_of_ble_eq_true rfl) rfl rfl rfl rfl ?_
  intro W574 r575 b573 z576
  have hlb573 := r545.lt
  replace r575 : RowL W574 _ 3 [Value.int IntKind.i64 0] := r575
  clear r545
  replace b542 := b542.grown b573 b542.size (by rintro k ⟨⟩; omega)
  replace rb := rb.gr b573 (by have := rb.lt; omega)
  replace b430 := b430.grown b573 b430.size (by rintro k ⟨⟩; omega)
  replace q5 := q5.grown b573 q5.size (by rintro k ⟨⟩; omega)
  replace b372 := b372.grown b573 b372.size (by rintro k ⟨⟩; omega)
  replace b347 := b347.grown b573 b347.size (by rintro k ⟨⟩; omega)
  replace b322 := b322.grown b573 b322.size (by rintro k ⟨⟩; omega)
  replace b295 := b295.grown b573 b295.size (by rintro k ⟨⟩; omega)
  replace b270 := b270.grown b573 b270.size (by rintro k ⟨⟩; omega)
  replace b237 := b237.grown b573 b237.size (by rintro k ⟨⟩; omega)
  replace q3 := q3.grown b573 q3.size (by rintro k ⟨⟩; omega)
  replace q1 := q1.grown b573 q1.size (by rintro k ⟨⟩; omega)
  replace q2 := q2.grown b573 q2.size (by rintro k ⟨⟩; omega)
  replace r147 := r147.gr b573 (by have := r147.lt; omega)
  replace b144 := b144.grown b573 b144.size (by rintro k ⟨⟩; omega)
  replace r119 := r119.gr b573 (by have := r119.lt; omega)
  replace b116 := b116.grown b573 b116.size (by rintro k ⟨⟩; omega)
  replace r40 := r40.gr b573 (by have := r40.lt; omega)
  replace b37 := b37.grown b573 b37.size (by rintro k ⟨⟩; omega)
  replace r18 := r18.gr b573 (by have := r18.lt; omega)
  replace b15 := b15.grown b573 b15.size (by rintro k ⟨⟩; omega)
  replace q := q.grown b573 q.size (by rintro k ⟨⟩; omega)
  have r545 := r575
  clear r575
  refine LL.nilS ?_
  refine CC.block ?_
  obtain ⟨v1, h1F, rw1⟩ := packV h1F r119
  obtain ⟨v2, h2F, ra1⟩ := packV h2F r147
  have rk1 := r18
  have rr1 := r40
  have rt1 := r545
  obtain ⟨gk, ek⟩ : ∃ g, g = g17 := ⟨_, rfl⟩
  obtain ⟨gr, er⟩ : ∃ g, g = g39 := ⟨_, rfl⟩
  obtain ⟨gw, ew⟩ : ∃ g, g = g118 := ⟨_, rfl⟩
  obtain ⟨ga, ea⟩ : ∃ g, g = g146 := ⟨_, rfl⟩
  obtain ⟨gt, et⟩ : ∃ g, g = g544 := ⟨_, rfl⟩
  obtain ⟨W0, eW⟩ : ∃ X, X = W574 := ⟨_, rfl⟩
  subst ek er ew ea et eW
  have hord : w.heap.size ≤ gk ∧ gk < gr ∧ gr < gw ∧ gw < ga ∧ ga < gt ∧ bk < gt ∧ bkl < gt ∧ X1.heap.size ≤ gt ∧ X2.heap.size ≤ gt ∧ X3.heap.size ≤ gt := by omega
  have hG := (each1_gives bk bkl a5 (eachS left s).length c5 left (eachS left s) W0 rb (h5F _ q5) rfl (eachS_len (by omega)) hbl).z
  rw [eE] at hG
  have hV : LvR W0 w X1 X2 X3 gk gr gw ga gt many v1 v2 0 := ⟨rk1, rr1, rw1, ra1, rt1, q1, q2, q3, q⟩
  obtain ⟨K, hK⟩ : ∃ K, L.length = K := ⟨_, rfl⟩
  have hK1 : (L.map (·.2)).length = K := by rw [List.length_map, hK]
  have hK2 : (L.map (·.1)).length = K := by rw [List.length_map, hK]
  obtain ⟨av1, cv1, rfl, _⟩ := (h1F _ q1).form hK1
  obtain ⟨av2, cv2, rfl, _⟩ := (h2F _ q2).form hK2
  have qB := Below.refl W0.heap.size W0
  have jsz := q.size
  have jt := rt1.lt
  clear r18 r40 r119 r147 r545 b573 b542 b430 b372 b347 b322 b295 b270 b237 b144 b116 b37 b15 rk1 rr1 rw1 ra1 q q1 q2 q3 q5 rb h5F hvF
  refine CC.keep [(1, .slice a n c), (5, .pointer (some ⟨gk, 0, none⟩)), (6, .pointer (some ⟨gr, 0, none⟩)), (7, .pointer (some ⟨gw, 0, none⟩)), (8, .pointer (some ⟨ga, 0, none⟩)), (9, .slice (some ⟨gL, 0, none⟩) n cL), (10, .func (.func 62) #[] [Value.pointer (some ⟨bk, 0, none⟩)].toArray), (11, .pointer (some ⟨gt, 0, none⟩))] ⟨rfl, rfl, rfl, rfl, rfl, rfl, rfl, rfl, trivial⟩ ?_
  refine CC.loopN 3 ?_
  refine RN.step ?_
  refine CC.seq ?_
  refine CC.seq ?_
  refine CC.region ?_
  refine LL.val (R.load rfl rfl (I.ld1 rfl (RowL.cell rt1 rfl))) rfl rfl rfl ?_
  refine LL.val (R.ltT rfl rfl rfl (by omega)) rfl rfl rfl ?_
  refine LL.nilS ?_
  refine CC.yes rfl ?_
  refine CC.skip ?_
  refine EE.thenN ?_
  refine CC.seq ?_
  refine CC.block ?_
  refine CC.seq ?_
  refine CC.region ?_
  have la1 := rt1.lt
  refine LL.alloc ([Value.int IntKind.i64 0]) rfl rfl rfl rfl rfl ?_
  intro Wa3 ga4 ega4 ra5 za6 ba2
  replace rt1 := rt1.up ba2
  replace qB := qB.trans (ba2.mono qB.size)
  refine LL.store rfl rfl rfl rfl ra5 (by exact Nat.le_of_ble_eq_true rfl) rfl rfl rfl rfl ?_
  intro Wa8 ra9 ba7 za10
  have hlba7 := ra5.lt
  replace ra9 : RowL Wa8 _ 3 [Value.int IntKind.i64 0] := ra9
  clear ra5
  replace ba2 := ba2.grown ba7 ba2.size (by rintro k ⟨⟩; omega)
  replace rt1 := rt1.gr ba7 (by have := rt1.lt; omega)
  replace qB := qB.grown ba7 qB.size (by rintro k ⟨⟩; omega)
  have ra5 := ra9
  clear ra9
  refine LL.nilS ?_
  refine CC.seq ?_
  refine CC.seq ?_
  refine CC.region ?_
  refine LL.val (R.move rfl rfl) rfl rfl rfl ?_
  refine LL.nilS ?_
  refine CC.block ?_
  have yB := qB.size
  have kn := ra5.lt
  clear rt1
  refine CC.rangeZ (γ := Nat) (gf := 62) (lb := [Value.pointer (some ⟨bk, 0, none⟩)]) (encs := spE) rfl rfl hG qB (fun k hk => by (try simp only at hk); omega) (fun _ => rfl) rfl
    (fun m (pre : List (Nat × Pr)) W' => Below W0.heap.size W0 W' ∧ Wa8.heap.size ≤ W'.heap.size ∧ RowL W' ga4 3 [.int .i64 (pre.length : Int)] ∧ (pre.length = 0 ∨ (pre.length : Int) < many))
    (fun m (pre : List (Nat × Pr)) W' => Below W0.heap.size W0 W' ∧ RowL W' ga4 3 [.int .i64 (pre.length : Int)] ∧ (many ≤ pre.length ∧ (pre.length = 1 ∨ (pre.length : Int) - 1 < many) ∧ 1 ≤ pre.length ∧ pre.length ≤ K))
    (fun W' => Below W0.heap.size W0 W' ∧ ∃ p : Nat, RowL W' ga4 3 [.int .i64 (p : Int)] ∧ ((p : Int) = (if (K : Int) < (if 1 < many then many else 1) then (K : Int) else (if 1 < many then many else 1))))
    (fun m m' s X Y hs ht hg => ⟨hs.1.trans (ht.below yB hs.1.size), by have := ht.size; omega, ht.row hs.2.2.1 (.inl kn), hs.2.2.2⟩)
    (fun m m' s X Y hs ht hg => ⟨hs.1.trans (ht.below yB hs.1.size), ht.row hs.2.1 (.inl kn), hs.2.2⟩)
    ⟨qB, Nat.le_refl _, ra5, .inl rfl⟩ ?hIA ?hIxA
    (fun x g => sl [(1, .slice a n c), (5, .pointer (some ⟨gk, 0, none⟩)), (6, .pointer (some ⟨gr, 0, none⟩)), (7, .pointer (some ⟨gw, 0, none⟩)), (8, .pointer (some ⟨ga, 0, none⟩)), (9, .slice (some ⟨gL, 0, none⟩) n cL), (10, .func (.func 62) #[] [Value.pointer (some ⟨bk, 0, none⟩)].toArray), (11, .pointer (some ⟨gt, 0, none⟩)), (12, .pointer (some ⟨ga4, 0, none⟩)), (13, .int .i64 (x.1 : Int)), (14, .pointer (some ⟨g, 0, none⟩))]) (fun x g W' => RowL W' g 41 (prE x.2) ∧ Wa8.heap.size ≤ g) (fun x g => fun _ W W' row h hg hr => ⟨RowL.own () W W' row h.1 hg hr, h.2⟩) ?assign ?body ?after
  case hIA =>
    rintro m xs W' rfl ⟨h1, hz, h2, h3⟩
    exact ⟨h1, _, h2, by rw [hK] at h3 ⊢; rcases h3 with h3 | h3 <;> split <;> (try split) <;> omega⟩
  case hIxA =>
    rintro m pre W' hp ⟨h1, h2, h3⟩
    exact ⟨h1, pre.length, h2, by split <;> (try split) <;> omega⟩
  case assign =>
    rintro l' m pre x W Kc hm ⟨h1, hz, h2, h3⟩ hKc
    have qa := Below.refl W.heap.size W
    have hup : ∀ X, Below W.heap.size W X → Below W0.heap.size W0 X ∧ Wa8.heap.size ≤ X.heap.size ∧ RowL X ga4 3 [.int .i64 (pre.length : Int)] ∧ ((pre.length = 0 ∨ (pre.length : Int) < many)) := fun X b => ⟨h1.trans (b.mono h1.size), by have := b.size; omega, h2.up b, h3⟩
    clear h1 h2 h3
    refine CC.seq ?_
    refine CC.region ?_
    refine LL.val (R.assign rfl rfl) rfl rfl rfl ?_
    refine LL.nilS ?_
    refine CC.region ?_
    refine LL.alloc ([Value.int IntKind.u64 0, Value.int IntKind.u64 0]) rfl rfl rfl rfl rfl ?_
    intro Wb2 gb3 egb3 rb4 zb5 bb1
    replace qa := qa.trans (bb1.mono qa.size)
    refine LL.storeN (vs := [Value.int IntKind.u64 ↑x.2.1, Value.int IntKind.u64 ↑x.2.2]) rfl rfl rfl rfl rb4 (by exact Nat.le_of_ble_eq_true rfl) (ones_of rfl) rfl rfl ?_
    intro Wb7 rb8 bb6 zb9
    have hlbb6 := rb4.lt
    replace rb8 : RowL Wb7 _ 41 [Value.int IntKind.u64 ↑x.2.1, Value.int IntKind.u64 ↑x.2.2] := rb8
    clear rb4
    replace bb1 := bb1.grown bb6 bb1.size (by rintro k ⟨⟩; omega)
    replace qa := qa.grown bb6 qa.size (by rintro k ⟨⟩; omega)
    have rb4 := rb8
    clear rb8
    refine LL.nil ?_
    exact EE.thenK fun a' F => hKc a' _ _ (StaysZ.of_below qa) (Keeps.of_below (fun k hk => by (try simp only at hk); omega) qa) (hup _ qa) (F.keep _ ⟨rfl, rfl, rfl, rfl, rfl, rfl, rfl, rfl, rfl, rfl, rfl, trivial⟩) ⟨by assumption, by omega⟩
  case body =>
    rintro l' m pre ⟨jx, kx, px⟩ g W hm hl' hrl ⟨h1, hz, hn', h3⟩ ⟨hx, hgB⟩ ⟨xs, hxs, tt, hp⟩
    rw [hxs] at hp
    have hget : L[pre.length]? = some (jx, kx, px) := by rw [← hp]; simp
    have hpk : pre.length < K := by rw [← hK]; exact (List.getElem?_eq_some_iff.1 hget).1
    have hxd : (pre ++ [(jx, kx, px)]).length = pre.length + 1 := by simp
    have ySz := h1.size
    obtain ⟨rk, rr, rw1, ra1, rt, q1, q2, q3, bel⟩ := hV.lift h1
    have hg1 : (L.map (·.2))[pre.length]? = some (kx, px) := by rw [List.getElem?_map, hget]; rfl
    have hg2 : (L.map (·.1))[pre.length]? = some jx := by rw [List.getElem?_map, hget]; rfl
    obtain ⟨b1, o1, rfl, _, _⟩ := (h1F _ q1).get prEnc hg1
    obtain ⟨b2, o2, rfl, _, hc2⟩ := (h2F _ q2).one iEnc hg2
    have c2 := hc2 _ rfl
    have m1 : CellsN W ⟨b1, o1 + pre.length * 2, none⟩ 2 [.int .u64 (kx : Int), .int .u64 (px : Int)] := (h1F W q1).elemN prEnc hg1
    have hx : RowL W g 41 [.int .u64 (kx : Int), .int .u64 (px : Int)] := hx
    have lx := hx.lt
    have st := StaysZ.refl Wa8.heap.size m W
    have kp := Keeps.refl (fun k => k = bk ∨ k = bkl) W
    have hbW : bk < W.heap.size ∧ bkl < W.heap.size := by omega
    have hbn : bk ≠ ga4 ∧ bkl ≠ ga4 := by omega
    clear hc2 bel hl' hrl hp hm hget hxs q1 q2 q3 rr
    by_cases hmany : many ≤ (pre.length : Int) + 1
    · refine CC.block ?_
      refine CC.seq ?_
      refine CC.seq ?_
      refine CC.quietB (by kernel_rfl) (by kernel_rfl) (fun Wc2 bc1 zc3 => ?_)
      replace h1 := h1.trans (bc1.mono h1.size)
      replace hn' := hn'.up bc1
      replace hx := hx.up bc1
      replace rk := rk.up bc1
      replace rt := rt.up bc1
      replace rw1 := rw1.up bc1
      replace ra1 := ra1.up bc1
      replace c2 := cell_up c2 bc1
      replace m1 := m1.up bc1
      replace st := st.trans (StaysZ.of_below bc1)
      replace kp := kp.trans (Keeps.of_below (fun k hk => by (try simp only at hk); omega) bc1)
      refine SS.val (R.load rfl rfl (I.ld1 rfl (RowL.cell hn' rfl))) rfl rfl ?_
      refine SS.val (R.load rfl rfl (I.ld1 rfl (RowL.cell rw1 rfl))) rfl rfl ?_
      refine SS.val (R.len rfl rfl rfl rfl) rfl rfl ?_
      refine SS.val (R.geF rfl rfl rfl (by omega)) rfl rfl ?_
      refine SS.val (R.move rfl rfl) rfl rfl ?_
      refine SS.val (R.move rfl rfl) rfl rfl ?_
      refine SS.val (R.load rfl rfl (I.ld1 rfl (RowL.cell ra1 rfl))) rfl rfl ?_
      refine SS.val (R.load rfl rfl (I.ld1 rfl (RowL.cell hn' rfl))) rfl rfl ?_
      refine SS.val (R.index rfl rfl rfl (I.ixS1 rfl (by omega))) rfl rfl ?_
      refine SS.val (R.load rfl rfl (I.ld1 rfl (by assumption))) rfl rfl ?_
      refine SS.val (R.neF rfl rfl rfl (by omega)) rfl rfl ?_
      refine SS.val (R.pick rfl rfl rfl) rfl rfl ?_
      refine SS.val (R.move rfl rfl) rfl rfl ?_
      refine SS.val (R.load rfl rfl (I.ldNc (vs := [Value.int IntKind.u64 ↑kx, Value.int IntKind.u64 ↑px]) (RowL.cells hx rfl) (by rfl) (by rfl))) rfl rfl ?_
      refine SS.val (R.load rfl rfl (I.ld1 rfl (RowL.cell rw1 rfl))) rfl rfl ?_
      refine SS.val (R.load rfl rfl (I.ld1 rfl (RowL.cell hn' rfl))) rfl rfl ?_
      refine SS.val (R.index rfl rfl rfl (I.ixS rfl (by omega))) rfl rfl ?_
      refine SS.val (R.load rfl rfl (I.ldM (by assumption) rfl rfl)) rfl rfl ?_
      refine SS.val (R.neST (p := (↑kx : Int) = ↑kx ∧ (↑px : Int) = ↑px) (bs := [decide ((↑kx : Int) = ↑kx), decide ((↑px : Int) = ↑px)]) rfl rfl rfl rfl (by kernel_rfl) (by kernel_rfl) (by simp) (by first | assumption | omega | exact ⟨rfl, rfl⟩ | exact fun h => h ⟨rfl, rfl⟩)) rfl rfl ?_
      refine SS.val (R.pick rfl rfl rfl) rfl rfl ?_
      refine SS.nilQ ?_
      refine EE.thenN ?_
      refine CC.no rfl ?_
      refine CC.skip ?_
      refine EE.thenN ?_
      refine CC.seq ?_
      refine CC.region ?_
      refine LL.val (R.load rfl rfl (I.ld1 rfl (RowL.cell hn' rfl))) rfl rfl rfl ?_
      refine LL.val (R.addNc rfl rfl rfl rfl (by omega)) rfl rfl rfl ?_
      refine LL.store rfl rfl rfl rfl hn' (by exact Nat.le_of_ble_eq_true rfl) rfl rfl rfl rfl ?_
      intro Wc5 rc6 bc4 zc7
      have hlbc4 := hn'.lt
      replace rc6 : RowL Wc5 _ 3 [Value.int IntKind.i64 ↑(pre.length + 1)] := rc6
      clear hn'
      replace h1 := h1.grown bc4 h1.size (by rintro k ⟨⟩; omega)
      replace hx := hx.gr bc4 (by have := hx.lt; omega)
      replace rk := rk.gr bc4 (by have := rk.lt; omega)
      replace rt := rt.gr bc4 (by have := rt.lt; omega)
      replace rw1 := rw1.gr bc4 (by have := rw1.lt; omega)
      replace ra1 := ra1.gr bc4 (by have := ra1.lt; omega)
      replace st := st.trans (StaysZ.of_grown bc4 (by omega))
      replace kp := kp.trans (Keeps.of_grown bc4 fun k hk => by (try simp only at hk); omega)
      have hn' := rc6
      clear rc6
      refine LL.nilS ?_
      refine CC.seq ?_
      refine CC.region ?_
      refine LL.val (R.load rfl rfl (I.ld1 rfl (RowL.cell rt rfl))) rfl rfl rfl ?_
      refine LL.val (R.eqT rfl rfl rfl (by omega)) rfl rfl rfl ?_
      refine LL.val (R.move rfl rfl) rfl rfl rfl ?_
      refine LL.val (R.load rfl rfl (I.ld1 rfl (RowL.cell hn' rfl))) rfl rfl rfl ?_
      refine LL.val (R.load rfl rfl (I.ld1 rfl (RowL.cell rk rfl))) rfl rfl rfl ?_
      refine LL.val (R.geT rfl rfl rfl (by omega)) rfl rfl rfl ?_
      refine LL.val (R.pick rfl rfl rfl) rfl rfl rfl ?_
      refine LL.nilS ?_
      refine CC.yes rfl ?_
      refine CC.exit ?_
      refine EE.inX' rfl ?_
      exact EE.roundXZ ⟨st, rfl, h1, by rw [hxd]; exact hn', by rw [hxd]; omega, by rw [hxd]; omega, by rw [hxd]; omega, by rw [hxd]; omega⟩
    · refine CC.block ?_
      refine CC.seq ?_
      refine CC.seq ?_
      refine CC.quietB (by kernel_rfl) (by kernel_rfl) (fun Wd2 bd1 zd3 => ?_)
      replace h1 := h1.trans (bd1.mono h1.size)
      replace hn' := hn'.up bd1
      replace hx := hx.up bd1
      replace rk := rk.up bd1
      replace rt := rt.up bd1
      replace rw1 := rw1.up bd1
      replace ra1 := ra1.up bd1
      replace c2 := cell_up c2 bd1
      replace m1 := m1.up bd1
      replace st := st.trans (StaysZ.of_below bd1)
      replace kp := kp.trans (Keeps.of_below (fun k hk => by (try simp only at hk); omega) bd1)
      refine SS.val (R.load rfl rfl (I.ld1 rfl (RowL.cell hn' rfl))) rfl rfl ?_
      refine SS.val (R.load rfl rfl (I.ld1 rfl (RowL.cell rw1 rfl))) rfl rfl ?_
      refine SS.val (R.len rfl rfl rfl rfl) rfl rfl ?_
      refine SS.val (R.geF rfl rfl rfl (by omega)) rfl rfl ?_
      refine SS.val (R.move rfl rfl) rfl rfl ?_
      refine SS.val (R.move rfl rfl) rfl rfl ?_
      refine SS.val (R.load rfl rfl (I.ld1 rfl (RowL.cell ra1 rfl))) rfl rfl ?_
      refine SS.val (R.load rfl rfl (I.ld1 rfl (RowL.cell hn' rfl))) rfl rfl ?_
      refine SS.val (R.index rfl rfl rfl (I.ixS1 rfl (by omega))) rfl rfl ?_
      refine SS.val (R.load rfl rfl (I.ld1 rfl (by assumption))) rfl rfl ?_
      refine SS.val (R.neF rfl rfl rfl (by omega)) rfl rfl ?_
      refine SS.val (R.pick rfl rfl rfl) rfl rfl ?_
      refine SS.val (R.move rfl rfl) rfl rfl ?_
      refine SS.val (R.load rfl rfl (I.ldNc (vs := [Value.int IntKind.u64 ↑kx, Value.int IntKind.u64 ↑px]) (RowL.cells hx rfl) (by rfl) (by rfl))) rfl rfl ?_
      refine SS.val (R.load rfl rfl (I.ld1 rfl (RowL.cell rw1 rfl))) rfl rfl ?_
      refine SS.val (R.load rfl rfl (I.ld1 rfl (RowL.cell hn' rfl))) rfl rfl ?_
      refine SS.val (R.index rfl rfl rfl (I.ixS rfl (by omega))) rfl rfl ?_
      refine SS.val (R.load rfl rfl (I.ldM (by assumption) rfl rfl)) rfl rfl ?_
      refine SS.val (R.neST (p := (↑kx : Int) = ↑kx ∧ (↑px : Int) = ↑px) (bs := [decide ((↑kx : Int) = ↑kx), decide ((↑px : Int) = ↑px)]) rfl rfl rfl rfl (by kernel_rfl) (by kernel_rfl) (by simp) (by first | assumption | omega | exact ⟨rfl, rfl⟩ | exact fun h => h ⟨rfl, rfl⟩)) rfl rfl ?_
      refine SS.val (R.pick rfl rfl rfl) rfl rfl ?_
      refine SS.nilQ ?_
      refine EE.thenN ?_
      refine CC.no rfl ?_
      refine CC.skip ?_
      refine EE.thenN ?_
      refine CC.seq ?_
      refine CC.region ?_
      refine LL.val (R.load rfl rfl (I.ld1 rfl (RowL.cell hn' rfl))) rfl rfl rfl ?_
      refine LL.val (R.addNc rfl rfl rfl rfl (by omega)) rfl rfl rfl ?_
      refine LL.store rfl rfl rfl rfl hn' (by exact Nat.le_of_ble_eq_true rfl) rfl rfl rfl rfl ?_
      intro Wd5 rd6 bd4 zd7
      have hlbd4 := hn'.lt
      replace rd6 : RowL Wd5 _ 3 [Value.int IntKind.i64 ↑(pre.length + 1)] := rd6
      clear hn'
      replace h1 := h1.grown bd4 h1.size (by rintro k ⟨⟩; omega)
      replace hx := hx.gr bd4 (by have := hx.lt; omega)
      replace rk := rk.gr bd4 (by have := rk.lt; omega)
      replace rt := rt.gr bd4 (by have := rt.lt; omega)
      replace rw1 := rw1.gr bd4 (by have := rw1.lt; omega)
      replace ra1 := ra1.gr bd4 (by have := ra1.lt; omega)
      replace st := st.trans (StaysZ.of_grown bd4 (by omega))
      replace kp := kp.trans (Keeps.of_grown bd4 fun k hk => by (try simp only at hk); omega)
      have hn' := rd6
      clear rd6
      refine LL.nilS ?_
      refine CC.seq ?_
      refine CC.region ?_
      refine LL.val (R.load rfl rfl (I.ld1 rfl (RowL.cell rt rfl))) rfl rfl rfl ?_
      refine LL.val (R.eqT rfl rfl rfl (by omega)) rfl rfl rfl ?_
      refine LL.val (R.move rfl rfl) rfl rfl rfl ?_
      refine LL.val (R.load rfl rfl (I.ld1 rfl (RowL.cell hn' rfl))) rfl rfl rfl ?_
      refine LL.val (R.load rfl rfl (I.ld1 rfl (RowL.cell rk rfl))) rfl rfl rfl ?_
      refine LL.val (R.geF rfl rfl rfl (by omega)) rfl rfl rfl ?_
      refine LL.val (R.pick rfl rfl rfl) rfl rfl rfl ?_
      refine LL.nilS ?_
      refine CC.no rfl ?_
      refine CC.skip ?_
      refine EE.inN ?_
      exact EE.roundNZ ⟨st, kp, h1, by omega, by rw [hxd]; exact hn', .inr (by rw [hxd]; omega)⟩
  case after =>
    rintro E0 W hE0 ⟨h1, p, hn', hcp⟩ hE01
    obtain ⟨rk, rr, rw1, ra1, rt, q1, q2, q3, bel⟩ := hV.lift h1
    have yz := h1.size
    have eE0 := (Array.getElem?_eq_some_iff.1 hE01).1
    refine EE.thenN ?_
    refine CC.seq ?_
    refine CC.region ?_
    refine LL.val (R.load rfl rfl (I.ld1 rfl (RowL.cell rt rfl))) rfl rfl rfl ?_
    refine LL.val (R.eqT rfl rfl rfl (by omega)) rfl rfl rfl ?_
    refine LL.val (R.move rfl rfl) rfl rfl rfl ?_
    refine LL.val (R.load rfl rfl (I.ld1 rfl (RowL.cell hn' rfl))) rfl rfl rfl ?_
    refine LL.val (R.load rfl rfl (I.ld1 rfl (RowL.cell rw1 rfl))) rfl rfl rfl ?_
    refine LL.val (R.len rfl rfl rfl rfl) rfl rfl rfl ?_
    refine LL.val (R.load rfl rfl (I.ld1 rfl (RowL.cell rk rfl))) rfl rfl rfl ?_
    refine LL.val (R.max rfl rfl) rfl rfl rfl ?_
    refine LL.val (R.min rfl rfl) rfl rfl rfl ?_
    refine LL.val (R.neF rfl rfl rfl (by omega)) rfl rfl rfl ?_
    refine LL.val (R.pick rfl rfl rfl) rfl rfl rfl ?_
    refine LL.val (R.move rfl rfl) rfl rfl rfl ?_
    refine LL.val (R.load rfl rfl (I.ld1 rfl (RowL.cell rt rfl))) rfl rfl rfl ?_
    refine LL.val (R.eqF rfl rfl rfl (by omega)) rfl rfl rfl ?_
    refine LL.val (R.move rfl rfl) rfl rfl rfl ?_
    refine LL.skip rfl rfl ?_
    refine LL.skip rfl rfl ?_
    refine LL.skip rfl rfl ?_
    refine LL.skip rfl rfl ?_
    refine LL.val (R.pick rfl rfl rfl) rfl rfl rfl ?_
    refine LL.val (R.pick rfl rfl rfl) rfl rfl rfl ?_
    refine LL.nilS ?_
    refine CC.no rfl ?_
    refine CC.skip ?_
    refine EE.inN ?_
    refine EE.thenN ?_
    refine CC.seq ?_
    refine CC.seq ?_
    refine CC.region ?_
    refine LL.val (R.load rfl rfl (I.ld1 rfl (RowL.cell rt rfl))) rfl rfl rfl ?_
    refine LL.nilS ?_
    refine CC.region ?_
    have le1 := hn'.lt
    have le2 := (Array.getElem?_eq_some_iff.1 hE01).1
    have le3 := rk.lt
    have le4 := rr.lt
    have le5 := rw1.lt
    have le6 := ra1.lt
    have le7 := rt.lt
    refine LL.alloc ([Value.int IntKind.i64 0]) rfl rfl rfl rfl rfl ?_
    intro We9 ge10 ege10 re11 ze12 be8
    replace h1 := h1.trans (be8.mono h1.size)
    replace hn' := hn'.up be8
    replace hE01 := defer_up hE01 be8
    replace rk := rk.up be8
    replace rr := rr.up be8
    replace rw1 := rw1.up be8
    replace ra1 := ra1.up be8
    replace rt := rt.up be8
    replace q1 := q1.trans (be8.mono q1.size)
    replace q2 := q2.trans (be8.mono q2.size)
    replace q3 := q3.trans (be8.mono q3.size)
    replace bel := bel.trans (be8.mono bel.size)
    refine LL.store rfl rfl rfl rfl re11 (by exact Nat.le_of_ble_eq_true rfl) rfl rfl rfl rfl ?_
    intro We14 re15 be13 ze16
    have hlbe13 := re11.lt
    replace re15 : RowL We14 _ 3 [Value.int IntKind.i64 0] := re15
    clear re11
    replace be8 := be8.grown be13 be8.size (by rintro k ⟨⟩; omega)
    replace h1 := h1.grown be13 h1.size (by rintro k ⟨⟩; omega)
    replace hn' := hn'.gr be13 (by have := hn'.lt; omega)
    replace hE01 := (be13.block _ (Array.getElem?_eq_some_iff.1 hE01).1 (by simp; omega)).trans hE01
    replace rk := rk.gr be13 (by have := rk.lt; omega)
    replace rr := rr.gr be13 (by have := rr.lt; omega)
    replace rw1 := rw1.gr be13 (by have := rw1.lt; omega)
    replace ra1 := ra1.gr be13 (by have := ra1.lt; omega)
    replace rt := rt.gr be13 (by have := rt.lt; omega)
    replace q1 := q1.grown be13 q1.size (by rintro k ⟨⟩; omega)
    replace q2 := q2.grown be13 q2.size (by rintro k ⟨⟩; omega)
    replace q3 := q3.grown be13 q3.size (by rintro k ⟨⟩; omega)
    replace bel := bel.grown be13 bel.size (by rintro k ⟨⟩; omega)
    have re11 := re15
    clear re15
    refine LL.nilS ?_
    refine CC.region ?_
    refine LL.val (R.load rfl rfl (I.ld1 rfl (RowL.cell re11 rfl))) rfl rfl rfl ?_
    refine LL.val (R.addIz (z := 1) rfl rfl rfl (by decide) (by decide)) rfl rfl rfl ?_
    refine LL.store rfl rfl rfl rfl re11 (by exact Nat.le_of_ble_eq_true rfl) rfl rfl rfl rfl ?_
    intro We18 re19 be17 ze20
    have hlbe17 := re11.lt
    replace re19 : RowL We18 _ 3 [Value.int IntKind.i64 1] := re19
    clear re11
    replace be8 := be8.grown be17 be8.size (by rintro k ⟨⟩; omega)
    replace h1 := h1.grown be17 h1.size (by rintro k ⟨⟩; omega)
    replace hn' := hn'.gr be17 (by have := hn'.lt; omega)
    replace hE01 := (be17.block _ (Array.getElem?_eq_some_iff.1 hE01).1 (by simp; omega)).trans hE01
    replace rk := rk.gr be17 (by have := rk.lt; omega)
    replace rr := rr.gr be17 (by have := rr.lt; omega)
    replace rw1 := rw1.gr be17 (by have := rw1.lt; omega)
    replace ra1 := ra1.gr be17 (by have := ra1.lt; omega)
    replace rt := rt.gr be17 (by have := rt.lt; omega)
    replace q1 := q1.grown be17 q1.size (by rintro k ⟨⟩; omega)
    replace q2 := q2.grown be17 q2.size (by rintro k ⟨⟩; omega)
    replace q3 := q3.grown be17 q3.size (by rintro k ⟨⟩; omega)
    replace bel := bel.grown be17 bel.size (by rintro k ⟨⟩; omega)
    have re11 := re19
    clear re19
    refine LL.nil ?_
    refine EE.again ?_
    have hV1 : LvR We18 w X1 X2 X3 gk gr gw ga ge10 many (.slice av1 K cv1) (.slice av2 K cv2) 1 := ⟨rk, rr, rw1, ra1, re11, q1, q2, q3, bel⟩
    have hE0k : ∀ W', Below We18.heap.size We18 W' → W'.heap[E0]? = some (.deferred (some [])) := fun W' h => defer_up hE01 h
    have qA := h1
    have qB := Below.refl We18.heap.size We18
    have jsz := bel.size
    have jE := (Array.getElem?_eq_some_iff.1 hE01).1
    have hord2 : ga < ge10 ∧ bk < ge10 ∧ bkl < ge10 ∧ X3.heap.size ≤ ge10 := by omega
    clear h1 hn' hcp rt be8 be13 be17 kn hE01 yB ra5 ba2
    refine RN.keep [(1, .slice a n c), (5, .pointer (some ⟨gk, 0, none⟩)), (6, .pointer (some ⟨gr, 0, none⟩)), (7, .pointer (some ⟨gw, 0, none⟩)), (8, .pointer (some ⟨ga, 0, none⟩)), (9, .slice (some ⟨gL, 0, none⟩) n cL), (10, .func (.func 62) #[] [Value.pointer (some ⟨bk, 0, none⟩)].toArray), (11, .pointer (some ⟨ge10, 0, none⟩))] ⟨rfl, rfl, rfl, rfl, rfl, rfl, rfl, rfl, trivial⟩ ?_
    refine RN.step ?_
    refine CC.seq ?_
    refine CC.seq ?_
    refine CC.region ?_
    refine LL.val (R.load rfl rfl (I.ld1 rfl (RowL.cell re11 rfl))) rfl rfl rfl ?_
    refine LL.val (R.ltT rfl rfl rfl (by omega)) rfl rfl rfl ?_
    refine LL.nilS ?_
    refine CC.yes rfl ?_
    refine CC.skip ?_
    refine EE.thenN ?_
    refine CC.seq ?_
    refine CC.block ?_
    refine CC.seq ?_
    refine CC.region ?_
    have lf1 := rk.lt
    have lf2 := rr.lt
    have lf3 := rw1.lt
    have lf4 := ra1.lt
    have lf5 := re11.lt
    refine LL.alloc ([Value.int IntKind.i64 0]) rfl rfl rfl rfl rfl ?_
    intro Wf7 gf8 egf8 rf9 zf10 bf6
    replace rk := rk.up bf6
    replace rr := rr.up bf6
    replace rw1 := rw1.up bf6
    replace ra1 := ra1.up bf6
    replace q1 := q1.trans (bf6.mono q1.size)
    replace q2 := q2.trans (bf6.mono q2.size)
    replace q3 := q3.trans (bf6.mono q3.size)
    replace bel := bel.trans (bf6.mono bel.size)
    replace re11 := re11.up bf6
    replace qA := qA.trans (bf6.mono qA.size)
    replace qB := qB.trans (bf6.mono qB.size)
    refine LL.store rfl rfl rfl rfl rf9 (by exact Nat.le_of_ble_eq_true rfl) rfl rfl rfl rfl ?_
    intro Wf12 rf13 bf11 zf14
    have hlbf11 := rf9.lt
    replace rf13 : RowL Wf12 _ 3 [Value.int IntKind.i64 0] := rf13
    clear rf9
    replace bf6 := bf6.grown bf11 bf6.size (by rintro k ⟨⟩; omega)
    replace rk := rk.gr bf11 (by have := rk.lt; omega)
    replace rr := rr.gr bf11 (by have := rr.lt; omega)
    replace rw1 := rw1.gr bf11 (by have := rw1.lt; omega)
    replace ra1 := ra1.gr bf11 (by have := ra1.lt; omega)
    replace q1 := q1.grown bf11 q1.size (by rintro k ⟨⟩; omega)
    replace q2 := q2.grown bf11 q2.size (by rintro k ⟨⟩; omega)
    replace q3 := q3.grown bf11 q3.size (by rintro k ⟨⟩; omega)
    replace bel := bel.grown bf11 bel.size (by rintro k ⟨⟩; omega)
    replace re11 := re11.gr bf11 (by have := re11.lt; omega)
    replace qA := qA.grown bf11 qA.size (by rintro k ⟨⟩; omega)
    replace qB := qB.grown bf11 qB.size (by rintro k ⟨⟩; omega)
    have rf9 := rf13
    clear rf13
    refine LL.nilS ?_
    refine CC.seq ?_
    refine CC.seq ?_
    refine CC.region ?_
    refine LL.val (R.move rfl rfl) rfl rfl rfl ?_
    refine LL.nilS ?_
    refine CC.block ?_
    have yB := qB.size
    have kn := rf9.lt
    clear rk rr rw1 ra1 re11 bel q1 q2 q3
    refine CC.rangeZ (γ := Nat) (gf := 62) (lb := [Value.pointer (some ⟨bk, 0, none⟩)]) (encs := spE) rfl rfl hG qA (fun k hk => by (try simp only at hk); omega) (fun _ => rfl) rfl
      (fun m (pre : List (Nat × Pr)) W' => Below We18.heap.size We18 W' ∧ Wf12.heap.size ≤ W'.heap.size ∧ RowL W' gf8 3 [.int .i64 (pre.length : Int)] ∧ True)
      (fun m (pre : List (Nat × Pr)) W' => Below We18.heap.size We18 W' ∧ RowL W' gf8 3 [.int .i64 (pre.length : Int)] ∧ False)
      (fun W' => Below We18.heap.size We18 W' ∧ ∃ p : Nat, RowL W' gf8 3 [.int .i64 (p : Int)] ∧ ((p : Int) = (K : Int)))
      (fun m m' s X Y hs ht hg => ⟨hs.1.trans (ht.below yB hs.1.size), by have := ht.size; omega, ht.row hs.2.2.1 (.inl kn), hs.2.2.2⟩)
      (fun m m' s X Y hs ht hg => ⟨hs.1.trans (ht.below yB hs.1.size), ht.row hs.2.1 (.inl kn), hs.2.2⟩)
      ⟨qB, Nat.le_refl _, rf9, trivial⟩ ?hIA ?hIxA
      (fun x g => sl [(1, .slice a n c), (5, .pointer (some ⟨gk, 0, none⟩)), (6, .pointer (some ⟨gr, 0, none⟩)), (7, .pointer (some ⟨gw, 0, none⟩)), (8, .pointer (some ⟨ga, 0, none⟩)), (9, .slice (some ⟨gL, 0, none⟩) n cL), (10, .func (.func 62) #[] [Value.pointer (some ⟨bk, 0, none⟩)].toArray), (11, .pointer (some ⟨ge10, 0, none⟩)), (12, .pointer (some ⟨gf8, 0, none⟩)), (13, .int .i64 (x.1 : Int)), (14, .pointer (some ⟨g, 0, none⟩))]) (fun x g W' => RowL W' g 41 (prE x.2) ∧ Wf12.heap.size ≤ g) (fun x g => fun _ W W' row h hg hr => ⟨RowL.own () W W' row h.1 hg hr, h.2⟩) ?assign ?body ?after
    case hIA =>
      rintro m xs W' rfl ⟨h1, hz, h2, h3⟩
      exact ⟨h1, _, h2, by rw [hK]⟩
    case hIxA =>
      rintro m pre W' hp ⟨h1, h2, h3⟩
      exact h3.elim
    case assign =>
      rintro l' m pre x W Kc hm ⟨h1, hz, h2, h3⟩ hKc
      have qa := Below.refl W.heap.size W
      have hup : ∀ X, Below W.heap.size W X → Below We18.heap.size We18 X ∧ Wf12.heap.size ≤ X.heap.size ∧ RowL X gf8 3 [.int .i64 (pre.length : Int)] ∧ (True) := fun X b => ⟨h1.trans (b.mono h1.size), by have := b.size; omega, h2.up b, h3⟩
      clear h1 h2 h3
      refine CC.seq ?_
      refine CC.region ?_
      refine LL.val (R.assign rfl rfl) rfl rfl rfl ?_
      refine LL.nilS ?_
      refine CC.region ?_
      refine LL.alloc ([Value.int IntKind.u64 0, Value.int IntKind.u64 0]) rfl rfl rfl rfl rfl ?_
      intro Wg2 gg3 egg3 rg4 zg5 bg1
      replace qa := qa.trans (bg1.mono qa.size)
      refine LL.storeN (vs := [Value.int IntKind.u64 ↑x.2.1, Value.int IntKind.u64 ↑x.2.2]) rfl rfl rfl rfl rg4 (by exact Nat.le_of_ble_eq_true rfl) (ones_of rfl) rfl rfl ?_
      intro Wg7 rg8 bg6 zg9
      have hlbg6 := rg4.lt
      replace rg8 : RowL Wg7 _ 41 [Value.int IntKind.u64 ↑x.2.1, Value.int IntKind.u64 ↑x.2.2] := rg8
      clear rg4
      replace bg1 := bg1.grown bg6 bg1.size (by rintro k ⟨⟩; omega)
      replace qa := qa.grown bg6 qa.size (by rintro k ⟨⟩; omega)
      have rg4 := rg8
      clear rg8
      refine LL.nil ?_
      exact EE.thenK fun a' F => hKc a' _ _ (StaysZ.of_below qa) (Keeps.of_below (fun k hk => by (try simp only at hk); omega) qa) (hup _ qa) (F.keep _ ⟨rfl, rfl, rfl, rfl, rfl, rfl, rfl, rfl, rfl, rfl, rfl, trivial⟩) ⟨by assumption, by omega⟩
    case body =>
      rintro l' m pre ⟨jx, kx, px⟩ g W hm hl' hrl ⟨h1, hz, hn', h3⟩ ⟨hx, hgB⟩ ⟨xs, hxs, tt, hp⟩
      rw [hxs] at hp
      have hget : L[pre.length]? = some (jx, kx, px) := by rw [← hp]; simp
      have hpk : pre.length < K := by rw [← hK]; exact (List.getElem?_eq_some_iff.1 hget).1
      have hxd : (pre ++ [(jx, kx, px)]).length = pre.length + 1 := by simp
      have ySz := h1.size
      obtain ⟨rk, rr, rw1, ra1, rt, q1, q2, q3, bel⟩ := hV1.lift h1
      have hg1 : (L.map (·.2))[pre.length]? = some (kx, px) := by rw [List.getElem?_map, hget]; rfl
      have hg2 : (L.map (·.1))[pre.length]? = some jx := by rw [List.getElem?_map, hget]; rfl
      obtain ⟨b1, o1, rfl, _, _⟩ := (h1F _ q1).get prEnc hg1
      obtain ⟨b2, o2, rfl, _, hc2⟩ := (h2F _ q2).one iEnc hg2
      have c2 := hc2 _ rfl
      have m1 : CellsN W ⟨b1, o1 + pre.length * 2, none⟩ 2 [.int .u64 (kx : Int), .int .u64 (px : Int)] := (h1F W q1).elemN prEnc hg1
      have hx : RowL W g 41 [.int .u64 (kx : Int), .int .u64 (px : Int)] := hx
      have lx := hx.lt
      have st := StaysZ.refl Wf12.heap.size m W
      have kp := Keeps.refl (fun k => k = bk ∨ k = bkl) W
      have hbW : bk < W.heap.size ∧ bkl < W.heap.size := by omega
      have hbn : bk ≠ gf8 ∧ bkl ≠ gf8 := by omega
      clear hc2 bel hl' hrl hp hm hget hxs q1 q2 q3 rr
      refine CC.block ?_
      refine CC.seq ?_
      refine CC.seq ?_
      refine CC.quietB (by kernel_rfl) (by kernel_rfl) (fun Wh2 bh1 zh3 => ?_)
      replace h1 := h1.trans (bh1.mono h1.size)
      replace hn' := hn'.up bh1
      replace hx := hx.up bh1
      replace rk := rk.up bh1
      replace rt := rt.up bh1
      replace rw1 := rw1.up bh1
      replace ra1 := ra1.up bh1
      replace c2 := cell_up c2 bh1
      replace m1 := m1.up bh1
      replace st := st.trans (StaysZ.of_below bh1)
      replace kp := kp.trans (Keeps.of_below (fun k hk => by (try simp only at hk); omega) bh1)
      refine SS.val (R.load rfl rfl (I.ld1 rfl (RowL.cell hn' rfl))) rfl rfl ?_
      refine SS.val (R.load rfl rfl (I.ld1 rfl (RowL.cell rw1 rfl))) rfl rfl ?_
      refine SS.val (R.len rfl rfl rfl rfl) rfl rfl ?_
      refine SS.val (R.geF rfl rfl rfl (by omega)) rfl rfl ?_
      refine SS.val (R.move rfl rfl) rfl rfl ?_
      refine SS.val (R.move rfl rfl) rfl rfl ?_
      refine SS.val (R.load rfl rfl (I.ld1 rfl (RowL.cell ra1 rfl))) rfl rfl ?_
      refine SS.val (R.load rfl rfl (I.ld1 rfl (RowL.cell hn' rfl))) rfl rfl ?_
      refine SS.val (R.index rfl rfl rfl (I.ixS1 rfl (by omega))) rfl rfl ?_
      refine SS.val (R.load rfl rfl (I.ld1 rfl (by assumption))) rfl rfl ?_
      refine SS.val (R.neF rfl rfl rfl (by omega)) rfl rfl ?_
      refine SS.val (R.pick rfl rfl rfl) rfl rfl ?_
      refine SS.val (R.move rfl rfl) rfl rfl ?_
      refine SS.val (R.load rfl rfl (I.ldNc (vs := [Value.int IntKind.u64 ↑kx, Value.int IntKind.u64 ↑px]) (RowL.cells hx rfl) (by rfl) (by rfl))) rfl rfl ?_
      refine SS.val (R.load rfl rfl (I.ld1 rfl (RowL.cell rw1 rfl))) rfl rfl ?_
      refine SS.val (R.load rfl rfl (I.ld1 rfl (RowL.cell hn' rfl))) rfl rfl ?_
      refine SS.val (R.index rfl rfl rfl (I.ixS rfl (by omega))) rfl rfl ?_
      refine SS.val (R.load rfl rfl (I.ldM (by assumption) rfl rfl)) rfl rfl ?_
      refine SS.val (R.neST (p := (↑kx : Int) = ↑kx ∧ (↑px : Int) = ↑px) (bs := [decide ((↑kx : Int) = ↑kx), decide ((↑px : Int) = ↑px)]) rfl rfl rfl rfl (by kernel_rfl) (by kernel_rfl) (by simp) (by first | assumption | omega | exact ⟨rfl, rfl⟩ | exact fun h => h ⟨rfl, rfl⟩)) rfl rfl ?_
      refine SS.val (R.pick rfl rfl rfl) rfl rfl ?_
      refine SS.nilQ ?_
      refine EE.thenN ?_
      refine CC.no rfl ?_
      refine CC.skip ?_
      refine EE.thenN ?_
      refine CC.seq ?_
      refine CC.region ?_
      refine LL.val (R.load rfl rfl (I.ld1 rfl (RowL.cell hn' rfl))) rfl rfl rfl ?_
      refine LL.val (R.addNc rfl rfl rfl rfl (by omega)) rfl rfl rfl ?_
      refine LL.store rfl rfl rfl rfl hn' (by exact Nat.le_of_ble_eq_true rfl) rfl rfl rfl rfl ?_
      intro Wh5 rh6 bh4 zh7
      have hlbh4 := hn'.lt
      replace rh6 : RowL Wh5 _ 3 [Value.int IntKind.i64 ↑(pre.length + 1)] := rh6
      clear hn'
      replace h1 := h1.grown bh4 h1.size (by rintro k ⟨⟩; omega)
      replace hx := hx.gr bh4 (by have := hx.lt; omega)
      replace rk := rk.gr bh4 (by have := rk.lt; omega)
      replace rt := rt.gr bh4 (by have := rt.lt; omega)
      replace rw1 := rw1.gr bh4 (by have := rw1.lt; omega)
      replace ra1 := ra1.gr bh4 (by have := ra1.lt; omega)
      replace st := st.trans (StaysZ.of_grown bh4 (by omega))
      replace kp := kp.trans (Keeps.of_grown bh4 fun k hk => by (try simp only at hk); omega)
      have hn' := rh6
      clear rh6
      refine LL.nilS ?_
      refine CC.seq ?_
      refine CC.region ?_
      refine LL.val (R.load rfl rfl (I.ld1 rfl (RowL.cell rt rfl))) rfl rfl rfl ?_
      refine LL.val (R.eqF rfl rfl rfl (by omega)) rfl rfl rfl ?_
      refine LL.val (R.move rfl rfl) rfl rfl rfl ?_
      refine LL.skip rfl rfl ?_
      refine LL.skip rfl rfl ?_
      refine LL.skip rfl rfl ?_
      refine LL.val (R.pick rfl rfl rfl) rfl rfl rfl ?_
      refine LL.nilS ?_
      refine CC.no rfl ?_
      refine CC.skip ?_
      refine EE.inN ?_
      exact EE.roundNZ ⟨st, kp, h1, by omega, by rw [hxd]; exact hn', trivial⟩
    case after =>
      rintro E1 W hE1 ⟨h1, p, hn', hcp⟩ hE11
      obtain ⟨rk, rr, rw1, ra1, rt, q1, q2, q3, q⟩ := hV1.lift h1
      have yz := h1.size
      have hE01 := hE0k _ h1
      have eE01 := (Array.getElem?_eq_some_iff.1 hE01).1
      have eE1 := (Array.getElem?_eq_some_iff.1 hE11).1
      have c77F : ∀ X, Below X3.heap.size X3 X → X.cell? ⟨gL, 0 + n, none⟩ = some (.int .u64 ((77 : Nat) : Int)) := fun X hX => by
        obtain ⟨b, o, e, _, hc⟩ := (h3F X hX).one uEnc (i := n) (t := 77) (by rw [List.getElem?_append_right (by omega), hn, Nat.sub_self]; rfl)
        cases e
        exact hc _ rfl
      refine EE.thenN ?_
      refine CC.seq ?_
      refine CC.region ?_
      refine LL.val (R.load rfl rfl (I.ld1 rfl (RowL.cell rt rfl))) rfl rfl rfl ?_
      refine LL.val (R.eqF rfl rfl rfl (by omega)) rfl rfl rfl ?_
      refine LL.val (R.move rfl rfl) rfl rfl rfl ?_
      refine LL.skip rfl rfl ?_
      refine LL.skip rfl rfl ?_
      refine LL.skip rfl rfl ?_
      refine LL.skip rfl rfl ?_
      refine LL.skip rfl rfl ?_
      refine LL.skip rfl rfl ?_
      refine LL.skip rfl rfl ?_
      refine LL.val (R.pick rfl rfl rfl) rfl rfl rfl ?_
      refine LL.val (R.move rfl rfl) rfl rfl rfl ?_
      refine LL.val (R.load rfl rfl (I.ld1 rfl (RowL.cell rt rfl))) rfl rfl rfl ?_
      refine LL.val (R.eqT rfl rfl rfl (by omega)) rfl rfl rfl ?_
      refine LL.val (R.move rfl rfl) rfl rfl rfl ?_
      refine LL.val (R.load rfl rfl (I.ld1 rfl (RowL.cell hn' rfl))) rfl rfl rfl ?_
      refine LL.val (R.load rfl rfl (I.ld1 rfl (RowL.cell rw1 rfl))) rfl rfl rfl ?_
      refine LL.val (R.len rfl rfl rfl rfl) rfl rfl rfl ?_
      refine LL.val (R.neF rfl rfl rfl (by omega)) rfl rfl rfl ?_
      refine LL.val (R.pick rfl rfl rfl) rfl rfl rfl ?_
      refine LL.val (R.pick rfl rfl rfl) rfl rfl rfl ?_
      refine LL.nilS ?_
      refine CC.no rfl ?_
      refine CC.skip ?_
      refine EE.inN ?_
      refine EE.thenN ?_
      refine CC.seq ?_
      refine CC.seq ?_
      refine CC.region ?_
      refine LL.val (R.load rfl rfl (I.ld1 rfl (RowL.cell rt rfl))) rfl rfl rfl ?_
      refine LL.nilS ?_
      refine CC.region ?_
      have li241 := hn'.lt
      have li242 := (Array.getElem?_eq_some_iff.1 hE11).1
      have li243 := rk.lt
      have li244 := rr.lt
      have li245 := rw1.lt
      have li246 := ra1.lt
      have li247 := rt.lt
      have li248 := (Array.getElem?_eq_some_iff.1 hE01).1
      refine LL.alloc ([Value.int IntKind.i64 0]) rfl rfl rfl rfl rfl ?_
      intro Wi250 gi251 egi251 ri252 zi253 bi249
      replace h1 := h1.trans (bi249.mono h1.size)
      replace hn' := hn'.up bi249
      replace hE11 := defer_up hE11 bi249
      replace rk := rk.up bi249
      replace rr := rr.up bi249
      replace rw1 := rw1.up bi249
      replace ra1 := ra1.up bi249
      replace rt := rt.up bi249
      replace q1 := q1.trans (bi249.mono q1.size)
      replace q2 := q2.trans (bi249.mono q2.size)
      replace q3 := q3.trans (bi249.mono q3.size)
      replace q := q.trans (bi249.mono q.size)
      replace hE01 := defer_up hE01 bi249
      refine LL.store rfl rfl rfl rfl ri252 (by exact Nat.le_of_ble_eq_true rfl) rfl rfl rfl rfl ?_
      intro Wi271 ri272 bi270 zi273
      have hlbi270 := ri252.lt
      replace ri272 : RowL Wi271 _ 3 [Value.int IntKind.i64 1] := ri272
      clear ri252
      replace bi249 := bi249.grown bi270 bi249.size (by rintro k ⟨⟩; omega)
      replace h1 := h1.grown bi270 h1.size (by rintro k ⟨⟩; omega)
      replace hn' := hn'.gr bi270 (by have := hn'.lt; omega)
      replace hE11 := (bi270.block _ (Array.getElem?_eq_some_iff.1 hE11).1 (by simp; omega)).trans hE11
      replace rk := rk.gr bi270 (by have := rk.lt; omega)
      replace rr := rr.gr bi270 (by have := rr.lt; omega)
      replace rw1 := rw1.gr bi270 (by have := rw1.lt; omega)
      replace ra1 := ra1.gr bi270 (by have := ra1.lt; omega)
      replace rt := rt.gr bi270 (by have := rt.lt; omega)
      replace q1 := q1.grown bi270 q1.size (by rintro k ⟨⟩; omega)
      replace q2 := q2.grown bi270 q2.size (by rintro k ⟨⟩; omega)
      replace q3 := q3.grown bi270 q3.size (by rintro k ⟨⟩; omega)
      replace q := q.grown bi270 q.size (by rintro k ⟨⟩; omega)
      replace hE01 := (bi270.block _ (Array.getElem?_eq_some_iff.1 hE01).1 (by simp; omega)).trans hE01
      have ri252 := ri272
      clear ri272
      refine LL.nilS ?_
      refine CC.region ?_
      refine LL.val (R.load rfl rfl (I.ld1 rfl (RowL.cell ri252 rfl))) rfl rfl rfl ?_
      refine LL.val (R.addIz (z := 2) rfl rfl rfl (by decide) (by decide)) rfl rfl rfl ?_
      refine LL.store rfl rfl rfl rfl ri252 (by exact Nat.le_of_ble_eq_true rfl) rfl rfl rfl rfl ?_
      intro Wi323 ri324 bi322 zi325
      have hlbi322 := ri252.lt
      replace ri324 : RowL Wi323 _ 3 [Value.int IntKind.i64 2] := ri324
      clear ri252
      replace bi249 := bi249.grown bi322 bi249.size (by rintro k ⟨⟩; omega)
      replace h1 := h1.grown bi322 h1.size (by rintro k ⟨⟩; omega)
      replace hn' := hn'.gr bi322 (by have := hn'.lt; omega)
      replace hE11 := (bi322.block _ (Array.getElem?_eq_some_iff.1 hE11).1 (by simp; omega)).trans hE11
      replace rk := rk.gr bi322 (by have := rk.lt; omega)
      replace rr := rr.gr bi322 (by have := rr.lt; omega)
      replace rw1 := rw1.gr bi322 (by have := rw1.lt; omega)
      replace ra1 := ra1.gr bi322 (by have := ra1.lt; omega)
      replace rt := rt.gr bi322 (by have := rt.lt; omega)
      replace q1 := q1.grown bi322 q1.size (by rintro k ⟨⟩; omega)
      replace q2 := q2.grown bi322 q2.size (by rintro k ⟨⟩; omega)
      replace q3 := q3.grown bi322 q3.size (by rintro k ⟨⟩; omega)
      replace q := q.grown bi322 q.size (by rintro k ⟨⟩; omega)
      replace hE01 := (bi322.block _ (Array.getElem?_eq_some_iff.1 hE01).1 (by simp; omega)).trans hE01
      have ri252 := ri324
      clear ri324
      refine LL.nil ?_
      refine EE.again ?_
      refine RN.step ?_
      refine CC.seq ?_
      refine CC.seq ?_
      refine CC.region ?_
      refine LL.val (R.load rfl rfl (I.ld1 rfl (RowL.cell ri252 rfl))) rfl rfl rfl ?_
      refine LL.val (R.ltF rfl rfl rfl (by omega)) rfl rfl rfl ?_
      refine LL.nilS ?_
      refine CC.no rfl ?_
      refine CC.exit ?_
      refine EE.thenX ?_
      refine EE.thenX ?_
      refine EE.inX ?_
      refine EE.thenN ?_
      refine CC.seq ?_
      refine CC.region ?_
      refine LL.val (R.move rfl rfl) rfl rfl rfl ?_
      refine LL.val (R.move rfl rfl) rfl rfl rfl ?_
      refine LL.val (R.len rfl rfl rfl rfl) rfl rfl rfl ?_
      refine LL.val (R.addNc rfl rfl rfl rfl (by omega)) rfl rfl rfl ?_
      refine LL.val (R.slice rfl rfl rfl rfl rfl (I.slTo rfl (by omega))) rfl rfl rfl ?_
      refine LL.val (R.move rfl rfl) rfl rfl rfl ?_
      refine LL.val (R.len rfl rfl rfl rfl) rfl rfl rfl ?_
      refine LL.val (R.index rfl rfl rfl (I.ixS1 rfl (by omega))) rfl rfl rfl ?_
      (refine LL.val (R.load rfl rfl (I.ld1 rfl (c77F _ q3))) rfl rfl rfl ?_)
      refine LL.val (R.eqT rfl rfl rfl (by omega)) rfl rfl rfl ?_
      refine LL.val (R.move rfl rfl) rfl rfl rfl ?_
      have li538 := hn'.lt
      have li539 := (Array.getElem?_eq_some_iff.1 hE11).1
      have li540 := rk.lt
      have li541 := rr.lt
      have li542 := rw1.lt
      have li543 := ra1.lt
      have li544 := rt.lt
      have li545 := (Array.getElem?_eq_some_iff.1 hE01).1
      have li546 := ri252.lt
      (refine LL.call (R.call rfl rfl rfl) rfl rfl rfl (works_any _) ?_; rintro e Wi537 ⟨rfl, bi534⟩; refine ⟨_, rfl, ?_⟩)
      have zbi534 := bi534.size
      replace bi249 := bi249.trans (bi534.mono bi249.size)
      replace h1 := h1.trans (bi534.mono h1.size)
      replace hn' := hn'.up bi534
      replace hE11 := defer_up hE11 bi534
      replace rk := rk.up bi534
      replace rr := rr.up bi534
      replace rw1 := rw1.up bi534
      replace ra1 := ra1.up bi534
      replace rt := rt.up bi534
      replace q1 := q1.trans (bi534.mono q1.size)
      replace q2 := q2.trans (bi534.mono q2.size)
      replace q3 := q3.trans (bi534.mono q3.size)
      replace q := q.trans (bi534.mono q.size)
      replace hE01 := defer_up hE01 bi534
      replace ri252 := ri252.up bi534
      refine LL.val (R.pick rfl rfl rfl) rfl rfl rfl ?_
      refine LL.store rfl rfl rfl rfl rr (by exact Nat.le_of_ble_eq_true rfl) rfl rfl rfl rfl ?_
      intro Wi583 ri584 bi582 zi585
      have hlbi582 := rr.lt
      replace ri584 : RowL Wi583 _ 4 [Value.bool true] := ri584
      clear rr
      replace hn' := hn'.gr bi582 (by have := hn'.lt; omega)
      replace hE11 := (bi582.block _ (Array.getElem?_eq_some_iff.1 hE11).1 (by simp; omega)).trans hE11
      replace rk := rk.gr bi582 (by have := rk.lt; omega)
      replace rw1 := rw1.gr bi582 (by have := rw1.lt; omega)
      replace ra1 := ra1.gr bi582 (by have := ra1.lt; omega)
      replace rt := rt.gr bi582 (by have := rt.lt; omega)
      replace q := q.grown bi582 q.size (by rintro k ⟨⟩; omega)
      replace hE01 := (bi582.block _ (Array.getElem?_eq_some_iff.1 hE01).1 (by simp; omega)).trans hE01
      replace ri252 := ri252.gr bi582 (by have := ri252.lt; omega)
      have rr := ri584
      clear ri584
      refine LL.nilS ?_
      refine CC.ret ?_
      have hE9 : gr ≠ E1 := by omega
      refine EE.retNN hE01 hE11 (by omega) rfl ⟨_, rfl, lv1 rfl ((taken_up (taken_up rr hE9) (by omega)).cell rfl)⟩ ?_
      exact ⟨rfl, taken_bel (taken_bel q (by omega) (Nat.le_refl _)) (by omega) (Nat.le_refl _)⟩
theorem reads_walk (left n : Nat) (many : Int) (v : Value) (s : List Nat) (w : World) (hv : ReadsT uE 1 w v s) (hn : s.length = n) : Calls Try.prog 3 #[.int .u64 (left : Int), v, .int .i64 many] w fun e w' => e = .returned (.bool true) ∧ Below w.heap.size w w' := by
  by_cases h80 : n ≤ 80
  · by_cases hr : noRow left n
    · exact reads_F left n many v s w hv hn h80 hr
    · exact reads_T left n many v s w hv hn h80 hr
  have q := Below.refl w.heap.size w
  obtain ⟨a, c, rfl, hc⟩ := hv.form hn
  clear hv
  refine X.fnM Try.func3 rfl (n := 122) rfl rfl ?_
  refine CC.seq ?_
  refine CC.region ?_
  refine LL.box [Value.int IntKind.i64 many] rfl rfl rfl rfl rfl ?_
  intro W9 g10 eg10 r11 z12 b8
  replace q := q.trans (b8.mono q.size)
  have l21 := r11.lt
  refine LL.alloc ([Value.bool false]) rfl rfl rfl rfl rfl ?_
  intro W23 g24 eg24 r25 z26 b22
  replace r11 := r11.up b22
  replace b8 := b8.trans (b22.mono b8.size)
  replace q := q.trans (b22.mono q.size)
  refine LL.nilS ?_
  refine CC.seq ?_
  refine CC.seq ?_
  refine CC.region ?_
  refine LL.val (R.move rfl rfl) rfl rfl rfl ?_
  refine LL.val (R.len rfl rfl rfl rfl) rfl rfl rfl ?_
  refine LL.val (R.gtT rfl rfl rfl (by omega)) rfl rfl rfl ?_
  refine LL.nilS ?_
  refine CC.yes rfl ?_
  refine CC.seq ?_
  refine CC.region ?_
  have l58 := r25.lt
  have l59 := r11.lt
  (refine LL.call (R.call rfl rfl rfl) rfl rfl rfl (works_any _) ?_; rintro e W57 ⟨rfl, b54⟩; refine ⟨_, rfl, ?_⟩)
  have zb54 := b54.size
  replace r25 := r25.up b54
  replace b22 := b22.trans (b54.mono b22.size)
  replace r11 := r11.up b54
  replace b8 := b8.trans (b54.mono b8.size)
  replace q := q.trans (b54.mono q.size)
  refine LL.store rfl rfl rfl rfl r25 (by exact Nat.le_of_ble_eq_true rfl) rfl rfl rfl rfl ?_
  intro W73 r74 b72 z75
  have hlb72 := r25.lt
  replace r74 : RowL W73 _ 4 [Value.bool true] := r74
  clear r25
  replace b22 := b22.grown b72 b22.size (by rintro k ⟨⟩; omega)
  replace r11 := r11.gr b72 (by have := r11.lt; omega)
  replace b8 := b8.grown b72 b8.size (by rintro k ⟨⟩; omega)
  replace q := q.grown b72 q.size (by rintro k ⟨⟩; omega)
  have r25 := r74
  clear r74
  refine LL.nilS ?_
  refine CC.ret ?_
  refine EE.thenR ?_
  refine EE.retM1 rfl ⟨_, rfl, lv1 rfl (RowL.cell (by assumption) rfl)⟩ ?_
  exact ⟨rfl, q⟩
end Go.Proofs.Ytfpcpnodcdgbdaa

/- Opening the arguments of a law: slices of numbers, pairs of numbers. -/
namespace Go.Proofs.Ytfpcpnodcdgbdaa
set_option linter.unusedVariables false
set_option linter.unusedSimpArgs false
open Go.RowKit Go.ChangeShapes Go.WideShapes Go.ChangeAt

theorem own : ownKnob Try.prog.godebug = none := by kernel_rfl
theorem laidOut : laidOutB Try.prog = true := by kernel_rfl

section
variable {H : Type} {enc : TypeId × Value → H} {P : Program} {w : World} {base : Nat} {spare : Nat → Bool} {held : Bool} {r : Reach} {b0 : Nat} {t : TypeId} {v : Value} {d : DataW H} {p : List MemPlace}

theorem wf_u8 {n : Int} (h : (Lit.int .u8 n).wf = true) : 0 ≤ n ∧ n < 256 := by
  simp [Lit.wf, IntKind.min, IntKind.max, IntKind.signed, IntKind.bits] at h; omega
theorem wf_u64 {n : Int} (h : (Lit.int .u64 n).wf = true) : 0 ≤ n ∧ n < 18446744073709551616 := by
  simp [Lit.wf, IntKind.min, IntKind.max, IntKind.signed, IntKind.bits] at h; omega
theorem wf_i64 {n : Int} (h : (Lit.int .i64 n).wf = true) : -9223372036854775808 ≤ n ∧ n ≤ 9223372036854775807 := by
  simp [Lit.wf, IntKind.min, IntKind.max, IntKind.signed, IntKind.bits] at h; omega

/-- A slice of unsigned numbers. -/
theorem open_nats {e : TypeId} {k : IntKind} {M : Nat} (ht : P.underlying t = some (.slice e)) (he : P.underlying e = some (.int k)) (hc : P.cellsOf e = 1) (hk : ∀ n, (Lit.int k n).wf = true → 0 ≤ n ∧ n < (M : Int))
    (hv : Value.okWide P w r b0 t v) (h : DataW.Trod enc P w base spare held t v d p) : ∃ ns : List Nat, Reads w v (ints k ns) ∧ (∀ n ∈ ns, n < M) ∧ ns.length ≤ 9223372036854775807 := by
  obtain ⟨a, len, cap, rfl⟩ := okWide_slice ht hv
  obtain ⟨fuel, hf⟩ := h
  rcases open_ints ht he hc hf with ⟨hcs, _⟩ | ⟨x, l, c, zs, hcs, _, hl, hm, hz, _, hcell, hwz⟩
  · simp [Value.cells] at hcs
    obtain ⟨rfl, rfl, rfl⟩ := hcs
    exact ⟨[], Reads.nil w, by simp, by simp⟩
  · simp [Value.cells] at hcs
    obtain ⟨rfl, rfl, rfl⟩ := hcs
    have hlz : len ≤ zs.length := by rw [hz]; split <;> omega
    refine ⟨(zs.take len).map Int.toNat, ?_, ?_, ?_⟩
    · have hlen : ((zs.take len).map Int.toNat).length = len := by simp; omega
      refine ⟨some x, cap, by rw [List.length_map, hlen], by rw [List.length_map, hlen]; exact hl, fun hne => ?_⟩
      have h0 : 0 < len := by
        rcases Nat.eq_zero_or_pos len with h0 | h0
        · subst h0; simp at hne
        · exact h0
      obtain ⟨b, off, spot⟩ := x
      have hc0 := hcell 0 (by omega)
      have hspot : spot = none := by simpa [Addr.add] using World.cell?_spot hc0
      subst hspot
      have hblt : b < w.heap.size := by
        rcases Nat.lt_or_ge b w.heap.size with hb | hb
        · exact hb
        · simp [Addr.add, World.cell?, Array.getElem?_eq_none hb] at hc0
      refine ⟨b, off, rfl, hblt, fun j hj => ?_⟩
      rw [List.length_map, hlen] at hj
      have hcj := hcell j (by omega)
      have hjz : j < zs.length := by omega
      have hw := hk _ (hwz zs[j] (List.getElem_mem hjz))
      rw [Addr.add_lit] at hcj
      rw [hcj]
      simp [List.getElem?_take, hj, hjz, List.getD]
      omega
    · intro n hn
      simp only [List.mem_map] at hn
      obtain ⟨z, hz', rfl⟩ := hn
      have := hk _ (hwz z (List.mem_of_mem_take hz'))
      omega
    · simp only [List.length_map, List.length_take]
      unfold maxLen at hm
      omega

/-- An array of two ints. -/
theorem open_two {e : TypeId} (ht : P.underlying t = some (.array 2 e)) (he : P.underlying e = some (.int .i64)) (hc : P.cellsOf e = 1) (hC : P.cellsOf t = 2)
    (hv : Value.okWide P w r b0 t v) (h : DataW.Trod enc P w base spare held t v d p) : ∃ x y : Int, v = .agg #[.int .i64 x, .int .i64 y] ∧ (Lit.int .i64 x).wf = true ∧ (Lit.int .i64 y).wf = true := by
  have hg : ∃ cs, v = .agg cs ∧ cs.size = P.cellsOf t := by
    simp only [Value.okWide, ht] at hv
    obtain ⟨cs, h1, h2, _⟩ := hv
    exact ⟨cs, h1, h2⟩
  obtain ⟨cs, rfl, hsz⟩ := hg
  obtain ⟨fuel, hf⟩ := h
  obtain ⟨xs, m, _, _, hl, hx, hi⟩ := DataW.trod_array ht hf
  have h0 := hi 0 (by omega)
  have h1 := hi 1 (by omega)
  rw [List.getElem?_eq_getElem (by omega)] at h0 h1
  obtain ⟨n0, e0, _, w0⟩ := DataW.trod_int he h0
  obtain ⟨n1, e1, _, w1⟩ := DataW.trod_int he h1
  refine ⟨n0, n1, ?_, w0, w1⟩
  rw [hc] at e0 e1
  simp only [Value.cells] at e0 e1 hl
  rw [hC] at hl
  congr 1
  apply Array.ext'
  match hcs : cs.toList, hl with
  | [c0, c1], _ =>
    rw [hcs] at e0 e1
    simp at e0 e1
    simp [e0, e1]
theorem open_twoK {k : IntKind} {e : TypeId} (ht : P.underlying t = some (.array 2 e)) (he : P.underlying e = some (.int k)) (hc : P.cellsOf e = 1) (hC : P.cellsOf t = 2)
    (hv : Value.okWide P w r b0 t v) (h : DataW.Trod enc P w base spare held t v d p) : ∃ x y : Int, v = .agg #[Value.int k x, Value.int k y] ∧ (Lit.int k x).wf = true ∧ (Lit.int k y).wf = true := by
  have hg : ∃ cs, v = .agg cs ∧ cs.size = P.cellsOf t := by
    simp only [Value.okWide, ht] at hv
    obtain ⟨cs, h1, h2, _⟩ := hv
    exact ⟨cs, h1, h2⟩
  obtain ⟨cs, rfl, hsz⟩ := hg
  obtain ⟨fuel, hf⟩ := h
  obtain ⟨xs, m, _, _, hl, hx, hi⟩ := DataW.trod_array ht hf
  have h0 := hi 0 (by omega)
  have h1 := hi 1 (by omega)
  rw [List.getElem?_eq_getElem (by omega)] at h0 h1
  obtain ⟨n0, e0, _, w0⟩ := DataW.trod_int he h0
  obtain ⟨n1, e1, _, w1⟩ := DataW.trod_int he h1
  refine ⟨n0, n1, ?_, w0, w1⟩
  rw [hc] at e0 e1
  simp only [Value.cells] at e0 e1 hl
  rw [hC] at hl
  congr 1
  apply Array.ext'
  match hcs : cs.toList, hl with
  | [c0, c1], _ =>
    rw [hcs] at e0 e1
    simp at e0 e1
    simp [e0, e1]
end
end Go.Proofs.Ytfpcpnodcdgbdaa

/- Opening the arguments of a law: structs and arrays of integers, and of such. Over any program. -/
namespace Go.Proofs.Ytfpcpnodcdgbdaa
set_option linter.unusedVariables false
set_option linter.unusedSimpArgs false
open Go.RowKit Go.ChangeShapes Go.WideShapes Go.ChangeAt
/-- Which kind of integer lies at a cell. -/
def atC (P : Program) : Nat → TypeId → Nat → Option IntKind
  | 0, _, _ => none
  | d + 1, t, j => match P.underlying t with
    | some (.struct fs) => fs.toList.findSome? fun f => if f.offset ≤ j ∧ j < f.offset + P.cellsOf f.type then atC P d f.type (j - f.offset) else none
    | some (.array n e) => if j / P.cellsOf e < n then atC P d e (j % P.cellsOf e) else none
    | some (.int k) => if j = 0 then some k else none
    | _ => none
section
variable {H : Type} {enc : TypeId × Value → H} {P : Program} {w : World} {base : Nat} {spare : Nat → Bool} {held : Bool} {r : Reach} {b0 : Nat} {t : TypeId} {v : Value} {d : DataW H} {p : List MemPlace}
theorem trod_at : ∀ (n : Nat) (t : TypeId) (j fuel : Nat) (cs : List Value) (x : DataW H × List MemPlace) (k : IntKind), atC P n t j = some k → DataW.trod enc P w base spare held fuel t cs = some x → ∃ z : Int, cs[j]? = some (.int k z) ∧ (Lit.int k z).wf = true
  | 0, _, _, _, _, _, _, h, _ => by cases h
  | n + 1, t, j, fuel, cs, x, k, h, hx => by
    cases hu : P.underlying t with
    | none => simp [atC, hu] at h
    | some kd =>
      cases kd <;> simp only [atC, hu] at h <;> try (cases h; done)
      case int q =>
        split at h
        · rename_i hj
          cases h
          subst hj
          obtain ⟨z, e, _, hw⟩ := DataW.trod_int hu hx
          exact ⟨z, by rw [e]; rfl, hw⟩
        · cases h
      case struct fs =>
        obtain ⟨f, hf, hfk⟩ := List.exists_of_findSome?_eq_some h
        split at hfk
        · rename_i hj
          obtain ⟨xs, m, _, rfl, hl, hlen, hf2⟩ := DataW.trod_struct hu hx
          obtain ⟨i, hi⟩ := List.mem_iff_getElem?.1 hf
          have h2 := hf2 i f (by simpa using hi)
          have hil : i < xs.length := by
            have := (List.getElem?_eq_some_iff.1 hi).1
            rw [Array.length_toList] at this
            omega
          rw [List.getElem?_eq_getElem hil] at h2
          obtain ⟨z, e, hw⟩ := trod_at n f.type (j - f.offset) _ _ _ k hfk h2
          refine ⟨z, ?_, hw⟩
          rw [List.getElem?_take] at e
          split at e
          · rw [List.getElem?_drop] at e
            rwa [show f.offset + (j - f.offset) = j by omega] at e
          · cases e
        · cases hfk
      case array m e =>
        split at h
        · rename_i hj
          obtain ⟨xs, m', _, rfl, hl, hlen, hi⟩ := DataW.trod_array hu hx
          have h2 := hi _ hj
          rw [List.getElem?_eq_getElem (by omega)] at h2
          obtain ⟨z, e', hw⟩ := trod_at n e (j % P.cellsOf e) _ _ _ k h h2
          refine ⟨z, ?_, hw⟩
          rw [List.getElem?_take] at e'
          split at e'
          · rw [List.getElem?_drop] at e'
            rwa [show j / P.cellsOf e * P.cellsOf e + j % P.cellsOf e = j by rw [Nat.mul_comm]; exact Nat.div_add_mod _ _] at e'
          · cases e'
        · cases h
theorem open_ints {c : Nat} (ks : Nat → IntKind) (hs : (match P.underlying t with | some (.struct _) | some (.array _ _) => true | _ => false) = true) (hc : P.cellsOf t = c) (hk : (List.range c).all (fun j => atC P 9 t j == some (ks j)) = true)
    (hv : Value.okWide P w r b0 t v) (h : DataW.Trod enc P w base spare held t v d p) : ∃ g : Nat → Int, v = .agg ((List.range c).map fun j => Value.int (ks j) (g j)).toArray ∧ ∀ j, j < c → (Lit.int (ks j) (g j)).wf = true := by
  have hg : ∃ cs, v = .agg cs ∧ cs.size = P.cellsOf t := by
    unfold Value.okWide at hv
    split at hv
    · obtain ⟨cs, h1, h2, _⟩ := hv; exact ⟨cs, h1, h2⟩
    · obtain ⟨cs, h1, h2, _⟩ := hv; exact ⟨cs, h1, h2⟩
    · rename_i h1 h2
      split at hs <;> simp_all
  obtain ⟨cs, rfl, hsz⟩ := hg
  obtain ⟨fuel, hf⟩ := h
  have key : ∀ j, ∃ z : Int, j < c → cs.toList[j]? = some (.int (ks j) z) ∧ (Lit.int (ks j) z).wf = true := by
    intro j
    by_cases hj : j < c
    · have hk' := List.all_eq_true.1 hk j (List.mem_range.2 hj)
      have hk'' : atC P 9 t j = some (ks j) := by simpa using hk'
      obtain ⟨z, h1, h2⟩ := trod_at 9 t j fuel _ _ _ hk'' hf
      exact ⟨z, fun _ => ⟨h1, h2⟩⟩
    · exact ⟨0, fun h => absurd h hj⟩
  refine ⟨fun j => Classical.choose (key j), ?_, fun j hj => (Classical.choose_spec (key j) hj).2⟩
  congr 1
  apply Array.ext'
  apply List.ext_getElem?
  intro j
  simp only [List.toList_toArray, List.getElem?_map]
  by_cases hj : j < c
  · rw [(Classical.choose_spec (key j) hj).1, List.getElem?_range hj]
    rfl
  · rw [List.getElem?_eq_none (by rw [Array.length_toList, hsz, hc]; omega), List.getElem?_eq_none (by simp; omega)]
    rfl
end
end Go.Proofs.Ytfpcpnodcdgbdaa

/- slots: what the shells hand over. -/
namespace Go.Proofs.Ytfpcpnodcdgbdaa
set_option linter.unusedVariables false
set_option linter.unusedSimpArgs false
open Go.RowKit Go.Shelf
theorem reads_uE {w : World} {v : Value} {ws : List Nat} (h : Reads w v (ints .u64 ws)) : ReadsT uE 1 w v ws := by
  obtain ⟨a, cap, e, hc, h⟩ := h
  have hl : (ints .u64 ws).length = ws.length := by simp [ints]
  rw [hl] at e hc
  exact ⟨a, cap, e, hc, fun hne => by
    obtain ⟨b, off, h1, h2, h3⟩ := h (by intro e; rw [e] at hl; exact hne (List.eq_nil_of_length_eq_zero hl.symm))
    exact ⟨b, off, h1, h2, fun j hj => by rw [flat_u]; exact h3 j (by omega)⟩⟩
theorem pair_shell (g : Nat → Int) (hg : ∀ j, j < 2 → (Lit.int .u64 (g j)).wf = true) : ∃ k p : Nat, Value.agg ((List.range 2).map fun j => Value.int .u64 (g j)).toArray = .agg #[.int .u64 (k : Int), .int .u64 (p : Int)] := by
  have h0 := wf_u64 (hg 0 (by decide))
  have h1 := wf_u64 (hg 1 (by decide))
  refine ⟨(g 0).toNat, (g 1).toNat, ?_⟩
  rw [Int.toNat_of_nonneg (by omega), Int.toNat_of_nonneg (by omega)]
  rfl
theorem swaps_shell (left : Nat) (v : Value) (s : List Nat) (w : World) (hv : Reads w v (ints .u64 s)) (g : Nat → Int) (hg : ∀ j, j < 2 → (Lit.int .u64 (g j)).wf = true) : Calls Try.prog 6 #[.int .u64 (left : Int), v, .agg ((List.range 2).map fun j => Value.int .u64 (g j)).toArray] w fun e w' => e = .returned (.bool true) ∧ Below w.heap.size w w' := by
  obtain ⟨k, p, e⟩ := pair_shell g hg
  rw [e]
  exact swaps_walk left s.length k p v s w (reads_uE hv) rfl
theorem puts_shell (left : Nat) (v : Value) (s : List Nat) (w : World) (hv : Reads w v (ints .u64 s)) (g : Nat → Int) (hg : ∀ j, j < 2 → (Lit.int .u64 (g j)).wf = true) : Calls Try.prog 4 #[.int .u64 (left : Int), v, .agg ((List.range 2).map fun j => Value.int .u64 (g j)).toArray] w fun e w' => e = .returned (.bool true) ∧ Below w.heap.size w w' := by
  obtain ⟨k, p, e⟩ := pair_shell g hg
  rw [e]
  exact puts_walk left s.length k p v s w (reads_uE hv) rfl
end Go.Proofs.Ytfpcpnodcdgbdaa

/- slots: what the shell of SlotsReads imports. -/
