/- LayoutParts: the walk. -/
import Derived.Test.YthdgnogpjpoklaaPartsR
import Derived.Test.YthdgnogpjpoklaaOfW
namespace Go.Proofs.Ythdgnogpjpoklaa
set_option linter.unusedVariables false
set_option linter.unusedSimpArgs false
open Go.RowKit Go.Shelf
/-- What lies between two ranges. -/
structure LvP (W w : World) (gm gr gp ga ge gt : Nat) (many : Int) (v1 v2 : Value) (el : List Value) (L : List Pa) (tv : Int) : Prop where
  rm : RowL W gm 3 [.int .i64 many]
  rr : RowL W gr 4 [.bool false]
  rp : RowL W gp 61 [v1]
  ra : RowL W ga 62 [v2]
  re : RowL W ge 27 el
  rt : RowL W gt 3 [.int .i64 tv]
  p1 : ReadsT eP 2 W v1 (ptsL L)
  p2 : ReadsT eI 1 W v2 (atsL L)
  bel : Below w.heap.size w W
theorem LvP.lift {W W' w : World} {gm gr gp ga ge gt : Nat} {many : Int} {v1 v2 : Value} {el : List Value} {L : List Pa} {tv : Int} (h : LvP W w gm gr gp ga ge gt many v1 v2 el L tv) (hb : Below W.heap.size W W') : LvP W' w gm gr gp ga ge gt many v1 v2 el L tv :=
  ⟨h.rm.up hb, h.rr.up hb, h.rp.up hb, h.ra.up hb, h.re.up hb, h.rt.up hb, h.p1.up hb, h.p2.up hb, h.bel.trans (hb.mono h.bel.size)⟩
theorem rparts_reads (b i r t k1 k2 : Nat) (a c d e : Int) (w : World) (hl : isL b i r t a c d e) : Calls Try.prog 26 #[layV b i r t k1 k2 a c d e] w fun x w' => ∃ b1 o1 c1 b2 o2 c2, x = .returned (.tuple #[.slice (some ⟨b1, o1, none⟩) (allP b i r).length c1, .slice (some ⟨b2, o2, none⟩) (allP b i r).length c2]) ∧ ReadsT eP 2 w' (.slice (some ⟨b1, o1, none⟩) (allP b i r).length c1) (ptsL (allP b i r)) ∧ ReadsT eI 1 w' (.slice (some ⟨b2, o2, none⟩) (allP b i r).length c2) (atsL (allP b i r)) ∧ b1 < w'.heap.size ∧ b2 < w'.heap.size ∧ Below w.heap.size w w' := by
  refine (rparts_any b i r t k1 k2 a c d e w hl).mono ?_
  rintro x w' ⟨v1, v2, rfl, o1, o2, hb⟩
  have h1 := o1.reads ePc
  have h2 := o2.reads eIc
  have l1 : (ptsL (allP b i r)).length = (allP b i r).length := by simp [ptsL]
  have l2 : (atsL (allP b i r)).length = (allP b i r).length := by simp [atsL]
  obtain ⟨a1, c1, rfl, _⟩ := h1.form l1
  obtain ⟨a2, c2, rfl, _⟩ := h2.form l2
  obtain ⟨t, ht⟩ := all_head b i r
  obtain ⟨b1, f1, rfl, lt1, _⟩ := h1.get ePc (i := 0) (t := (1, 0)) (by simp [ptsL, ht])
  obtain ⟨b2, f2, rfl, lt2, _⟩ := h2.get eIc (i := 0) (t := 0) (by simp [atsL, ht])
  exact ⟨b1, f1, c1, b2, f2, c2, rfl, h1, h2, lt1, lt2, hb⟩
set_option maxRecDepth 100000 in
set_option maxHeartbeats 8000000 in
theorem parts_F (b i r t : Int) (k1 k2 : Nat) (word many : Int) (w : World) (hok : notF b i r t) : Calls Try.prog 7 #[formV b i r t, keyV k1 k2, .int .i64 word, .int .i64 many] w fun x w' => x = .returned (.bool true) ∧ Below w.heap.size w w' := by
  have q := Below.refl w.heap.size w
  refine X.fnM Try.func7 rfl (n := 138) rfl rfl ?_
  refine CC.seq ?_
  refine CC.region ?_
  refine LL.box [Value.int IntKind.i64 b, Value.int IntKind.i64 i, Value.int IntKind.i64 r, Value.int IntKind.i64 t] rfl rfl rfl rfl rfl ?_
  intro W2 g3 eg3 r4 z5 b1
  replace q := q.trans (b1.mono q.size)
  have l6 := r4.lt
  refine LL.box [Value.int IntKind.u64 ↑k1, Value.int IntKind.u64 ↑k2] rfl rfl rfl rfl rfl ?_
  intro W8 g9 eg9 r10 z11 b7
  replace r4 := r4.up b7
  replace b1 := b1.trans (b7.mono b1.size)
  replace q := q.trans (b7.mono q.size)
  have l12 := r10.lt
  have l13 := r4.lt
  refine LL.box [Value.int IntKind.i64 many] rfl rfl rfl rfl rfl ?_
  intro W15 g16 eg16 r17 z18 b14
  replace r10 := r10.up b14
  replace b7 := b7.trans (b14.mono b7.size)
  replace r4 := r4.up b14
  replace b1 := b1.trans (b14.mono b1.size)
  replace q := q.trans (b14.mono q.size)
  have l19 := r17.lt
  have l20 := r10.lt
  have l21 := r4.lt
  refine LL.alloc ([Value.bool false]) rfl rfl rfl rfl rfl ?_
  intro W23 g24 eg24 r25 z26 b22
  replace r17 := r17.up b22
  replace b14 := b14.trans (b22.mono b14.size)
  replace r10 := r10.up b22
  replace b7 := b7.trans (b22.mono b7.size)
  replace r4 := r4.up b22
  replace b1 := b1.trans (b22.mono b1.size)
  replace q := q.trans (b22.mono q.size)
  refine LL.nilS ?_
  refine CC.seq ?_
  refine CC.region ?_
  refine LL.val (R.load rfl rfl (I.ldNc (vs := [Value.int IntKind.i64 b, Value.int IntKind.i64 i, Value.int IntKind.i64 r, Value.int IntKind.i64 t]) (RowL.cells r4 rfl) (by rfl) (by rfl))) rfl rfl rfl ?_
  refine LL.val (R.load rfl rfl (I.ldNc (vs := [Value.int IntKind.u64 ↑k1, Value.int IntKind.u64 ↑k2]) (RowL.cells r10 rfl) (by rfl) (by rfl))) rfl rfl rfl ?_
  refine LL.call (R.call rfl rfl rfl) rfl rfl rfl (rof_F _ _ _ _ _ _ _ (by first | assumption | omega)) ?_
  rintro e W28 ⟨rfl, b27⟩
  refine ⟨_, rfl, ?_⟩
  have zb27 := b27.size
  replace r25 := r25.up b27
  replace b22 := b22.trans (b27.mono b22.size)
  replace r17 := r17.up b27
  replace b14 := b14.trans (b27.mono b14.size)
  replace r10 := r10.up b27
  replace b7 := b7.trans (b27.mono b7.size)
  replace r4 := r4.up b27
  replace b1 := b1.trans (b27.mono b1.size)
  replace q := q.trans (b27.mono q.size)
  refine LL.val (R.move rfl rfl) rfl rfl rfl ?_
  refine LL.val (R.extract rfl rfl rfl) rfl rfl rfl ?_
  refine LL.val (R.extract rfl rfl rfl) rfl rfl rfl ?_
  have l29 := r25.lt
  have l30 := r17.lt
  have l31 := r10.lt
  have l32 := r4.lt
  refine LL.alloc ([Value.int IntKind.i64 0, Value.int IntKind.i64 0, Value.int IntKind.i64 0, Value.int IntKind.i64 0, Value.int IntKind.u64 0, Value.int IntKind.u64 0, Value.int IntKind.i64 0, Value.int IntKind.i64 0, Value.int IntKind.i64 0, Value.int IntKind.i64 0]) rfl rfl rfl rfl rfl ?_
  intro W34 g35 eg35 r36 z37 b33
  replace b27 := b27.trans (b33.mono b27.size)
  replace r25 := r25.up b33
  replace b22 := b22.trans (b33.mono b22.size)
  replace r17 := r17.up b33
  replace b14 := b14.trans (b33.mono b14.size)
  replace r10 := r10.up b33
  replace b7 := b7.trans (b33.mono b7.size)
  replace r4 := r4.up b33
  replace b1 := b1.trans (b33.mono b1.size)
  replace q := q.trans (b33.mono q.size)
  refine LL.storeN (vs := [Value.int IntKind.i64 0, Value.int IntKind.i64 0, Value.int IntKind.i64 0, Value.int IntKind.i64 0, Value.int IntKind.u64 ↑0, Value.int IntKind.u64 ↑0, Value.int IntKind.i64 0, Value.int IntKind.i64 0, Value.int IntKind.i64 0, Value.int IntKind.i64 0]) rfl rfl rfl rfl r36 (by exact Nat.le_of_ble_eq_true rfl) (ones_of rfl) rfl rfl ?_
  intro W39 r40 b38 z41
  have hlb38 := r36.lt
  replace r40 : RowL W39 _ 27 [Value.int IntKind.i64 0, Value.int IntKind.i64 0, Value.int IntKind.i64 0, Value.int IntKind.i64 0, Value.int IntKind.u64 ↑0, Value.int IntKind.u64 ↑0, Value.int IntKind.i64 0, Value.int IntKind.i64 0, Value.int IntKind.i64 0, Value.int IntKind.i64 0] := r40
  clear r36
  replace b33 := b33.grown b38 b33.size (by rintro k ⟨⟩; omega)
  replace b27 := b27.grown b38 b27.size (by rintro k ⟨⟩; omega)
  replace r25 := r25.gr b38 (by have := r25.lt; omega)
  replace b22 := b22.grown b38 b22.size (by rintro k ⟨⟩; omega)
  replace r17 := r17.gr b38 (by have := r17.lt; omega)
  replace b14 := b14.grown b38 b14.size (by rintro k ⟨⟩; omega)
  replace r10 := r10.gr b38 (by have := r10.lt; omega)
  replace b7 := b7.grown b38 b7.size (by rintro k ⟨⟩; omega)
  replace r4 := r4.gr b38 (by have := r4.lt; omega)
  replace b1 := b1.grown b38 b1.size (by rintro k ⟨⟩; omega)
  replace q := q.grown b38 q.size (by rintro k ⟨⟩; omega)
  have r36 := r40
  clear r40
  refine LL.val (R.assign rfl rfl) rfl rfl rfl ?_
  refine LL.nilS ?_
  refine CC.seq ?_
  refine CC.seq ?_
  refine CC.region ?_
  refine LL.val (R.move rfl rfl) rfl rfl rfl ?_
  refine LL.val (R.neT rfl rfl rfl (by omega)) rfl rfl rfl ?_
  refine LL.val (R.move rfl rfl) rfl rfl rfl ?_
  refine LL.skip rfl rfl ?_
  refine LL.skip rfl rfl ?_
  refine LL.skip rfl rfl ?_
  refine LL.val (R.pick rfl rfl rfl) rfl rfl rfl ?_
  refine LL.nilS ?_
  refine CC.yes rfl ?_
  refine CC.seq ?_
  refine CC.region ?_
  refine LL.call (R.call rfl rfl rfl) rfl rfl rfl (works_any _) ?_
  rintro e W43 ⟨rfl, b42⟩
  refine ⟨_, rfl, ?_⟩
  have zb42 := b42.size
  replace b33 := b33.trans (b42.mono b33.size)
  replace b27 := b27.trans (b42.mono b27.size)
  replace r25 := r25.up b42
  replace b22 := b22.trans (b42.mono b22.size)
  replace r17 := r17.up b42
  replace b14 := b14.trans (b42.mono b14.size)
  replace r10 := r10.up b42
  replace b7 := b7.trans (b42.mono b7.size)
  replace r4 := r4.up b42
  replace b1 := b1.trans (b42.mono b1.size)
  replace q := q.trans (b42.mono q.size)
  replace r36 := r36.up b42
  refine LL.store rfl rfl rfl rfl r25 (by exact Nat.le_of_ble_eq_true rfl) rfl rfl rfl rfl ?_
  intro W45 r46 b44 z47
  have hlb44 := r25.lt
  replace r46 : RowL W45 _ 4 [Value.bool true] := r46
  clear r25
  replace b22 := b22.grown b44 b22.size (by rintro k ⟨⟩; omega)
  replace r17 := r17.gr b44 (by have := r17.lt; omega)
  replace b14 := b14.grown b44 b14.size (by rintro k ⟨⟩; omega)
  replace r10 := r10.gr b44 (by have := r10.lt; omega)
  replace b7 := b7.grown b44 b7.size (by rintro k ⟨⟩; omega)
  replace r4 := r4.gr b44 (by have := r4.lt; omega)
  replace b1 := b1.grown b44 b1.size (by rintro k ⟨⟩; omega)
  replace q := q.grown b44 q.size (by rintro k ⟨⟩; omega)
  replace r36 := r36.gr b44 (by have := r36.lt; omega)
  have r25 := r46
  clear r46
  refine LL.nilS ?_
  refine CC.ret ?_
  refine EE.thenR ?_
  refine EE.retM1 rfl ⟨_, rfl, lv1 rfl (RowL.cell (by assumption) rfl)⟩ ?_
  exact ⟨rfl, q⟩
set_option maxRecDepth 100000 in
set_option maxHeartbeats 8000000 in
theorem parts_big (b i r t : Int) (k1 k2 : Nat) (word many : Int) (w : World) (hok : okF b i r t) (hb : 64 < b) : Calls Try.prog 7 #[formV b i r t, keyV k1 k2, .int .i64 word, .int .i64 many] w fun x w' => x = .returned (.bool true) ∧ Below w.heap.size w w' := by
  have q := Below.refl w.heap.size w
  refine X.fnM Try.func7 rfl (n := 138) rfl rfl ?_
  refine CC.seq ?_
  refine CC.region ?_
  refine LL.box [Value.int IntKind.i64 b, Value.int IntKind.i64 i, Value.int IntKind.i64 r, Value.int IntKind.i64 t] rfl rfl rfl rfl rfl ?_
  intro W2 g3 eg3 r4 z5 b1
  replace q := q.trans (b1.mono q.size)
  have l6 := r4.lt
  refine LL.box [Value.int IntKind.u64 ↑k1, Value.int IntKind.u64 ↑k2] rfl rfl rfl rfl rfl ?_
  intro W8 g9 eg9 r10 z11 b7
  replace r4 := r4.up b7
  replace b1 := b1.trans (b7.mono b1.size)
  replace q := q.trans (b7.mono q.size)
  have l12 := r10.lt
  have l13 := r4.lt
  refine LL.box [Value.int IntKind.i64 many] rfl rfl rfl rfl rfl ?_
  intro W15 g16 eg16 r17 z18 b14
  replace r10 := r10.up b14
  replace b7 := b7.trans (b14.mono b7.size)
  replace r4 := r4.up b14
  replace b1 := b1.trans (b14.mono b1.size)
  replace q := q.trans (b14.mono q.size)
  have l19 := r17.lt
  have l20 := r10.lt
  have l21 := r4.lt
  refine LL.alloc ([Value.bool false]) rfl rfl rfl rfl rfl ?_
  intro W23 g24 eg24 r25 z26 b22
  replace r17 := r17.up b22
  replace b14 := b14.trans (b22.mono b14.size)
  replace r10 := r10.up b22
  replace b7 := b7.trans (b22.mono b7.size)
  replace r4 := r4.up b22
  replace b1 := b1.trans (b22.mono b1.size)
  replace q := q.trans (b22.mono q.size)
  refine LL.nilS ?_
  refine CC.seq ?_
  refine CC.region ?_
  refine LL.val (R.load rfl rfl (I.ldNc (vs := [Value.int IntKind.i64 b, Value.int IntKind.i64 i, Value.int IntKind.i64 r, Value.int IntKind.i64 t]) (RowL.cells r4 rfl) (by rfl) (by rfl))) rfl rfl rfl ?_
  refine LL.val (R.load rfl rfl (I.ldNc (vs := [Value.int IntKind.u64 ↑k1, Value.int IntKind.u64 ↑k2]) (RowL.cells r10 rfl) (by rfl) (by rfl))) rfl rfl rfl ?_
  refine LL.call (R.call rfl rfl rfl) rfl rfl rfl (rof_T _ _ _ _ _ _ _ (by first | assumption | omega)) ?_
  rintro e W28 ⟨rfl, b27⟩
  refine ⟨_, rfl, ?_⟩
  have zb27 := b27.size
  replace r25 := r25.up b27
  replace b22 := b22.trans (b27.mono b22.size)
  replace r17 := r17.up b27
  replace b14 := b14.trans (b27.mono b14.size)
  replace r10 := r10.up b27
  replace b7 := b7.trans (b27.mono b7.size)
  replace r4 := r4.up b27
  replace b1 := b1.trans (b27.mono b1.size)
  replace q := q.trans (b27.mono q.size)
  refine LL.val (R.move rfl rfl) rfl rfl rfl ?_
  refine LL.val (R.extract rfl rfl rfl) rfl rfl rfl ?_
  refine LL.val (R.extract rfl rfl rfl) rfl rfl rfl ?_
  have l29 := r25.lt
  have l30 := r17.lt
  have l31 := r10.lt
  have l32 := r4.lt
  refine LL.alloc ([Value.int IntKind.i64 0, Value.int IntKind.i64 0, Value.int IntKind.i64 0, Value.int IntKind.i64 0, Value.int IntKind.u64 0, Value.int IntKind.u64 0, Value.int IntKind.i64 0, Value.int IntKind.i64 0, Value.int IntKind.i64 0, Value.int IntKind.i64 0]) rfl rfl rfl rfl rfl ?_
  intro W34 g35 eg35 r36 z37 b33
  replace b27 := b27.trans (b33.mono b27.size)
  replace r25 := r25.up b33
  replace b22 := b22.trans (b33.mono b22.size)
  replace r17 := r17.up b33
  replace b14 := b14.trans (b33.mono b14.size)
  replace r10 := r10.up b33
  replace b7 := b7.trans (b33.mono b7.size)
  replace r4 := r4.up b33
  replace b1 := b1.trans (b33.mono b1.size)
  replace q := q.trans (b33.mono q.size)
  refine LL.storeN (vs := [Value.int IntKind.i64 b, Value.int IntKind.i64 i, Value.int IntKind.i64 r, Value.int IntKind.i64 t, Value.int IntKind.u64 ↑k1, Value.int IntKind.u64 ↑k2, Value.int IntKind.i64 9, Value.int IntKind.i64 (9 + i / 4), Value.int IntKind.i64 (9 + i / 4 + r / 4), Value.int IntKind.i64 (10 + i / 4 + r / 4)]) rfl rfl rfl rfl r36 (by exact Nat.le_of_ble_eq_true rfl) (ones_of rfl) rfl rfl ?_
  intro W39 r40 b38 z41
  have hlb38 := r36.lt
  replace r40 : RowL W39 _ 27 [Value.int IntKind.i64 b, Value.int IntKind.i64 i, Value.int IntKind.i64 r, Value.int IntKind.i64 t, Value.int IntKind.u64 ↑k1, Value.int IntKind.u64 ↑k2, Value.int IntKind.i64 9, Value.int IntKind.i64 (9 + i / 4), Value.int IntKind.i64 (9 + i / 4 + r / 4), Value.int IntKind.i64 (10 + i / 4 + r / 4)] := r40
  clear r36
  replace b33 := b33.grown b38 b33.size (by rintro k ⟨⟩; omega)
  replace b27 := b27.grown b38 b27.size (by rintro k ⟨⟩; omega)
  replace r25 := r25.gr b38 (by have := r25.lt; omega)
  replace b22 := b22.grown b38 b22.size (by rintro k ⟨⟩; omega)
  replace r17 := r17.gr b38 (by have := r17.lt; omega)
  replace b14 := b14.grown b38 b14.size (by rintro k ⟨⟩; omega)
  replace r10 := r10.gr b38 (by have := r10.lt; omega)
  replace b7 := b7.grown b38 b7.size (by rintro k ⟨⟩; omega)
  replace r4 := r4.gr b38 (by have := r4.lt; omega)
  replace b1 := b1.grown b38 b1.size (by rintro k ⟨⟩; omega)
  replace q := q.grown b38 q.size (by rintro k ⟨⟩; omega)
  have r36 := r40
  clear r40
  refine LL.val (R.assign rfl rfl) rfl rfl rfl ?_
  refine LL.nilS ?_
  refine CC.seq ?_
  refine CC.seq ?_
  refine CC.region ?_
  refine LL.val (R.move rfl rfl) rfl rfl rfl ?_
  refine LL.val (R.neF rfl rfl rfl (by omega)) rfl rfl rfl ?_
  refine LL.val (R.move rfl rfl) rfl rfl rfl ?_
  refine LL.val (R.field rfl rfl (I.fld rfl)) rfl rfl rfl ?_
  refine LL.val (R.load rfl rfl (I.ld1 rfl (RowL.cell r4 rfl))) rfl rfl rfl ?_
  refine LL.val (R.gtT rfl rfl rfl (by omega)) rfl rfl rfl ?_
  refine LL.val (R.pick rfl rfl rfl) rfl rfl rfl ?_
  refine LL.nilS ?_
  refine CC.yes rfl ?_
  refine CC.seq ?_
  refine CC.region ?_
  refine LL.call (R.call rfl rfl rfl) rfl rfl rfl (works_any _) ?_
  rintro e W43 ⟨rfl, b42⟩
  refine ⟨_, rfl, ?_⟩
  have zb42 := b42.size
  replace b33 := b33.trans (b42.mono b33.size)
  replace b27 := b27.trans (b42.mono b27.size)
  replace r25 := r25.up b42
  replace b22 := b22.trans (b42.mono b22.size)
  replace r17 := r17.up b42
  replace b14 := b14.trans (b42.mono b14.size)
  replace r10 := r10.up b42
  replace b7 := b7.trans (b42.mono b7.size)
  replace r4 := r4.up b42
  replace b1 := b1.trans (b42.mono b1.size)
  replace q := q.trans (b42.mono q.size)
  replace r36 := r36.up b42
  refine LL.store rfl rfl rfl rfl r25 (by exact Nat.le_of_ble_eq_true rfl) rfl rfl rfl rfl ?_
  intro W45 r46 b44 z47
  have hlb44 := r25.lt
  replace r46 : RowL W45 _ 4 [Value.bool true] := r46
  clear r25
  replace b22 := b22.grown b44 b22.size (by rintro k ⟨⟩; omega)
  replace r17 := r17.gr b44 (by have := r17.lt; omega)
  replace b14 := b14.grown b44 b14.size (by rintro k ⟨⟩; omega)
  replace r10 := r10.gr b44 (by have := r10.lt; omega)
  replace b7 := b7.grown b44 b7.size (by rintro k ⟨⟩; omega)
  replace r4 := r4.gr b44 (by have := r4.lt; omega)
  replace b1 := b1.grown b44 b1.size (by rintro k ⟨⟩; omega)
  replace q := q.grown b44 q.size (by rintro k ⟨⟩; omega)
  replace r36 := r36.gr b44 (by have := r36.lt; omega)
  have r25 := r46
  clear r46
  refine LL.nilS ?_
  refine CC.ret ?_
  refine EE.thenR ?_
  refine EE.retM1 rfl ⟨_, rfl, lv1 rfl (RowL.cell (by assumption) rfl)⟩ ?_
  exact ⟨rfl, q⟩
set_option maxRecDepth 100000 in
set_option maxHeartbeats 8000000 in
theorem parts_out (b i r t : Int) (k1 k2 : Nat) (word many : Int) (w : World) (hok : okF b i r t) (hb : b ≤ 64) (hw : ¬(0 ≤ word ∧ word < 64 * b)) : Calls Try.prog 7 #[formV b i r t, keyV k1 k2, .int .i64 word, .int .i64 many] w fun x w' => x = .returned (.bool true) ∧ Below w.heap.size w w' := by
  have q := Below.refl w.heap.size w
  rcases (show word < 0 ∨ 64 * b ≤ word by omega) with h | h
  · refine X.fnM Try.func7 rfl (n := 138) rfl rfl ?_
    refine CC.seq ?_
    refine CC.region ?_
    refine LL.box [Value.int IntKind.i64 b, Value.int IntKind.i64 i, Value.int IntKind.i64 r, Value.int IntKind.i64 t] rfl rfl rfl rfl rfl ?_
    intro W2 g3 eg3 r4 z5 b1
    replace q := q.trans (b1.mono q.size)
    have l6 := r4.lt
    refine LL.box [Value.int IntKind.u64 ↑k1, Value.int IntKind.u64 ↑k2] rfl rfl rfl rfl rfl ?_
    intro W8 g9 eg9 r10 z11 b7
    replace r4 := r4.up b7
    replace b1 := b1.trans (b7.mono b1.size)
    replace q := q.trans (b7.mono q.size)
    have l12 := r10.lt
    have l13 := r4.lt
    refine LL.box [Value.int IntKind.i64 many] rfl rfl rfl rfl rfl ?_
    intro W15 g16 eg16 r17 z18 b14
    replace r10 := r10.up b14
    replace b7 := b7.trans (b14.mono b7.size)
    replace r4 := r4.up b14
    replace b1 := b1.trans (b14.mono b1.size)
    replace q := q.trans (b14.mono q.size)
    have l19 := r17.lt
    have l20 := r10.lt
    have l21 := r4.lt
    refine LL.alloc ([Value.bool false]) rfl rfl rfl rfl rfl ?_
    intro W23 g24 eg24 r25 z26 b22
    replace r17 := r17.up b22
    replace b14 := b14.trans (b22.mono b14.size)
    replace r10 := r10.up b22
    replace b7 := b7.trans (b22.mono b7.size)
    replace r4 := r4.up b22
    replace b1 := b1.trans (b22.mono b1.size)
    replace q := q.trans (b22.mono q.size)
    refine LL.nilS ?_
    refine CC.seq ?_
    refine CC.region ?_
    refine LL.val (R.load rfl rfl (I.ldNc (vs := [Value.int IntKind.i64 b, Value.int IntKind.i64 i, Value.int IntKind.i64 r, Value.int IntKind.i64 t]) (RowL.cells r4 rfl) (by rfl) (by rfl))) rfl rfl rfl ?_
    refine LL.val (R.load rfl rfl (I.ldNc (vs := [Value.int IntKind.u64 ↑k1, Value.int IntKind.u64 ↑k2]) (RowL.cells r10 rfl) (by rfl) (by rfl))) rfl rfl rfl ?_
    refine LL.call (R.call rfl rfl rfl) rfl rfl rfl (rof_T _ _ _ _ _ _ _ (by first | assumption | omega)) ?_
    rintro e W28 ⟨rfl, b27⟩
    refine ⟨_, rfl, ?_⟩
    have zb27 := b27.size
    replace r25 := r25.up b27
    replace b22 := b22.trans (b27.mono b22.size)
    replace r17 := r17.up b27
    replace b14 := b14.trans (b27.mono b14.size)
    replace r10 := r10.up b27
    replace b7 := b7.trans (b27.mono b7.size)
    replace r4 := r4.up b27
    replace b1 := b1.trans (b27.mono b1.size)
    replace q := q.trans (b27.mono q.size)
    refine LL.val (R.move rfl rfl) rfl rfl rfl ?_
    refine LL.val (R.extract rfl rfl rfl) rfl rfl rfl ?_
    refine LL.val (R.extract rfl rfl rfl) rfl rfl rfl ?_
    have l29 := r25.lt
    have l30 := r17.lt
    have l31 := r10.lt
    have l32 := r4.lt
    refine LL.alloc ([Value.int IntKind.i64 0, Value.int IntKind.i64 0, Value.int IntKind.i64 0, Value.int IntKind.i64 0, Value.int IntKind.u64 0, Value.int IntKind.u64 0, Value.int IntKind.i64 0, Value.int IntKind.i64 0, Value.int IntKind.i64 0, Value.int IntKind.i64 0]) rfl rfl rfl rfl rfl ?_
    intro W34 g35 eg35 r36 z37 b33
    replace b27 := b27.trans (b33.mono b27.size)
    replace r25 := r25.up b33
    replace b22 := b22.trans (b33.mono b22.size)
    replace r17 := r17.up b33
    replace b14 := b14.trans (b33.mono b14.size)
    replace r10 := r10.up b33
    replace b7 := b7.trans (b33.mono b7.size)
    replace r4 := r4.up b33
    replace b1 := b1.trans (b33.mono b1.size)
    replace q := q.trans (b33.mono q.size)
    refine LL.storeN (vs := [Value.int IntKind.i64 b, Value.int IntKind.i64 i, Value.int IntKind.i64 r, Value.int IntKind.i64 t, Value.int IntKind.u64 ↑k1, Value.int IntKind.u64 ↑k2, Value.int IntKind.i64 9, Value.int IntKind.i64 (9 + i / 4), Value.int IntKind.i64 (9 + i / 4 + r / 4), Value.int IntKind.i64 (10 + i / 4 + r / 4)]) rfl rfl rfl rfl r36 (by exact Nat.le_of_ble_eq_true rfl) (ones_of rfl) rfl rfl ?_
    intro W39 r40 b38 z41
    have hlb38 := r36.lt
    replace r40 : RowL W39 _ 27 [Value.int IntKind.i64 b, Value.int IntKind.i64 i, Value.int IntKind.i64 r, Value.int IntKind.i64 t, Value.int IntKind.u64 ↑k1, Value.int IntKind.u64 ↑k2, Value.int IntKind.i64 9, Value.int IntKind.i64 (9 + i / 4), Value.int IntKind.i64 (9 + i / 4 + r / 4), Value.int IntKind.i64 (10 + i / 4 + r / 4)] := r40
    clear r36
    replace b33 := b33.grown b38 b33.size (by rintro k ⟨⟩; omega)
    replace b27 := b27.grown b38 b27.size (by rintro k ⟨⟩; omega)
    replace r25 := r25.gr b38 (by have := r25.lt; omega)
    replace b22 := b22.grown b38 b22.size (by rintro k ⟨⟩; omega)
    replace r17 := r17.gr b38 (by have := r17.lt; omega)
    replace b14 := b14.grown b38 b14.size (by rintro k ⟨⟩; omega)
    replace r10 := r10.gr b38 (by have := r10.lt; omega)
    replace b7 := b7.grown b38 b7.size (by rintro k ⟨⟩; omega)
    replace r4 := r4.gr b38 (by have := r4.lt; omega)
    replace b1 := b1.grown b38 b1.size (by rintro k ⟨⟩; omega)
    replace q := q.grown b38 q.size (by rintro k ⟨⟩; omega)
    have r36 := r40
    clear r40
    refine LL.val (R.assign rfl rfl) rfl rfl rfl ?_
    refine LL.nilS ?_
    refine CC.seq ?_
    refine CC.seq ?_
    refine CC.region ?_
    refine LL.val (R.move rfl rfl) rfl rfl rfl ?_
    refine LL.val (R.neF rfl rfl rfl (by omega)) rfl rfl rfl ?_
    refine LL.val (R.move rfl rfl) rfl rfl rfl ?_
    refine LL.val (R.field rfl rfl (I.fld rfl)) rfl rfl rfl ?_
    refine LL.val (R.load rfl rfl (I.ld1 rfl (RowL.cell r4 rfl))) rfl rfl rfl ?_
    refine LL.val (R.gtF rfl rfl rfl (by omega)) rfl rfl rfl ?_
    refine LL.val (R.pick rfl rfl rfl) rfl rfl rfl ?_
    refine LL.nilS ?_
    refine CC.no rfl ?_
    refine CC.skip ?_
    refine EE.thenN ?_
    refine CC.seq ?_
    refine CC.region ?_
    refine LL.val (R.load rfl rfl (I.ldNc (vs := [Value.int IntKind.i64 b, Value.int IntKind.i64 i, Value.int IntKind.i64 r, Value.int IntKind.i64 t, Value.int IntKind.u64 ↑k1, Value.int IntKind.u64 ↑k2, Value.int IntKind.i64 9, Value.int IntKind.i64 (9 + i / 4), Value.int IntKind.i64 (9 + i / 4 + r / 4), Value.int IntKind.i64 (10 + i / 4 + r / 4)]) (RowL.cells r36 rfl) (by rfl) (by rfl))) rfl rfl rfl ?_
    refine LL.val (R.move rfl rfl) rfl rfl rfl ?_
    refine LL.call (R.call rfl rfl rfl) rfl rfl rfl (part_out _ _ _ _ _ _ _ _ _ _ _ _ (by first | assumption | omega) (by first | assumption | omega)) ?_
    rintro e W43 ⟨rfl, b42⟩
    refine ⟨_, rfl, ?_⟩
    have zb42 := b42.size
    replace b33 := b33.trans (b42.mono b33.size)
    replace b27 := b27.trans (b42.mono b27.size)
    replace r25 := r25.up b42
    replace b22 := b22.trans (b42.mono b22.size)
    replace r17 := r17.up b42
    replace b14 := b14.trans (b42.mono b14.size)
    replace r10 := r10.up b42
    replace b7 := b7.trans (b42.mono b7.size)
    replace r4 := r4.up b42
    replace b1 := b1.trans (b42.mono b1.size)
    replace q := q.trans (b42.mono q.size)
    replace r36 := r36.up b42
    refine LL.val (R.move rfl rfl) rfl rfl rfl ?_
    refine LL.val (R.extract rfl rfl rfl) rfl rfl rfl ?_
    refine LL.val (R.extract rfl rfl rfl) rfl rfl rfl ?_
    have l44 := r25.lt
    have l45 := r17.lt
    have l46 := r10.lt
    have l47 := r4.lt
    have l48 := r36.lt
    refine LL.alloc ([Value.int IntKind.i64 0, Value.int IntKind.i64 0]) rfl rfl rfl rfl rfl ?_
    intro W50 g51 eg51 r52 z53 b49
    replace b42 := b42.trans (b49.mono b42.size)
    replace b33 := b33.trans (b49.mono b33.size)
    replace b27 := b27.trans (b49.mono b27.size)
    replace r25 := r25.up b49
    replace b22 := b22.trans (b49.mono b22.size)
    replace r17 := r17.up b49
    replace b14 := b14.trans (b49.mono b14.size)
    replace r10 := r10.up b49
    replace b7 := b7.trans (b49.mono b7.size)
    replace r4 := r4.up b49
    replace b1 := b1.trans (b49.mono b1.size)
    replace q := q.trans (b49.mono q.size)
    replace r36 := r36.up b49
    refine LL.storeN (vs := [Value.int IntKind.i64 0, Value.int IntKind.i64 0]) rfl rfl rfl rfl r52 (by exact Nat.le_of_ble_eq_true rfl) (ones_of rfl) rfl rfl ?_
    intro W55 r56 b54 z57
    have hlb54 := r52.lt
    replace r56 : RowL W55 _ 46 [Value.int IntKind.i64 0, Value.int IntKind.i64 0] := r56
    clear r52
    replace b49 := b49.grown b54 b49.size (by rintro k ⟨⟩; omega)
    replace b42 := b42.grown b54 b42.size (by rintro k ⟨⟩; omega)
    replace b33 := b33.grown b54 b33.size (by rintro k ⟨⟩; omega)
    replace b27 := b27.grown b54 b27.size (by rintro k ⟨⟩; omega)
    replace r25 := r25.gr b54 (by have := r25.lt; omega)
    replace b22 := b22.grown b54 b22.size (by rintro k ⟨⟩; omega)
    replace r17 := r17.gr b54 (by have := r17.lt; omega)
    replace b14 := b14.grown b54 b14.size (by rintro k ⟨⟩; omega)
    replace r10 := r10.gr b54 (by have := r10.lt; omega)
    replace b7 := b7.grown b54 b7.size (by rintro k ⟨⟩; omega)
    replace r4 := r4.gr b54 (by have := r4.lt; omega)
    replace b1 := b1.grown b54 b1.size (by rintro k ⟨⟩; omega)
    replace q := q.grown b54 q.size (by rintro k ⟨⟩; omega)
    replace r36 := r36.gr b54 (by have := r36.lt; omega)
    have r52 := r56
    clear r56
    refine LL.val (R.assign rfl rfl) rfl rfl rfl ?_
    refine LL.nilS ?_
    refine CC.seq ?_
    refine CC.seq ?_
    refine CC.region ?_
    refine LL.val (R.move rfl rfl) rfl rfl rfl ?_
    refine LL.val (R.ltT rfl rfl rfl (by omega)) rfl rfl rfl ?_
    refine LL.val (R.move rfl rfl) rfl rfl rfl ?_
    refine LL.skip rfl rfl ?_
    refine LL.skip rfl rfl ?_
    refine LL.skip rfl rfl ?_
    refine LL.skip rfl rfl ?_
    refine LL.skip rfl rfl ?_
    refine LL.val (R.pick rfl rfl rfl) rfl rfl rfl ?_
    refine LL.nilS ?_
    refine CC.yes rfl ?_
    refine CC.seq ?_
    refine CC.region ?_
    refine LL.val (R.load rfl rfl (I.ldNc (vs := [Value.int IntKind.i64 0, Value.int IntKind.i64 0]) (RowL.cells r52 rfl) (by rfl) (by rfl))) rfl rfl rfl ?_
    refine LL.val (R.buildV rfl rfl (v := .agg #[Value.int IntKind.i64 0, Value.int IntKind.i64 0]) (fun _ => by kernel_rfl)) rfl rfl rfl ?_
    refine LL.val (R.eqST (p := (0 : Int) = 0 ∧ (0 : Int) = 0) (bs := [decide ((0 : Int) = 0), decide ((0 : Int) = 0)]) rfl rfl rfl rfl (by kernel_rfl) (by kernel_rfl) (by simp) (by first | assumption | omega)) rfl rfl rfl ?_
    refine LL.val (R.move rfl rfl) rfl rfl rfl ?_
    refine LL.val (R.move rfl rfl) rfl rfl rfl ?_
    refine LL.call (R.call rfl rfl rfl) rfl rfl rfl (num_any _ _) ?_
    rintro e W' ⟨rfl, rfl⟩
    refine ⟨_, rfl, ?_⟩
    refine LL.val (R.eqT rfl rfl rfl (by omega)) rfl rfl rfl ?_
    refine LL.val (R.pick rfl rfl rfl) rfl rfl rfl ?_
    refine LL.val (R.move rfl rfl) rfl rfl rfl ?_
    refine LL.call (R.call rfl rfl rfl) rfl rfl rfl (works_any _) ?_
    rintro e W59 ⟨rfl, b58⟩
    refine ⟨_, rfl, ?_⟩
    have zb58 := b58.size
    replace b49 := b49.trans (b58.mono b49.size)
    replace b42 := b42.trans (b58.mono b42.size)
    replace b33 := b33.trans (b58.mono b33.size)
    replace b27 := b27.trans (b58.mono b27.size)
    replace r25 := r25.up b58
    replace b22 := b22.trans (b58.mono b22.size)
    replace r17 := r17.up b58
    replace b14 := b14.trans (b58.mono b14.size)
    replace r10 := r10.up b58
    replace b7 := b7.trans (b58.mono b7.size)
    replace r4 := r4.up b58
    replace b1 := b1.trans (b58.mono b1.size)
    replace q := q.trans (b58.mono q.size)
    replace r36 := r36.up b58
    replace r52 := r52.up b58
    refine LL.val (R.pick rfl rfl rfl) rfl rfl rfl ?_
    refine LL.store rfl rfl rfl rfl r25 (by exact Nat.le_of_ble_eq_true rfl) rfl rfl rfl rfl ?_
    intro W61 r62 b60 z63
    have hlb60 := r25.lt
    replace r62 : RowL W61 _ 4 [Value.bool true] := r62
    clear r25
    replace b22 := b22.grown b60 b22.size (by rintro k ⟨⟩; omega)
    replace r17 := r17.gr b60 (by have := r17.lt; omega)
    replace b14 := b14.grown b60 b14.size (by rintro k ⟨⟩; omega)
    replace r10 := r10.gr b60 (by have := r10.lt; omega)
    replace b7 := b7.grown b60 b7.size (by rintro k ⟨⟩; omega)
    replace r4 := r4.gr b60 (by have := r4.lt; omega)
    replace b1 := b1.grown b60 b1.size (by rintro k ⟨⟩; omega)
    replace q := q.grown b60 q.size (by rintro k ⟨⟩; omega)
    replace r36 := r36.gr b60 (by have := r36.lt; omega)
    replace r52 := r52.gr b60 (by have := r52.lt; omega)
    have r25 := r62
    clear r62
    refine LL.nilS ?_
    refine CC.ret ?_
    refine EE.thenR ?_
    refine EE.retM1 rfl ⟨_, rfl, lv1 rfl (RowL.cell (by assumption) rfl)⟩ ?_
    exact ⟨rfl, q⟩
  · refine X.fnM Try.func7 rfl (n := 138) rfl rfl ?_
    refine CC.seq ?_
    refine CC.region ?_
    refine LL.box [Value.int IntKind.i64 b, Value.int IntKind.i64 i, Value.int IntKind.i64 r, Value.int IntKind.i64 t] rfl rfl rfl rfl rfl ?_
    intro Wa2 ga3 ega3 ra4 za5 ba1
    replace q := q.trans (ba1.mono q.size)
    have la6 := ra4.lt
    refine LL.box [Value.int IntKind.u64 ↑k1, Value.int IntKind.u64 ↑k2] rfl rfl rfl rfl rfl ?_
    intro Wa8 ga9 ega9 ra10 za11 ba7
    replace ra4 := ra4.up ba7
    replace ba1 := ba1.trans (ba7.mono ba1.size)
    replace q := q.trans (ba7.mono q.size)
    have la12 := ra10.lt
    have la13 := ra4.lt
    refine LL.box [Value.int IntKind.i64 many] rfl rfl rfl rfl rfl ?_
    intro Wa15 ga16 ega16 ra17 za18 ba14
    replace ra10 := ra10.up ba14
    replace ba7 := ba7.trans (ba14.mono ba7.size)
    replace ra4 := ra4.up ba14
    replace ba1 := ba1.trans (ba14.mono ba1.size)
    replace q := q.trans (ba14.mono q.size)
    have la19 := ra17.lt
    have la20 := ra10.lt
    have la21 := ra4.lt
    refine LL.alloc ([Value.bool false]) rfl rfl rfl rfl rfl ?_
    intro Wa23 ga24 ega24 ra25 za26 ba22
    replace ra17 := ra17.up ba22
    replace ba14 := ba14.trans (ba22.mono ba14.size)
    replace ra10 := ra10.up ba22
    replace ba7 := ba7.trans (ba22.mono ba7.size)
    replace ra4 := ra4.up ba22
    replace ba1 := ba1.trans (ba22.mono ba1.size)
    replace q := q.trans (ba22.mono q.size)
    refine LL.nilS ?_
    refine CC.seq ?_
    refine CC.region ?_
    refine LL.val (R.load rfl rfl (I.ldNc (vs := [Value.int IntKind.i64 b, Value.int IntKind.i64 i, Value.int IntKind.i64 r, Value.int IntKind.i64 t]) (RowL.cells ra4 rfl) (by rfl) (by rfl))) rfl rfl rfl ?_
    refine LL.val (R.load rfl rfl (I.ldNc (vs := [Value.int IntKind.u64 ↑k1, Value.int IntKind.u64 ↑k2]) (RowL.cells ra10 rfl) (by rfl) (by rfl))) rfl rfl rfl ?_
    refine LL.call (R.call rfl rfl rfl) rfl rfl rfl (rof_T _ _ _ _ _ _ _ (by first | assumption | omega)) ?_
    rintro e Wa28 ⟨rfl, ba27⟩
    refine ⟨_, rfl, ?_⟩
    have zba27 := ba27.size
    replace ra25 := ra25.up ba27
    replace ba22 := ba22.trans (ba27.mono ba22.size)
    replace ra17 := ra17.up ba27
    replace ba14 := ba14.trans (ba27.mono ba14.size)
    replace ra10 := ra10.up ba27
    replace ba7 := ba7.trans (ba27.mono ba7.size)
    replace ra4 := ra4.up ba27
    replace ba1 := ba1.trans (ba27.mono ba1.size)
    replace q := q.trans (ba27.mono q.size)
    refine LL.val (R.move rfl rfl) rfl rfl rfl ?_
    refine LL.val (R.extract rfl rfl rfl) rfl rfl rfl ?_
    refine LL.val (R.extract rfl rfl rfl) rfl rfl rfl ?_
    have la29 := ra25.lt
    have la30 := ra17.lt
    have la31 := ra10.lt
    have la32 := ra4.lt
    refine LL.alloc ([Value.int IntKind.i64 0, Value.int IntKind.i64 0, Value.int IntKind.i64 0, Value.int IntKind.i64 0, Value.int IntKind.u64 0, Value.int IntKind.u64 0, Value.int IntKind.i64 0, Value.int IntKind.i64 0, Value.int IntKind.i64 0, Value.int IntKind.i64 0]) rfl rfl rfl rfl rfl ?_
    intro Wa34 ga35 ega35 ra36 za37 ba33
    replace ba27 := ba27.trans (ba33.mono ba27.size)
    replace ra25 := ra25.up ba33
    replace ba22 := ba22.trans (ba33.mono ba22.size)
    replace ra17 := ra17.up ba33
    replace ba14 := ba14.trans (ba33.mono ba14.size)
    replace ra10 := ra10.up ba33
    replace ba7 := ba7.trans (ba33.mono ba7.size)
    replace ra4 := ra4.up ba33
    replace ba1 := ba1.trans (ba33.mono ba1.size)
    replace q := q.trans (ba33.mono q.size)
    refine LL.storeN (vs := [Value.int IntKind.i64 b, Value.int IntKind.i64 i, Value.int IntKind.i64 r, Value.int IntKind.i64 t, Value.int IntKind.u64 ↑k1, Value.int IntKind.u64 ↑k2, Value.int IntKind.i64 9, Value.int IntKind.i64 (9 + i / 4), Value.int IntKind.i64 (9 + i / 4 + r / 4), Value.int IntKind.i64 (10 + i / 4 + r / 4)]) rfl rfl rfl rfl ra36 (by exact Nat.le_of_ble_eq_true rfl) (ones_of rfl) rfl rfl ?_
    intro Wa39 ra40 ba38 za41
    have hlba38 := ra36.lt
    replace ra40 : RowL Wa39 _ 27 [Value.int IntKind.i64 b, Value.int IntKind.i64 i, Value.int IntKind.i64 r, Value.int IntKind.i64 t, Value.int IntKind.u64 ↑k1, Value.int IntKind.u64 ↑k2, Value.int IntKind.i64 9, Value.int IntKind.i64 (9 + i / 4), Value.int IntKind.i64 (9 + i / 4 + r / 4), Value.int IntKind.i64 (10 + i / 4 + r / 4)] := ra40
    clear ra36
    replace ba33 := ba33.grown ba38 ba33.size (by rintro k ⟨⟩; omega)
    replace ba27 := ba27.grown ba38 ba27.size (by rintro k ⟨⟩; omega)
    replace ra25 := ra25.gr ba38 (by have := ra25.lt; omega)
    replace ba22 := ba22.grown ba38 ba22.size (by rintro k ⟨⟩; omega)
    replace ra17 := ra17.gr ba38 (by have := ra17.lt; omega)
    replace ba14 := ba14.grown ba38 ba14.size (by rintro k ⟨⟩; omega)
    replace ra10 := ra10.gr ba38 (by have := ra10.lt; omega)
    replace ba7 := ba7.grown ba38 ba7.size (by rintro k ⟨⟩; omega)
    replace ra4 := ra4.gr ba38 (by have := ra4.lt; omega)
    replace ba1 := ba1.grown ba38 ba1.size (by rintro k ⟨⟩; omega)
    replace q := q.grown ba38 q.size (by rintro k ⟨⟩; omega)
    have ra36 := ra40
    clear ra40
    refine LL.val (R.assign rfl rfl) rfl rfl rfl ?_
    refine LL.nilS ?_
    refine CC.seq ?_
    refine CC.seq ?_
    refine CC.region ?_
    refine LL.val (R.move rfl rfl) rfl rfl rfl ?_
    refine LL.val (R.neF rfl rfl rfl (by omega)) rfl rfl rfl ?_
    refine LL.val (R.move rfl rfl) rfl rfl rfl ?_
    refine LL.val (R.field rfl rfl (I.fld rfl)) rfl rfl rfl ?_
    refine LL.val (R.load rfl rfl (I.ld1 rfl (RowL.cell ra4 rfl))) rfl rfl rfl ?_
    refine LL.val (R.gtF rfl rfl rfl (by omega)) rfl rfl rfl ?_
    refine LL.val (R.pick rfl rfl rfl) rfl rfl rfl ?_
    refine LL.nilS ?_
    refine CC.no rfl ?_
    refine CC.skip ?_
    refine EE.thenN ?_
    refine CC.seq ?_
    refine CC.region ?_
    refine LL.val (R.load rfl rfl (I.ldNc (vs := [Value.int IntKind.i64 b, Value.int IntKind.i64 i, Value.int IntKind.i64 r, Value.int IntKind.i64 t, Value.int IntKind.u64 ↑k1, Value.int IntKind.u64 ↑k2, Value.int IntKind.i64 9, Value.int IntKind.i64 (9 + i / 4), Value.int IntKind.i64 (9 + i / 4 + r / 4), Value.int IntKind.i64 (10 + i / 4 + r / 4)]) (RowL.cells ra36 rfl) (by rfl) (by rfl))) rfl rfl rfl ?_
    refine LL.val (R.move rfl rfl) rfl rfl rfl ?_
    refine LL.call (R.call rfl rfl rfl) rfl rfl rfl (part_out _ _ _ _ _ _ _ _ _ _ _ _ (by first | assumption | omega) (by first | assumption | omega)) ?_
    rintro e Wa43 ⟨rfl, ba42⟩
    refine ⟨_, rfl, ?_⟩
    have zba42 := ba42.size
    replace ba33 := ba33.trans (ba42.mono ba33.size)
    replace ba27 := ba27.trans (ba42.mono ba27.size)
    replace ra25 := ra25.up ba42
    replace ba22 := ba22.trans (ba42.mono ba22.size)
    replace ra17 := ra17.up ba42
    replace ba14 := ba14.trans (ba42.mono ba14.size)
    replace ra10 := ra10.up ba42
    replace ba7 := ba7.trans (ba42.mono ba7.size)
    replace ra4 := ra4.up ba42
    replace ba1 := ba1.trans (ba42.mono ba1.size)
    replace q := q.trans (ba42.mono q.size)
    replace ra36 := ra36.up ba42
    refine LL.val (R.move rfl rfl) rfl rfl rfl ?_
    refine LL.val (R.extract rfl rfl rfl) rfl rfl rfl ?_
    refine LL.val (R.extract rfl rfl rfl) rfl rfl rfl ?_
    have la44 := ra25.lt
    have la45 := ra17.lt
    have la46 := ra10.lt
    have la47 := ra4.lt
    have la48 := ra36.lt
    refine LL.alloc ([Value.int IntKind.i64 0, Value.int IntKind.i64 0]) rfl rfl rfl rfl rfl ?_
    intro Wa50 ga51 ega51 ra52 za53 ba49
    replace ba42 := ba42.trans (ba49.mono ba42.size)
    replace ba33 := ba33.trans (ba49.mono ba33.size)
    replace ba27 := ba27.trans (ba49.mono ba27.size)
    replace ra25 := ra25.up ba49
    replace ba22 := ba22.trans (ba49.mono ba22.size)
    replace ra17 := ra17.up ba49
    replace ba14 := ba14.trans (ba49.mono ba14.size)
    replace ra10 := ra10.up ba49
    replace ba7 := ba7.trans (ba49.mono ba7.size)
    replace ra4 := ra4.up ba49
    replace ba1 := ba1.trans (ba49.mono ba1.size)
    replace q := q.trans (ba49.mono q.size)
    replace ra36 := ra36.up ba49
    refine LL.storeN (vs := [Value.int IntKind.i64 0, Value.int IntKind.i64 0]) rfl rfl rfl rfl ra52 (by exact Nat.le_of_ble_eq_true rfl) (ones_of rfl) rfl rfl ?_
    intro Wa55 ra56 ba54 za57
    have hlba54 := ra52.lt
    replace ra56 : RowL Wa55 _ 46 [Value.int IntKind.i64 0, Value.int IntKind.i64 0] := ra56
    clear ra52
    replace ba49 := ba49.grown ba54 ba49.size (by rintro k ⟨⟩; omega)
    replace ba42 := ba42.grown ba54 ba42.size (by rintro k ⟨⟩; omega)
    replace ba33 := ba33.grown ba54 ba33.size (by rintro k ⟨⟩; omega)
    replace ba27 := ba27.grown ba54 ba27.size (by rintro k ⟨⟩; omega)
    replace ra25 := ra25.gr ba54 (by have := ra25.lt; omega)
    replace ba22 := ba22.grown ba54 ba22.size (by rintro k ⟨⟩; omega)
    replace ra17 := ra17.gr ba54 (by have := ra17.lt; omega)
    replace ba14 := ba14.grown ba54 ba14.size (by rintro k ⟨⟩; omega)
    replace ra10 := ra10.gr ba54 (by have := ra10.lt; omega)
    replace ba7 := ba7.grown ba54 ba7.size (by rintro k ⟨⟩; omega)
    replace ra4 := ra4.gr ba54 (by have := ra4.lt; omega)
    replace ba1 := ba1.grown ba54 ba1.size (by rintro k ⟨⟩; omega)
    replace q := q.grown ba54 q.size (by rintro k ⟨⟩; omega)
    replace ra36 := ra36.gr ba54 (by have := ra36.lt; omega)
    have ra52 := ra56
    clear ra56
    refine LL.val (R.assign rfl rfl) rfl rfl rfl ?_
    refine LL.nilS ?_
    refine CC.seq ?_
    refine CC.seq ?_
    refine CC.region ?_
    refine LL.val (R.move rfl rfl) rfl rfl rfl ?_
    refine LL.val (R.ltF rfl rfl rfl (by omega)) rfl rfl rfl ?_
    refine LL.val (R.move rfl rfl) rfl rfl rfl ?_
    refine LL.val (R.move rfl rfl) rfl rfl rfl ?_
    refine LL.val (R.field rfl rfl (I.fld rfl)) rfl rfl rfl ?_
    refine LL.val (R.load rfl rfl (I.ld1 rfl (RowL.cell ra4 rfl))) rfl rfl rfl ?_
    refine LL.val (R.mulI rfl rfl rfl (by omega)) rfl rfl rfl ?_
    refine LL.val (R.geT rfl rfl rfl (by omega)) rfl rfl rfl ?_
    refine LL.val (R.pick rfl rfl rfl) rfl rfl rfl ?_
    refine LL.nilS ?_
    refine CC.yes rfl ?_
    refine CC.seq ?_
    refine CC.region ?_
    refine LL.val (R.load rfl rfl (I.ldNc (vs := [Value.int IntKind.i64 0, Value.int IntKind.i64 0]) (RowL.cells ra52 rfl) (by rfl) (by rfl))) rfl rfl rfl ?_
    refine LL.val (R.buildV rfl rfl (v := .agg #[Value.int IntKind.i64 0, Value.int IntKind.i64 0]) (fun _ => by kernel_rfl)) rfl rfl rfl ?_
    refine LL.val (R.eqST (p := (0 : Int) = 0 ∧ (0 : Int) = 0) (bs := [decide ((0 : Int) = 0), decide ((0 : Int) = 0)]) rfl rfl rfl rfl (by kernel_rfl) (by kernel_rfl) (by simp) (by first | assumption | omega)) rfl rfl rfl ?_
    refine LL.val (R.move rfl rfl) rfl rfl rfl ?_
    refine LL.val (R.move rfl rfl) rfl rfl rfl ?_
    refine LL.call (R.call rfl rfl rfl) rfl rfl rfl (num_any _ _) ?_
    rintro e W' ⟨rfl, rfl⟩
    refine ⟨_, rfl, ?_⟩
    refine LL.val (R.eqT rfl rfl rfl (by omega)) rfl rfl rfl ?_
    refine LL.val (R.pick rfl rfl rfl) rfl rfl rfl ?_
    refine LL.val (R.move rfl rfl) rfl rfl rfl ?_
    refine LL.call (R.call rfl rfl rfl) rfl rfl rfl (works_any _) ?_
    rintro e Wa59 ⟨rfl, ba58⟩
    refine ⟨_, rfl, ?_⟩
    have zba58 := ba58.size
    replace ba49 := ba49.trans (ba58.mono ba49.size)
    replace ba42 := ba42.trans (ba58.mono ba42.size)
    replace ba33 := ba33.trans (ba58.mono ba33.size)
    replace ba27 := ba27.trans (ba58.mono ba27.size)
    replace ra25 := ra25.up ba58
    replace ba22 := ba22.trans (ba58.mono ba22.size)
    replace ra17 := ra17.up ba58
    replace ba14 := ba14.trans (ba58.mono ba14.size)
    replace ra10 := ra10.up ba58
    replace ba7 := ba7.trans (ba58.mono ba7.size)
    replace ra4 := ra4.up ba58
    replace ba1 := ba1.trans (ba58.mono ba1.size)
    replace q := q.trans (ba58.mono q.size)
    replace ra36 := ra36.up ba58
    replace ra52 := ra52.up ba58
    refine LL.val (R.pick rfl rfl rfl) rfl rfl rfl ?_
    refine LL.store rfl rfl rfl rfl ra25 (by exact Nat.le_of_ble_eq_true rfl) rfl rfl rfl rfl ?_
    intro Wa61 ra62 ba60 za63
    have hlba60 := ra25.lt
    replace ra62 : RowL Wa61 _ 4 [Value.bool true] := ra62
    clear ra25
    replace ba22 := ba22.grown ba60 ba22.size (by rintro k ⟨⟩; omega)
    replace ra17 := ra17.gr ba60 (by have := ra17.lt; omega)
    replace ba14 := ba14.grown ba60 ba14.size (by rintro k ⟨⟩; omega)
    replace ra10 := ra10.gr ba60 (by have := ra10.lt; omega)
    replace ba7 := ba7.grown ba60 ba7.size (by rintro k ⟨⟩; omega)
    replace ra4 := ra4.gr ba60 (by have := ra4.lt; omega)
    replace ba1 := ba1.grown ba60 ba1.size (by rintro k ⟨⟩; omega)
    replace q := q.grown ba60 q.size (by rintro k ⟨⟩; omega)
    replace ra36 := ra36.gr ba60 (by have := ra36.lt; omega)
    replace ra52 := ra52.gr ba60 (by have := ra52.lt; omega)
    have ra25 := ra62
    clear ra62
    refine LL.nilS ?_
    refine CC.ret ?_
    refine EE.thenR ?_
    refine EE.retM1 rfl ⟨_, rfl, lv1 rfl (RowL.cell (by assumption) rfl)⟩ ?_
    exact ⟨rfl, q⟩
set_option maxRecDepth 100000 in
set_option maxHeartbeats 8000000 in
theorem parts_T (b i r t k1 k2 word : Nat) (many : Int) (w : World) (hok : okF b i r t) (hb : b ≤ 64) (hw : word < 64 * b) : Calls Try.prog 7 #[formV b i r t, keyV k1 k2, .int .i64 (word : Int), .int .i64 many] w fun x w' => x = .returned (.bool true) ∧ Below w.heap.size w w' := by
  have q := Below.refl w.heap.size w
  have hpf : scanP word (allP b i r) (0, 0) = partF i r word := scan_partF (by omega) (by omega) (by omega) (by omega) (by omega) hw
  have hpp : ∀ a c d e W, isL b i r t a c d e → Calls Try.prog 20 #[layV b i r t k1 k2 a c d e, .int .i64 (word : Int)] W fun x w' => x = .returned (.tuple #[.agg #[.int .i64 ((partF i r word).1 : Int), .int .i64 ((partF i r word).2 : Int)], .int .i64 0]) ∧ Below W.heap.size W w' := by
    intro a c d e W hl
    have := part_any b i r t k1 k2 a c d e word W hl hw
    rw [hpf] at this
    exact this
  have hlen := all_len b i r
  refine X.fnM Try.func7 rfl (n := 138) rfl rfl ?_
  refine CC.seq ?_
  refine CC.region ?_
  refine LL.box [Value.int IntKind.i64 ↑b, Value.int IntKind.i64 ↑i, Value.int IntKind.i64 ↑r, Value.int IntKind.i64 ↑t] rfl rfl rfl rfl rfl ?_
  intro W2 g3 eg3 r4 z5 b1
  replace q := q.trans (b1.mono q.size)
  have l6 := r4.lt
  refine LL.box [Value.int IntKind.u64 ↑k1, Value.int IntKind.u64 ↑k2] rfl rfl rfl rfl rfl ?_
  intro W8 g9 eg9 r10 z11 b7
  replace r4 := r4.up b7
  replace b1 := b1.trans (b7.mono b1.size)
  replace q := q.trans (b7.mono q.size)
  have l12 := r10.lt
  have l13 := r4.lt
  refine LL.box [Value.int IntKind.i64 many] rfl rfl rfl rfl rfl ?_
  intro W15 g16 eg16 r17 z18 b14
  replace r10 := r10.up b14
  replace b7 := b7.trans (b14.mono b7.size)
  replace r4 := r4.up b14
  replace b1 := b1.trans (b14.mono b1.size)
  replace q := q.trans (b14.mono q.size)
  have l19 := r17.lt
  have l20 := r10.lt
  have l21 := r4.lt
  refine LL.alloc ([Value.bool false]) rfl rfl rfl rfl rfl ?_
  intro W23 g24 eg24 r25 z26 b22
  replace r17 := r17.up b22
  replace b14 := b14.trans (b22.mono b14.size)
  replace r10 := r10.up b22
  replace b7 := b7.trans (b22.mono b7.size)
  replace r4 := r4.up b22
  replace b1 := b1.trans (b22.mono b1.size)
  replace q := q.trans (b22.mono q.size)
  refine LL.nilS ?_
  refine CC.seq ?_
  refine CC.region ?_
  refine LL.val (R.load rfl rfl (I.ldNc (vs := [Value.int IntKind.i64 ↑b, Value.int IntKind.i64 ↑i, Value.int IntKind.i64 ↑r, Value.int IntKind.i64 ↑t]) (RowL.cells r4 rfl) (by rfl) (by rfl))) rfl rfl rfl ?_
  refine LL.val (R.load rfl rfl (I.ldNc (vs := [Value.int IntKind.u64 ↑k1, Value.int IntKind.u64 ↑k2]) (RowL.cells r10 rfl) (by rfl) (by rfl))) rfl rfl rfl ?_
  refine LL.call (R.call rfl rfl rfl) rfl rfl rfl (rof_T _ _ _ _ _ _ _ (by first | assumption | omega)) ?_
  rintro e W28 ⟨rfl, b27⟩
  refine ⟨_, rfl, ?_⟩
  have zb27 := b27.size
  replace r25 := r25.up b27
  replace b22 := b22.trans (b27.mono b22.size)
  replace r17 := r17.up b27
  replace b14 := b14.trans (b27.mono b14.size)
  replace r10 := r10.up b27
  replace b7 := b7.trans (b27.mono b7.size)
  replace r4 := r4.up b27
  replace b1 := b1.trans (b27.mono b1.size)
  replace q := q.trans (b27.mono q.size)
  refine LL.val (R.move rfl rfl) rfl rfl rfl ?_
  refine LL.val (R.extract rfl rfl rfl) rfl rfl rfl ?_
  refine LL.val (R.extract rfl rfl rfl) rfl rfl rfl ?_
  have l29 := r25.lt
  have l30 := r17.lt
  have l31 := r10.lt
  have l32 := r4.lt
  refine LL.alloc ([Value.int IntKind.i64 0, Value.int IntKind.i64 0, Value.int IntKind.i64 0, Value.int IntKind.i64 0, Value.int IntKind.u64 0, Value.int IntKind.u64 0, Value.int IntKind.i64 0, Value.int IntKind.i64 0, Value.int IntKind.i64 0, Value.int IntKind.i64 0]) rfl rfl rfl rfl rfl ?_
  intro W34 g35 eg35 r36 z37 b33
  replace b27 := b27.trans (b33.mono b27.size)
  replace r25 := r25.up b33
  replace b22 := b22.trans (b33.mono b22.size)
  replace r17 := r17.up b33
  replace b14 := b14.trans (b33.mono b14.size)
  replace r10 := r10.up b33
  replace b7 := b7.trans (b33.mono b7.size)
  replace r4 := r4.up b33
  replace b1 := b1.trans (b33.mono b1.size)
  replace q := q.trans (b33.mono q.size)
  refine LL.storeN (vs := [Value.int IntKind.i64 ↑b, Value.int IntKind.i64 ↑i, Value.int IntKind.i64 ↑r, Value.int IntKind.i64 ↑t, Value.int IntKind.u64 ↑k1, Value.int IntKind.u64 ↑k2, Value.int IntKind.i64 9, Value.int IntKind.i64 (9 + ↑i / 4), Value.int IntKind.i64 (9 + ↑i / 4 + ↑r / 4), Value.int IntKind.i64 (10 + ↑i / 4 + ↑r / 4)]) rfl rfl rfl rfl r36 (by exact Nat.le_of_ble_eq_true rfl) (ones_of rfl) rfl rfl ?_
  intro W39 r40 b38 z41
  have hlb38 := r36.lt
  replace r40 : RowL W39 _ 27 [Value.int IntKind.i64 ↑b, Value.int IntKind.i64 ↑i, Value.int IntKind.i64 ↑r, Value.int IntKind.i64 ↑t, Value.int IntKind.u64 ↑k1, Value.int IntKind.u64 ↑k2, Value.int IntKind.i64 9, Value.int IntKind.i64 (9 + ↑i / 4), Value.int IntKind.i64 (9 + ↑i / 4 + ↑r / 4), Value.int IntKind.i64 (10 + ↑i / 4 + ↑r / 4)] := r40
  clear r36
  replace b33 := b33.grown b38 b33.size (by rintro k ⟨⟩; omega)
  replace b27 := b27.grown b38 b27.size (by rintro k ⟨⟩; omega)
  replace r25 := r25.gr b38 (by have := r25.lt; omega)
  replace b22 := b22.grown b38 b22.size (by rintro k ⟨⟩; omega)
  replace r17 := r17.gr b38 (by have := r17.lt; omega)
  replace b14 := b14.grown b38 b14.size (by rintro k ⟨⟩; omega)
  replace r10 := r10.gr b38 (by have := r10.lt; omega)
  replace b7 := b7.grown b38 b7.size (by rintro k ⟨⟩; omega)
  replace r4 := r4.gr b38 (by have := r4.lt; omega)
  replace b1 := b1.grown b38 b1.size (by rintro k ⟨⟩; omega)
  replace q := q.grown b38 q.size (by rintro k ⟨⟩; omega)
  have r36 := r40
  clear r40
  refine LL.val (R.assign rfl rfl) rfl rfl rfl ?_
  refine LL.nilS ?_
  refine CC.seq ?_
  refine CC.seq ?_
  refine CC.region ?_
  refine LL.val (R.move rfl rfl) rfl rfl rfl ?_
  refine LL.val (R.neF rfl rfl rfl (by omega)) rfl rfl rfl ?_
  refine LL.val (R.move rfl rfl) rfl rfl rfl ?_
  refine LL.val (R.field rfl rfl (I.fld rfl)) rfl rfl rfl ?_
  refine LL.val (R.load rfl rfl (I.ld1 rfl (RowL.cell r4 rfl))) rfl rfl rfl ?_
  refine LL.val (R.gtF rfl rfl rfl (by omega)) rfl rfl rfl ?_
  refine LL.val (R.pick rfl rfl rfl) rfl rfl rfl ?_
  refine LL.nilS ?_
  refine CC.no rfl ?_
  refine CC.skip ?_
  refine EE.thenN ?_
  refine CC.seq ?_
  refine CC.region ?_
  refine LL.val (R.load rfl rfl (I.ldNc (vs := [Value.int IntKind.i64 ↑b, Value.int IntKind.i64 ↑i, Value.int IntKind.i64 ↑r, Value.int IntKind.i64 ↑t, Value.int IntKind.u64 ↑k1, Value.int IntKind.u64 ↑k2, Value.int IntKind.i64 9, Value.int IntKind.i64 (9 + ↑i / 4), Value.int IntKind.i64 (9 + ↑i / 4 + ↑r / 4), Value.int IntKind.i64 (10 + ↑i / 4 + ↑r / 4)]) (RowL.cells r36 rfl) (by rfl) (by rfl))) rfl rfl rfl ?_
  refine LL.val (R.move rfl rfl) rfl rfl rfl ?_
  refine LL.call (R.call rfl rfl rfl) rfl rfl rfl (hpp _ _ _ _ _ (by first | assumption | omega)) ?_
  rintro e W43 ⟨rfl, b42⟩
  refine ⟨_, rfl, ?_⟩
  have zb42 := b42.size
  replace b33 := b33.trans (b42.mono b33.size)
  replace b27 := b27.trans (b42.mono b27.size)
  replace r25 := r25.up b42
  replace b22 := b22.trans (b42.mono b22.size)
  replace r17 := r17.up b42
  replace b14 := b14.trans (b42.mono b14.size)
  replace r10 := r10.up b42
  replace b7 := b7.trans (b42.mono b7.size)
  replace r4 := r4.up b42
  replace b1 := b1.trans (b42.mono b1.size)
  replace q := q.trans (b42.mono q.size)
  replace r36 := r36.up b42
  refine LL.val (R.move rfl rfl) rfl rfl rfl ?_
  refine LL.val (R.extract rfl rfl rfl) rfl rfl rfl ?_
  refine LL.val (R.extract rfl rfl rfl) rfl rfl rfl ?_
  have l44 := r25.lt
  have l45 := r17.lt
  have l46 := r10.lt
  have l47 := r4.lt
  have l48 := r36.lt
  refine LL.alloc ([Value.int IntKind.i64 0, Value.int IntKind.i64 0]) rfl rfl rfl rfl rfl ?_
  intro W50 g51 eg51 r52 z53 b49
  replace b42 := b42.trans (b49.mono b42.size)
  replace b33 := b33.trans (b49.mono b33.size)
  replace b27 := b27.trans (b49.mono b27.size)
  replace r25 := r25.up b49
  replace b22 := b22.trans (b49.mono b22.size)
  replace r17 := r17.up b49
  replace b14 := b14.trans (b49.mono b14.size)
  replace r10 := r10.up b49
  replace b7 := b7.trans (b49.mono b7.size)
  replace r4 := r4.up b49
  replace b1 := b1.trans (b49.mono b1.size)
  replace q := q.trans (b49.mono q.size)
  replace r36 := r36.up b49
  refine LL.storeN (vs := [Value.int IntKind.i64 ↑(partF i r word).1, Value.int IntKind.i64 ↑(partF i r word).2]) rfl rfl rfl rfl r52 (by exact Nat.le_of_ble_eq_true rfl) (ones_of rfl) rfl rfl ?_
  intro W55 r56 b54 z57
  have hlb54 := r52.lt
  replace r56 : RowL W55 _ 46 [Value.int IntKind.i64 ↑(partF i r word).1, Value.int IntKind.i64 ↑(partF i r word).2] := r56
  clear r52
  replace b49 := b49.grown b54 b49.size (by rintro k ⟨⟩; omega)
  replace b42 := b42.grown b54 b42.size (by rintro k ⟨⟩; omega)
  replace b33 := b33.grown b54 b33.size (by rintro k ⟨⟩; omega)
  replace b27 := b27.grown b54 b27.size (by rintro k ⟨⟩; omega)
  replace r25 := r25.gr b54 (by have := r25.lt; omega)
  replace b22 := b22.grown b54 b22.size (by rintro k ⟨⟩; omega)
  replace r17 := r17.gr b54 (by have := r17.lt; omega)
  replace b14 := b14.grown b54 b14.size (by rintro k ⟨⟩; omega)
  replace r10 := r10.gr b54 (by have := r10.lt; omega)
  replace b7 := b7.grown b54 b7.size (by rintro k ⟨⟩; omega)
  replace r4 := r4.gr b54 (by have := r4.lt; omega)
  replace b1 := b1.grown b54 b1.size (by rintro k ⟨⟩; omega)
  replace q := q.grown b54 q.size (by rintro k ⟨⟩; omega)
  replace r36 := r36.gr b54 (by have := r36.lt; omega)
  have r52 := r56
  clear r56
  refine LL.val (R.assign rfl rfl) rfl rfl rfl ?_
  refine LL.nilS ?_
  refine CC.seq ?_
  refine CC.seq ?_
  refine CC.region ?_
  refine LL.val (R.move rfl rfl) rfl rfl rfl ?_
  refine LL.val (R.ltF rfl rfl rfl (by omega)) rfl rfl rfl ?_
  refine LL.val (R.move rfl rfl) rfl rfl rfl ?_
  refine LL.val (R.move rfl rfl) rfl rfl rfl ?_
  refine LL.val (R.field rfl rfl (I.fld rfl)) rfl rfl rfl ?_
  refine LL.val (R.load rfl rfl (I.ld1 rfl (RowL.cell r4 rfl))) rfl rfl rfl ?_
  refine LL.val (R.mulcN rfl rfl rfl rfl (by omega)) rfl rfl rfl ?_
  refine LL.val (R.geF rfl rfl rfl (by omega)) rfl rfl rfl ?_
  refine LL.val (R.pick rfl rfl rfl) rfl rfl rfl ?_
  refine LL.nilS ?_
  refine CC.no rfl ?_
  refine CC.skip ?_
  refine EE.thenN ?_
  refine CC.seq ?_
  refine CC.seq ?_
  refine CC.grow (by kernel_rfl) (by kernel_rfl) ?_
  refine GG.val (fun w' b' => R.move rfl rfl) rfl rfl ?_
  refine GG.call (fun w' => (R.call rfl rfl rfl)) rfl rfl (fun w' b' => (num_any _ w').mono fun e W' h => ⟨h.1, h.2 ▸ b'⟩) ?_
  refine GG.val (fun w' b' => R.neF rfl rfl rfl (by omega)) rfl rfl ?_
  refine GG.val (fun w' b' => R.move rfl rfl) rfl rfl ?_
  refine GG.val (fun w' b' => R.load rfl rfl (I.ldNc (vs := [Value.int IntKind.i64 ↑(partF i r word).1, Value.int IntKind.i64 ↑(partF i r word).2]) (RowL.cells (r52.up b') rfl) (by rfl) (by rfl))) rfl rfl ?_
  refine GG.val (fun w' b' => R.load rfl rfl (I.ldNc (vs := [Value.int IntKind.i64 ↑b, Value.int IntKind.i64 ↑i, Value.int IntKind.i64 ↑r, Value.int IntKind.i64 ↑t, Value.int IntKind.u64 ↑k1, Value.int IntKind.u64 ↑k2, Value.int IntKind.i64 9, Value.int IntKind.i64 (9 + ↑i / 4), Value.int IntKind.i64 (9 + ↑i / 4 + ↑r / 4), Value.int IntKind.i64 (10 + ↑i / 4 + ↑r / 4)]) (RowL.cells (r36.up b') rfl) (by rfl) (by rfl))) rfl rfl ?_
  refine GG.val (fun w' b' => R.move rfl rfl) rfl rfl ?_
  refine GG.call (fun w' => (R.call rfl rfl rfl)) rfl rfl (fun w' b' => (rpart_any _ _ _ _ _ _ _ _ _ _ _ w' (by first | assumption | omega) (by first | assumption | omega)).mono fun e W' h => ⟨h.1, b'.trans (h.2.mono b'.size)⟩) ?_
  refine GG.val (fun w' b' => R.neST (p := (↑(partF i r word).1 : Int) = ↑(partF i r word).1 ∧ (↑(partF i r word).2 : Int) = ↑(partF i r word).2) (bs := [decide ((↑(partF i r word).1 : Int) = ↑(partF i r word).1), decide ((↑(partF i r word).2 : Int) = ↑(partF i r word).2)]) rfl rfl rfl rfl (by kernel_rfl) (by kernel_rfl) (by simp) (by first | assumption | omega)) rfl rfl ?_
  refine GG.val (fun w' b' => R.pick rfl rfl rfl) rfl rfl ?_
  refine GG.nilQ (fun W62 b61 => ?_)
  have zb61 := b61.size
  replace b49 := b49.trans (b61.mono b49.size)
  replace b42 := b42.trans (b61.mono b42.size)
  replace b33 := b33.trans (b61.mono b33.size)
  replace b27 := b27.trans (b61.mono b27.size)
  replace r25 := r25.up b61
  replace b22 := b22.trans (b61.mono b22.size)
  replace r17 := r17.up b61
  replace b14 := b14.trans (b61.mono b14.size)
  replace r10 := r10.up b61
  replace b7 := b7.trans (b61.mono b7.size)
  replace r4 := r4.up b61
  replace b1 := b1.trans (b61.mono b1.size)
  replace q := q.trans (b61.mono q.size)
  replace r36 := r36.up b61
  replace r52 := r52.up b61
  refine EE.thenN ?_
  refine CC.no rfl ?_
  refine CC.skip ?_
  refine EE.thenN ?_
  refine CC.seq ?_
  refine CC.region ?_
  refine LL.val (R.load rfl rfl (I.ldNc (vs := [Value.int IntKind.i64 ↑b, Value.int IntKind.i64 ↑i, Value.int IntKind.i64 ↑r, Value.int IntKind.i64 ↑t, Value.int IntKind.u64 ↑k1, Value.int IntKind.u64 ↑k2, Value.int IntKind.i64 9, Value.int IntKind.i64 (9 + ↑i / 4), Value.int IntKind.i64 (9 + ↑i / 4 + ↑r / 4), Value.int IntKind.i64 (10 + ↑i / 4 + ↑r / 4)]) (RowL.cells r36 rfl) (by rfl) (by rfl))) rfl rfl rfl ?_
  refine LL.call (R.call rfl rfl rfl) rfl rfl rfl (rparts_reads _ _ _ _ _ _ _ _ _ _ _ (by first | assumption | omega)) ?_
  rintro e W64 ⟨x70, y71, k72, h65, v69, o68, rfl, ht1, ht2, l67, g66, b63⟩
  refine ⟨_, rfl, ?_⟩
  have zb63 := b63.size
  replace b61 := b61.trans (b63.mono b61.size)
  replace b49 := b49.trans (b63.mono b49.size)
  replace b42 := b42.trans (b63.mono b42.size)
  replace b33 := b33.trans (b63.mono b33.size)
  replace b27 := b27.trans (b63.mono b27.size)
  replace r25 := r25.up b63
  replace b22 := b22.trans (b63.mono b22.size)
  replace r17 := r17.up b63
  replace b14 := b14.trans (b63.mono b14.size)
  replace r10 := r10.up b63
  replace b7 := b7.trans (b63.mono b7.size)
  replace r4 := r4.up b63
  replace b1 := b1.trans (b63.mono b1.size)
  replace q := q.trans (b63.mono q.size)
  replace r36 := r36.up b63
  replace r52 := r52.up b63
  refine LL.val (R.move rfl rfl) rfl rfl rfl ?_
  refine LL.val (R.extract rfl rfl rfl) rfl rfl rfl ?_
  refine LL.val (R.extract rfl rfl rfl) rfl rfl rfl ?_
  have l73 := r25.lt
  have l74 := r17.lt
  have l75 := r10.lt
  have l76 := r4.lt
  have l77 := r36.lt
  have l78 := r52.lt
  refine LL.alloc ([Value.slice none 0 0]) rfl rfl rfl rfl rfl ?_
  intro W80 g81 eg81 r82 z83 b79
  replace ht1 := ht1.up b79
  replace ht2 := ht2.up b79
  replace b63 := b63.trans (b79.mono b63.size)
  replace b61 := b61.trans (b79.mono b61.size)
  replace b49 := b49.trans (b79.mono b49.size)
  replace b42 := b42.trans (b79.mono b42.size)
  replace b33 := b33.trans (b79.mono b33.size)
  replace b27 := b27.trans (b79.mono b27.size)
  replace r25 := r25.up b79
  replace b22 := b22.trans (b79.mono b22.size)
  replace r17 := r17.up b79
  replace b14 := b14.trans (b79.mono b14.size)
  replace r10 := r10.up b79
  replace b7 := b7.trans (b79.mono b7.size)
  replace r4 := r4.up b79
  replace b1 := b1.trans (b79.mono b1.size)
  replace q := q.trans (b79.mono q.size)
  replace r36 := r36.up b79
  replace r52 := r52.up b79
  have l84 := r82.lt
  have l85 := r25.lt
  have l86 := r17.lt
  have l87 := r10.lt
  have l88 := r4.lt
  have l89 := r36.lt
  have l90 := r52.lt
  refine LL.alloc ([Value.slice none 0 0]) rfl rfl rfl rfl rfl ?_
  intro W92 g93 eg93 r94 z95 b91
  replace r82 := r82.up b91
  replace b79 := b79.trans (b91.mono b79.size)
  replace ht1 := ht1.up b91
  replace ht2 := ht2.up b91
  replace b63 := b63.trans (b91.mono b63.size)
  replace b61 := b61.trans (b91.mono b61.size)
  replace b49 := b49.trans (b91.mono b49.size)
  replace b42 := b42.trans (b91.mono b42.size)
  replace b33 := b33.trans (b91.mono b33.size)
  replace b27 := b27.trans (b91.mono b27.size)
  replace r25 := r25.up b91
  replace b22 := b22.trans (b91.mono b22.size)
  replace r17 := r17.up b91
  replace b14 := b14.trans (b91.mono b14.size)
  replace r10 := r10.up b91
  replace b7 := b7.trans (b91.mono b7.size)
  replace r4 := r4.up b91
  replace b1 := b1.trans (b91.mono b1.size)
  replace q := q.trans (b91.mono q.size)
  replace r36 := r36.up b91
  replace r52 := r52.up b91
  refine LL.store rfl rfl rfl rfl r82 (by exact Nat.le_of_ble_eq_true rfl) rfl rfl rfl rfl ?_
  intro W97 r98 b96 z99
  have hlb96 := r82.lt
  replace r98 : RowL W97 _ 61 [Value.slice (some { block := x70, off := y71 }) (allP b i r).length k72] := r98
  clear r82
  replace r94 := r94.gr b96 (by have := r94.lt; omega)
  replace b79 := b79.grown b96 b79.size (by rintro k ⟨⟩; omega)
  replace ht1 := ht1.gr b96 (by omega)
  replace ht2 := ht2.gr b96 (by omega)
  replace b63 := b63.grown b96 b63.size (by rintro k ⟨⟩; omega)
  replace b61 := b61.grown b96 b61.size (by rintro k ⟨⟩; omega)
  replace b49 := b49.grown b96 b49.size (by rintro k ⟨⟩; omega)
  replace b42 := b42.grown b96 b42.size (by rintro k ⟨⟩; omega)
  replace b33 := b33.grown b96 b33.size (by rintro k ⟨⟩; omega)
  replace b27 := b27.grown b96 b27.size (by rintro k ⟨⟩; omega)
  replace r25 := r25.gr b96 (by have := r25.lt; omega)
  replace b22 := b22.grown b96 b22.size (by rintro k ⟨⟩; omega)
  replace r17 := r17.gr b96 (by have := r17.lt; omega)
  replace b14 := b14.grown b96 b14.size (by rintro k ⟨⟩; omega)
  replace r10 := r10.gr b96 (by have := r10.lt; omega)
  replace b7 := b7.grown b96 b7.size (by rintro k ⟨⟩; omega)
  replace r4 := r4.gr b96 (by have := r4.lt; omega)
  replace b1 := b1.grown b96 b1.size (by rintro k ⟨⟩; omega)
  replace q := q.grown b96 q.size (by rintro k ⟨⟩; omega)
  replace r36 := r36.gr b96 (by have := r36.lt; omega)
  replace r52 := r52.gr b96 (by have := r52.lt; omega)
  have r82 := r98
  clear r98
  refine LL.store rfl rfl rfl rfl r94 (by exact Nat.le_of_ble_eq_true rfl) rfl rfl rfl rfl ?_
  intro W101 r102 b100 z103
  have hlb100 := r94.lt
  replace r102 : RowL W101 _ 62 [Value.slice (some { block := h65, off := v69 }) (allP b i r).length o68] := r102
  clear r94
  replace b79 := b79.grown b100 b79.size (by rintro k ⟨⟩; omega)
  replace ht1 := ht1.gr b100 (by omega)
  replace ht2 := ht2.gr b100 (by omega)
  replace b63 := b63.grown b100 b63.size (by rintro k ⟨⟩; omega)
  replace b61 := b61.grown b100 b61.size (by rintro k ⟨⟩; omega)
  replace b49 := b49.grown b100 b49.size (by rintro k ⟨⟩; omega)
  replace b42 := b42.grown b100 b42.size (by rintro k ⟨⟩; omega)
  replace b33 := b33.grown b100 b33.size (by rintro k ⟨⟩; omega)
  replace b27 := b27.grown b100 b27.size (by rintro k ⟨⟩; omega)
  replace r25 := r25.gr b100 (by have := r25.lt; omega)
  replace b22 := b22.grown b100 b22.size (by rintro k ⟨⟩; omega)
  replace r17 := r17.gr b100 (by have := r17.lt; omega)
  replace b14 := b14.grown b100 b14.size (by rintro k ⟨⟩; omega)
  replace r10 := r10.gr b100 (by have := r10.lt; omega)
  replace b7 := b7.grown b100 b7.size (by rintro k ⟨⟩; omega)
  replace r4 := r4.gr b100 (by have := r4.lt; omega)
  replace b1 := b1.grown b100 b1.size (by rintro k ⟨⟩; omega)
  replace q := q.grown b100 q.size (by rintro k ⟨⟩; omega)
  replace r36 := r36.gr b100 (by have := r36.lt; omega)
  replace r52 := r52.gr b100 (by have := r52.lt; omega)
  replace r82 := r82.gr b100 (by have := r82.lt; omega)
  have r94 := r102
  clear r102
  refine LL.nilS ?_
  refine CC.seq ?_
  refine CC.region ?_
  refine LL.val (R.load rfl rfl (I.ldNc (vs := [Value.int IntKind.i64 ↑b, Value.int IntKind.i64 ↑i, Value.int IntKind.i64 ↑r, Value.int IntKind.i64 ↑t, Value.int IntKind.u64 ↑k1, Value.int IntKind.u64 ↑k2, Value.int IntKind.i64 9, Value.int IntKind.i64 (9 + ↑i / 4), Value.int IntKind.i64 (9 + ↑i / 4 + ↑r / 4), Value.int IntKind.i64 (10 + ↑i / 4 + ↑r / 4)]) (RowL.cells r36 rfl) (by rfl) (by rfl))) rfl rfl rfl ?_
  refine LL.call (R.call rfl rfl rfl) rfl rfl rfl (peach_any _ _ _ _ _ _ _ _ _ _ _) ?_
  rintro e W105 ⟨g106, rfl, r107, l108, b104⟩
  refine ⟨_, rfl, ?_⟩
  have zb104 := b104.size
  replace b79 := b79.trans (b104.mono b79.size)
  replace ht1 := ht1.up b104
  replace ht2 := ht2.up b104
  replace b63 := b63.trans (b104.mono b63.size)
  replace b61 := b61.trans (b104.mono b61.size)
  replace b49 := b49.trans (b104.mono b49.size)
  replace b42 := b42.trans (b104.mono b42.size)
  replace b33 := b33.trans (b104.mono b33.size)
  replace b27 := b27.trans (b104.mono b27.size)
  replace r25 := r25.up b104
  replace b22 := b22.trans (b104.mono b22.size)
  replace r17 := r17.up b104
  replace b14 := b14.trans (b104.mono b14.size)
  replace r10 := r10.up b104
  replace b7 := b7.trans (b104.mono b7.size)
  replace r4 := r4.up b104
  replace b1 := b1.trans (b104.mono b1.size)
  replace q := q.trans (b104.mono q.size)
  replace r36 := r36.up b104
  replace r52 := r52.up b104
  replace r82 := r82.up b104
  replace r94 := r94.up b104
  refine LL.val (R.assign rfl rfl) rfl rfl rfl ?_
  refine LL.nilS ?_
  refine CC.seq ?_
  refine CC.seq ?_
  refine CC.region ?_
  refine LL.val (R.move rfl rfl) rfl rfl rfl ?_
  refine LL.val (R.eqFn rfl rfl rfl rfl) rfl rfl rfl ?_
  refine LL.nilS ?_
  refine CC.no rfl ?_
  refine CC.skip ?_
  refine EE.thenN ?_
  refine CC.seq ?_
  refine CC.seq ?_
  refine CC.region ?_
  have l109 := r107.lt
  have l110 := r25.lt
  have l111 := r17.lt
  have l112 := r10.lt
  have l113 := r4.lt
  have l114 := r36.lt
  have l115 := r52.lt
  have l116 := r82.lt
  have l117 := r94.lt
  refine LL.alloc ([Value.int IntKind.i64 0]) rfl rfl rfl rfl rfl ?_
  intro W119 g120 eg120 r121 z122 b118
  replace r107 := r107.up b118
  replace b104 := b104.trans (b118.mono b104.size)
  replace b79 := b79.trans (b118.mono b79.size)
  replace ht1 := ht1.up b118
  replace ht2 := ht2.up b118
  replace b63 := b63.trans (b118.mono b63.size)
  replace b61 := b61.trans (b118.mono b61.size)
  replace b49 := b49.trans (b118.mono b49.size)
  replace b42 := b42.trans (b118.mono b42.size)
  replace b33 := b33.trans (b118.mono b33.size)
  replace b27 := b27.trans (b118.mono b27.size)
  replace r25 := r25.up b118
  replace b22 := b22.trans (b118.mono b22.size)
  replace r17 := r17.up b118
  replace b14 := b14.trans (b118.mono b14.size)
  replace r10 := r10.up b118
  replace b7 := b7.trans (b118.mono b7.size)
  replace r4 := r4.up b118
  replace b1 := b1.trans (b118.mono b1.size)
  replace q := q.trans (b118.mono q.size)
  replace r36 := r36.up b118
  replace r52 := r52.up b118
  replace r82 := r82.up b118
  replace r94 := r94.up b118
  refine LL.store rfl rfl rfl rfl r121 (by exact Nat.le_of_ble_eq_true rfl) rfl rfl rfl rfl ?_
  intro W124 r125 b123 z126
  have hlb123 := r121.lt
  replace r125 : RowL W124 _ 3 [Value.int IntKind.i64 0] := r125
  clear r121
  replace b118 := b118.grown b123 b118.size (by rintro k ⟨⟩; omega)
  replace r107 := r107.gr b123 (by have := r107.lt; omega)
  replace b104 := b104.grown b123 b104.size (by rintro k ⟨⟩; omega)
  replace b79 := b79.grown b123 b79.size (by rintro k ⟨⟩; omega)
  replace ht1 := ht1.gr b123 (by omega)
  replace ht2 := ht2.gr b123 (by omega)
  replace b63 := b63.grown b123 b63.size (by rintro k ⟨⟩; omega)
  replace b61 := b61.grown b123 b61.size (by rintro k ⟨⟩; omega)
  replace b49 := b49.grown b123 b49.size (by rintro k ⟨⟩; omega)
  replace b42 := b42.grown b123 b42.size (by rintro k ⟨⟩; omega)
  replace b33 := b33.grown b123 b33.size (by rintro k ⟨⟩; omega)
  replace b27 := b27.grown b123 b27.size (by rintro k ⟨⟩; omega)
  replace r25 := r25.gr b123 (by have := r25.lt; omega)
  replace b22 := b22.grown b123 b22.size (by rintro k ⟨⟩; omega)
  replace r17 := r17.gr b123 (by have := r17.lt; omega)
  replace b14 := b14.grown b123 b14.size (by rintro k ⟨⟩; omega)
  replace r10 := r10.gr b123 (by have := r10.lt; omega)
  replace b7 := b7.grown b123 b7.size (by rintro k ⟨⟩; omega)
  replace r4 := r4.gr b123 (by have := r4.lt; omega)
  replace b1 := b1.grown b123 b1.size (by rintro k ⟨⟩; omega)
  replace q := q.grown b123 q.size (by rintro k ⟨⟩; omega)
  replace r36 := r36.gr b123 (by have := r36.lt; omega)
  replace r52 := r52.gr b123 (by have := r52.lt; omega)
  replace r82 := r82.gr b123 (by have := r82.lt; omega)
  replace r94 := r94.gr b123 (by have := r94.lt; omega)
  have r121 := r125
  clear r125
  refine LL.nilS ?_
  refine CC.block ?_
  have hL1 : isL (b : Int) i r t 9 (9 + (i : Int) / 4) (9 + (i : Int) / 4 + (r : Int) / 4) (10 + (i : Int) / 4 + (r : Int) / 4) := by omega
  obtain ⟨L, hL⟩ : ∃ L, allP b i r = L := ⟨_, rfl⟩
  rw [hL] at ht1 ht2 r82 r94 hlen
  obtain ⟨N, hN⟩ : ∃ N, L.length = N := ⟨_, rfl⟩
  rw [hN] at ht1 ht2 r82 r94 hlen
  have hN2 : N ≤ 8192 := by omega
  clear b1 b7 b14 b22 b27 b33 b42 b49 b61 b63 b79 b91 b96 b100 b104 b118 b123 r4 r10 r36 r52 hpp hpf hok
  have hG := each_gives b i r t k1 k2 _ _ _ _ g106 W124 hL1 ⟨_, r107⟩
  have qB := Below.refl W124.heap.size W124
  have j16 := r17.lt
  have j24 := r25.lt
  have j81 := r82.lt
  have j93 := r94.lt
  refine CC.keep [(7, .pointer (some ⟨g16, 0, none⟩)), (8, .pointer (some ⟨g24, 0, none⟩)), (13, .pointer (some ⟨g81, 0, none⟩)), (14, .pointer (some ⟨g93, 0, none⟩)), (15, .func (.func 36) #[] [Value.pointer (some ⟨g106, 0, none⟩)].toArray), (16, .pointer (some ⟨g120, 0, none⟩))] ⟨rfl, rfl, rfl, rfl, rfl, rfl, trivial⟩ ?_
  refine CC.loopN 3 ?_
  have hV : LvP W124 w g16 g24 g81 g93 g106 g120 many _ _ _ L 0 := ⟨r17, r25, r82, r94, r107, r121, ht1, ht2, q⟩
  have jsz := q.size
  clear ht1 ht2 r82 r94 r107
  refine RN.step ?_
  refine CC.seq ?_
  refine CC.seq ?_
  refine CC.region ?_
  refine LL.val (R.load rfl rfl (I.ld1 rfl (RowL.cell r121 rfl))) rfl rfl rfl ?_
  refine LL.val (R.ltT rfl rfl rfl (by omega)) rfl rfl rfl ?_
  refine LL.nilS ?_
  refine CC.yes rfl ?_
  refine CC.skip ?_
  refine EE.thenN ?_
  refine CC.seq ?_
  refine CC.block ?_
  refine CC.seq ?_
  refine CC.region ?_
  have la1 := r25.lt
  have la2 := r17.lt
  have la3 := r121.lt
  refine LL.alloc ([Value.int IntKind.i64 0]) rfl rfl rfl rfl rfl ?_
  intro Wa5 ga6 ega6 ra7 za8 ba4
  replace r25 := r25.up ba4
  replace r17 := r17.up ba4
  replace q := q.trans (ba4.mono q.size)
  replace r121 := r121.up ba4
  replace qB := qB.trans (ba4.mono qB.size)
  refine LL.store rfl rfl rfl rfl ra7 (by exact Nat.le_of_ble_eq_true rfl) rfl rfl rfl rfl ?_
  intro Wa10 ra11 ba9 za12
  have hlba9 := ra7.lt
  replace ra11 : RowL Wa10 _ 3 [Value.int IntKind.i64 0] := ra11
  clear ra7
  replace ba4 := ba4.grown ba9 ba4.size (by rintro k ⟨⟩; omega)
  replace r25 := r25.gr ba9 (by have := r25.lt; omega)
  replace r17 := r17.gr ba9 (by have := r17.lt; omega)
  replace q := q.grown ba9 q.size (by rintro k ⟨⟩; omega)
  replace r121 := r121.gr ba9 (by have := r121.lt; omega)
  replace qB := qB.grown ba9 qB.size (by rintro k ⟨⟩; omega)
  have ra7 := ra11
  clear ra11
  refine LL.nilS ?_
  refine CC.seq ?_
  refine CC.seq ?_
  refine CC.region ?_
  refine LL.val (R.move rfl rfl) rfl rfl rfl ?_
  refine LL.nilS ?_
  refine CC.block ?_
  clear r17 r25 r121
  -- turns
  have yB := qB.size
  have kn := ra7.lt
  refine CC.rangeZ (γ := Nat) (gf := 36) (lb := [Value.pointer (some ⟨g106, 0, none⟩)]) (encs := paE) rfl rfl hG qB (fun _ h => h.elim) (fun _ => rfl) rfl
    (fun m (pre : List Pa) W' => Below W124.heap.size W124 W' ∧ RowL W' ga6 3 [.int .i64 (pre.length : Int)] ∧ (pre.length = 0 ∨ (pre.length : Int) < many))
    (fun m (pre : List Pa) W' => Below W124.heap.size W124 W' ∧ RowL W' ga6 3 [.int .i64 (pre.length : Int)] ∧ (many ≤ pre.length ∧ (pre.length = 1 ∨ (pre.length : Int) - 1 < many) ∧ 1 ≤ pre.length ∧ pre.length ≤ N))
    (fun W' => Below W124.heap.size W124 W' ∧ ∃ p : Nat, RowL W' ga6 3 [.int .i64 (p : Int)] ∧ ((p : Int) = if (if 1 < many then many else 1) < (N : Int) then (if 1 < many then many else 1) else (N : Int)))
    (fun m m' s X Y hs ht hg => ⟨hs.1.trans (ht.below yB hs.1.size), ht.row hs.2.1 (.inl kn), hs.2.2⟩)
    (fun m m' s X Y hs ht hg => ⟨hs.1.trans (ht.below yB hs.1.size), ht.row hs.2.1 (.inl kn), hs.2.2⟩)
    ⟨qB, ra7, .inl rfl⟩ ?hIA ?hIxA
    (fun x g => sl [(7, .pointer (some ⟨g16, 0, none⟩)), (8, .pointer (some ⟨g24, 0, none⟩)), (13, .pointer (some ⟨g81, 0, none⟩)), (14, .pointer (some ⟨g93, 0, none⟩)), (16, .pointer (some ⟨g120, 0, none⟩)), (17, .pointer (some ⟨ga6, 0, none⟩)), (18, .int .i64 (x.1 : Int)), (19, .pointer (some ⟨g, 0, none⟩))]) (fun x g W' => RowL W' g 46 [.int .i64 (x.2.1 : Int), .int .i64 (x.2.2 : Int)] ∧ ga6 < g) (fun x g => fun _ W W' row h hg hr => ⟨RowL.own () W W' row h.1 hg hr, h.2⟩) ?assign ?body ?after
  case hIA =>
    rintro m xs W' hxs ⟨h1, h2, h3⟩
    rw [hL] at hxs
    have hl3 : (xs.length : Int) = N := by rw [hxs]; omega
    exact ⟨h1, _, h2, by rcases h3 with h3 | h3 <;> split <;> split <;> omega⟩
  case hIxA =>
    rintro m pre W' hp ⟨h1, h2, h3⟩
    exact ⟨h1, pre.length, h2, by split <;> split <;> omega⟩
  case assign =>
    rintro l' m pre x W K hm ⟨h1, hn, h3⟩ hK
    have qa := Below.refl W.heap.size W
    have ySz := h1.size
    have hgn := hn.lt
    refine CC.seq ?_
    refine CC.region ?_
    refine LL.val (R.assign rfl rfl) rfl rfl rfl ?_
    refine LL.nilS ?_
    refine CC.region ?_
    have lb1 := hn.lt
    refine LL.alloc ([Value.int IntKind.i64 0, Value.int IntKind.i64 0]) rfl rfl rfl rfl rfl ?_
    intro Wb3 gb4 egb4 rb5 zb6 bb2
    replace h1 := h1.trans (bb2.mono h1.size)
    replace hn := hn.up bb2
    replace qa := qa.trans (bb2.mono qa.size)
    refine LL.storeN (vs := [Value.int IntKind.i64 ↑x.2.1, Value.int IntKind.i64 ↑x.2.2]) rfl rfl rfl rfl rb5 (by exact Nat.le_of_ble_eq_true rfl) (ones_of rfl) rfl rfl ?_
    intro Wb8 rb9 bb7 zb10
    have hlbb7 := rb5.lt
    replace rb9 : RowL Wb8 _ 46 [Value.int IntKind.i64 ↑x.2.1, Value.int IntKind.i64 ↑x.2.2] := rb9
    clear rb5
    replace bb2 := bb2.grown bb7 bb2.size (by rintro k ⟨⟩; omega)
    replace h1 := h1.grown bb7 h1.size (by rintro k ⟨⟩; omega)
    replace hn := hn.gr bb7 (by have := hn.lt; omega)
    replace qa := qa.grown bb7 qa.size (by rintro k ⟨⟩; omega)
    have rb5 := rb9
    clear rb9
    refine LL.nil ?_
    exact EE.thenK fun a' F => hK a' _ _ (StaysZ.of_below qa) (Keeps.of_below (fun k hk => hk.elim) qa) ⟨h1, hn, h3⟩ (F.keep _ ⟨rfl, rfl, rfl, rfl, rfl, rfl, rfl, rfl, trivial⟩) ⟨by assumption, by omega⟩
  case body =>
    rintro l'' m pre x g W hm hl' hrl ⟨h1, hn, h3⟩ ⟨hax, hgg⟩ ⟨xs, hxs, tt, hp⟩
    rw [hxs, hL] at hp
    have hget : L[pre.length]? = some x := by rw [← hp]; simp
    have hpl : pre.length < N := by rw [← hN]; exact (List.getElem?_eq_some_iff.1 hget).1
    have hxd : (pre ++ [x]).length = pre.length + 1 := by simp
    obtain ⟨rm, rr, rp, ra, re, rt, p1, p2, bel⟩ := hV.lift h1
    obtain ⟨_, _, e1, _, hcs⟩ := p1.get ePc (i := pre.length) (t := x.2) (by simp [ptsL, hget])
    cases e1
    obtain ⟨_, _, e1, _, hc1⟩ := p2.one eIc (i := pre.length) (t := x.1) (by simp [atsL, hget])
    cases e1
    have c1 := hc1 _ rfl
    replace hcs : Cells W ⟨x70, y71 + pre.length * 2, none⟩ [.int .i64 (x.2.1 : Int), .int .i64 (x.2.2 : Int)] := hcs
    have st := StaysZ.refl Wa10.heap.size m W
    have kp := Keeps.refl (fun _ => False) W
    clear hc1 p1 p2 re bel hl' hrl hxs hp hm hget
    by_cases hmany : many ≤ (pre.length : Int) + 1
    · refine CC.block ?_
      refine CC.seq ?_
      refine CC.seq ?_
      refine CC.quietB (by kernel_rfl) (by kernel_rfl) (fun Wc2 bc1 zc3 => ?_)
      replace h1 := h1.trans (bc1.mono h1.size)
      replace hn := hn.up bc1
      replace hax := hax.up bc1
      replace rm := rm.up bc1
      replace rr := rr.up bc1
      replace rp := rp.up bc1
      replace ra := ra.up bc1
      replace rt := rt.up bc1
      replace c1 := cell_up c1 bc1
      replace hcs := hcs.up bc1
      replace st := st.trans (StaysZ.of_below bc1)
      replace kp := kp.trans (Keeps.of_below (fun k hk => hk.elim) bc1)
      refine SS.val (R.load rfl rfl (I.ld1 rfl (RowL.cell hn rfl))) rfl rfl ?_
      refine SS.val (R.load rfl rfl (I.ld1 rfl (RowL.cell rp rfl))) rfl rfl ?_
      refine SS.val (R.len rfl rfl rfl rfl) rfl rfl ?_
      refine SS.val (R.geF rfl rfl rfl (by omega)) rfl rfl ?_
      refine SS.val (R.move rfl rfl) rfl rfl ?_
      refine SS.val (R.move rfl rfl) rfl rfl ?_
      refine SS.val (R.load rfl rfl (I.ld1 rfl (RowL.cell ra rfl))) rfl rfl ?_
      refine SS.val (R.load rfl rfl (I.ld1 rfl (RowL.cell hn rfl))) rfl rfl ?_
      refine SS.val (R.index rfl rfl rfl (I.ixS1 rfl (by omega))) rfl rfl ?_
      refine SS.val (R.load rfl rfl (I.ld1 rfl (by assumption))) rfl rfl ?_
      refine SS.val (R.neF rfl rfl rfl (by omega)) rfl rfl ?_
      refine SS.val (R.pick rfl rfl rfl) rfl rfl ?_
      refine SS.val (R.move rfl rfl) rfl rfl ?_
      refine SS.val (R.load rfl rfl (I.ldNc (vs := [Value.int IntKind.i64 ↑x.2.1, Value.int IntKind.i64 ↑x.2.2]) (RowL.cells hax rfl) (by rfl) (by rfl))) rfl rfl ?_
      refine SS.val (R.load rfl rfl (I.ld1 rfl (RowL.cell rp rfl))) rfl rfl ?_
      refine SS.val (R.load rfl rfl (I.ld1 rfl (RowL.cell hn rfl))) rfl rfl ?_
      refine SS.val (R.index rfl rfl rfl (I.ixS rfl (by omega))) rfl rfl ?_
      refine SS.val (R.load rfl rfl (I.ldNc (by assumption) rfl rfl)) rfl rfl ?_
      refine SS.val (R.neST (p := (↑x.2.1 : Int) = ↑x.2.1 ∧ (↑x.2.2 : Int) = ↑x.2.2) (bs := [decide ((↑x.2.1 : Int) = ↑x.2.1), decide ((↑x.2.2 : Int) = ↑x.2.2)]) rfl rfl rfl rfl (by kernel_rfl) (by kernel_rfl) (by simp) (by first | assumption | omega)) rfl rfl ?_
      refine SS.val (R.pick rfl rfl rfl) rfl rfl ?_
      refine SS.nilQ ?_
      refine EE.thenN ?_
      refine CC.no rfl ?_
      refine CC.skip ?_
      refine EE.thenN ?_
      refine CC.seq ?_
      refine CC.region ?_
      refine LL.val (R.load rfl rfl (I.ld1 rfl (RowL.cell hn rfl))) rfl rfl rfl ?_
      refine LL.val (R.addNc rfl rfl rfl rfl (by omega)) rfl rfl rfl ?_
      refine LL.store rfl rfl rfl rfl hn (by exact Nat.le_of_ble_eq_true rfl) rfl rfl rfl rfl ?_
      intro Wc5 rc6 bc4 zc7
      have hlbc4 := hn.lt
      replace rc6 : RowL Wc5 _ 3 [Value.int IntKind.i64 ↑(pre.length + 1)] := rc6
      clear hn
      replace h1 := h1.grown bc4 h1.size (by rintro k ⟨⟩; omega)
      replace hax := hax.gr bc4 (by have := hax.lt; omega)
      replace rm := rm.gr bc4 (by have := rm.lt; omega)
      replace rr := rr.gr bc4 (by have := rr.lt; omega)
      replace rp := rp.gr bc4 (by have := rp.lt; omega)
      replace ra := ra.gr bc4 (by have := ra.lt; omega)
      replace rt := rt.gr bc4 (by have := rt.lt; omega)
      replace c1 := cell_gr c1 bc4 (by omega)
      replace hcs := hcs.gr bc4 (by omega)
      replace st := st.trans (StaysZ.of_grown bc4 (by omega))
      replace kp := kp.trans (Keeps.of_grown bc4 fun k hk => hk.elim)
      have hn := rc6
      clear rc6
      refine LL.nilS ?_
      refine CC.seq ?_
      refine CC.region ?_
      refine LL.val (R.load rfl rfl (I.ld1 rfl (RowL.cell rt rfl))) rfl rfl rfl ?_
      refine LL.val (R.eqT rfl rfl rfl (by omega)) rfl rfl rfl ?_
      refine LL.val (R.move rfl rfl) rfl rfl rfl ?_
      refine LL.val (R.load rfl rfl (I.ld1 rfl (RowL.cell hn rfl))) rfl rfl rfl ?_
      refine LL.val (R.load rfl rfl (I.ld1 rfl (RowL.cell rm rfl))) rfl rfl rfl ?_
      refine LL.val (R.geT rfl rfl rfl (by omega)) rfl rfl rfl ?_
      refine LL.val (R.pick rfl rfl rfl) rfl rfl rfl ?_
      refine LL.nilS ?_
      refine CC.yes rfl ?_
      refine CC.exit ?_
      refine EE.inX' rfl ?_
      exact EE.roundXZ ⟨st, rfl, h1, by rw [hxd]; exact hn, by rw [hxd]; omega, by rw [hxd]; omega, by rw [hxd]; omega, by rw [hxd]; omega⟩
    · refine CC.block ?_
      refine CC.seq ?_
      refine CC.seq ?_
      refine CC.quietB (by kernel_rfl) (by kernel_rfl) (fun Wd2 bd1 zd3 => ?_)
      replace h1 := h1.trans (bd1.mono h1.size)
      replace hn := hn.up bd1
      replace hax := hax.up bd1
      replace rm := rm.up bd1
      replace rr := rr.up bd1
      replace rp := rp.up bd1
      replace ra := ra.up bd1
      replace rt := rt.up bd1
      replace c1 := cell_up c1 bd1
      replace hcs := hcs.up bd1
      replace st := st.trans (StaysZ.of_below bd1)
      replace kp := kp.trans (Keeps.of_below (fun k hk => hk.elim) bd1)
      refine SS.val (R.load rfl rfl (I.ld1 rfl (RowL.cell hn rfl))) rfl rfl ?_
      refine SS.val (R.load rfl rfl (I.ld1 rfl (RowL.cell rp rfl))) rfl rfl ?_
      refine SS.val (R.len rfl rfl rfl rfl) rfl rfl ?_
      refine SS.val (R.geF rfl rfl rfl (by omega)) rfl rfl ?_
      refine SS.val (R.move rfl rfl) rfl rfl ?_
      refine SS.val (R.move rfl rfl) rfl rfl ?_
      refine SS.val (R.load rfl rfl (I.ld1 rfl (RowL.cell ra rfl))) rfl rfl ?_
      refine SS.val (R.load rfl rfl (I.ld1 rfl (RowL.cell hn rfl))) rfl rfl ?_
      refine SS.val (R.index rfl rfl rfl (I.ixS1 rfl (by omega))) rfl rfl ?_
      refine SS.val (R.load rfl rfl (I.ld1 rfl (by assumption))) rfl rfl ?_
      refine SS.val (R.neF rfl rfl rfl (by omega)) rfl rfl ?_
      refine SS.val (R.pick rfl rfl rfl) rfl rfl ?_
      refine SS.val (R.move rfl rfl) rfl rfl ?_
      refine SS.val (R.load rfl rfl (I.ldNc (vs := [Value.int IntKind.i64 ↑x.2.1, Value.int IntKind.i64 ↑x.2.2]) (RowL.cells hax rfl) (by rfl) (by rfl))) rfl rfl ?_
      refine SS.val (R.load rfl rfl (I.ld1 rfl (RowL.cell rp rfl))) rfl rfl ?_
      refine SS.val (R.load rfl rfl (I.ld1 rfl (RowL.cell hn rfl))) rfl rfl ?_
      refine SS.val (R.index rfl rfl rfl (I.ixS rfl (by omega))) rfl rfl ?_
      refine SS.val (R.load rfl rfl (I.ldNc (by assumption) rfl rfl)) rfl rfl ?_
      refine SS.val (R.neST (p := (↑x.2.1 : Int) = ↑x.2.1 ∧ (↑x.2.2 : Int) = ↑x.2.2) (bs := [decide ((↑x.2.1 : Int) = ↑x.2.1), decide ((↑x.2.2 : Int) = ↑x.2.2)]) rfl rfl rfl rfl (by kernel_rfl) (by kernel_rfl) (by simp) (by first | assumption | omega)) rfl rfl ?_
      refine SS.val (R.pick rfl rfl rfl) rfl rfl ?_
      refine SS.nilQ ?_
      refine EE.thenN ?_
      refine CC.no rfl ?_
      refine CC.skip ?_
      refine EE.thenN ?_
      refine CC.seq ?_
      refine CC.region ?_
      refine LL.val (R.load rfl rfl (I.ld1 rfl (RowL.cell hn rfl))) rfl rfl rfl ?_
      refine LL.val (R.addNc rfl rfl rfl rfl (by omega)) rfl rfl rfl ?_
      refine LL.store rfl rfl rfl rfl hn (by exact Nat.le_of_ble_eq_true rfl) rfl rfl rfl rfl ?_
      intro Wd5 rd6 bd4 zd7
      have hlbd4 := hn.lt
      replace rd6 : RowL Wd5 _ 3 [Value.int IntKind.i64 ↑(pre.length + 1)] := rd6
      clear hn
      replace h1 := h1.grown bd4 h1.size (by rintro k ⟨⟩; omega)
      replace hax := hax.gr bd4 (by have := hax.lt; omega)
      replace rm := rm.gr bd4 (by have := rm.lt; omega)
      replace rr := rr.gr bd4 (by have := rr.lt; omega)
      replace rp := rp.gr bd4 (by have := rp.lt; omega)
      replace ra := ra.gr bd4 (by have := ra.lt; omega)
      replace rt := rt.gr bd4 (by have := rt.lt; omega)
      replace c1 := cell_gr c1 bd4 (by omega)
      replace hcs := hcs.gr bd4 (by omega)
      replace st := st.trans (StaysZ.of_grown bd4 (by omega))
      replace kp := kp.trans (Keeps.of_grown bd4 fun k hk => hk.elim)
      have hn := rd6
      clear rd6
      refine LL.nilS ?_
      refine CC.seq ?_
      refine CC.region ?_
      refine LL.val (R.load rfl rfl (I.ld1 rfl (RowL.cell rt rfl))) rfl rfl rfl ?_
      refine LL.val (R.eqT rfl rfl rfl (by omega)) rfl rfl rfl ?_
      refine LL.val (R.move rfl rfl) rfl rfl rfl ?_
      refine LL.val (R.load rfl rfl (I.ld1 rfl (RowL.cell hn rfl))) rfl rfl rfl ?_
      refine LL.val (R.load rfl rfl (I.ld1 rfl (RowL.cell rm rfl))) rfl rfl rfl ?_
      refine LL.val (R.geF rfl rfl rfl (by omega)) rfl rfl rfl ?_
      refine LL.val (R.pick rfl rfl rfl) rfl rfl rfl ?_
      refine LL.nilS ?_
      refine CC.no rfl ?_
      refine CC.skip ?_
      refine EE.inN ?_
      exact EE.roundNZ ⟨st, kp, h1, by rw [hxd]; exact hn, .inr (by rw [hxd]; omega)⟩
  case after =>
    rintro E0 W hE0 ⟨h1, p, hn, hcp⟩ hE01
    obtain ⟨rm, rr, rp, ra, re, rt, p1, p2, bel⟩ := hV.lift h1
    have yz := h1.size
    have eE0 := (Array.getElem?_eq_some_iff.1 hE01).1
    refine EE.thenN ?_
    refine CC.seq ?_
    refine CC.region ?_
    refine LL.val (R.load rfl rfl (I.ld1 rfl (RowL.cell rt rfl))) rfl rfl rfl ?_
    refine LL.val (R.eqT rfl rfl rfl (by omega)) rfl rfl rfl ?_
    refine LL.val (R.move rfl rfl) rfl rfl rfl ?_
    refine LL.val (R.load rfl rfl (I.ld1 rfl (RowL.cell hn rfl))) rfl rfl rfl ?_
    refine LL.val (R.load rfl rfl (I.ld1 rfl (RowL.cell rp rfl))) rfl rfl rfl ?_
    refine LL.val (R.len rfl rfl rfl rfl) rfl rfl rfl ?_
    refine LL.val (R.load rfl rfl (I.ld1 rfl (RowL.cell rm rfl))) rfl rfl rfl ?_
    refine LL.val (R.max rfl rfl) rfl rfl rfl ?_
    refine LL.val (R.min rfl rfl) rfl rfl rfl ?_
    refine LL.val (R.neF rfl rfl rfl (by omega)) rfl rfl rfl ?_
    refine LL.val (R.pick rfl rfl rfl) rfl rfl rfl ?_
    refine LL.val (R.move rfl rfl) rfl rfl rfl ?_
    refine LL.val (R.load rfl rfl (I.ld1 rfl (RowL.cell rt rfl))) rfl rfl rfl ?_
    refine LL.val (R.eqF rfl rfl rfl (by omega)) rfl rfl rfl ?_
    refine LL.val (R.move rfl rfl) rfl rfl rfl ?_
    refine LL.skip rfl rfl ?_
    refine LL.skip rfl rfl ?_
    refine LL.skip rfl rfl ?_
    refine LL.skip rfl rfl ?_
    refine LL.val (R.pick rfl rfl rfl) rfl rfl rfl ?_
    refine LL.val (R.pick rfl rfl rfl) rfl rfl rfl ?_
    refine LL.nilS ?_
    refine CC.no rfl ?_
    refine CC.skip ?_
    refine EE.inN ?_
    refine EE.thenN ?_
    refine CC.seq ?_
    refine CC.seq ?_
    refine CC.region ?_
    refine LL.val (R.load rfl rfl (I.ld1 rfl (RowL.cell rt rfl))) rfl rfl rfl ?_
    refine LL.nilS ?_
    refine CC.region ?_
    have le1 := hn.lt
    have le2 := rm.lt
    have le3 := rr.lt
    have le4 := rp.lt
    have le5 := ra.lt
    have le6 := re.lt
    have le7 := rt.lt
    refine LL.alloc ([Value.int IntKind.i64 0]) rfl rfl rfl rfl rfl ?_
    intro We9 ge10 ege10 re11 ze12 be8
    replace h1 := h1.trans (be8.mono h1.size)
    replace hn := hn.up be8
    replace hE01 := defer_up hE01 be8
    replace rm := rm.up be8
    replace rr := rr.up be8
    replace rp := rp.up be8
    replace ra := ra.up be8
    replace re := re.up be8
    replace rt := rt.up be8
    replace p1 := p1.up be8
    replace p2 := p2.up be8
    replace bel := bel.trans (be8.mono bel.size)
    refine LL.store rfl rfl rfl rfl re11 (by exact Nat.le_of_ble_eq_true rfl) rfl rfl rfl rfl ?_
    intro We14 re15 be13 ze16
    have hlbe13 := re11.lt
    replace re15 : RowL We14 _ 3 [Value.int IntKind.i64 0] := re15
    clear re11
    replace be8 := be8.grown be13 be8.size (by rintro k ⟨⟩; omega)
    replace h1 := h1.grown be13 h1.size (by rintro k ⟨⟩; omega)
    replace hn := hn.gr be13 (by have := hn.lt; omega)
    replace hE01 := (be13.block _ (Array.getElem?_eq_some_iff.1 hE01).1 (by simp; omega)).trans hE01
    replace rm := rm.gr be13 (by have := rm.lt; omega)
    replace rr := rr.gr be13 (by have := rr.lt; omega)
    replace rp := rp.gr be13 (by have := rp.lt; omega)
    replace ra := ra.gr be13 (by have := ra.lt; omega)
    replace re := re.gr be13 (by have := re.lt; omega)
    replace rt := rt.gr be13 (by have := rt.lt; omega)
    replace p1 := p1.gr be13 (by omega)
    replace p2 := p2.gr be13 (by omega)
    replace bel := bel.grown be13 bel.size (by rintro k ⟨⟩; omega)
    have re11 := re15
    clear re15
    refine LL.nilS ?_
    refine CC.region ?_
    refine LL.val (R.load rfl rfl (I.ld1 rfl (RowL.cell re11 rfl))) rfl rfl rfl ?_
    refine LL.val (R.addIz (z := 1) rfl rfl rfl (by decide) (by decide)) rfl rfl rfl ?_
    refine LL.store rfl rfl rfl rfl re11 (by exact Nat.le_of_ble_eq_true rfl) rfl rfl rfl rfl ?_
    intro We18 re19 be17 ze20
    have hlbe17 := re11.lt
    replace re19 : RowL We18 _ 3 [Value.int IntKind.i64 1] := re19
    clear re11
    replace be8 := be8.grown be17 be8.size (by rintro k ⟨⟩; omega)
    replace h1 := h1.grown be17 h1.size (by rintro k ⟨⟩; omega)
    replace hn := hn.gr be17 (by have := hn.lt; omega)
    replace hE01 := (be17.block _ (Array.getElem?_eq_some_iff.1 hE01).1 (by simp; omega)).trans hE01
    replace rm := rm.gr be17 (by have := rm.lt; omega)
    replace rr := rr.gr be17 (by have := rr.lt; omega)
    replace rp := rp.gr be17 (by have := rp.lt; omega)
    replace ra := ra.gr be17 (by have := ra.lt; omega)
    replace re := re.gr be17 (by have := re.lt; omega)
    replace rt := rt.gr be17 (by have := rt.lt; omega)
    replace p1 := p1.gr be17 (by omega)
    replace p2 := p2.gr be17 (by omega)
    replace bel := bel.grown be17 bel.size (by rintro k ⟨⟩; omega)
    have re11 := re19
    clear re19
    refine LL.nil ?_
    refine EE.again ?_
    have hV1 : LvP We18 w g16 g24 g81 g93 g106 ge10 many _ _ _ L 1 := ⟨rm, rr, rp, ra, re, re11, p1, p2, bel⟩
    have hG := each_gives b i r t k1 k2 _ _ _ _ g106 We18 hL1 ⟨_, re⟩
    have qB := Below.refl We18.heap.size We18
    have jsz := bel.size
    have hE0k : ∀ W', Below We18.heap.size We18 W' → W'.heap[E0]? = some (.deferred (some [])) := fun W' h => defer_up hE01 h
    clear h1 hn hcp rt ra rp re p1 p2 be8 be13 be17 kn hE01
    refine RN.keep [(7, .pointer (some ⟨g16, 0, none⟩)), (8, .pointer (some ⟨g24, 0, none⟩)), (13, .pointer (some ⟨g81, 0, none⟩)), (14, .pointer (some ⟨g93, 0, none⟩)), (15, .func (.func 36) #[] [Value.pointer (some ⟨g106, 0, none⟩)].toArray), (16, .pointer (some ⟨ge10, 0, none⟩))] ⟨rfl, rfl, rfl, rfl, rfl, rfl, trivial⟩ ?_
    refine RN.step ?_
    refine CC.seq ?_
    refine CC.seq ?_
    refine CC.region ?_
    refine LL.val (R.load rfl rfl (I.ld1 rfl (RowL.cell re11 rfl))) rfl rfl rfl ?_
    refine LL.val (R.ltT rfl rfl rfl (by omega)) rfl rfl rfl ?_
    refine LL.nilS ?_
    refine CC.yes rfl ?_
    refine CC.skip ?_
    refine EE.thenN ?_
    refine CC.seq ?_
    refine CC.block ?_
    refine CC.seq ?_
    refine CC.region ?_
    have lf1 := rm.lt
    have lf2 := rr.lt
    have lf3 := re11.lt
    refine LL.alloc ([Value.int IntKind.i64 0]) rfl rfl rfl rfl rfl ?_
    intro Wf5 gf6 egf6 rf7 zf8 bf4
    replace rm := rm.up bf4
    replace rr := rr.up bf4
    replace bel := bel.trans (bf4.mono bel.size)
    replace re11 := re11.up bf4
    replace qB := qB.trans (bf4.mono qB.size)
    refine LL.store rfl rfl rfl rfl rf7 (by exact Nat.le_of_ble_eq_true rfl) rfl rfl rfl rfl ?_
    intro Wf10 rf11 bf9 zf12
    have hlbf9 := rf7.lt
    replace rf11 : RowL Wf10 _ 3 [Value.int IntKind.i64 0] := rf11
    clear rf7
    replace bf4 := bf4.grown bf9 bf4.size (by rintro k ⟨⟩; omega)
    replace rm := rm.gr bf9 (by have := rm.lt; omega)
    replace rr := rr.gr bf9 (by have := rr.lt; omega)
    replace bel := bel.grown bf9 bel.size (by rintro k ⟨⟩; omega)
    replace re11 := re11.gr bf9 (by have := re11.lt; omega)
    replace qB := qB.grown bf9 qB.size (by rintro k ⟨⟩; omega)
    have rf7 := rf11
    clear rf11
    refine LL.nilS ?_
    refine CC.seq ?_
    refine CC.seq ?_
    refine CC.region ?_
    refine LL.val (R.move rfl rfl) rfl rfl rfl ?_
    refine LL.nilS ?_
    refine CC.block ?_
    clear rm rr re11 bel
    have yB := qB.size
    have kn := rf7.lt
    refine CC.rangeZ (γ := Nat) (gf := 36) (lb := [Value.pointer (some ⟨g106, 0, none⟩)]) (encs := paE) rfl rfl hG qB (fun _ h => h.elim) (fun _ => rfl) rfl
      (fun m (pre : List Pa) W' => Below We18.heap.size We18 W' ∧ RowL W' gf6 3 [.int .i64 (pre.length : Int)] ∧ True)
      (fun m (pre : List Pa) W' => Below We18.heap.size We18 W' ∧ RowL W' gf6 3 [.int .i64 (pre.length : Int)] ∧ False)
      (fun W' => Below We18.heap.size We18 W' ∧ ∃ p : Nat, RowL W' gf6 3 [.int .i64 (p : Int)] ∧ (p : Int) = N)
      (fun m m' s X Y hs ht hg => ⟨hs.1.trans (ht.below yB hs.1.size), ht.row hs.2.1 (.inl kn), hs.2.2⟩)
      (fun m m' s X Y hs ht hg => ⟨hs.1.trans (ht.below yB hs.1.size), ht.row hs.2.1 (.inl kn), hs.2.2⟩)
      ⟨qB, rf7, trivial⟩ ?hIA ?hIxA
      (fun x g => sl [(7, .pointer (some ⟨g16, 0, none⟩)), (8, .pointer (some ⟨g24, 0, none⟩)), (13, .pointer (some ⟨g81, 0, none⟩)), (14, .pointer (some ⟨g93, 0, none⟩)), (16, .pointer (some ⟨ge10, 0, none⟩)), (17, .pointer (some ⟨gf6, 0, none⟩)), (18, .int .i64 (x.1 : Int)), (19, .pointer (some ⟨g, 0, none⟩))]) (fun x g W' => RowL W' g 46 [.int .i64 (x.2.1 : Int), .int .i64 (x.2.2 : Int)] ∧ gf6 < g) (fun x g => fun _ W W' row h hg hr => ⟨RowL.own () W W' row h.1 hg hr, h.2⟩) ?assign ?body ?after
    case hIA =>
      rintro m xs W' hxs ⟨h1, h2, h3⟩
      rw [hL] at hxs
      have hl3 : (xs.length : Int) = N := by rw [hxs]; omega
      exact ⟨h1, _, h2, by exact hl3⟩
    case hIxA =>
      rintro m pre W' hp ⟨h1, h2, h3⟩
      exact ⟨h1, pre.length, h2, by exact h3.elim⟩
    case assign =>
      rintro l' m pre x W K hm ⟨h1, hn, h3⟩ hK
      have qa := Below.refl W.heap.size W
      have ySz := h1.size
      have hgn := hn.lt
      refine CC.seq ?_
      refine CC.region ?_
      refine LL.val (R.assign rfl rfl) rfl rfl rfl ?_
      refine LL.nilS ?_
      refine CC.region ?_
      have lg1 := hn.lt
      refine LL.alloc ([Value.int IntKind.i64 0, Value.int IntKind.i64 0]) rfl rfl rfl rfl rfl ?_
      intro Wg3 gg4 egg4 rg5 zg6 bg2
      replace h1 := h1.trans (bg2.mono h1.size)
      replace hn := hn.up bg2
      replace qa := qa.trans (bg2.mono qa.size)
      refine LL.storeN (vs := [Value.int IntKind.i64 ↑x.2.1, Value.int IntKind.i64 ↑x.2.2]) rfl rfl rfl rfl rg5 (by exact Nat.le_of_ble_eq_true rfl) (ones_of rfl) rfl rfl ?_
      intro Wg8 rg9 bg7 zg10
      have hlbg7 := rg5.lt
      replace rg9 : RowL Wg8 _ 46 [Value.int IntKind.i64 ↑x.2.1, Value.int IntKind.i64 ↑x.2.2] := rg9
      clear rg5
      replace bg2 := bg2.grown bg7 bg2.size (by rintro k ⟨⟩; omega)
      replace h1 := h1.grown bg7 h1.size (by rintro k ⟨⟩; omega)
      replace hn := hn.gr bg7 (by have := hn.lt; omega)
      replace qa := qa.grown bg7 qa.size (by rintro k ⟨⟩; omega)
      have rg5 := rg9
      clear rg9
      refine LL.nil ?_
      exact EE.thenK fun a' F => hK a' _ _ (StaysZ.of_below qa) (Keeps.of_below (fun k hk => hk.elim) qa) ⟨h1, hn, h3⟩ (F.keep _ ⟨rfl, rfl, rfl, rfl, rfl, rfl, rfl, rfl, trivial⟩) ⟨by assumption, by omega⟩
    case body =>
      rintro l'' m pre x g W hm hl' hrl ⟨h1, hn, h3⟩ ⟨hax, hgg⟩ ⟨xs, hxs, tt, hp⟩
      rw [hxs, hL] at hp
      have hget : L[pre.length]? = some x := by rw [← hp]; simp
      have hpl : pre.length < N := by rw [← hN]; exact (List.getElem?_eq_some_iff.1 hget).1
      have hxd : (pre ++ [x]).length = pre.length + 1 := by simp
      obtain ⟨rm, rr, rp, ra, re, rt, p1, p2, bel⟩ := hV1.lift h1
      obtain ⟨_, _, e1, _, hcs⟩ := p1.get ePc (i := pre.length) (t := x.2) (by simp [ptsL, hget])
      cases e1
      obtain ⟨_, _, e1, _, hc1⟩ := p2.one eIc (i := pre.length) (t := x.1) (by simp [atsL, hget])
      cases e1
      have c1 := hc1 _ rfl
      replace hcs : Cells W ⟨x70, y71 + pre.length * 2, none⟩ [.int .i64 (x.2.1 : Int), .int .i64 (x.2.2 : Int)] := hcs
      have st := StaysZ.refl Wf10.heap.size m W
      have kp := Keeps.refl (fun _ => False) W
      clear hc1 p1 p2 re bel hl' hrl hxs hp hm hget
      refine CC.block ?_
      refine CC.seq ?_
      refine CC.seq ?_
      refine CC.quietB (by kernel_rfl) (by kernel_rfl) (fun Wh2 bh1 zh3 => ?_)
      replace h1 := h1.trans (bh1.mono h1.size)
      replace hn := hn.up bh1
      replace hax := hax.up bh1
      replace rm := rm.up bh1
      replace rr := rr.up bh1
      replace rp := rp.up bh1
      replace ra := ra.up bh1
      replace rt := rt.up bh1
      replace c1 := cell_up c1 bh1
      replace hcs := hcs.up bh1
      replace st := st.trans (StaysZ.of_below bh1)
      replace kp := kp.trans (Keeps.of_below (fun k hk => hk.elim) bh1)
      refine SS.val (R.load rfl rfl (I.ld1 rfl (RowL.cell hn rfl))) rfl rfl ?_
      refine SS.val (R.load rfl rfl (I.ld1 rfl (RowL.cell rp rfl))) rfl rfl ?_
      refine SS.val (R.len rfl rfl rfl rfl) rfl rfl ?_
      refine SS.val (R.geF rfl rfl rfl (by omega)) rfl rfl ?_
      refine SS.val (R.move rfl rfl) rfl rfl ?_
      refine SS.val (R.move rfl rfl) rfl rfl ?_
      refine SS.val (R.load rfl rfl (I.ld1 rfl (RowL.cell ra rfl))) rfl rfl ?_
      refine SS.val (R.load rfl rfl (I.ld1 rfl (RowL.cell hn rfl))) rfl rfl ?_
      refine SS.val (R.index rfl rfl rfl (I.ixS1 rfl (by omega))) rfl rfl ?_
      refine SS.val (R.load rfl rfl (I.ld1 rfl (by assumption))) rfl rfl ?_
      refine SS.val (R.neF rfl rfl rfl (by omega)) rfl rfl ?_
      refine SS.val (R.pick rfl rfl rfl) rfl rfl ?_
      refine SS.val (R.move rfl rfl) rfl rfl ?_
      refine SS.val (R.load rfl rfl (I.ldNc (vs := [Value.int IntKind.i64 ↑x.2.1, Value.int IntKind.i64 ↑x.2.2]) (RowL.cells hax rfl) (by rfl) (by rfl))) rfl rfl ?_
      refine SS.val (R.load rfl rfl (I.ld1 rfl (RowL.cell rp rfl))) rfl rfl ?_
      refine SS.val (R.load rfl rfl (I.ld1 rfl (RowL.cell hn rfl))) rfl rfl ?_
      refine SS.val (R.index rfl rfl rfl (I.ixS rfl (by omega))) rfl rfl ?_
      refine SS.val (R.load rfl rfl (I.ldNc (by assumption) rfl rfl)) rfl rfl ?_
      refine SS.val (R.neST (p := (↑x.2.1 : Int) = ↑x.2.1 ∧ (↑x.2.2 : Int) = ↑x.2.2) (bs := [decide ((↑x.2.1 : Int) = ↑x.2.1), decide ((↑x.2.2 : Int) = ↑x.2.2)]) rfl rfl rfl rfl (by kernel_rfl) (by kernel_rfl) (by simp) (by first | assumption | omega)) rfl rfl ?_
      refine SS.val (R.pick rfl rfl rfl) rfl rfl ?_
      refine SS.nilQ ?_
      refine EE.thenN ?_
      refine CC.no rfl ?_
      refine CC.skip ?_
      refine EE.thenN ?_
      refine CC.seq ?_
      refine CC.region ?_
      refine LL.val (R.load rfl rfl (I.ld1 rfl (RowL.cell hn rfl))) rfl rfl rfl ?_
      refine LL.val (R.addNc rfl rfl rfl rfl (by omega)) rfl rfl rfl ?_
      refine LL.store rfl rfl rfl rfl hn (by exact Nat.le_of_ble_eq_true rfl) rfl rfl rfl rfl ?_
      intro Wh5 rh6 bh4 zh7
      have hlbh4 := hn.lt
      replace rh6 : RowL Wh5 _ 3 [Value.int IntKind.i64 ↑(pre.length + 1)] := rh6
      clear hn
      replace h1 := h1.grown bh4 h1.size (by rintro k ⟨⟩; omega)
      replace hax := hax.gr bh4 (by have := hax.lt; omega)
      replace rm := rm.gr bh4 (by have := rm.lt; omega)
      replace rr := rr.gr bh4 (by have := rr.lt; omega)
      replace rp := rp.gr bh4 (by have := rp.lt; omega)
      replace ra := ra.gr bh4 (by have := ra.lt; omega)
      replace rt := rt.gr bh4 (by have := rt.lt; omega)
      replace c1 := cell_gr c1 bh4 (by omega)
      replace hcs := hcs.gr bh4 (by omega)
      replace st := st.trans (StaysZ.of_grown bh4 (by omega))
      replace kp := kp.trans (Keeps.of_grown bh4 fun k hk => hk.elim)
      have hn := rh6
      clear rh6
      refine LL.nilS ?_
      refine CC.seq ?_
      refine CC.region ?_
      refine LL.val (R.load rfl rfl (I.ld1 rfl (RowL.cell rt rfl))) rfl rfl rfl ?_
      refine LL.val (R.eqF rfl rfl rfl (by omega)) rfl rfl rfl ?_
      refine LL.val (R.move rfl rfl) rfl rfl rfl ?_
      refine LL.skip rfl rfl ?_
      refine LL.skip rfl rfl ?_
      refine LL.skip rfl rfl ?_
      refine LL.val (R.pick rfl rfl rfl) rfl rfl rfl ?_
      refine LL.nilS ?_
      refine CC.no rfl ?_
      refine CC.skip ?_
      refine EE.inN ?_
      exact EE.roundNZ ⟨st, kp, h1, by rw [hxd]; exact hn, trivial⟩
    case after =>
      rintro E1 W hE1 ⟨h1, p, hn, hcp⟩ hE11
      obtain ⟨rm, rr, rp, ra, re, rt, p1, p2, bel⟩ := hV1.lift h1
      have yz := h1.size
      have hE01 := hE0k _ h1
      have eE01 := (Array.getElem?_eq_some_iff.1 hE01).1
      have eE1 := (Array.getElem?_eq_some_iff.1 hE11).1
      refine EE.thenN ?_
      refine CC.seq ?_
      refine CC.region ?_
      refine LL.val (R.load rfl rfl (I.ld1 rfl (RowL.cell rt rfl))) rfl rfl rfl ?_
      refine LL.val (R.eqF rfl rfl rfl (by omega)) rfl rfl rfl ?_
      refine LL.val (R.move rfl rfl) rfl rfl rfl ?_
      refine LL.skip rfl rfl ?_
      refine LL.skip rfl rfl ?_
      refine LL.skip rfl rfl ?_
      refine LL.skip rfl rfl ?_
      refine LL.skip rfl rfl ?_
      refine LL.skip rfl rfl ?_
      refine LL.skip rfl rfl ?_
      refine LL.val (R.pick rfl rfl rfl) rfl rfl rfl ?_
      refine LL.val (R.move rfl rfl) rfl rfl rfl ?_
      refine LL.val (R.load rfl rfl (I.ld1 rfl (RowL.cell rt rfl))) rfl rfl rfl ?_
      refine LL.val (R.eqT rfl rfl rfl (by omega)) rfl rfl rfl ?_
      refine LL.val (R.move rfl rfl) rfl rfl rfl ?_
      refine LL.val (R.load rfl rfl (I.ld1 rfl (RowL.cell hn rfl))) rfl rfl rfl ?_
      refine LL.val (R.load rfl rfl (I.ld1 rfl (RowL.cell rp rfl))) rfl rfl rfl ?_
      refine LL.val (R.len rfl rfl rfl rfl) rfl rfl rfl ?_
      refine LL.val (R.neF rfl rfl rfl (by omega)) rfl rfl rfl ?_
      refine LL.val (R.pick rfl rfl rfl) rfl rfl rfl ?_
      refine LL.val (R.pick rfl rfl rfl) rfl rfl rfl ?_
      refine LL.nilS ?_
      refine CC.no rfl ?_
      refine CC.skip ?_
      refine EE.inN ?_
      refine EE.thenN ?_
      refine CC.seq ?_
      refine CC.seq ?_
      refine CC.region ?_
      refine LL.val (R.load rfl rfl (I.ld1 rfl (RowL.cell rt rfl))) rfl rfl rfl ?_
      refine LL.nilS ?_
      refine CC.region ?_
      have li1 := hn.lt
      have li2 := rm.lt
      have li3 := rr.lt
      have li4 := rp.lt
      have li5 := ra.lt
      have li6 := re.lt
      have li7 := rt.lt
      refine LL.alloc ([Value.int IntKind.i64 0]) rfl rfl rfl rfl rfl ?_
      intro Wi9 gi10 egi10 ri11 zi12 bi8
      replace h1 := h1.trans (bi8.mono h1.size)
      replace hn := hn.up bi8
      replace hE11 := defer_up hE11 bi8
      replace rm := rm.up bi8
      replace rr := rr.up bi8
      replace rp := rp.up bi8
      replace ra := ra.up bi8
      replace re := re.up bi8
      replace rt := rt.up bi8
      replace p1 := p1.up bi8
      replace p2 := p2.up bi8
      replace bel := bel.trans (bi8.mono bel.size)
      replace hE01 := defer_up hE01 bi8
      refine LL.store rfl rfl rfl rfl ri11 (by exact Nat.le_of_ble_eq_true rfl) rfl rfl rfl rfl ?_
      intro Wi14 ri15 bi13 zi16
      have hlbi13 := ri11.lt
      replace ri15 : RowL Wi14 _ 3 [Value.int IntKind.i64 1] := ri15
      clear ri11
      replace bi8 := bi8.grown bi13 bi8.size (by rintro k ⟨⟩; omega)
      replace h1 := h1.grown bi13 h1.size (by rintro k ⟨⟩; omega)
      replace hn := hn.gr bi13 (by have := hn.lt; omega)
      replace hE11 := (bi13.block _ (Array.getElem?_eq_some_iff.1 hE11).1 (by simp; omega)).trans hE11
      replace rm := rm.gr bi13 (by have := rm.lt; omega)
      replace rr := rr.gr bi13 (by have := rr.lt; omega)
      replace rp := rp.gr bi13 (by have := rp.lt; omega)
      replace ra := ra.gr bi13 (by have := ra.lt; omega)
      replace re := re.gr bi13 (by have := re.lt; omega)
      replace rt := rt.gr bi13 (by have := rt.lt; omega)
      replace p1 := p1.gr bi13 (by omega)
      replace p2 := p2.gr bi13 (by omega)
      replace bel := bel.grown bi13 bel.size (by rintro k ⟨⟩; omega)
      replace hE01 := (bi13.block _ (Array.getElem?_eq_some_iff.1 hE01).1 (by simp; omega)).trans hE01
      have ri11 := ri15
      clear ri15
      refine LL.nilS ?_
      refine CC.region ?_
      refine LL.val (R.load rfl rfl (I.ld1 rfl (RowL.cell ri11 rfl))) rfl rfl rfl ?_
      refine LL.val (R.addIz (z := 2) rfl rfl rfl (by decide) (by decide)) rfl rfl rfl ?_
      refine LL.store rfl rfl rfl rfl ri11 (by exact Nat.le_of_ble_eq_true rfl) rfl rfl rfl rfl ?_
      intro Wi18 ri19 bi17 zi20
      have hlbi17 := ri11.lt
      replace ri19 : RowL Wi18 _ 3 [Value.int IntKind.i64 2] := ri19
      clear ri11
      replace bi8 := bi8.grown bi17 bi8.size (by rintro k ⟨⟩; omega)
      replace h1 := h1.grown bi17 h1.size (by rintro k ⟨⟩; omega)
      replace hn := hn.gr bi17 (by have := hn.lt; omega)
      replace hE11 := (bi17.block _ (Array.getElem?_eq_some_iff.1 hE11).1 (by simp; omega)).trans hE11
      replace rm := rm.gr bi17 (by have := rm.lt; omega)
      replace rr := rr.gr bi17 (by have := rr.lt; omega)
      replace rp := rp.gr bi17 (by have := rp.lt; omega)
      replace ra := ra.gr bi17 (by have := ra.lt; omega)
      replace re := re.gr bi17 (by have := re.lt; omega)
      replace rt := rt.gr bi17 (by have := rt.lt; omega)
      replace p1 := p1.gr bi17 (by omega)
      replace p2 := p2.gr bi17 (by omega)
      replace bel := bel.grown bi17 bel.size (by rintro k ⟨⟩; omega)
      replace hE01 := (bi17.block _ (Array.getElem?_eq_some_iff.1 hE01).1 (by simp; omega)).trans hE01
      have ri11 := ri19
      clear ri19
      refine LL.nil ?_
      refine EE.again ?_
      refine RN.step ?_
      refine CC.seq ?_
      refine CC.seq ?_
      refine CC.region ?_
      refine LL.val (R.load rfl rfl (I.ld1 rfl (RowL.cell ri11 rfl))) rfl rfl rfl ?_
      refine LL.val (R.ltF rfl rfl rfl (by omega)) rfl rfl rfl ?_
      refine LL.nilS ?_
      refine CC.no rfl ?_
      refine CC.exit ?_
      refine EE.thenX ?_
      refine EE.thenX ?_
      refine EE.inX ?_
      refine EE.thenN ?_
      refine CC.seq ?_
      refine CC.region ?_
      refine LL.call (R.call rfl rfl rfl) rfl rfl rfl (works_any _) ?_
      rintro e Wi22 ⟨rfl, bi21⟩
      refine ⟨_, rfl, ?_⟩
      have zbi21 := bi21.size
      replace bi8 := bi8.trans (bi21.mono bi8.size)
      replace h1 := h1.trans (bi21.mono h1.size)
      replace hn := hn.up bi21
      replace hE11 := defer_up hE11 bi21
      replace rm := rm.up bi21
      replace rr := rr.up bi21
      replace rp := rp.up bi21
      replace ra := ra.up bi21
      replace re := re.up bi21
      replace rt := rt.up bi21
      replace p1 := p1.up bi21
      replace p2 := p2.up bi21
      replace bel := bel.trans (bi21.mono bel.size)
      replace hE01 := defer_up hE01 bi21
      replace ri11 := ri11.up bi21
      refine LL.store rfl rfl rfl rfl rr (by exact Nat.le_of_ble_eq_true rfl) rfl rfl rfl rfl ?_
      intro Wi24 ri25 bi23 zi26
      have hlbi23 := rr.lt
      replace ri25 : RowL Wi24 _ 4 [Value.bool true] := ri25
      clear rr
      replace hn := hn.gr bi23 (by have := hn.lt; omega)
      replace hE11 := (bi23.block _ (Array.getElem?_eq_some_iff.1 hE11).1 (by simp; omega)).trans hE11
      replace rm := rm.gr bi23 (by have := rm.lt; omega)
      replace rp := rp.gr bi23 (by have := rp.lt; omega)
      replace ra := ra.gr bi23 (by have := ra.lt; omega)
      replace re := re.gr bi23 (by have := re.lt; omega)
      replace rt := rt.gr bi23 (by have := rt.lt; omega)
      replace bel := bel.grown bi23 bel.size (by rintro k ⟨⟩; omega)
      replace hE01 := (bi23.block _ (Array.getElem?_eq_some_iff.1 hE01).1 (by simp; omega)).trans hE01
      replace ri11 := ri11.gr bi23 (by have := ri11.lt; omega)
      have rr := ri25
      clear ri25
      refine LL.nilS ?_
      refine CC.ret ?_
      have hE24 : g24 ≠ E1 := by omega
      refine EE.retNN hE01 hE11 (by omega) rfl ⟨_, rfl, lv1 rfl ((taken_up (taken_up rr hE24) (by omega)).cell rfl)⟩ ?_
      exact ⟨rfl, taken_bel (taken_bel bel (by omega) (Nat.le_refl _)) (by omega) (Nat.le_refl _)⟩
theorem parts_walk (b i r t : Int) (k1 k2 : Nat) (word many : Int) (w : World) : Calls Try.prog 7 #[formV b i r t, keyV k1 k2, .int .i64 word, .int .i64 many] w fun x w' => x = .returned (.bool true) ∧ Below w.heap.size w w' := by
  by_cases hok : okF b i r t
  case neg => exact parts_F b i r t k1 k2 word many w hok
  by_cases hb : b ≤ 64
  case neg => exact parts_big b i r t k1 k2 word many w hok (by omega)
  by_cases hw : 0 ≤ word ∧ word < 64 * b
  case neg => exact parts_out b i r t k1 k2 word many w hok hb hw
  obtain ⟨b, rfl⟩ := Int.eq_ofNat_of_zero_le (show 0 ≤ b by omega)
  obtain ⟨i, rfl⟩ := Int.eq_ofNat_of_zero_le (show 0 ≤ i by omega)
  obtain ⟨r, rfl⟩ := Int.eq_ofNat_of_zero_le (show 0 ≤ r by omega)
  obtain ⟨t, rfl⟩ := Int.eq_ofNat_of_zero_le (show 0 ≤ t by omega)
  obtain ⟨word, rfl⟩ := Int.eq_ofNat_of_zero_le (show 0 ≤ word by omega)
  exact parts_T b i r t k1 k2 word many w hok (by omega) (by omega)
end Go.Proofs.Ythdgnogpjpoklaa
