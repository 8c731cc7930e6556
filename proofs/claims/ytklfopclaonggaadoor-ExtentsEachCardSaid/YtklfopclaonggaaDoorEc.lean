/- extents: runs that are joined. extents: runs of blocks that are joined; gather, gone. -/
import Derived.Test.YtklfopclaonggaaDoorEb
namespace Go.Proofs.YtklfopclaonggaaDoor
set_option linter.unusedVariables false
set_option linter.unusedSimpArgs false
open Go.RowKit Go.Shelf
/-- Small numbers. -/
abbrev litE (x : Ex) : Prop := (0 ≤ x.1 ∧ x.1 ≤ 4096) ∧ (0 ≤ x.2.1 ∧ x.2.1 ≤ 4096) ∧ (0 ≤ x.2.2 ∧ x.2.2 ≤ 4096)
abbrev litB (b : Bl) : Prop := (0 ≤ b.1 ∧ b.1 ≤ 4096) ∧ (0 ≤ b.2 ∧ b.2 ≤ 4096)
abbrev rnV (x : Bl) : Value := .agg #[.int .i64 x.1, .int .i64 x.2]
set_option maxRecDepth 100000 in
set_option maxHeartbeats 4000000 in
theorem gather1_T (a : Ex) (f d : Int) (w : World) (ha : litE a) (hb : litB (f, d)) (hm : mergeE a (f, d)) : Calls Tryd.prog 49 #[exV a, .agg #[.int .i64 f, .int .i64 d, .int .i64 1]] w fun e w' => e = .returned (.tuple #[.agg #[.int .i64 a.1, .int .i64 a.2.1, .int .i64 (a.2.2 + 1)], .bool true]) ∧ Below w.heap.size w w' := by
  have q := Below.refl w.heap.size w
  unfold litE at ha
  unfold litB at hb
  unfold mergeE at hm
  simp only at hb hm
  refine X.fn Tryd.func49 rfl (n := 33) rfl rfl ?_
  refine CC.seq ?_
  refine CC.region ?_
  refine LL.box [Value.int IntKind.i64 a.1, Value.int IntKind.i64 a.2.1, Value.int IntKind.i64 a.2.2] rfl rfl rfl rfl rfl ?_
  intro W2 g3 eg3 r4 z5 b1
  replace q := q.trans (b1.mono q.size)
  have l6 := r4.lt
  refine LL.box [Value.int IntKind.i64 f, Value.int IntKind.i64 d, Value.int IntKind.i64 1] rfl rfl rfl rfl rfl ?_
  intro W8 g9 eg9 r10 z11 b7
  replace r4 := r4.up b7
  replace b1 := b1.trans (b7.mono b1.size)
  replace q := q.trans (b7.mono q.size)
  have l12 := r10.lt
  have l13 := r4.lt
  refine LL.alloc ([Value.int IntKind.i64 0, Value.int IntKind.i64 0, Value.int IntKind.i64 0]) rfl rfl rfl rfl rfl ?_
  intro W15 g16 eg16 r17 z18 b14
  replace r10 := r10.up b14
  replace b7 := b7.trans (b14.mono b7.size)
  replace r4 := r4.up b14
  replace b1 := b1.trans (b14.mono b1.size)
  replace q := q.trans (b14.mono q.size)
  refine LL.val (R.assign rfl rfl) rfl rfl rfl ?_
  refine LL.nilS ?_
  refine CC.seq ?_
  refine CC.region ?_
  refine LL.val (R.field rfl rfl (I.fld rfl)) rfl rfl rfl ?_
  refine LL.val (R.load rfl rfl (I.ld1 rfl (RowL.cell r4 rfl))) rfl rfl rfl ?_
  refine LL.val (R.field rfl rfl (I.fld rfl)) rfl rfl rfl ?_
  refine LL.val (R.load rfl rfl (I.ld1 rfl (RowL.cell r4 rfl))) rfl rfl rfl ?_
  refine LL.val (R.addI rfl rfl rfl (by omega)) rfl rfl rfl ?_
  refine LL.val (R.field rfl rfl (I.fld rfl)) rfl rfl rfl ?_
  refine LL.val (R.load rfl rfl (I.ld1 rfl (RowL.cell r10 rfl))) rfl rfl rfl ?_
  refine LL.val (R.eqT rfl rfl rfl (by omega)) rfl rfl rfl ?_
  refine LL.val (R.move rfl rfl) rfl rfl rfl ?_
  refine LL.val (R.field rfl rfl (I.fld rfl)) rfl rfl rfl ?_
  refine LL.val (R.load rfl rfl (I.ld1 rfl (RowL.cell r4 rfl))) rfl rfl rfl ?_
  refine LL.val (R.field rfl rfl (I.fld rfl)) rfl rfl rfl ?_
  refine LL.val (R.load rfl rfl (I.ld1 rfl (RowL.cell r4 rfl))) rfl rfl rfl ?_
  refine LL.val (R.addI rfl rfl rfl (by omega)) rfl rfl rfl ?_
  refine LL.val (R.field rfl rfl (I.fld rfl)) rfl rfl rfl ?_
  refine LL.val (R.load rfl rfl (I.ld1 rfl (RowL.cell r10 rfl))) rfl rfl rfl ?_
  refine LL.val (R.eqT rfl rfl rfl (by omega)) rfl rfl rfl ?_
  refine LL.val (R.pick rfl rfl rfl) rfl rfl rfl ?_
  refine LL.val (R.assign rfl rfl) rfl rfl rfl ?_
  refine LL.nilS ?_
  refine CC.seq ?_
  refine CC.region ?_
  refine LL.val (R.field rfl rfl (I.fld rfl)) rfl rfl rfl ?_
  refine LL.val (R.load rfl rfl (I.ld1 rfl (RowL.cell r4 rfl))) rfl rfl rfl ?_
  refine LL.val (R.field rfl rfl (I.fld rfl)) rfl rfl rfl ?_
  refine LL.val (R.load rfl rfl (I.ld1 rfl (RowL.cell r10 rfl))) rfl rfl rfl ?_
  refine LL.val (R.addI rfl rfl rfl (by omega)) rfl rfl rfl ?_
  refine LL.val (R.field rfl rfl (I.fld rfl)) rfl rfl rfl ?_
  refine LL.store rfl rfl rfl rfl r4 (by exact Nat.le_of_ble_eq_true rfl) rfl rfl rfl rfl ?_
  intro W20 r21 b19 z22
  have hlb19 := r4.lt
  replace r21 : RowL W20 _ 41 [Value.int IntKind.i64 a.1, Value.int IntKind.i64 a.2.1, Value.int IntKind.i64 (a.2.2 + 1)] := r21
  clear r4
  replace r17 := r17.gr b19 (by have := r17.lt; omega)
  replace r10 := r10.gr b19 (by have := r10.lt; omega)
  replace b1 := b1.grown b19 b1.size (by rintro k ⟨⟩; omega)
  replace q := q.grown b19 q.size (by rintro k ⟨⟩; omega)
  have r4 := r21
  clear r21
  refine LL.nilS ?_
  refine CC.seq ?_
  refine CC.region ?_
  refine LL.val (R.load rfl rfl (I.ldNc (vs := [Value.int IntKind.i64 a.1, Value.int IntKind.i64 a.2.1, Value.int IntKind.i64 (a.2.2 + 1)]) (RowL.cells r4 rfl) (by rfl) (by rfl))) rfl rfl rfl ?_
  refine LL.val (R.move rfl rfl) rfl rfl rfl ?_
  refine LL.storeN (vs := [Value.int IntKind.i64 a.1, Value.int IntKind.i64 a.2.1, Value.int IntKind.i64 (a.2.2 + 1)]) rfl rfl rfl rfl r17 (by exact Nat.le_of_ble_eq_true rfl) (ones_of rfl) rfl rfl ?_
  intro W24 r25 b23 z26
  have hlb23 := r17.lt
  replace r25 : RowL W24 _ 41 [Value.int IntKind.i64 a.1, Value.int IntKind.i64 a.2.1, Value.int IntKind.i64 (a.2.2 + 1)] := r25
  clear r17
  replace r10 := r10.gr b23 (by have := r10.lt; omega)
  replace b1 := b1.grown b23 b1.size (by rintro k ⟨⟩; omega)
  replace q := q.grown b23 q.size (by rintro k ⟨⟩; omega)
  replace r4 := r4.gr b23 (by have := r4.lt; omega)
  have r17 := r25
  clear r25
  refine LL.val (R.assign rfl rfl) rfl rfl rfl ?_
  refine LL.nilS ?_
  refine CC.ret ?_
  refine EE.ret2 rfl ⟨_, rfl, lvNc (RowL.cells0 (by assumption)) (by rfl) (by rfl)⟩ rfl ?_
  exact ⟨rfl, q⟩
set_option maxRecDepth 100000 in
set_option maxHeartbeats 4000000 in
theorem gather1_F (a : Ex) (f d : Int) (w : World) (ha : litE a) (hb : litB (f, d)) (hm : ¬mergeE a (f, d)) : Calls Tryd.prog 49 #[exV a, .agg #[.int .i64 f, .int .i64 d, .int .i64 1]] w fun e w' => e = .returned (.tuple #[.agg #[.int .i64 a.1, .int .i64 a.2.1, .int .i64 (a.2.2 + 1)], .bool false]) ∧ Below w.heap.size w w' := by
  have q := Below.refl w.heap.size w
  unfold litE at ha
  unfold litB at hb
  unfold mergeE at hm
  simp only at hb hm
  by_cases h1 : a.1 + a.2.2 = f
  · have h2 : a.2.1 + a.2.2 ≠ d := by omega
    refine X.fn Tryd.func49 rfl (n := 33) rfl rfl ?_
    refine CC.seq ?_
    refine CC.region ?_
    refine LL.box [Value.int IntKind.i64 a.1, Value.int IntKind.i64 a.2.1, Value.int IntKind.i64 a.2.2] rfl rfl rfl rfl rfl ?_
    intro W2 g3 eg3 r4 z5 b1
    replace q := q.trans (b1.mono q.size)
    have l6 := r4.lt
    refine LL.box [Value.int IntKind.i64 f, Value.int IntKind.i64 d, Value.int IntKind.i64 1] rfl rfl rfl rfl rfl ?_
    intro W8 g9 eg9 r10 z11 b7
    replace r4 := r4.up b7
    replace b1 := b1.trans (b7.mono b1.size)
    replace q := q.trans (b7.mono q.size)
    have l12 := r10.lt
    have l13 := r4.lt
    refine LL.alloc ([Value.int IntKind.i64 0, Value.int IntKind.i64 0, Value.int IntKind.i64 0]) rfl rfl rfl rfl rfl ?_
    intro W15 g16 eg16 r17 z18 b14
    replace r10 := r10.up b14
    replace b7 := b7.trans (b14.mono b7.size)
    replace r4 := r4.up b14
    replace b1 := b1.trans (b14.mono b1.size)
    replace q := q.trans (b14.mono q.size)
    refine LL.val (R.assign rfl rfl) rfl rfl rfl ?_
    refine LL.nilS ?_
    refine CC.seq ?_
    refine CC.region ?_
    refine LL.val (R.field rfl rfl (I.fld rfl)) rfl rfl rfl ?_
    refine LL.val (R.load rfl rfl (I.ld1 rfl (RowL.cell r4 rfl))) rfl rfl rfl ?_
    refine LL.val (R.field rfl rfl (I.fld rfl)) rfl rfl rfl ?_
    refine LL.val (R.load rfl rfl (I.ld1 rfl (RowL.cell r4 rfl))) rfl rfl rfl ?_
    refine LL.val (R.addI rfl rfl rfl (by omega)) rfl rfl rfl ?_
    refine LL.val (R.field rfl rfl (I.fld rfl)) rfl rfl rfl ?_
    refine LL.val (R.load rfl rfl (I.ld1 rfl (RowL.cell r10 rfl))) rfl rfl rfl ?_
    refine LL.val (R.eqT rfl rfl rfl (by omega)) rfl rfl rfl ?_
    refine LL.val (R.move rfl rfl) rfl rfl rfl ?_
    refine LL.val (R.field rfl rfl (I.fld rfl)) rfl rfl rfl ?_
    refine LL.val (R.load rfl rfl (I.ld1 rfl (RowL.cell r4 rfl))) rfl rfl rfl ?_
    refine LL.val (R.field rfl rfl (I.fld rfl)) rfl rfl rfl ?_
    refine LL.val (R.load rfl rfl (I.ld1 rfl (RowL.cell r4 rfl))) rfl rfl rfl ?_
    refine LL.val (R.addI rfl rfl rfl (by omega)) rfl rfl rfl ?_
    refine LL.val (R.field rfl rfl (I.fld rfl)) rfl rfl rfl ?_
    refine LL.val (R.load rfl rfl (I.ld1 rfl (RowL.cell r10 rfl))) rfl rfl rfl ?_
    refine LL.val (R.eqF rfl rfl rfl (by omega)) rfl rfl rfl ?_
    refine LL.val (R.pick rfl rfl rfl) rfl rfl rfl ?_
    refine LL.val (R.assign rfl rfl) rfl rfl rfl ?_
    refine LL.nilS ?_
    refine CC.seq ?_
    refine CC.region ?_
    refine LL.val (R.field rfl rfl (I.fld rfl)) rfl rfl rfl ?_
    refine LL.val (R.load rfl rfl (I.ld1 rfl (RowL.cell r4 rfl))) rfl rfl rfl ?_
    refine LL.val (R.field rfl rfl (I.fld rfl)) rfl rfl rfl ?_
    refine LL.val (R.load rfl rfl (I.ld1 rfl (RowL.cell r10 rfl))) rfl rfl rfl ?_
    refine LL.val (R.addI rfl rfl rfl (by omega)) rfl rfl rfl ?_
    refine LL.val (R.field rfl rfl (I.fld rfl)) rfl rfl rfl ?_
    refine LL.store rfl rfl rfl rfl r4 (by exact Nat.le_of_ble_eq_true rfl) rfl rfl rfl rfl ?_
    intro W20 r21 b19 z22
    have hlb19 := r4.lt
    replace r21 : RowL W20 _ 41 [Value.int IntKind.i64 a.1, Value.int IntKind.i64 a.2.1, Value.int IntKind.i64 (a.2.2 + 1)] := r21
    clear r4
    replace r17 := r17.gr b19 (by have := r17.lt; omega)
    replace r10 := r10.gr b19 (by have := r10.lt; omega)
    replace b1 := b1.grown b19 b1.size (by rintro k ⟨⟩; omega)
    replace q := q.grown b19 q.size (by rintro k ⟨⟩; omega)
    have r4 := r21
    clear r21
    refine LL.nilS ?_
    refine CC.seq ?_
    refine CC.region ?_
    refine LL.val (R.load rfl rfl (I.ldNc (vs := [Value.int IntKind.i64 a.1, Value.int IntKind.i64 a.2.1, Value.int IntKind.i64 (a.2.2 + 1)]) (RowL.cells r4 rfl) (by rfl) (by rfl))) rfl rfl rfl ?_
    refine LL.val (R.move rfl rfl) rfl rfl rfl ?_
    refine LL.storeN (vs := [Value.int IntKind.i64 a.1, Value.int IntKind.i64 a.2.1, Value.int IntKind.i64 (a.2.2 + 1)]) rfl rfl rfl rfl r17 (by exact Nat.le_of_ble_eq_true rfl) (ones_of rfl) rfl rfl ?_
    intro W24 r25 b23 z26
    have hlb23 := r17.lt
    replace r25 : RowL W24 _ 41 [Value.int IntKind.i64 a.1, Value.int IntKind.i64 a.2.1, Value.int IntKind.i64 (a.2.2 + 1)] := r25
    clear r17
    replace r10 := r10.gr b23 (by have := r10.lt; omega)
    replace b1 := b1.grown b23 b1.size (by rintro k ⟨⟩; omega)
    replace q := q.grown b23 q.size (by rintro k ⟨⟩; omega)
    replace r4 := r4.gr b23 (by have := r4.lt; omega)
    have r17 := r25
    clear r25
    refine LL.val (R.assign rfl rfl) rfl rfl rfl ?_
    refine LL.nilS ?_
    refine CC.ret ?_
    refine EE.ret2 rfl ⟨_, rfl, lvNc (RowL.cells0 (by assumption)) (by rfl) (by rfl)⟩ rfl ?_
    exact ⟨rfl, q⟩
  · refine X.fn Tryd.func49 rfl (n := 33) rfl rfl ?_
    refine CC.seq ?_
    refine CC.region ?_
    refine LL.box [Value.int IntKind.i64 a.1, Value.int IntKind.i64 a.2.1, Value.int IntKind.i64 a.2.2] rfl rfl rfl rfl rfl ?_
    intro Wa2 ga3 ega3 ra4 za5 ba1
    replace q := q.trans (ba1.mono q.size)
    have la6 := ra4.lt
    refine LL.box [Value.int IntKind.i64 f, Value.int IntKind.i64 d, Value.int IntKind.i64 1] rfl rfl rfl rfl rfl ?_
    intro Wa8 ga9 ega9 ra10 za11 ba7
    replace ra4 := ra4.up ba7
    replace ba1 := ba1.trans (ba7.mono ba1.size)
    replace q := q.trans (ba7.mono q.size)
    have la12 := ra10.lt
    have la13 := ra4.lt
    refine LL.alloc ([Value.int IntKind.i64 0, Value.int IntKind.i64 0, Value.int IntKind.i64 0]) rfl rfl rfl rfl rfl ?_
    intro Wa15 ga16 ega16 ra17 za18 ba14
    replace ra10 := ra10.up ba14
    replace ba7 := ba7.trans (ba14.mono ba7.size)
    replace ra4 := ra4.up ba14
    replace ba1 := ba1.trans (ba14.mono ba1.size)
    replace q := q.trans (ba14.mono q.size)
    refine LL.val (R.assign rfl rfl) rfl rfl rfl ?_
    refine LL.nilS ?_
    refine CC.seq ?_
    refine CC.region ?_
    refine LL.val (R.field rfl rfl (I.fld rfl)) rfl rfl rfl ?_
    refine LL.val (R.load rfl rfl (I.ld1 rfl (RowL.cell ra4 rfl))) rfl rfl rfl ?_
    refine LL.val (R.field rfl rfl (I.fld rfl)) rfl rfl rfl ?_
    refine LL.val (R.load rfl rfl (I.ld1 rfl (RowL.cell ra4 rfl))) rfl rfl rfl ?_
    refine LL.val (R.addI rfl rfl rfl (by omega)) rfl rfl rfl ?_
    refine LL.val (R.field rfl rfl (I.fld rfl)) rfl rfl rfl ?_
    refine LL.val (R.load rfl rfl (I.ld1 rfl (RowL.cell ra10 rfl))) rfl rfl rfl ?_
    refine LL.val (R.eqF rfl rfl rfl (by omega)) rfl rfl rfl ?_
    refine LL.val (R.move rfl rfl) rfl rfl rfl ?_
    refine LL.skip rfl rfl ?_
    refine LL.skip rfl rfl ?_
    refine LL.skip rfl rfl ?_
    refine LL.skip rfl rfl ?_
    refine LL.skip rfl rfl ?_
    refine LL.skip rfl rfl ?_
    refine LL.skip rfl rfl ?_
    refine LL.skip rfl rfl ?_
    refine LL.val (R.pick rfl rfl rfl) rfl rfl rfl ?_
    refine LL.val (R.assign rfl rfl) rfl rfl rfl ?_
    refine LL.nilS ?_
    refine CC.seq ?_
    refine CC.region ?_
    refine LL.val (R.field rfl rfl (I.fld rfl)) rfl rfl rfl ?_
    refine LL.val (R.load rfl rfl (I.ld1 rfl (RowL.cell ra4 rfl))) rfl rfl rfl ?_
    refine LL.val (R.field rfl rfl (I.fld rfl)) rfl rfl rfl ?_
    refine LL.val (R.load rfl rfl (I.ld1 rfl (RowL.cell ra10 rfl))) rfl rfl rfl ?_
    refine LL.val (R.addI rfl rfl rfl (by omega)) rfl rfl rfl ?_
    refine LL.val (R.field rfl rfl (I.fld rfl)) rfl rfl rfl ?_
    refine LL.store rfl rfl rfl rfl ra4 (by exact Nat.le_of_ble_eq_true rfl) rfl rfl rfl rfl ?_
    intro Wa20 ra21 ba19 za22
    have hlba19 := ra4.lt
    replace ra21 : RowL Wa20 _ 41 [Value.int IntKind.i64 a.1, Value.int IntKind.i64 a.2.1, Value.int IntKind.i64 (a.2.2 + 1)] := ra21
    clear ra4
    replace ra17 := ra17.gr ba19 (by have := ra17.lt; omega)
    replace ra10 := ra10.gr ba19 (by have := ra10.lt; omega)
    replace ba1 := ba1.grown ba19 ba1.size (by rintro k ⟨⟩; omega)
    replace q := q.grown ba19 q.size (by rintro k ⟨⟩; omega)
    have ra4 := ra21
    clear ra21
    refine LL.nilS ?_
    refine CC.seq ?_
    refine CC.region ?_
    refine LL.val (R.load rfl rfl (I.ldNc (vs := [Value.int IntKind.i64 a.1, Value.int IntKind.i64 a.2.1, Value.int IntKind.i64 (a.2.2 + 1)]) (RowL.cells ra4 rfl) (by rfl) (by rfl))) rfl rfl rfl ?_
    refine LL.val (R.move rfl rfl) rfl rfl rfl ?_
    refine LL.storeN (vs := [Value.int IntKind.i64 a.1, Value.int IntKind.i64 a.2.1, Value.int IntKind.i64 (a.2.2 + 1)]) rfl rfl rfl rfl ra17 (by exact Nat.le_of_ble_eq_true rfl) (ones_of rfl) rfl rfl ?_
    intro Wa24 ra25 ba23 za26
    have hlba23 := ra17.lt
    replace ra25 : RowL Wa24 _ 41 [Value.int IntKind.i64 a.1, Value.int IntKind.i64 a.2.1, Value.int IntKind.i64 (a.2.2 + 1)] := ra25
    clear ra17
    replace ra10 := ra10.gr ba23 (by have := ra10.lt; omega)
    replace ba1 := ba1.grown ba23 ba1.size (by rintro k ⟨⟩; omega)
    replace q := q.grown ba23 q.size (by rintro k ⟨⟩; omega)
    replace ra4 := ra4.gr ba23 (by have := ra4.lt; omega)
    have ra17 := ra25
    clear ra25
    refine LL.val (R.assign rfl rfl) rfl rfl rfl ?_
    refine LL.nilS ?_
    refine CC.ret ?_
    refine EE.ret2 rfl ⟨_, rfl, lvNc (RowL.cells0 (by assumption)) (by rfl) (by rfl)⟩ rfl ?_
    exact ⟨rfl, q⟩
set_option maxRecDepth 100000 in
set_option maxHeartbeats 4000000 in
theorem gone1_T (a : Bl) (d : Int) (w : World) (ha : litB a) (hb : 0 ≤ d ∧ d ≤ 4096) (hm : a.1 + a.2 = d) : Calls Tryd.prog 47 #[rnV a, .agg #[.int .i64 d, .int .i64 1]] w fun e w' => e = .returned (.tuple #[.agg #[.int .i64 a.1, .int .i64 (a.2 + 1)], .bool true]) ∧ Below w.heap.size w w' := by
  have q := Below.refl w.heap.size w
  unfold litB at ha
  refine X.fn Tryd.func47 rfl (n := 23) rfl rfl ?_
  refine CC.seq ?_
  refine CC.region ?_
  refine LL.box [Value.int IntKind.i64 a.1, Value.int IntKind.i64 a.2] rfl rfl rfl rfl rfl ?_
  intro W2 g3 eg3 r4 z5 b1
  replace q := q.trans (b1.mono q.size)
  have l6 := r4.lt
  refine LL.box [Value.int IntKind.i64 d, Value.int IntKind.i64 1] rfl rfl rfl rfl rfl ?_
  intro W8 g9 eg9 r10 z11 b7
  replace r4 := r4.up b7
  replace b1 := b1.trans (b7.mono b1.size)
  replace q := q.trans (b7.mono q.size)
  have l12 := r10.lt
  have l13 := r4.lt
  refine LL.alloc ([Value.int IntKind.i64 0, Value.int IntKind.i64 0]) rfl rfl rfl rfl rfl ?_
  intro W15 g16 eg16 r17 z18 b14
  replace r10 := r10.up b14
  replace b7 := b7.trans (b14.mono b7.size)
  replace r4 := r4.up b14
  replace b1 := b1.trans (b14.mono b1.size)
  replace q := q.trans (b14.mono q.size)
  refine LL.val (R.assign rfl rfl) rfl rfl rfl ?_
  refine LL.nilS ?_
  refine CC.seq ?_
  refine CC.region ?_
  refine LL.val (R.field rfl rfl (I.fld rfl)) rfl rfl rfl ?_
  refine LL.val (R.load rfl rfl (I.ld1 rfl (RowL.cell r4 rfl))) rfl rfl rfl ?_
  refine LL.val (R.field rfl rfl (I.fld rfl)) rfl rfl rfl ?_
  refine LL.val (R.load rfl rfl (I.ld1 rfl (RowL.cell r4 rfl))) rfl rfl rfl ?_
  refine LL.val (R.addI rfl rfl rfl (by omega)) rfl rfl rfl ?_
  refine LL.val (R.field rfl rfl (I.fld rfl)) rfl rfl rfl ?_
  refine LL.val (R.load rfl rfl (I.ld1 rfl (RowL.cell r10 rfl))) rfl rfl rfl ?_
  refine LL.val (R.eqT rfl rfl rfl (by omega)) rfl rfl rfl ?_
  refine LL.val (R.assign rfl rfl) rfl rfl rfl ?_
  refine LL.nilS ?_
  refine CC.seq ?_
  refine CC.region ?_
  refine LL.val (R.field rfl rfl (I.fld rfl)) rfl rfl rfl ?_
  refine LL.val (R.load rfl rfl (I.ld1 rfl (RowL.cell r4 rfl))) rfl rfl rfl ?_
  refine LL.val (R.field rfl rfl (I.fld rfl)) rfl rfl rfl ?_
  refine LL.val (R.load rfl rfl (I.ld1 rfl (RowL.cell r10 rfl))) rfl rfl rfl ?_
  refine LL.val (R.addI rfl rfl rfl (by omega)) rfl rfl rfl ?_
  refine LL.val (R.field rfl rfl (I.fld rfl)) rfl rfl rfl ?_
  refine LL.store rfl rfl rfl rfl r4 (by exact Nat.le_of_ble_eq_true rfl) rfl rfl rfl rfl ?_
  intro W20 r21 b19 z22
  have hlb19 := r4.lt
  replace r21 : RowL W20 _ 64 [Value.int IntKind.i64 a.1, Value.int IntKind.i64 (a.2 + 1)] := r21
  clear r4
  replace r17 := r17.gr b19 (by have := r17.lt; omega)
  replace r10 := r10.gr b19 (by have := r10.lt; omega)
  replace b1 := b1.grown b19 b1.size (by rintro k ⟨⟩; omega)
  replace q := q.grown b19 q.size (by rintro k ⟨⟩; omega)
  have r4 := r21
  clear r21
  refine LL.nilS ?_
  refine CC.seq ?_
  refine CC.region ?_
  refine LL.val (R.load rfl rfl (I.ldNc (vs := [Value.int IntKind.i64 a.1, Value.int IntKind.i64 (a.2 + 1)]) (RowL.cells r4 rfl) (by rfl) (by rfl))) rfl rfl rfl ?_
  refine LL.val (R.move rfl rfl) rfl rfl rfl ?_
  refine LL.storeN (vs := [Value.int IntKind.i64 a.1, Value.int IntKind.i64 (a.2 + 1)]) rfl rfl rfl rfl r17 (by exact Nat.le_of_ble_eq_true rfl) (ones_of rfl) rfl rfl ?_
  intro W24 r25 b23 z26
  have hlb23 := r17.lt
  replace r25 : RowL W24 _ 64 [Value.int IntKind.i64 a.1, Value.int IntKind.i64 (a.2 + 1)] := r25
  clear r17
  replace r10 := r10.gr b23 (by have := r10.lt; omega)
  replace b1 := b1.grown b23 b1.size (by rintro k ⟨⟩; omega)
  replace q := q.grown b23 q.size (by rintro k ⟨⟩; omega)
  replace r4 := r4.gr b23 (by have := r4.lt; omega)
  have r17 := r25
  clear r25
  refine LL.val (R.assign rfl rfl) rfl rfl rfl ?_
  refine LL.nilS ?_
  refine CC.ret ?_
  refine EE.ret2 rfl ⟨_, rfl, lvNc (RowL.cells0 (by assumption)) (by rfl) (by rfl)⟩ rfl ?_
  exact ⟨rfl, q⟩
set_option maxRecDepth 100000 in
set_option maxHeartbeats 4000000 in
theorem gone1_F (a : Bl) (d : Int) (w : World) (ha : litB a) (hb : 0 ≤ d ∧ d ≤ 4096) (hm : ¬a.1 + a.2 = d) : Calls Tryd.prog 47 #[rnV a, .agg #[.int .i64 d, .int .i64 1]] w fun e w' => e = .returned (.tuple #[.agg #[.int .i64 a.1, .int .i64 (a.2 + 1)], .bool false]) ∧ Below w.heap.size w w' := by
  have q := Below.refl w.heap.size w
  unfold litB at ha
  refine X.fn Tryd.func47 rfl (n := 23) rfl rfl ?_
  refine CC.seq ?_
  refine CC.region ?_
  refine LL.box [Value.int IntKind.i64 a.1, Value.int IntKind.i64 a.2] rfl rfl rfl rfl rfl ?_
  intro W2 g3 eg3 r4 z5 b1
  replace q := q.trans (b1.mono q.size)
  have l6 := r4.lt
  refine LL.box [Value.int IntKind.i64 d, Value.int IntKind.i64 1] rfl rfl rfl rfl rfl ?_
  intro W8 g9 eg9 r10 z11 b7
  replace r4 := r4.up b7
  replace b1 := b1.trans (b7.mono b1.size)
  replace q := q.trans (b7.mono q.size)
  have l12 := r10.lt
  have l13 := r4.lt
  refine LL.alloc ([Value.int IntKind.i64 0, Value.int IntKind.i64 0]) rfl rfl rfl rfl rfl ?_
  intro W15 g16 eg16 r17 z18 b14
  replace r10 := r10.up b14
  replace b7 := b7.trans (b14.mono b7.size)
  replace r4 := r4.up b14
  replace b1 := b1.trans (b14.mono b1.size)
  replace q := q.trans (b14.mono q.size)
  refine LL.val (R.assign rfl rfl) rfl rfl rfl ?_
  refine LL.nilS ?_
  refine CC.seq ?_
  refine CC.region ?_
  refine LL.val (R.field rfl rfl (I.fld rfl)) rfl rfl rfl ?_
  refine LL.val (R.load rfl rfl (I.ld1 rfl (RowL.cell r4 rfl))) rfl rfl rfl ?_
  refine LL.val (R.field rfl rfl (I.fld rfl)) rfl rfl rfl ?_
  refine LL.val (R.load rfl rfl (I.ld1 rfl (RowL.cell r4 rfl))) rfl rfl rfl ?_
  refine LL.val (R.addI rfl rfl rfl (by omega)) rfl rfl rfl ?_
  refine LL.val (R.field rfl rfl (I.fld rfl)) rfl rfl rfl ?_
  refine LL.val (R.load rfl rfl (I.ld1 rfl (RowL.cell r10 rfl))) rfl rfl rfl ?_
  refine LL.val (R.eqF rfl rfl rfl (by omega)) rfl rfl rfl ?_
  refine LL.val (R.assign rfl rfl) rfl rfl rfl ?_
  refine LL.nilS ?_
  refine CC.seq ?_
  refine CC.region ?_
  refine LL.val (R.field rfl rfl (I.fld rfl)) rfl rfl rfl ?_
  refine LL.val (R.load rfl rfl (I.ld1 rfl (RowL.cell r4 rfl))) rfl rfl rfl ?_
  refine LL.val (R.field rfl rfl (I.fld rfl)) rfl rfl rfl ?_
  refine LL.val (R.load rfl rfl (I.ld1 rfl (RowL.cell r10 rfl))) rfl rfl rfl ?_
  refine LL.val (R.addI rfl rfl rfl (by omega)) rfl rfl rfl ?_
  refine LL.val (R.field rfl rfl (I.fld rfl)) rfl rfl rfl ?_
  refine LL.store rfl rfl rfl rfl r4 (by exact Nat.le_of_ble_eq_true rfl) rfl rfl rfl rfl ?_
  intro W20 r21 b19 z22
  have hlb19 := r4.lt
  replace r21 : RowL W20 _ 64 [Value.int IntKind.i64 a.1, Value.int IntKind.i64 (a.2 + 1)] := r21
  clear r4
  replace r17 := r17.gr b19 (by have := r17.lt; omega)
  replace r10 := r10.gr b19 (by have := r10.lt; omega)
  replace b1 := b1.grown b19 b1.size (by rintro k ⟨⟩; omega)
  replace q := q.grown b19 q.size (by rintro k ⟨⟩; omega)
  have r4 := r21
  clear r21
  refine LL.nilS ?_
  refine CC.seq ?_
  refine CC.region ?_
  refine LL.val (R.load rfl rfl (I.ldNc (vs := [Value.int IntKind.i64 a.1, Value.int IntKind.i64 (a.2 + 1)]) (RowL.cells r4 rfl) (by rfl) (by rfl))) rfl rfl rfl ?_
  refine LL.val (R.move rfl rfl) rfl rfl rfl ?_
  refine LL.storeN (vs := [Value.int IntKind.i64 a.1, Value.int IntKind.i64 (a.2 + 1)]) rfl rfl rfl rfl r17 (by exact Nat.le_of_ble_eq_true rfl) (ones_of rfl) rfl rfl ?_
  intro W24 r25 b23 z26
  have hlb23 := r17.lt
  replace r25 : RowL W24 _ 64 [Value.int IntKind.i64 a.1, Value.int IntKind.i64 (a.2 + 1)] := r25
  clear r17
  replace r10 := r10.gr b23 (by have := r10.lt; omega)
  replace b1 := b1.grown b23 b1.size (by rintro k ⟨⟩; omega)
  replace q := q.grown b23 q.size (by rintro k ⟨⟩; omega)
  replace r4 := r4.gr b23 (by have := r4.lt; omega)
  have r17 := r25
  clear r25
  refine LL.val (R.assign rfl rfl) rfl rfl rfl ?_
  refine LL.nilS ?_
  refine CC.ret ?_
  refine EE.ret2 rfl ⟨_, rfl, lvNc (RowL.cells0 (by assumption)) (by rfl) (by rfl)⟩ rfl ?_
  exact ⟨rfl, q⟩
set_option maxRecDepth 100000 in
set_option maxHeartbeats 8000000 in
theorem joinedE_any (l : List Ex) (f d : Int) (v : Value) (base : Nat) (w : World) (ho : OwnsT eE 3 w base 41 v l) (hbase : base ≤ w.heap.size) (hl : ∀ x ∈ l, litE x) (hb : litB (f, d)) (hlen : l.length ≤ 4096) : Calls Tryd.prog 48 #[v, .agg #[.int .i64 f, .int .i64 d, .int .i64 1], .func (.func 49) #[] #[]] w fun e w' => ∃ v', e = .returned v' ∧ OwnsT eE 3 w' base 41 v' (joinE l (f, d)) ∧ Below base w w' := by
  have q := Below.refl base w
  rcases snoc_cases l with rfl | ⟨l', a, rfl⟩
  · obtain ⟨av, cap, rfl, hcap⟩ := (ho.reads eEnc).form (n := 0) rfl
    refine X.fn Tryd.func48 rfl (n := 36) rfl rfl ?_
    refine CC.seq ?_
    refine CC.region ?_
    refine LL.box [Value.int IntKind.i64 f, Value.int IntKind.i64 d, Value.int IntKind.i64 1] rfl rfl rfl rfl rfl ?_
    intro W2 g3 eg3 r4 z5 b1
    replace q := q.trans (b1.mono (by have := q.size; omega))
    replace ho := ho.up b1
    refine LL.val (R.assign rfl rfl) rfl rfl rfl ?_
    refine LL.nilS ?_
    refine CC.seq ?_
    refine CC.region ?_
    refine LL.val (R.move rfl rfl) rfl rfl rfl ?_
    refine LL.val (R.len rfl rfl rfl rfl) rfl rfl rfl ?_
    refine LL.val (R.assign rfl rfl) rfl rfl rfl ?_
    refine LL.nilS ?_
    refine CC.seq ?_
    refine CC.seq ?_
    refine CC.region ?_
    refine LL.val (R.move rfl rfl) rfl rfl rfl ?_
    refine LL.val (R.gtF rfl rfl rfl (by omega)) rfl rfl rfl ?_
    refine LL.nilS ?_
    refine CC.no rfl ?_
    refine CC.skip ?_
    refine EE.thenN ?_
    refine CC.seq ?_
    refine CC.region ?_
    refine LL.val (R.move rfl rfl) rfl rfl rfl ?_
    refine LL.val (R.load rfl rfl (I.ldNc (vs := [Value.int IntKind.i64 f, Value.int IntKind.i64 d, Value.int IntKind.i64 1]) (RowL.cells r4 rfl) (by rfl) (by rfl))) rfl rfl rfl ?_
    have l6 := r4.lt
    refine LL.lit (e := 41) [Value.int IntKind.i64 f, Value.int IntKind.i64 d, Value.int IntKind.i64 1] 1 rfl rfl (fun _ => by kernel_rfl) rfl rfl ?_
    intro W8 g9 eg9 r10 z11 b7
    replace r4 := r4.up b7
    replace b1 := b1.trans (b7.mono b1.size)
    replace q := q.trans (b7.mono (by have := q.size; omega))
    replace ho := ho.up b7
    refine LL.appendT2 rfl rfl eEnc ElEx ho (RowL.readsT (ts := [(f, d, 1)]) eEnc (by assumption) 1 (by simp)) (by simp [maxLen]) (by simp) (by have := q.size; omega) rfl rfl ?_
    intro v' Wa oa gra hva
    obtain ⟨a', cp, rfl, hcp⟩ := (oa.reads eEnc).form (n := 1) rfl
    replace q := q.grown gra (by have := q.size; omega) (fun g hg => own_ge ho g hg)
    refine LL.val (R.assign rfl rfl) rfl rfl rfl ?_
    refine LL.nilS ?_
    refine CC.ret ?_
    refine EE.ret _ rfl rfl ?_
    exact ⟨_, rfl, oa, q⟩
  have hm : ¬mergeE a (f, d) ∨ mergeE a (f, d) := by
    by_cases h : mergeE a (f, d)
    · exact .inr h
    · exact .inl h
  have ha := hl a (by simp)
  rw [joinE_snoc]
  simp only [List.length_append, List.length_cons, List.length_nil] at hlen
  obtain ⟨N, hN⟩ : ∃ N, l'.length = N := ⟨_, rfl⟩
  have hN1 : (l' ++ [a]).length = N + 1 := by simp [hN]
  obtain ⟨g, cap, rfl, hbg, hgl, hnc⟩ := ownsT_form ho hN1 (by omega)
  have hr := ho.reads eEnc
  obtain ⟨_, _, e1, _, hcs⟩ := hr.get eEnc (i := N) (t := a) (by rw [← hN]; simp)
  cases e1
  have hcs : Cells w ⟨g, 0 + N * 3, none⟩ [.int .i64 a.1, .int .i64 a.2.1, .int .i64 a.2.2] := hcs
  clear hr
  have hNi : ((N + 1 : Nat) : Int) - 1 = (N : Int) := by omega
  rcases hm with hm | hm
  · rw [if_neg hm]
    focus
      refine X.fn Tryd.func48 rfl (n := 36) rfl rfl ?_
      refine CC.seq ?_
      refine CC.region ?_
      refine LL.box [Value.int IntKind.i64 f, Value.int IntKind.i64 d, Value.int IntKind.i64 1] rfl rfl rfl rfl rfl ?_
      intro Wb2 gb3 egb3 rb4 zb5 bb1
      replace q := q.trans (bb1.mono (by have := q.size; omega))
      replace ho := ho.up bb1
      replace hcs := hcs.up bb1
      refine LL.val (R.assign rfl rfl) rfl rfl rfl ?_
      refine LL.nilS ?_
      refine CC.seq ?_
      refine CC.region ?_
      refine LL.val (R.move rfl rfl) rfl rfl rfl ?_
      refine LL.val (R.len rfl rfl rfl rfl) rfl rfl rfl ?_
      refine LL.val (R.assign rfl rfl) rfl rfl rfl ?_
      refine LL.nilS ?_
      refine CC.seq ?_
      refine CC.seq ?_
      refine CC.region ?_
      refine LL.val (R.move rfl rfl) rfl rfl rfl ?_
      refine LL.val (R.gtT rfl rfl rfl (by omega)) rfl rfl rfl ?_
      refine LL.nilS ?_
      refine CC.yes rfl ?_
      refine CC.seq ?_
      refine CC.join (fun l_ Wb22 => ∃ (gb17 : Nat), l_ = [(0, Value.slice (some { block := g, off := 0 }) (N + 1) cap), (1, Value.agg #[Value.int IntKind.i64 f, Value.int IntKind.i64 d, Value.int IntKind.i64 1]), (4, Value.pointer (some { block := gb3, off := 0 })), (6, Value.slice none 0 0), (10, Value.slice (some { block := g, off := 0 }) (N + 1) cap), (11, Value.int IntKind.i64 ↑(N + 1)), (7, Value.int IntKind.i64 ↑(N + 1)), (12, Value.int IntKind.i64 ↑(N + 1)), (13, Value.bool true), (8, Value.pointer (some { block := gb17, off := 0 })), (9, Value.bool false)] ∧ (Below Wb2.heap.size Wb2 Wb22) ∧ (RowL Wb22 gb3 41 [Value.int IntKind.i64 f, Value.int IntKind.i64 d, Value.int IntKind.i64 1]) ∧ (Below w.heap.size w Wb22) ∧ (Below base w Wb22) ∧ (OwnsT eE 3 Wb22 base 41 (Value.slice (some { block := g, off := 0 }) (N + 1) cap) (l' ++ [a])) ∧ (Cells Wb22 { block := g, off := 0 + N * 3 } [Value.int IntKind.i64 a.1, Value.int IntKind.i64 a.2.1, Value.int IntKind.i64 a.2.2]) ∧ (RowL Wb22 gb17 41 [Value.int IntKind.i64 a.1, Value.int IntKind.i64 a.2.1, Value.int IntKind.i64 (a.2.2 + 1)]) ∧ (Wb2.heap.size ≤ Wb22.heap.size) ∧ (Wb2.heap.size ≤ gb17)) (fun Jb27 => ?_) ?restJb27
      case' restJb27 =>
        clear rb4
        clear bb1
        clear q
        clear ho
        clear hcs
        rintro _ Wb22 ⟨gb17, rfl, bb6, rb4, bb1, q, ho, hcs, rb18, zb25, zb26⟩
      refine EE.thenN ?_
      refine CC.seq ?_
      refine CC.region ?_
      refine LL.val (R.move rfl rfl) rfl rfl rfl ?_
      refine LL.nilS ?_
      refine CC.no rfl ?_
      refine CC.skip ?_
      refine EE.thenN ?_
      refine CC.seq ?_
      refine CC.region ?_
      refine LL.val (R.move rfl rfl) rfl rfl rfl ?_
      refine LL.val (R.load rfl rfl (I.ldNc (vs := [Value.int IntKind.i64 f, Value.int IntKind.i64 d, Value.int IntKind.i64 1]) (RowL.cells rb4 rfl) (by rfl) (by rfl))) rfl rfl rfl ?_
      have lb28 := rb4.lt
      have lb29 := rb18.lt
      refine LL.lit (e := 41) [Value.int IntKind.i64 f, Value.int IntKind.i64 d, Value.int IntKind.i64 1] 1 rfl rfl (fun _ => by kernel_rfl) rfl rfl ?_
      intro Wb31 gb32 egb32 rb33 zb34 bb30
      replace bb6 := bb6.trans (bb30.mono bb6.size)
      replace rb4 := rb4.up bb30
      replace bb1 := bb1.trans (bb30.mono bb1.size)
      replace q := q.trans (bb30.mono (by have := q.size; omega))
      replace ho := ho.up bb30
      replace hcs := hcs.up bb30
      replace rb18 := rb18.up bb30
      rotate_left
      refine CC.freeZ (fun W_ j => j < W_.heap.size ∧ (True)) (by kernel_rfl) (by kernel_rfl) (fun Wb36 bb35 zb37 => ?_)
      replace rb4 := rb4.up bb35
      replace bb1 := bb1.trans (bb35.mono bb1.size)
      replace q := q.trans (bb35.mono (by have := q.size; omega))
      replace ho := ho.up bb35
      replace hcs := hcs.up bb35
      have hok : Kept (fun j => j < Wb36.heap.size ∧ (True)) Wb36 Wb36 := Kept.refl _ _
      have fzrb4 := fzRow (K := fun j => j < Wb36.heap.size ∧ (True)) rb4 ⟨rb4.lt, (by first | trivial | omega)⟩
      refine AA.pure 0 rfl hok (by kernel_rfl) (fun w' b' => R.move rfl rfl) rfl rfl ?_
      refine AA.pure 1 rfl hok (by kernel_rfl) (fun w' b' => R.move rfl rfl) rfl rfl ?_
      refine AA.pure 2 rfl hok (by kernel_rfl) (fun w' b' => R.move rfl rfl) rfl rfl ?_
      refine AA.pure 3 rfl hok (by kernel_rfl) (fun w' b' => R.subNc rfl rfl rfl rfl (by omega) (by omega)) rfl rfl ?_
      refine AA.pure 4 rfl hok (by kernel_rfl) (fun w' b' => R.index rfl rfl rfl (I.ixS rfl (by omega))) rfl rfl ?_
      refine AA.pure 6 rfl hok (by kernel_rfl) (fun w' b' => R.load rfl rfl (I.ldNc (vs := [Value.int IntKind.i64 f, Value.int IntKind.i64 d, Value.int IntKind.i64 1]) (RowL.cells (fzrb4 w' b') rfl) (by rfl) (by rfl))) rfl rfl ?_
      refine AA.two 5 11 (by kernel_rfl) ?_ ?_
      refine SR.val rfl (R.load rfl rfl (I.ldNc (by assumption) rfl rfl)) rfl rfl hok ?_
      refine AA.two 7 11 (by kernel_rfl) ?_ ?_
      refine SR.call rfl (R.callV rfl rfl rfl rfl) rfl rfl (gather1_F _ _ _ _ (by first | assumption | omega) (by first | assumption | omega) (by first | assumption | omega)) ?_
      rintro e Wb41 ⟨rfl, bb40⟩
      have zbb40 := bb40.size
      replace bb35 := bb35.trans (bb40.mono bb35.size)
      replace rb4 := rb4.up bb40
      replace bb1 := bb1.trans (bb40.mono bb1.size)
      replace q := q.trans (bb40.mono (by have := q.size; omega))
      replace ho := ho.up bb40
      replace hcs := hcs.up bb40
      replace hok := hok.trans (bkept bb40 (fun j h => by have := h.1; have := hok.size; omega))
      have yb42 := hok.size
      refine ⟨_, rfl, hok, ?_⟩
      refine AA.pure 8 rfl hok (by kernel_rfl) (fun w' b' => R.move rfl rfl) rfl rfl ?_
      refine AA.pure 9 rfl hok (by kernel_rfl) (fun w' b' => R.extract rfl rfl rfl) rfl rfl ?_
      refine AA.pure 10 rfl hok (by kernel_rfl) (fun w' b' => R.extract rfl rfl rfl) rfl rfl ?_
      refine AA.one 11 (by kernel_rfl) ?_
      have lb43 := rb4.lt
      refine ZR.alloc ([Value.int IntKind.i64 0, Value.int IntKind.i64 0, Value.int IntKind.i64 0]) rfl rfl rfl rfl rfl rfl ?_
      intro Wb45 gb46 egb46 rb47 zb48 bb44
      replace bb40 := bb40.trans (bb44.mono bb40.size)
      replace bb35 := bb35.trans (bb44.mono bb35.size)
      replace rb4 := rb4.up bb44
      replace bb1 := bb1.trans (bb44.mono bb1.size)
      replace q := q.trans (bb44.mono (by have := q.size; omega))
      replace ho := ho.up bb44
      replace hcs := hcs.up bb44
      replace hok := hok.trans (bkept bb44 (fun j h => by have := h.1; have := hok.size; omega))
      have yb49 := hok.size
      refine ⟨hok, ?_⟩
      refine AA.one 12 (by kernel_rfl) ?_
      refine ZR.storeN (vs := [Value.int IntKind.i64 a.1, Value.int IntKind.i64 a.2.1, Value.int IntKind.i64 (a.2.2 + 1)]) rfl rfl rfl rfl rfl rb47 (by exact Nat.le_of_ble_eq_true rfl) (ones_of rfl) rfl rfl ?_
      intro Wb51 rb52 bb50 zb53
      have hlbb50 := rb47.lt
      replace rb52 : RowL Wb51 _ 41 [Value.int IntKind.i64 a.1, Value.int IntKind.i64 a.2.1, Value.int IntKind.i64 (a.2.2 + 1)] := rb52
      clear rb47
      replace bb44 := bb44.grown bb50 bb44.size (by rintro k ⟨⟩; omega)
      replace bb40 := bb40.grown bb50 bb40.size (by rintro k ⟨⟩; omega)
      replace bb35 := bb35.grown bb50 bb35.size (by rintro k ⟨⟩; omega)
      replace rb4 := rb4.gr bb50 (by have := rb4.lt; omega)
      replace bb1 := bb1.grown bb50 bb1.size (by rintro k ⟨⟩; omega)
      replace q := q.grown bb50 (by have := q.size; omega) (by rintro k ⟨⟩; omega)
      replace ho := ho.grown bb50 (fun e => by simp [Value.ownBlock] at e; omega)
      replace hcs := hcs.gr bb50 (by omega)
      replace hok := hok.trans (grown_kept bb50 (fun j h => by have := h.1; have := hok.size; omega) (fun j h e => by cases e; have h2 := h.1; have h3 := h.2; omega))
      have rb47 := rb52
      clear rb52
      refine ⟨hok, ?_⟩
      refine AA.pure 13 rfl hok (by kernel_rfl) (fun w' b' => R.assign rfl rfl) rfl rfl ?_
      refine AA.done rfl ?_
      clear fzrb4 hok
      exact EE.weak (Jb27 _ _ ⟨_, rfl, (by first | assumption | omega), (by first | assumption | omega), (by first | assumption | omega), (by first | assumption | omega), (by first | assumption | omega), (by first | assumption | omega), (by first | assumption | omega), (by first | assumption | omega), (by first | assumption | omega)⟩) ⟨rfl, rfl, rfl, rfl, rfl, rfl, rfl, rfl, rfl, rfl, rfl, trivial⟩
      have lb54 := rb4.lt
      refine ZR.alloc ([Value.int IntKind.i64 0, Value.int IntKind.i64 0, Value.int IntKind.i64 0]) rfl rfl rfl rfl rfl rfl ?_
      intro Wb56 gb57 egb57 rb58 zb59 bb55
      replace bb35 := bb35.trans (bb55.mono bb35.size)
      replace rb4 := rb4.up bb55
      replace bb1 := bb1.trans (bb55.mono bb1.size)
      replace q := q.trans (bb55.mono (by have := q.size; omega))
      replace ho := ho.up bb55
      replace hcs := hcs.up bb55
      replace hok := hok.trans (bkept bb55 (fun j h => by have := h.1; have := hok.size; omega))
      have yb60 := hok.size
      refine ⟨hok, ?_⟩
      refine AA.one 7 (by kernel_rfl) ?_
      refine SR.call rfl (R.callV rfl rfl rfl rfl) rfl rfl (gather1_F _ _ _ _ (by first | assumption | omega) (by first | assumption | omega) (by first | assumption | omega)) ?_
      rintro e Wb64 ⟨rfl, bb63⟩
      have zbb63 := bb63.size
      replace rb58 := rb58.up bb63
      replace bb55 := bb55.trans (bb63.mono bb55.size)
      replace bb35 := bb35.trans (bb63.mono bb35.size)
      replace rb4 := rb4.up bb63
      replace bb1 := bb1.trans (bb63.mono bb1.size)
      replace q := q.trans (bb63.mono (by have := q.size; omega))
      replace ho := ho.up bb63
      replace hcs := hcs.up bb63
      replace hok := hok.trans (bkept bb63 (fun j h => by have := h.1; have := hok.size; omega))
      have yb65 := hok.size
      refine ⟨_, rfl, hok, ?_⟩
      refine AA.pure 8 rfl hok (by kernel_rfl) (fun w' b' => R.move rfl rfl) rfl rfl ?_
      refine AA.pure 9 rfl hok (by kernel_rfl) (fun w' b' => R.extract rfl rfl rfl) rfl rfl ?_
      refine AA.pure 10 rfl hok (by kernel_rfl) (fun w' b' => R.extract rfl rfl rfl) rfl rfl ?_
      refine AA.one 12 (by kernel_rfl) ?_
      refine ZR.storeN (vs := [Value.int IntKind.i64 a.1, Value.int IntKind.i64 a.2.1, Value.int IntKind.i64 (a.2.2 + 1)]) rfl rfl rfl rfl rfl rb58 (by exact Nat.le_of_ble_eq_true rfl) (ones_of rfl) rfl rfl ?_
      intro Wb67 rb68 bb66 zb69
      have hlbb66 := rb58.lt
      replace rb68 : RowL Wb67 _ 41 [Value.int IntKind.i64 a.1, Value.int IntKind.i64 a.2.1, Value.int IntKind.i64 (a.2.2 + 1)] := rb68
      clear rb58
      replace bb55 := bb55.grown bb66 bb55.size (by rintro k ⟨⟩; omega)
      replace bb35 := bb35.grown bb66 bb35.size (by rintro k ⟨⟩; omega)
      replace rb4 := rb4.gr bb66 (by have := rb4.lt; omega)
      replace bb1 := bb1.grown bb66 bb1.size (by rintro k ⟨⟩; omega)
      replace q := q.grown bb66 (by have := q.size; omega) (by rintro k ⟨⟩; omega)
      replace ho := ho.grown bb66 (fun e => by simp [Value.ownBlock] at e; omega)
      replace hcs := hcs.gr bb66 (by omega)
      replace hok := hok.trans (grown_kept bb66 (fun j h => by have := h.1; have := hok.size; omega) (fun j h e => by cases e; have h2 := h.1; have h3 := h.2; omega))
      have rb58 := rb68
      clear rb68
      refine ⟨hok, ?_⟩
      refine AA.pure 13 rfl hok (by kernel_rfl) (fun w' b' => R.assign rfl rfl) rfl rfl ?_
      refine AA.done rfl ?_
      clear fzrb4 hok
      exact EE.weak (Jb27 _ _ ⟨_, rfl, (by first | assumption | omega), (by first | assumption | omega), (by first | assumption | omega), (by first | assumption | omega), (by first | assumption | omega), (by first | assumption | omega), (by first | assumption | omega), (by first | assumption | omega), (by first | assumption | omega)⟩) ⟨rfl, rfl, rfl, rfl, rfl, rfl, rfl, rfl, rfl, rfl, rfl, trivial⟩
      have lb70 := rb4.lt
      refine ZR.alloc ([Value.int IntKind.i64 0, Value.int IntKind.i64 0, Value.int IntKind.i64 0]) rfl rfl rfl rfl rfl rfl ?_
      intro Wb72 gb73 egb73 rb74 zb75 bb71
      replace bb35 := bb35.trans (bb71.mono bb35.size)
      replace rb4 := rb4.up bb71
      replace bb1 := bb1.trans (bb71.mono bb1.size)
      replace q := q.trans (bb71.mono (by have := q.size; omega))
      replace ho := ho.up bb71
      replace hcs := hcs.up bb71
      replace hok := hok.trans (bkept bb71 (fun j h => by have := h.1; have := hok.size; omega))
      have yb76 := hok.size
      refine ⟨hok, ?_⟩
      refine AA.one 5 (by kernel_rfl) ?_
      refine SR.val rfl (R.load rfl rfl (I.ldNc (by assumption) rfl rfl)) rfl rfl hok ?_
      refine AA.one 7 (by kernel_rfl) ?_
      refine SR.call rfl (R.callV rfl rfl rfl rfl) rfl rfl (gather1_F _ _ _ _ (by first | assumption | omega) (by first | assumption | omega) (by first | assumption | omega)) ?_
      rintro e Wb80 ⟨rfl, bb79⟩
      have zbb79 := bb79.size
      replace rb74 := rb74.up bb79
      replace bb71 := bb71.trans (bb79.mono bb71.size)
      replace bb35 := bb35.trans (bb79.mono bb35.size)
      replace rb4 := rb4.up bb79
      replace bb1 := bb1.trans (bb79.mono bb1.size)
      replace q := q.trans (bb79.mono (by have := q.size; omega))
      replace ho := ho.up bb79
      replace hcs := hcs.up bb79
      replace hok := hok.trans (bkept bb79 (fun j h => by have := h.1; have := hok.size; omega))
      have yb81 := hok.size
      refine ⟨_, rfl, hok, ?_⟩
      refine AA.pure 8 rfl hok (by kernel_rfl) (fun w' b' => R.move rfl rfl) rfl rfl ?_
      refine AA.pure 9 rfl hok (by kernel_rfl) (fun w' b' => R.extract rfl rfl rfl) rfl rfl ?_
      refine AA.pure 10 rfl hok (by kernel_rfl) (fun w' b' => R.extract rfl rfl rfl) rfl rfl ?_
      refine AA.one 12 (by kernel_rfl) ?_
      refine ZR.storeN (vs := [Value.int IntKind.i64 a.1, Value.int IntKind.i64 a.2.1, Value.int IntKind.i64 (a.2.2 + 1)]) rfl rfl rfl rfl rfl rb74 (by exact Nat.le_of_ble_eq_true rfl) (ones_of rfl) rfl rfl ?_
      intro Wb83 rb84 bb82 zb85
      have hlbb82 := rb74.lt
      replace rb84 : RowL Wb83 _ 41 [Value.int IntKind.i64 a.1, Value.int IntKind.i64 a.2.1, Value.int IntKind.i64 (a.2.2 + 1)] := rb84
      clear rb74
      replace bb71 := bb71.grown bb82 bb71.size (by rintro k ⟨⟩; omega)
      replace bb35 := bb35.grown bb82 bb35.size (by rintro k ⟨⟩; omega)
      replace rb4 := rb4.gr bb82 (by have := rb4.lt; omega)
      replace bb1 := bb1.grown bb82 bb1.size (by rintro k ⟨⟩; omega)
      replace q := q.grown bb82 (by have := q.size; omega) (by rintro k ⟨⟩; omega)
      replace ho := ho.grown bb82 (fun e => by simp [Value.ownBlock] at e; omega)
      replace hcs := hcs.gr bb82 (by omega)
      replace hok := hok.trans (grown_kept bb82 (fun j h => by have := h.1; have := hok.size; omega) (fun j h e => by cases e; have h2 := h.1; have h3 := h.2; omega))
      have rb74 := rb84
      clear rb84
      refine ⟨hok, ?_⟩
      refine AA.pure 13 rfl hok (by kernel_rfl) (fun w' b' => R.assign rfl rfl) rfl rfl ?_
      refine AA.done rfl ?_
      clear fzrb4 hok
      exact EE.weak (Jb27 _ _ ⟨_, rfl, (by first | assumption | omega), (by first | assumption | omega), (by first | assumption | omega), (by first | assumption | omega), (by first | assumption | omega), (by first | assumption | omega), (by first | assumption | omega), (by first | assumption | omega), (by first | assumption | omega)⟩) ⟨rfl, rfl, rfl, rfl, rfl, rfl, rfl, rfl, rfl, rfl, rfl, trivial⟩
    have yq := q.size
    refine LL.appendT2 rfl rfl eEnc ElEx ho (RowL.readsT (ts := [(f, d, 1)]) eEnc (by assumption) 1 (by simp)) (by simp [maxLen]; omega) (by simp; omega) (by omega) rfl rfl ?_
    intro v' Wa oa gra hva
    obtain ⟨a', cp, rfl, hcp⟩ := (oa.reads eEnc).form rfl
    replace q := q.grown gra (by have := q.size; omega) (fun g hg => own_ge ho g hg)
    refine LL.val (R.assign rfl rfl) rfl rfl rfl ?_
    refine LL.nilS ?_
    refine CC.ret ?_
    refine EE.ret _ rfl rfl ?_
    exact ⟨_, rfl, oa, q⟩
  · rw [if_pos hm]
    focus
      refine X.fn Tryd.func48 rfl (n := 36) rfl rfl ?_
      refine CC.seq ?_
      refine CC.region ?_
      refine LL.box [Value.int IntKind.i64 f, Value.int IntKind.i64 d, Value.int IntKind.i64 1] rfl rfl rfl rfl rfl ?_
      intro Wd2 gd3 egd3 rd4 zd5 bd1
      replace q := q.trans (bd1.mono (by have := q.size; omega))
      replace ho := ho.up bd1
      replace hcs := hcs.up bd1
      refine LL.val (R.assign rfl rfl) rfl rfl rfl ?_
      refine LL.nilS ?_
      refine CC.seq ?_
      refine CC.region ?_
      refine LL.val (R.move rfl rfl) rfl rfl rfl ?_
      refine LL.val (R.len rfl rfl rfl rfl) rfl rfl rfl ?_
      refine LL.val (R.assign rfl rfl) rfl rfl rfl ?_
      refine LL.nilS ?_
      refine CC.seq ?_
      refine CC.seq ?_
      refine CC.region ?_
      refine LL.val (R.move rfl rfl) rfl rfl rfl ?_
      refine LL.val (R.gtT rfl rfl rfl (by omega)) rfl rfl rfl ?_
      refine LL.nilS ?_
      refine CC.yes rfl ?_
      refine CC.seq ?_
      refine CC.join (fun l_ Wd20 => ∃ (gd15 : Nat), l_ = [(0, Value.slice (some { block := g, off := 0 }) (N + 1) cap), (1, Value.agg #[Value.int IntKind.i64 f, Value.int IntKind.i64 d, Value.int IntKind.i64 1]), (4, Value.pointer (some { block := gd3, off := 0 })), (6, Value.slice none 0 0), (10, Value.slice (some { block := g, off := 0 }) (N + 1) cap), (11, Value.int IntKind.i64 ↑(N + 1)), (7, Value.int IntKind.i64 ↑(N + 1)), (12, Value.int IntKind.i64 ↑(N + 1)), (13, Value.bool true), (8, Value.pointer (some { block := gd15, off := 0 })), (9, Value.bool true)] ∧ (Below Wd2.heap.size Wd2 Wd20) ∧ (RowL Wd20 gd3 41 [Value.int IntKind.i64 f, Value.int IntKind.i64 d, Value.int IntKind.i64 1]) ∧ (Below w.heap.size w Wd20) ∧ (Below base w Wd20) ∧ (OwnsT eE 3 Wd20 base 41 (Value.slice (some { block := g, off := 0 }) (N + 1) cap) (l' ++ [a])) ∧ (Cells Wd20 { block := g, off := 0 + N * 3 } [Value.int IntKind.i64 a.1, Value.int IntKind.i64 a.2.1, Value.int IntKind.i64 a.2.2]) ∧ (RowL Wd20 gd15 41 [Value.int IntKind.i64 a.1, Value.int IntKind.i64 a.2.1, Value.int IntKind.i64 (a.2.2 + 1)]) ∧ (Wd2.heap.size ≤ Wd20.heap.size) ∧ (Wd2.heap.size ≤ gd15)) (fun Jd25 => ?_) ?restJd25
      case' restJd25 =>
        clear rd4
        clear bd1
        clear q
        clear ho
        clear hcs
        rintro _ Wd20 ⟨gd15, rfl, bd6, rd4, bd1, q, ho, hcs, rd16, zd23, zd24⟩
      refine EE.thenN ?_
      refine CC.seq ?_
      refine CC.region ?_
      refine LL.val (R.move rfl rfl) rfl rfl rfl ?_
      refine LL.nilS ?_
      refine CC.yes rfl ?_
      refine CC.seq ?_
      refine CC.region ?_
      refine LL.val (R.move rfl rfl) rfl rfl rfl ?_
      refine LL.val (R.move rfl rfl) rfl rfl rfl ?_
      refine LL.val (R.subNc rfl rfl rfl rfl (by omega) (by omega)) rfl rfl rfl ?_
      refine LL.val (R.load rfl rfl (I.ldNc (vs := [Value.int IntKind.i64 a.1, Value.int IntKind.i64 a.2.1, Value.int IntKind.i64 (a.2.2 + 1)]) (RowL.cells rd16 rfl) (by rfl) (by rfl))) rfl rfl rfl ?_
      refine LL.val (R.index rfl rfl rfl (I.ixS rfl (by omega))) rfl rfl rfl ?_
      rotate_left
      refine CC.freeZ (fun W_ j => j < W_.heap.size ∧ (True)) (by kernel_rfl) (by kernel_rfl) (fun Wd31 bd30 zd32 => ?_)
      replace rd4 := rd4.up bd30
      replace bd1 := bd1.trans (bd30.mono bd1.size)
      replace q := q.trans (bd30.mono (by have := q.size; omega))
      replace ho := ho.up bd30
      replace hcs := hcs.up bd30
      have hok : Kept (fun j => j < Wd31.heap.size ∧ (True)) Wd31 Wd31 := Kept.refl _ _
      have fzrd4 := fzRow (K := fun j => j < Wd31.heap.size ∧ (True)) rd4 ⟨rd4.lt, (by first | trivial | omega)⟩
      refine AA.pure 0 rfl hok (by kernel_rfl) (fun w' b' => R.move rfl rfl) rfl rfl ?_
      refine AA.pure 1 rfl hok (by kernel_rfl) (fun w' b' => R.move rfl rfl) rfl rfl ?_
      refine AA.pure 2 rfl hok (by kernel_rfl) (fun w' b' => R.move rfl rfl) rfl rfl ?_
      refine AA.pure 3 rfl hok (by kernel_rfl) (fun w' b' => R.subNc rfl rfl rfl rfl (by omega) (by omega)) rfl rfl ?_
      refine AA.pure 4 rfl hok (by kernel_rfl) (fun w' b' => R.index rfl rfl rfl (I.ixS rfl (by omega))) rfl rfl ?_
      refine AA.pure 6 rfl hok (by kernel_rfl) (fun w' b' => R.load rfl rfl (I.ldNc (vs := [Value.int IntKind.i64 f, Value.int IntKind.i64 d, Value.int IntKind.i64 1]) (RowL.cells (fzrd4 w' b') rfl) (by rfl) (by rfl))) rfl rfl ?_
      refine AA.two 5 11 (by kernel_rfl) ?_ ?_
      refine SR.val rfl (R.load rfl rfl (I.ldNc (by assumption) rfl rfl)) rfl rfl hok ?_
      refine AA.two 7 11 (by kernel_rfl) ?_ ?_
      refine SR.call rfl (R.callV rfl rfl rfl rfl) rfl rfl (gather1_T _ _ _ _ (by first | assumption | omega) (by first | assumption | omega) (by first | assumption | omega)) ?_
      rintro e Wd34 ⟨rfl, bd33⟩
      have zbd33 := bd33.size
      replace bd30 := bd30.trans (bd33.mono bd30.size)
      replace rd4 := rd4.up bd33
      replace bd1 := bd1.trans (bd33.mono bd1.size)
      replace q := q.trans (bd33.mono (by have := q.size; omega))
      replace ho := ho.up bd33
      replace hcs := hcs.up bd33
      replace hok := hok.trans (bkept bd33 (fun j h => by have := h.1; have := hok.size; omega))
      have yd35 := hok.size
      refine ⟨_, rfl, hok, ?_⟩
      refine AA.pure 8 rfl hok (by kernel_rfl) (fun w' b' => R.move rfl rfl) rfl rfl ?_
      refine AA.pure 9 rfl hok (by kernel_rfl) (fun w' b' => R.extract rfl rfl rfl) rfl rfl ?_
      refine AA.pure 10 rfl hok (by kernel_rfl) (fun w' b' => R.extract rfl rfl rfl) rfl rfl ?_
      refine AA.one 11 (by kernel_rfl) ?_
      have ld36 := rd4.lt
      refine ZR.alloc ([Value.int IntKind.i64 0, Value.int IntKind.i64 0, Value.int IntKind.i64 0]) rfl rfl rfl rfl rfl rfl ?_
      intro Wd38 gd39 egd39 rd40 zd41 bd37
      replace bd33 := bd33.trans (bd37.mono bd33.size)
      replace bd30 := bd30.trans (bd37.mono bd30.size)
      replace rd4 := rd4.up bd37
      replace bd1 := bd1.trans (bd37.mono bd1.size)
      replace q := q.trans (bd37.mono (by have := q.size; omega))
      replace ho := ho.up bd37
      replace hcs := hcs.up bd37
      replace hok := hok.trans (bkept bd37 (fun j h => by have := h.1; have := hok.size; omega))
      have yd42 := hok.size
      refine ⟨hok, ?_⟩
      refine AA.one 12 (by kernel_rfl) ?_
      refine ZR.storeN (vs := [Value.int IntKind.i64 a.1, Value.int IntKind.i64 a.2.1, Value.int IntKind.i64 (a.2.2 + 1)]) rfl rfl rfl rfl rfl rd40 (by exact Nat.le_of_ble_eq_true rfl) (ones_of rfl) rfl rfl ?_
      intro Wd44 rd45 bd43 zd46
      have hlbd43 := rd40.lt
      replace rd45 : RowL Wd44 _ 41 [Value.int IntKind.i64 a.1, Value.int IntKind.i64 a.2.1, Value.int IntKind.i64 (a.2.2 + 1)] := rd45
      clear rd40
      replace bd37 := bd37.grown bd43 bd37.size (by rintro k ⟨⟩; omega)
      replace bd33 := bd33.grown bd43 bd33.size (by rintro k ⟨⟩; omega)
      replace bd30 := bd30.grown bd43 bd30.size (by rintro k ⟨⟩; omega)
      replace rd4 := rd4.gr bd43 (by have := rd4.lt; omega)
      replace bd1 := bd1.grown bd43 bd1.size (by rintro k ⟨⟩; omega)
      replace q := q.grown bd43 (by have := q.size; omega) (by rintro k ⟨⟩; omega)
      replace ho := ho.grown bd43 (fun e => by simp [Value.ownBlock] at e; omega)
      replace hcs := hcs.gr bd43 (by omega)
      replace hok := hok.trans (grown_kept bd43 (fun j h => by have := h.1; have := hok.size; omega) (fun j h e => by cases e; have h2 := h.1; have h3 := h.2; omega))
      have rd40 := rd45
      clear rd45
      refine ⟨hok, ?_⟩
      refine AA.pure 13 rfl hok (by kernel_rfl) (fun w' b' => R.assign rfl rfl) rfl rfl ?_
      refine AA.done rfl ?_
      clear fzrd4 hok
      exact EE.weak (Jd25 _ _ ⟨_, rfl, (by first | assumption | omega), (by first | assumption | omega), (by first | assumption | omega), (by first | assumption | omega), (by first | assumption | omega), (by first | assumption | omega), (by first | assumption | omega), (by first | assumption | omega), (by first | assumption | omega)⟩) ⟨rfl, rfl, rfl, rfl, rfl, rfl, rfl, rfl, rfl, rfl, rfl, trivial⟩
      have ld47 := rd4.lt
      refine ZR.alloc ([Value.int IntKind.i64 0, Value.int IntKind.i64 0, Value.int IntKind.i64 0]) rfl rfl rfl rfl rfl rfl ?_
      intro Wd49 gd50 egd50 rd51 zd52 bd48
      replace bd30 := bd30.trans (bd48.mono bd30.size)
      replace rd4 := rd4.up bd48
      replace bd1 := bd1.trans (bd48.mono bd1.size)
      replace q := q.trans (bd48.mono (by have := q.size; omega))
      replace ho := ho.up bd48
      replace hcs := hcs.up bd48
      replace hok := hok.trans (bkept bd48 (fun j h => by have := h.1; have := hok.size; omega))
      have yd53 := hok.size
      refine ⟨hok, ?_⟩
      refine AA.one 7 (by kernel_rfl) ?_
      refine SR.call rfl (R.callV rfl rfl rfl rfl) rfl rfl (gather1_T _ _ _ _ (by first | assumption | omega) (by first | assumption | omega) (by first | assumption | omega)) ?_
      rintro e Wd55 ⟨rfl, bd54⟩
      have zbd54 := bd54.size
      replace rd51 := rd51.up bd54
      replace bd48 := bd48.trans (bd54.mono bd48.size)
      replace bd30 := bd30.trans (bd54.mono bd30.size)
      replace rd4 := rd4.up bd54
      replace bd1 := bd1.trans (bd54.mono bd1.size)
      replace q := q.trans (bd54.mono (by have := q.size; omega))
      replace ho := ho.up bd54
      replace hcs := hcs.up bd54
      replace hok := hok.trans (bkept bd54 (fun j h => by have := h.1; have := hok.size; omega))
      have yd56 := hok.size
      refine ⟨_, rfl, hok, ?_⟩
      refine AA.pure 8 rfl hok (by kernel_rfl) (fun w' b' => R.move rfl rfl) rfl rfl ?_
      refine AA.pure 9 rfl hok (by kernel_rfl) (fun w' b' => R.extract rfl rfl rfl) rfl rfl ?_
      refine AA.pure 10 rfl hok (by kernel_rfl) (fun w' b' => R.extract rfl rfl rfl) rfl rfl ?_
      refine AA.one 12 (by kernel_rfl) ?_
      refine ZR.storeN (vs := [Value.int IntKind.i64 a.1, Value.int IntKind.i64 a.2.1, Value.int IntKind.i64 (a.2.2 + 1)]) rfl rfl rfl rfl rfl rd51 (by exact Nat.le_of_ble_eq_true rfl) (ones_of rfl) rfl rfl ?_
      intro Wd58 rd59 bd57 zd60
      have hlbd57 := rd51.lt
      replace rd59 : RowL Wd58 _ 41 [Value.int IntKind.i64 a.1, Value.int IntKind.i64 a.2.1, Value.int IntKind.i64 (a.2.2 + 1)] := rd59
      clear rd51
      replace bd48 := bd48.grown bd57 bd48.size (by rintro k ⟨⟩; omega)
      replace bd30 := bd30.grown bd57 bd30.size (by rintro k ⟨⟩; omega)
      replace rd4 := rd4.gr bd57 (by have := rd4.lt; omega)
      replace bd1 := bd1.grown bd57 bd1.size (by rintro k ⟨⟩; omega)
      replace q := q.grown bd57 (by have := q.size; omega) (by rintro k ⟨⟩; omega)
      replace ho := ho.grown bd57 (fun e => by simp [Value.ownBlock] at e; omega)
      replace hcs := hcs.gr bd57 (by omega)
      replace hok := hok.trans (grown_kept bd57 (fun j h => by have := h.1; have := hok.size; omega) (fun j h e => by cases e; have h2 := h.1; have h3 := h.2; omega))
      have rd51 := rd59
      clear rd59
      refine ⟨hok, ?_⟩
      refine AA.pure 13 rfl hok (by kernel_rfl) (fun w' b' => R.assign rfl rfl) rfl rfl ?_
      refine AA.done rfl ?_
      clear fzrd4 hok
      exact EE.weak (Jd25 _ _ ⟨_, rfl, (by first | assumption | omega), (by first | assumption | omega), (by first | assumption | omega), (by first | assumption | omega), (by first | assumption | omega), (by first | assumption | omega), (by first | assumption | omega), (by first | assumption | omega), (by first | assumption | omega)⟩) ⟨rfl, rfl, rfl, rfl, rfl, rfl, rfl, rfl, rfl, rfl, rfl, trivial⟩
      have ld61 := rd4.lt
      refine ZR.alloc ([Value.int IntKind.i64 0, Value.int IntKind.i64 0, Value.int IntKind.i64 0]) rfl rfl rfl rfl rfl rfl ?_
      intro Wd63 gd64 egd64 rd65 zd66 bd62
      replace bd30 := bd30.trans (bd62.mono bd30.size)
      replace rd4 := rd4.up bd62
      replace bd1 := bd1.trans (bd62.mono bd1.size)
      replace q := q.trans (bd62.mono (by have := q.size; omega))
      replace ho := ho.up bd62
      replace hcs := hcs.up bd62
      replace hok := hok.trans (bkept bd62 (fun j h => by have := h.1; have := hok.size; omega))
      have yd67 := hok.size
      refine ⟨hok, ?_⟩
      refine AA.one 5 (by kernel_rfl) ?_
      refine SR.val rfl (R.load rfl rfl (I.ldNc (by assumption) rfl rfl)) rfl rfl hok ?_
      refine AA.one 7 (by kernel_rfl) ?_
      refine SR.call rfl (R.callV rfl rfl rfl rfl) rfl rfl (gather1_T _ _ _ _ (by first | assumption | omega) (by first | assumption | omega) (by first | assumption | omega)) ?_
      rintro e Wd69 ⟨rfl, bd68⟩
      have zbd68 := bd68.size
      replace rd65 := rd65.up bd68
      replace bd62 := bd62.trans (bd68.mono bd62.size)
      replace bd30 := bd30.trans (bd68.mono bd30.size)
      replace rd4 := rd4.up bd68
      replace bd1 := bd1.trans (bd68.mono bd1.size)
      replace q := q.trans (bd68.mono (by have := q.size; omega))
      replace ho := ho.up bd68
      replace hcs := hcs.up bd68
      replace hok := hok.trans (bkept bd68 (fun j h => by have := h.1; have := hok.size; omega))
      have yd70 := hok.size
      refine ⟨_, rfl, hok, ?_⟩
      refine AA.pure 8 rfl hok (by kernel_rfl) (fun w' b' => R.move rfl rfl) rfl rfl ?_
      refine AA.pure 9 rfl hok (by kernel_rfl) (fun w' b' => R.extract rfl rfl rfl) rfl rfl ?_
      refine AA.pure 10 rfl hok (by kernel_rfl) (fun w' b' => R.extract rfl rfl rfl) rfl rfl ?_
      refine AA.one 12 (by kernel_rfl) ?_
      refine ZR.storeN (vs := [Value.int IntKind.i64 a.1, Value.int IntKind.i64 a.2.1, Value.int IntKind.i64 (a.2.2 + 1)]) rfl rfl rfl rfl rfl rd65 (by exact Nat.le_of_ble_eq_true rfl) (ones_of rfl) rfl rfl ?_
      intro Wd72 rd73 bd71 zd74
      have hlbd71 := rd65.lt
      replace rd73 : RowL Wd72 _ 41 [Value.int IntKind.i64 a.1, Value.int IntKind.i64 a.2.1, Value.int IntKind.i64 (a.2.2 + 1)] := rd73
      clear rd65
      replace bd62 := bd62.grown bd71 bd62.size (by rintro k ⟨⟩; omega)
      replace bd30 := bd30.grown bd71 bd30.size (by rintro k ⟨⟩; omega)
      replace rd4 := rd4.gr bd71 (by have := rd4.lt; omega)
      replace bd1 := bd1.grown bd71 bd1.size (by rintro k ⟨⟩; omega)
      replace q := q.grown bd71 (by have := q.size; omega) (by rintro k ⟨⟩; omega)
      replace ho := ho.grown bd71 (fun e => by simp [Value.ownBlock] at e; omega)
      replace hcs := hcs.gr bd71 (by omega)
      replace hok := hok.trans (grown_kept bd71 (fun j h => by have := h.1; have := hok.size; omega) (fun j h e => by cases e; have h2 := h.1; have h3 := h.2; omega))
      have rd65 := rd73
      clear rd73
      refine ⟨hok, ?_⟩
      refine AA.pure 13 rfl hok (by kernel_rfl) (fun w' b' => R.assign rfl rfl) rfl rfl ?_
      refine AA.done rfl ?_
      clear fzrd4 hok
      exact EE.weak (Jd25 _ _ ⟨_, rfl, (by first | assumption | omega), (by first | assumption | omega), (by first | assumption | omega), (by first | assumption | omega), (by first | assumption | omega), (by first | assumption | omega), (by first | assumption | omega), (by first | assumption | omega), (by first | assumption | omega)⟩) ⟨rfl, rfl, rfl, rfl, rfl, rfl, rfl, rfl, rfl, rfl, rfl, trivial⟩
    refine LL.storeT (u := (a.1, a.2.1, a.2.2 + 1)) (i := N) rfl (by simp only [Nat.zero_add]; rfl) rfl rfl eEnc ho (by omega) rfl rfl ?_
    intro W5 oa gra
    rw [show (l' ++ [a]).set N (a.1, a.2.1, a.2.2 + 1) = l' ++ [(a.1, a.2.1, a.2.2 + 1)] by rw [List.set_append_right _ _ (by omega), hN]; simp] at oa
    replace q := q.grown gra (by have := q.size; omega) (by rintro k ⟨⟩; exact hbg)
    refine LL.nilS ?_
    refine CC.seq ?_
    refine CC.region ?_
    refine LL.val (R.move rfl rfl) rfl rfl rfl ?_
    refine LL.val (R.assign rfl rfl) rfl rfl rfl ?_
    refine LL.nilS ?_
    refine CC.ret ?_
    refine EE.thenR ?_
    refine EE.ret _ rfl rfl ?_
    exact ⟨_, rfl, oa, q⟩
set_option maxRecDepth 100000 in
set_option maxHeartbeats 8000000 in
theorem joinedR_any (l : List Bl) (d : Int) (v : Value) (base : Nat) (w : World) (ho : OwnsT rE 2 w base 64 v l) (hbase : base ≤ w.heap.size) (hl : ∀ x ∈ l, litB x) (hb : 0 ≤ d ∧ d ≤ 4096) (hlen : l.length ≤ 4096) : Calls Tryd.prog 46 #[v, .agg #[.int .i64 d, .int .i64 1], .func (.func 47) #[] #[]] w fun e w' => ∃ v', e = .returned v' ∧ OwnsT rE 2 w' base 64 v' (joinR l d) ∧ Below base w w' := by
  have q := Below.refl base w
  rcases snoc_cases l with rfl | ⟨l', a, rfl⟩
  · obtain ⟨av, cap, rfl, hcap⟩ := (ho.reads rEnc).form (n := 0) rfl
    refine X.fn Tryd.func46 rfl (n := 36) rfl rfl ?_
    refine CC.seq ?_
    refine CC.region ?_
    refine LL.box [Value.int IntKind.i64 d, Value.int IntKind.i64 1] rfl rfl rfl rfl rfl ?_
    intro W2 g3 eg3 r4 z5 b1
    replace q := q.trans (b1.mono (by have := q.size; omega))
    replace ho := ho.up b1
    refine LL.val (R.assign rfl rfl) rfl rfl rfl ?_
    refine LL.nilS ?_
    refine CC.seq ?_
    refine CC.region ?_
    refine LL.val (R.move rfl rfl) rfl rfl rfl ?_
    refine LL.val (R.len rfl rfl rfl rfl) rfl rfl rfl ?_
    refine LL.val (R.assign rfl rfl) rfl rfl rfl ?_
    refine LL.nilS ?_
    refine CC.seq ?_
    refine CC.seq ?_
    refine CC.region ?_
    refine LL.val (R.move rfl rfl) rfl rfl rfl ?_
    refine LL.val (R.gtF rfl rfl rfl (by omega)) rfl rfl rfl ?_
    refine LL.nilS ?_
    refine CC.no rfl ?_
    refine CC.skip ?_
    refine EE.thenN ?_
    refine CC.seq ?_
    refine CC.region ?_
    refine LL.val (R.move rfl rfl) rfl rfl rfl ?_
    refine LL.val (R.load rfl rfl (I.ldNc (vs := [Value.int IntKind.i64 d, Value.int IntKind.i64 1]) (RowL.cells r4 rfl) (by rfl) (by rfl))) rfl rfl rfl ?_
    have l6 := r4.lt
    refine LL.lit (e := 64) [Value.int IntKind.i64 d, Value.int IntKind.i64 1] 1 rfl rfl (fun _ => by kernel_rfl) rfl rfl ?_
    intro W8 g9 eg9 r10 z11 b7
    replace r4 := r4.up b7
    replace b1 := b1.trans (b7.mono b1.size)
    replace q := q.trans (b7.mono (by have := q.size; omega))
    replace ho := ho.up b7
    refine LL.appendT2 rfl rfl rEnc ElRun ho (RowL.readsT (ts := [(d, 1)]) rEnc (by assumption) 1 (by simp)) (by simp [maxLen]) (by simp) (by have := q.size; omega) rfl rfl ?_
    intro v' Wa oa gra hva
    obtain ⟨a', cp, rfl, hcp⟩ := (oa.reads rEnc).form (n := 1) rfl
    replace q := q.grown gra (by have := q.size; omega) (fun g hg => own_ge ho g hg)
    refine LL.val (R.assign rfl rfl) rfl rfl rfl ?_
    refine LL.nilS ?_
    refine CC.ret ?_
    refine EE.ret _ rfl rfl ?_
    exact ⟨_, rfl, oa, q⟩
  have hm : ¬a.1 + a.2 = d ∨ a.1 + a.2 = d := by
    by_cases h : a.1 + a.2 = d
    · exact .inr h
    · exact .inl h
  have ha := hl a (by simp)
  rw [joinR_snoc]
  simp only [List.length_append, List.length_cons, List.length_nil] at hlen
  obtain ⟨N, hN⟩ : ∃ N, l'.length = N := ⟨_, rfl⟩
  have hN1 : (l' ++ [a]).length = N + 1 := by simp [hN]
  obtain ⟨g, cap, rfl, hbg, hgl, hnc⟩ := ownsT_form ho hN1 (by omega)
  have hr := ho.reads rEnc
  obtain ⟨_, _, e1, _, hcs⟩ := hr.get rEnc (i := N) (t := a) (by rw [← hN]; simp)
  cases e1
  have hcs : Cells w ⟨g, 0 + N * 2, none⟩ [.int .i64 a.1, .int .i64 a.2] := hcs
  clear hr
  rcases hm with hm | hm
  · rw [if_neg hm]
    focus
      refine X.fn Tryd.func46 rfl (n := 36) rfl rfl ?_
      refine CC.seq ?_
      refine CC.region ?_
      refine LL.box [Value.int IntKind.i64 d, Value.int IntKind.i64 1] rfl rfl rfl rfl rfl ?_
      intro Wb2 gb3 egb3 rb4 zb5 bb1
      replace q := q.trans (bb1.mono (by have := q.size; omega))
      replace ho := ho.up bb1
      replace hcs := hcs.up bb1
      refine LL.val (R.assign rfl rfl) rfl rfl rfl ?_
      refine LL.nilS ?_
      refine CC.seq ?_
      refine CC.region ?_
      refine LL.val (R.move rfl rfl) rfl rfl rfl ?_
      refine LL.val (R.len rfl rfl rfl rfl) rfl rfl rfl ?_
      refine LL.val (R.assign rfl rfl) rfl rfl rfl ?_
      refine LL.nilS ?_
      refine CC.seq ?_
      refine CC.seq ?_
      refine CC.region ?_
      refine LL.val (R.move rfl rfl) rfl rfl rfl ?_
      refine LL.val (R.gtT rfl rfl rfl (by omega)) rfl rfl rfl ?_
      refine LL.nilS ?_
      refine CC.yes rfl ?_
      refine CC.seq ?_
      refine CC.join (fun l_ Wb22 => ∃ (gb17 : Nat), l_ = [(0, Value.slice (some { block := g, off := 0 }) (N + 1) cap), (1, Value.agg #[Value.int IntKind.i64 d, Value.int IntKind.i64 1]), (4, Value.pointer (some { block := gb3, off := 0 })), (6, Value.slice none 0 0), (10, Value.slice (some { block := g, off := 0 }) (N + 1) cap), (11, Value.int IntKind.i64 ↑(N + 1)), (7, Value.int IntKind.i64 ↑(N + 1)), (12, Value.int IntKind.i64 ↑(N + 1)), (13, Value.bool true), (8, Value.pointer (some { block := gb17, off := 0 })), (9, Value.bool false)] ∧ (Below Wb2.heap.size Wb2 Wb22) ∧ (RowL Wb22 gb3 64 [Value.int IntKind.i64 d, Value.int IntKind.i64 1]) ∧ (Below w.heap.size w Wb22) ∧ (Below base w Wb22) ∧ (OwnsT rE 2 Wb22 base 64 (Value.slice (some { block := g, off := 0 }) (N + 1) cap) (l' ++ [a])) ∧ (Cells Wb22 { block := g, off := 0 + N * 2 } [Value.int IntKind.i64 a.1, Value.int IntKind.i64 a.2]) ∧ (RowL Wb22 gb17 64 [Value.int IntKind.i64 a.1, Value.int IntKind.i64 (a.2 + 1)]) ∧ (Wb2.heap.size ≤ Wb22.heap.size) ∧ (Wb2.heap.size ≤ gb17)) (fun Jb27 => ?_) ?restJb27
      case' restJb27 =>
        clear rb4
        clear bb1
        clear q
        clear ho
        clear hcs
        rintro _ Wb22 ⟨gb17, rfl, bb6, rb4, bb1, q, ho, hcs, rb18, zb25, zb26⟩
      refine EE.thenN ?_
      refine CC.seq ?_
      refine CC.region ?_
      refine LL.val (R.move rfl rfl) rfl rfl rfl ?_
      refine LL.nilS ?_
      refine CC.no rfl ?_
      refine CC.skip ?_
      refine EE.thenN ?_
      refine CC.seq ?_
      refine CC.region ?_
      refine LL.val (R.move rfl rfl) rfl rfl rfl ?_
      refine LL.val (R.load rfl rfl (I.ldNc (vs := [Value.int IntKind.i64 d, Value.int IntKind.i64 1]) (RowL.cells rb4 rfl) (by rfl) (by rfl))) rfl rfl rfl ?_
      have lb28 := rb4.lt
      have lb29 := rb18.lt
      refine LL.lit (e := 64) [Value.int IntKind.i64 d, Value.int IntKind.i64 1] 1 rfl rfl (fun _ => by kernel_rfl) rfl rfl ?_
      intro Wb31 gb32 egb32 rb33 zb34 bb30
      replace bb6 := bb6.trans (bb30.mono bb6.size)
      replace rb4 := rb4.up bb30
      replace bb1 := bb1.trans (bb30.mono bb1.size)
      replace q := q.trans (bb30.mono (by have := q.size; omega))
      replace ho := ho.up bb30
      replace hcs := hcs.up bb30
      replace rb18 := rb18.up bb30
      rotate_left
      refine CC.freeZ (fun W_ j => j < W_.heap.size ∧ (True)) (by kernel_rfl) (by kernel_rfl) (fun Wb36 bb35 zb37 => ?_)
      replace rb4 := rb4.up bb35
      replace bb1 := bb1.trans (bb35.mono bb1.size)
      replace q := q.trans (bb35.mono (by have := q.size; omega))
      replace ho := ho.up bb35
      replace hcs := hcs.up bb35
      have hok : Kept (fun j => j < Wb36.heap.size ∧ (True)) Wb36 Wb36 := Kept.refl _ _
      have fzrb4 := fzRow (K := fun j => j < Wb36.heap.size ∧ (True)) rb4 ⟨rb4.lt, (by first | trivial | omega)⟩
      refine AA.pure 0 rfl hok (by kernel_rfl) (fun w' b' => R.move rfl rfl) rfl rfl ?_
      refine AA.pure 1 rfl hok (by kernel_rfl) (fun w' b' => R.move rfl rfl) rfl rfl ?_
      refine AA.pure 2 rfl hok (by kernel_rfl) (fun w' b' => R.move rfl rfl) rfl rfl ?_
      refine AA.pure 3 rfl hok (by kernel_rfl) (fun w' b' => R.subNc rfl rfl rfl rfl (by omega) (by omega)) rfl rfl ?_
      refine AA.pure 4 rfl hok (by kernel_rfl) (fun w' b' => R.index rfl rfl rfl (I.ixS rfl (by omega))) rfl rfl ?_
      refine AA.pure 6 rfl hok (by kernel_rfl) (fun w' b' => R.load rfl rfl (I.ldNc (vs := [Value.int IntKind.i64 d, Value.int IntKind.i64 1]) (RowL.cells (fzrb4 w' b') rfl) (by rfl) (by rfl))) rfl rfl ?_
      refine AA.two 5 11 (by kernel_rfl) ?_ ?_
      refine SR.val rfl (R.load rfl rfl (I.ldNc (by assumption) rfl rfl)) rfl rfl hok ?_
      refine AA.two 7 11 (by kernel_rfl) ?_ ?_
      refine SR.call rfl (R.callV rfl rfl rfl rfl) rfl rfl (gone1_F _ _ _ (by first | assumption | omega) (by first | assumption | omega) (by first | assumption | omega)) ?_
      rintro e Wb41 ⟨rfl, bb40⟩
      have zbb40 := bb40.size
      replace bb35 := bb35.trans (bb40.mono bb35.size)
      replace rb4 := rb4.up bb40
      replace bb1 := bb1.trans (bb40.mono bb1.size)
      replace q := q.trans (bb40.mono (by have := q.size; omega))
      replace ho := ho.up bb40
      replace hcs := hcs.up bb40
      replace hok := hok.trans (bkept bb40 (fun j h => by have := h.1; have := hok.size; omega))
      have yb42 := hok.size
      refine ⟨_, rfl, hok, ?_⟩
      refine AA.pure 8 rfl hok (by kernel_rfl) (fun w' b' => R.move rfl rfl) rfl rfl ?_
      refine AA.pure 9 rfl hok (by kernel_rfl) (fun w' b' => R.extract rfl rfl rfl) rfl rfl ?_
      refine AA.pure 10 rfl hok (by kernel_rfl) (fun w' b' => R.extract rfl rfl rfl) rfl rfl ?_
      refine AA.one 11 (by kernel_rfl) ?_
      have lb43 := rb4.lt
      refine ZR.alloc ([Value.int IntKind.i64 0, Value.int IntKind.i64 0]) rfl rfl rfl rfl rfl rfl ?_
      intro Wb45 gb46 egb46 rb47 zb48 bb44
      replace bb40 := bb40.trans (bb44.mono bb40.size)
      replace bb35 := bb35.trans (bb44.mono bb35.size)
      replace rb4 := rb4.up bb44
      replace bb1 := bb1.trans (bb44.mono bb1.size)
      replace q := q.trans (bb44.mono (by have := q.size; omega))
      replace ho := ho.up bb44
      replace hcs := hcs.up bb44
      replace hok := hok.trans (bkept bb44 (fun j h => by have := h.1; have := hok.size; omega))
      have yb49 := hok.size
      refine ⟨hok, ?_⟩
      refine AA.one 12 (by kernel_rfl) ?_
      refine ZR.storeN (vs := [Value.int IntKind.i64 a.1, Value.int IntKind.i64 (a.2 + 1)]) rfl rfl rfl rfl rfl rb47 (by exact Nat.le_of_ble_eq_true rfl) (ones_of rfl) rfl rfl ?_
      intro Wb51 rb52 bb50 zb53
      have hlbb50 := rb47.lt
      replace rb52 : RowL Wb51 _ 64 [Value.int IntKind.i64 a.1, Value.int IntKind.i64 (a.2 + 1)] := rb52
      clear rb47
      replace bb44 := bb44.grown bb50 bb44.size (by rintro k ⟨⟩; omega)
      replace bb40 := bb40.grown bb50 bb40.size (by rintro k ⟨⟩; omega)
      replace bb35 := bb35.grown bb50 bb35.size (by rintro k ⟨⟩; omega)
      replace rb4 := rb4.gr bb50 (by have := rb4.lt; omega)
      replace bb1 := bb1.grown bb50 bb1.size (by rintro k ⟨⟩; omega)
      replace q := q.grown bb50 (by have := q.size; omega) (by rintro k ⟨⟩; omega)
      replace ho := ho.grown bb50 (fun e => by simp [Value.ownBlock] at e; omega)
      replace hcs := hcs.gr bb50 (by omega)
      replace hok := hok.trans (grown_kept bb50 (fun j h => by have := h.1; have := hok.size; omega) (fun j h e => by cases e; have h2 := h.1; have h3 := h.2; omega))
      have rb47 := rb52
      clear rb52
      refine ⟨hok, ?_⟩
      refine AA.pure 13 rfl hok (by kernel_rfl) (fun w' b' => R.assign rfl rfl) rfl rfl ?_
      refine AA.done rfl ?_
      clear fzrb4 hok
      exact EE.weak (Jb27 _ _ ⟨_, rfl, (by first | assumption | omega), (by first | assumption | omega), (by first | assumption | omega), (by first | assumption | omega), (by first | assumption | omega), (by first | assumption | omega), (by first | assumption | omega), (by first | assumption | omega), (by first | assumption | omega)⟩) ⟨rfl, rfl, rfl, rfl, rfl, rfl, rfl, rfl, rfl, rfl, rfl, trivial⟩
      have lb54 := rb4.lt
      refine ZR.alloc ([Value.int IntKind.i64 0, Value.int IntKind.i64 0]) rfl rfl rfl rfl rfl rfl ?_
      intro Wb56 gb57 egb57 rb58 zb59 bb55
      replace bb35 := bb35.trans (bb55.mono bb35.size)
      replace rb4 := rb4.up bb55
      replace bb1 := bb1.trans (bb55.mono bb1.size)
      replace q := q.trans (bb55.mono (by have := q.size; omega))
      replace ho := ho.up bb55
      replace hcs := hcs.up bb55
      replace hok := hok.trans (bkept bb55 (fun j h => by have := h.1; have := hok.size; omega))
      have yb60 := hok.size
      refine ⟨hok, ?_⟩
      refine AA.one 7 (by kernel_rfl) ?_
      refine SR.call rfl (R.callV rfl rfl rfl rfl) rfl rfl (gone1_F _ _ _ (by first | assumption | omega) (by first | assumption | omega) (by first | assumption | omega)) ?_
      rintro e Wb64 ⟨rfl, bb63⟩
      have zbb63 := bb63.size
      replace rb58 := rb58.up bb63
      replace bb55 := bb55.trans (bb63.mono bb55.size)
      replace bb35 := bb35.trans (bb63.mono bb35.size)
      replace rb4 := rb4.up bb63
      replace bb1 := bb1.trans (bb63.mono bb1.size)
      replace q := q.trans (bb63.mono (by have := q.size; omega))
      replace ho := ho.up bb63
      replace hcs := hcs.up bb63
      replace hok := hok.trans (bkept bb63 (fun j h => by have := h.1; have := hok.size; omega))
      have yb65 := hok.size
      refine ⟨_, rfl, hok, ?_⟩
      refine AA.pure 8 rfl hok (by kernel_rfl) (fun w' b' => R.move rfl rfl) rfl rfl ?_
      refine AA.pure 9 rfl hok (by kernel_rfl) (fun w' b' => R.extract rfl rfl rfl) rfl rfl ?_
      refine AA.pure 10 rfl hok (by kernel_rfl) (fun w' b' => R.extract rfl rfl rfl) rfl rfl ?_
      refine AA.one 12 (by kernel_rfl) ?_
      refine ZR.storeN (vs := [Value.int IntKind.i64 a.1, Value.int IntKind.i64 (a.2 + 1)]) rfl rfl rfl rfl rfl rb58 (by exact Nat.le_of_ble_eq_true rfl) (ones_of rfl) rfl rfl ?_
      intro Wb67 rb68 bb66 zb69
      have hlbb66 := rb58.lt
      replace rb68 : RowL Wb67 _ 64 [Value.int IntKind.i64 a.1, Value.int IntKind.i64 (a.2 + 1)] := rb68
      clear rb58
      replace bb55 := bb55.grown bb66 bb55.size (by rintro k ⟨⟩; omega)
      replace bb35 := bb35.grown bb66 bb35.size (by rintro k ⟨⟩; omega)
      replace rb4 := rb4.gr bb66 (by have := rb4.lt; omega)
      replace bb1 := bb1.grown bb66 bb1.size (by rintro k ⟨⟩; omega)
      replace q := q.grown bb66 (by have := q.size; omega) (by rintro k ⟨⟩; omega)
      replace ho := ho.grown bb66 (fun e => by simp [Value.ownBlock] at e; omega)
      replace hcs := hcs.gr bb66 (by omega)
      replace hok := hok.trans (grown_kept bb66 (fun j h => by have := h.1; have := hok.size; omega) (fun j h e => by cases e; have h2 := h.1; have h3 := h.2; omega))
      have rb58 := rb68
      clear rb68
      refine ⟨hok, ?_⟩
      refine AA.pure 13 rfl hok (by kernel_rfl) (fun w' b' => R.assign rfl rfl) rfl rfl ?_
      refine AA.done rfl ?_
      clear fzrb4 hok
      exact EE.weak (Jb27 _ _ ⟨_, rfl, (by first | assumption | omega), (by first | assumption | omega), (by first | assumption | omega), (by first | assumption | omega), (by first | assumption | omega), (by first | assumption | omega), (by first | assumption | omega), (by first | assumption | omega), (by first | assumption | omega)⟩) ⟨rfl, rfl, rfl, rfl, rfl, rfl, rfl, rfl, rfl, rfl, rfl, trivial⟩
      have lb70 := rb4.lt
      refine ZR.alloc ([Value.int IntKind.i64 0, Value.int IntKind.i64 0]) rfl rfl rfl rfl rfl rfl ?_
      intro Wb72 gb73 egb73 rb74 zb75 bb71
      replace bb35 := bb35.trans (bb71.mono bb35.size)
      replace rb4 := rb4.up bb71
      replace bb1 := bb1.trans (bb71.mono bb1.size)
      replace q := q.trans (bb71.mono (by have := q.size; omega))
      replace ho := ho.up bb71
      replace hcs := hcs.up bb71
      replace hok := hok.trans (bkept bb71 (fun j h => by have := h.1; have := hok.size; omega))
      have yb76 := hok.size
      refine ⟨hok, ?_⟩
      refine AA.one 5 (by kernel_rfl) ?_
      refine SR.val rfl (R.load rfl rfl (I.ldNc (by assumption) rfl rfl)) rfl rfl hok ?_
      refine AA.one 7 (by kernel_rfl) ?_
      refine SR.call rfl (R.callV rfl rfl rfl rfl) rfl rfl (gone1_F _ _ _ (by first | assumption | omega) (by first | assumption | omega) (by first | assumption | omega)) ?_
      rintro e Wb80 ⟨rfl, bb79⟩
      have zbb79 := bb79.size
      replace rb74 := rb74.up bb79
      replace bb71 := bb71.trans (bb79.mono bb71.size)
      replace bb35 := bb35.trans (bb79.mono bb35.size)
      replace rb4 := rb4.up bb79
      replace bb1 := bb1.trans (bb79.mono bb1.size)
      replace q := q.trans (bb79.mono (by have := q.size; omega))
      replace ho := ho.up bb79
      replace hcs := hcs.up bb79
      replace hok := hok.trans (bkept bb79 (fun j h => by have := h.1; have := hok.size; omega))
      have yb81 := hok.size
      refine ⟨_, rfl, hok, ?_⟩
      refine AA.pure 8 rfl hok (by kernel_rfl) (fun w' b' => R.move rfl rfl) rfl rfl ?_
      refine AA.pure 9 rfl hok (by kernel_rfl) (fun w' b' => R.extract rfl rfl rfl) rfl rfl ?_
      refine AA.pure 10 rfl hok (by kernel_rfl) (fun w' b' => R.extract rfl rfl rfl) rfl rfl ?_
      refine AA.one 12 (by kernel_rfl) ?_
      refine ZR.storeN (vs := [Value.int IntKind.i64 a.1, Value.int IntKind.i64 (a.2 + 1)]) rfl rfl rfl rfl rfl rb74 (by exact Nat.le_of_ble_eq_true rfl) (ones_of rfl) rfl rfl ?_
      intro Wb83 rb84 bb82 zb85
      have hlbb82 := rb74.lt
      replace rb84 : RowL Wb83 _ 64 [Value.int IntKind.i64 a.1, Value.int IntKind.i64 (a.2 + 1)] := rb84
      clear rb74
      replace bb71 := bb71.grown bb82 bb71.size (by rintro k ⟨⟩; omega)
      replace bb35 := bb35.grown bb82 bb35.size (by rintro k ⟨⟩; omega)
      replace rb4 := rb4.gr bb82 (by have := rb4.lt; omega)
      replace bb1 := bb1.grown bb82 bb1.size (by rintro k ⟨⟩; omega)
      replace q := q.grown bb82 (by have := q.size; omega) (by rintro k ⟨⟩; omega)
      replace ho := ho.grown bb82 (fun e => by simp [Value.ownBlock] at e; omega)
      replace hcs := hcs.gr bb82 (by omega)
      replace hok := hok.trans (grown_kept bb82 (fun j h => by have := h.1; have := hok.size; omega) (fun j h e => by cases e; have h2 := h.1; have h3 := h.2; omega))
      have rb74 := rb84
      clear rb84
      refine ⟨hok, ?_⟩
      refine AA.pure 13 rfl hok (by kernel_rfl) (fun w' b' => R.assign rfl rfl) rfl rfl ?_
      refine AA.done rfl ?_
      clear fzrb4 hok
      exact EE.weak (Jb27 _ _ ⟨_, rfl, (by first | assumption | omega), (by first | assumption | omega), (by first | assumption | omega), (by first | assumption | omega), (by first | assumption | omega), (by first | assumption | omega), (by first | assumption | omega), (by first | assumption | omega), (by first | assumption | omega)⟩) ⟨rfl, rfl, rfl, rfl, rfl, rfl, rfl, rfl, rfl, rfl, rfl, trivial⟩
    have yq := q.size
    refine LL.appendT2 rfl rfl rEnc ElRun ho (RowL.readsT (ts := [(d, 1)]) rEnc (by assumption) 1 (by simp)) (by simp [maxLen]; omega) (by simp; omega) (by omega) rfl rfl ?_
    intro v' Wa oa gra hva
    obtain ⟨a', cp, rfl, hcp⟩ := (oa.reads rEnc).form rfl
    replace q := q.grown gra (by have := q.size; omega) (fun g hg => own_ge ho g hg)
    refine LL.val (R.assign rfl rfl) rfl rfl rfl ?_
    refine LL.nilS ?_
    refine CC.ret ?_
    refine EE.ret _ rfl rfl ?_
    exact ⟨_, rfl, oa, q⟩
  · rw [if_pos hm]
    focus
      refine X.fn Tryd.func46 rfl (n := 36) rfl rfl ?_
      refine CC.seq ?_
      refine CC.region ?_
      refine LL.box [Value.int IntKind.i64 d, Value.int IntKind.i64 1] rfl rfl rfl rfl rfl ?_
      intro Wd2 gd3 egd3 rd4 zd5 bd1
      replace q := q.trans (bd1.mono (by have := q.size; omega))
      replace ho := ho.up bd1
      replace hcs := hcs.up bd1
      refine LL.val (R.assign rfl rfl) rfl rfl rfl ?_
      refine LL.nilS ?_
      refine CC.seq ?_
      refine CC.region ?_
      refine LL.val (R.move rfl rfl) rfl rfl rfl ?_
      refine LL.val (R.len rfl rfl rfl rfl) rfl rfl rfl ?_
      refine LL.val (R.assign rfl rfl) rfl rfl rfl ?_
      refine LL.nilS ?_
      refine CC.seq ?_
      refine CC.seq ?_
      refine CC.region ?_
      refine LL.val (R.move rfl rfl) rfl rfl rfl ?_
      refine LL.val (R.gtT rfl rfl rfl (by omega)) rfl rfl rfl ?_
      refine LL.nilS ?_
      refine CC.yes rfl ?_
      refine CC.seq ?_
      refine CC.join (fun l_ Wd20 => ∃ (gd15 : Nat), l_ = [(0, Value.slice (some { block := g, off := 0 }) (N + 1) cap), (1, Value.agg #[Value.int IntKind.i64 d, Value.int IntKind.i64 1]), (4, Value.pointer (some { block := gd3, off := 0 })), (6, Value.slice none 0 0), (10, Value.slice (some { block := g, off := 0 }) (N + 1) cap), (11, Value.int IntKind.i64 ↑(N + 1)), (7, Value.int IntKind.i64 ↑(N + 1)), (12, Value.int IntKind.i64 ↑(N + 1)), (13, Value.bool true), (8, Value.pointer (some { block := gd15, off := 0 })), (9, Value.bool true)] ∧ (Below Wd2.heap.size Wd2 Wd20) ∧ (RowL Wd20 gd3 64 [Value.int IntKind.i64 d, Value.int IntKind.i64 1]) ∧ (Below w.heap.size w Wd20) ∧ (Below base w Wd20) ∧ (OwnsT rE 2 Wd20 base 64 (Value.slice (some { block := g, off := 0 }) (N + 1) cap) (l' ++ [a])) ∧ (Cells Wd20 { block := g, off := 0 + N * 2 } [Value.int IntKind.i64 a.1, Value.int IntKind.i64 a.2]) ∧ (RowL Wd20 gd15 64 [Value.int IntKind.i64 a.1, Value.int IntKind.i64 (a.2 + 1)]) ∧ (Wd2.heap.size ≤ Wd20.heap.size) ∧ (Wd2.heap.size ≤ gd15)) (fun Jd25 => ?_) ?restJd25
      case' restJd25 =>
        clear rd4
        clear bd1
        clear q
        clear ho
        clear hcs
        rintro _ Wd20 ⟨gd15, rfl, bd6, rd4, bd1, q, ho, hcs, rd16, zd23, zd24⟩
      refine EE.thenN ?_
      refine CC.seq ?_
      refine CC.region ?_
      refine LL.val (R.move rfl rfl) rfl rfl rfl ?_
      refine LL.nilS ?_
      refine CC.yes rfl ?_
      refine CC.seq ?_
      refine CC.region ?_
      refine LL.val (R.move rfl rfl) rfl rfl rfl ?_
      refine LL.val (R.move rfl rfl) rfl rfl rfl ?_
      refine LL.val (R.subNc rfl rfl rfl rfl (by omega) (by omega)) rfl rfl rfl ?_
      refine LL.val (R.load rfl rfl (I.ldNc (vs := [Value.int IntKind.i64 a.1, Value.int IntKind.i64 (a.2 + 1)]) (RowL.cells rd16 rfl) (by rfl) (by rfl))) rfl rfl rfl ?_
      refine LL.val (R.index rfl rfl rfl (I.ixS rfl (by omega))) rfl rfl rfl ?_
      rotate_left
      refine CC.freeZ (fun W_ j => j < W_.heap.size ∧ (True)) (by kernel_rfl) (by kernel_rfl) (fun Wd31 bd30 zd32 => ?_)
      replace rd4 := rd4.up bd30
      replace bd1 := bd1.trans (bd30.mono bd1.size)
      replace q := q.trans (bd30.mono (by have := q.size; omega))
      replace ho := ho.up bd30
      replace hcs := hcs.up bd30
      have hok : Kept (fun j => j < Wd31.heap.size ∧ (True)) Wd31 Wd31 := Kept.refl _ _
      have fzrd4 := fzRow (K := fun j => j < Wd31.heap.size ∧ (True)) rd4 ⟨rd4.lt, (by first | trivial | omega)⟩
      refine AA.pure 0 rfl hok (by kernel_rfl) (fun w' b' => R.move rfl rfl) rfl rfl ?_
      refine AA.pure 1 rfl hok (by kernel_rfl) (fun w' b' => R.move rfl rfl) rfl rfl ?_
      refine AA.pure 2 rfl hok (by kernel_rfl) (fun w' b' => R.move rfl rfl) rfl rfl ?_
      refine AA.pure 3 rfl hok (by kernel_rfl) (fun w' b' => R.subNc rfl rfl rfl rfl (by omega) (by omega)) rfl rfl ?_
      refine AA.pure 4 rfl hok (by kernel_rfl) (fun w' b' => R.index rfl rfl rfl (I.ixS rfl (by omega))) rfl rfl ?_
      refine AA.pure 6 rfl hok (by kernel_rfl) (fun w' b' => R.load rfl rfl (I.ldNc (vs := [Value.int IntKind.i64 d, Value.int IntKind.i64 1]) (RowL.cells (fzrd4 w' b') rfl) (by rfl) (by rfl))) rfl rfl ?_
      refine AA.two 5 11 (by kernel_rfl) ?_ ?_
      refine SR.val rfl (R.load rfl rfl (I.ldNc (by assumption) rfl rfl)) rfl rfl hok ?_
      refine AA.two 7 11 (by kernel_rfl) ?_ ?_
      refine SR.call rfl (R.callV rfl rfl rfl rfl) rfl rfl (gone1_T _ _ _ (by first | assumption | omega) (by first | assumption | omega) (by first | assumption | omega)) ?_
      rintro e Wd34 ⟨rfl, bd33⟩
      have zbd33 := bd33.size
      replace bd30 := bd30.trans (bd33.mono bd30.size)
      replace rd4 := rd4.up bd33
      replace bd1 := bd1.trans (bd33.mono bd1.size)
      replace q := q.trans (bd33.mono (by have := q.size; omega))
      replace ho := ho.up bd33
      replace hcs := hcs.up bd33
      replace hok := hok.trans (bkept bd33 (fun j h => by have := h.1; have := hok.size; omega))
      have yd35 := hok.size
      refine ⟨_, rfl, hok, ?_⟩
      refine AA.pure 8 rfl hok (by kernel_rfl) (fun w' b' => R.move rfl rfl) rfl rfl ?_
      refine AA.pure 9 rfl hok (by kernel_rfl) (fun w' b' => R.extract rfl rfl rfl) rfl rfl ?_
      refine AA.pure 10 rfl hok (by kernel_rfl) (fun w' b' => R.extract rfl rfl rfl) rfl rfl ?_
      refine AA.one 11 (by kernel_rfl) ?_
      have ld36 := rd4.lt
      refine ZR.alloc ([Value.int IntKind.i64 0, Value.int IntKind.i64 0]) rfl rfl rfl rfl rfl rfl ?_
      intro Wd38 gd39 egd39 rd40 zd41 bd37
      replace bd33 := bd33.trans (bd37.mono bd33.size)
      replace bd30 := bd30.trans (bd37.mono bd30.size)
      replace rd4 := rd4.up bd37
      replace bd1 := bd1.trans (bd37.mono bd1.size)
      replace q := q.trans (bd37.mono (by have := q.size; omega))
      replace ho := ho.up bd37
      replace hcs := hcs.up bd37
      replace hok := hok.trans (bkept bd37 (fun j h => by have := h.1; have := hok.size; omega))
      have yd42 := hok.size
      refine ⟨hok, ?_⟩
      refine AA.one 12 (by kernel_rfl) ?_
      refine ZR.storeN (vs := [Value.int IntKind.i64 a.1, Value.int IntKind.i64 (a.2 + 1)]) rfl rfl rfl rfl rfl rd40 (by exact Nat.le_of_ble_eq_true rfl) (ones_of rfl) rfl rfl ?_
      intro Wd44 rd45 bd43 zd46
      have hlbd43 := rd40.lt
      replace rd45 : RowL Wd44 _ 64 [Value.int IntKind.i64 a.1, Value.int IntKind.i64 (a.2 + 1)] := rd45
      clear rd40
      replace bd37 := bd37.grown bd43 bd37.size (by rintro k ⟨⟩; omega)
      replace bd33 := bd33.grown bd43 bd33.size (by rintro k ⟨⟩; omega)
      replace bd30 := bd30.grown bd43 bd30.size (by rintro k ⟨⟩; omega)
      replace rd4 := rd4.gr bd43 (by have := rd4.lt; omega)
      replace bd1 := bd1.grown bd43 bd1.size (by rintro k ⟨⟩; omega)
      replace q := q.grown bd43 (by have := q.size; omega) (by rintro k ⟨⟩; omega)
      replace ho := ho.grown bd43 (fun e => by simp [Value.ownBlock] at e; omega)
      replace hcs := hcs.gr bd43 (by omega)
      replace hok := hok.trans (grown_kept bd43 (fun j h => by have := h.1; have := hok.size; omega) (fun j h e => by cases e; have h2 := h.1; have h3 := h.2; omega))
      have rd40 := rd45
      clear rd45
      refine ⟨hok, ?_⟩
      refine AA.pure 13 rfl hok (by kernel_rfl) (fun w' b' => R.assign rfl rfl) rfl rfl ?_
      refine AA.done rfl ?_
      clear fzrd4 hok
      exact EE.weak (Jd25 _ _ ⟨_, rfl, (by first | assumption | omega), (by first | assumption | omega), (by first | assumption | omega), (by first | assumption | omega), (by first | assumption | omega), (by first | assumption | omega), (by first | assumption | omega), (by first | assumption | omega), (by first | assumption | omega)⟩) ⟨rfl, rfl, rfl, rfl, rfl, rfl, rfl, rfl, rfl, rfl, rfl, trivial⟩
      have ld47 := rd4.lt
      refine ZR.alloc ([Value.int IntKind.i64 0, Value.int IntKind.i64 0]) rfl rfl rfl rfl rfl rfl ?_
      intro Wd49 gd50 egd50 rd51 zd52 bd48
      replace bd30 := bd30.trans (bd48.mono bd30.size)
      replace rd4 := rd4.up bd48
      replace bd1 := bd1.trans (bd48.mono bd1.size)
      replace q := q.trans (bd48.mono (by have := q.size; omega))
      replace ho := ho.up bd48
      replace hcs := hcs.up bd48
      replace hok := hok.trans (bkept bd48 (fun j h => by have := h.1; have := hok.size; omega))
      have yd53 := hok.size
      refine ⟨hok, ?_⟩
      refine AA.one 7 (by kernel_rfl) ?_
      refine SR.call rfl (R.callV rfl rfl rfl rfl) rfl rfl (gone1_T _ _ _ (by first | assumption | omega) (by first | assumption | omega) (by first | assumption | omega)) ?_
      rintro e Wd55 ⟨rfl, bd54⟩
      have zbd54 := bd54.size
      replace rd51 := rd51.up bd54
      replace bd48 := bd48.trans (bd54.mono bd48.size)
      replace bd30 := bd30.trans (bd54.mono bd30.size)
      replace rd4 := rd4.up bd54
      replace bd1 := bd1.trans (bd54.mono bd1.size)
      replace q := q.trans (bd54.mono (by have := q.size; omega))
      replace ho := ho.up bd54
      replace hcs := hcs.up bd54
      replace hok := hok.trans (bkept bd54 (fun j h => by have := h.1; have := hok.size; omega))
      have yd56 := hok.size
      refine ⟨_, rfl, hok, ?_⟩
      refine AA.pure 8 rfl hok (by kernel_rfl) (fun w' b' => R.move rfl rfl) rfl rfl ?_
      refine AA.pure 9 rfl hok (by kernel_rfl) (fun w' b' => R.extract rfl rfl rfl) rfl rfl ?_
      refine AA.pure 10 rfl hok (by kernel_rfl) (fun w' b' => R.extract rfl rfl rfl) rfl rfl ?_
      refine AA.one 12 (by kernel_rfl) ?_
      refine ZR.storeN (vs := [Value.int IntKind.i64 a.1, Value.int IntKind.i64 (a.2 + 1)]) rfl rfl rfl rfl rfl rd51 (by exact Nat.le_of_ble_eq_true rfl) (ones_of rfl) rfl rfl ?_
      intro Wd58 rd59 bd57 zd60
      have hlbd57 := rd51.lt
      replace rd59 : RowL Wd58 _ 64 [Value.int IntKind.i64 a.1, Value.int IntKind.i64 (a.2 + 1)] := rd59
      clear rd51
      replace bd48 := bd48.grown bd57 bd48.size (by rintro k ⟨⟩; omega)
      replace bd30 := bd30.grown bd57 bd30.size (by rintro k ⟨⟩; omega)
      replace rd4 := rd4.gr bd57 (by have := rd4.lt; omega)
      replace bd1 := bd1.grown bd57 bd1.size (by rintro k ⟨⟩; omega)
      replace q := q.grown bd57 (by have := q.size; omega) (by rintro k ⟨⟩; omega)
      replace ho := ho.grown bd57 (fun e => by simp [Value.ownBlock] at e; omega)
      replace hcs := hcs.gr bd57 (by omega)
      replace hok := hok.trans (grown_kept bd57 (fun j h => by have := h.1; have := hok.size; omega) (fun j h e => by cases e; have h2 := h.1; have h3 := h.2; omega))
      have rd51 := rd59
      clear rd59
      refine ⟨hok, ?_⟩
      refine AA.pure 13 rfl hok (by kernel_rfl) (fun w' b' => R.assign rfl rfl) rfl rfl ?_
      refine AA.done rfl ?_
      clear fzrd4 hok
      exact EE.weak (Jd25 _ _ ⟨_, rfl, (by first | assumption | omega), (by first | assumption | omega), (by first | assumption | omega), (by first | assumption | omega), (by first | assumption | omega), (by first | assumption | omega), (by first | assumption | omega), (by first | assumption | omega), (by first | assumption | omega)⟩) ⟨rfl, rfl, rfl, rfl, rfl, rfl, rfl, rfl, rfl, rfl, rfl, trivial⟩
      have ld61 := rd4.lt
      refine ZR.alloc ([Value.int IntKind.i64 0, Value.int IntKind.i64 0]) rfl rfl rfl rfl rfl rfl ?_
      intro Wd63 gd64 egd64 rd65 zd66 bd62
      replace bd30 := bd30.trans (bd62.mono bd30.size)
      replace rd4 := rd4.up bd62
      replace bd1 := bd1.trans (bd62.mono bd1.size)
      replace q := q.trans (bd62.mono (by have := q.size; omega))
      replace ho := ho.up bd62
      replace hcs := hcs.up bd62
      replace hok := hok.trans (bkept bd62 (fun j h => by have := h.1; have := hok.size; omega))
      have yd67 := hok.size
      refine ⟨hok, ?_⟩
      refine AA.one 5 (by kernel_rfl) ?_
      refine SR.val rfl (R.load rfl rfl (I.ldNc (by assumption) rfl rfl)) rfl rfl hok ?_
      refine AA.one 7 (by kernel_rfl) ?_
      refine SR.call rfl (R.callV rfl rfl rfl rfl) rfl rfl (gone1_T _ _ _ (by first | assumption | omega) (by first | assumption | omega) (by first | assumption | omega)) ?_
      rintro e Wd69 ⟨rfl, bd68⟩
      have zbd68 := bd68.size
      replace rd65 := rd65.up bd68
      replace bd62 := bd62.trans (bd68.mono bd62.size)
      replace bd30 := bd30.trans (bd68.mono bd30.size)
      replace rd4 := rd4.up bd68
      replace bd1 := bd1.trans (bd68.mono bd1.size)
      replace q := q.trans (bd68.mono (by have := q.size; omega))
      replace ho := ho.up bd68
      replace hcs := hcs.up bd68
      replace hok := hok.trans (bkept bd68 (fun j h => by have := h.1; have := hok.size; omega))
      have yd70 := hok.size
      refine ⟨_, rfl, hok, ?_⟩
      refine AA.pure 8 rfl hok (by kernel_rfl) (fun w' b' => R.move rfl rfl) rfl rfl ?_
      refine AA.pure 9 rfl hok (by kernel_rfl) (fun w' b' => R.extract rfl rfl rfl) rfl rfl ?_
      refine AA.pure 10 rfl hok (by kernel_rfl) (fun w' b' => R.extract rfl rfl rfl) rfl rfl ?_
      refine AA.one 12 (by kernel_rfl) ?_
      refine ZR.storeN (vs := [Value.int IntKind.i64 a.1, Value.int IntKind.i64 (a.2 + 1)]) rfl rfl rfl rfl rfl rd65 (by exact Nat.le_of_ble_eq_true rfl) (ones_of rfl) rfl rfl ?_
      intro Wd72 rd73 bd71 zd74
      have hlbd71 := rd65.lt
      replace rd73 : RowL Wd72 _ 64 [Value.int IntKind.i64 a.1, Value.int IntKind.i64 (a.2 + 1)] := rd73
      clear rd65
      replace bd62 := bd62.grown bd71 bd62.size (by rintro k ⟨⟩; omega)
      replace bd30 := bd30.grown bd71 bd30.size (by rintro k ⟨⟩; omega)
      replace rd4 := rd4.gr bd71 (by have := rd4.lt; omega)
      replace bd1 := bd1.grown bd71 bd1.size (by rintro k ⟨⟩; omega)
      replace q := q.grown bd71 (by have := q.size; omega) (by rintro k ⟨⟩; omega)
      replace ho := ho.grown bd71 (fun e => by simp [Value.ownBlock] at e; omega)
      replace hcs := hcs.gr bd71 (by omega)
      replace hok := hok.trans (grown_kept bd71 (fun j h => by have := h.1; have := hok.size; omega) (fun j h e => by cases e; have h2 := h.1; have h3 := h.2; omega))
      have rd65 := rd73
      clear rd73
      refine ⟨hok, ?_⟩
      refine AA.pure 13 rfl hok (by kernel_rfl) (fun w' b' => R.assign rfl rfl) rfl rfl ?_
      refine AA.done rfl ?_
      clear fzrd4 hok
      exact EE.weak (Jd25 _ _ ⟨_, rfl, (by first | assumption | omega), (by first | assumption | omega), (by first | assumption | omega), (by first | assumption | omega), (by first | assumption | omega), (by first | assumption | omega), (by first | assumption | omega), (by first | assumption | omega), (by first | assumption | omega)⟩) ⟨rfl, rfl, rfl, rfl, rfl, rfl, rfl, rfl, rfl, rfl, rfl, trivial⟩
    refine LL.storeT (u := (a.1, a.2 + 1)) (i := N) rfl (by simp only [Nat.zero_add]; rfl) rfl rfl rEnc ho (by omega) rfl rfl ?_
    intro W5 oa gra
    rw [show (l' ++ [a]).set N (a.1, a.2 + 1) = l' ++ [(a.1, a.2 + 1)] by rw [List.set_append_right _ _ (by omega), hN]; simp] at oa
    replace q := q.grown gra (by have := q.size; omega) (by rintro k ⟨⟩; exact hbg)
    refine LL.nilS ?_
    refine CC.seq ?_
    refine CC.region ?_
    refine LL.val (R.move rfl rfl) rfl rfl rfl ?_
    refine LL.val (R.assign rfl rfl) rfl rfl rfl ?_
    refine LL.nilS ?_
    refine CC.ret ?_
    refine EE.thenR ?_
    refine EE.ret _ rfl rfl ?_
    exact ⟨_, rfl, oa, q⟩
end Go.Proofs.YtklfopclaonggaaDoor
