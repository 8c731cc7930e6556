/- LayoutPlaces: the walk. -/
import Derived.Test.YthdgnogpjpoklaaLay8
namespace Go.Proofs.Ythdgnogpjpoklaa
set_option linter.unusedVariables false
set_option linter.unusedSimpArgs false
open Go.RowKit Go.Shelf
set_option maxRecDepth 100000 in
set_option maxHeartbeats 8000000 in
theorem places_walk (b i r t : Int) (k1 k2 : Nat) (n : Int) (w : World) : Calls Try.prog 6 #[formV b i r t, keyV k1 k2, .int .i64 n] w fun x w' => x = .returned (.bool true) ∧ Below w.heap.size w w' := by
  have q := Below.refl w.heap.size w
  by_cases hok : okF b i r t
  case neg =>
    refine X.fn Try.func6 rfl (n := 160) rfl rfl ?_
    refine CC.seq ?_
    refine CC.region ?_
    refine LL.box [Value.int IntKind.i64 b, Value.int IntKind.i64 i, Value.int IntKind.i64 r, Value.int IntKind.i64 t] rfl rfl rfl rfl rfl ?_
    intro W2 g3 eg3 r4 z5 b1
    replace q := q.trans (b1.mono q.size)
    have l6 := r4.lt
    refine LL.box [Value.int IntKind.u64 ↑k1, Value.int IntKind.u64 ↑k2] rfl rfl rfl rfl rfl ?_
    intro W8 g9 eg9 r10 z11 b7
    replace r4 := r4.up b7
    replace b1 := b1.trans (b7.mono b1.size)
    replace q := q.trans (b7.mono q.size)
    refine LL.val (R.assign rfl rfl) rfl rfl rfl ?_
    refine LL.nilS ?_
    refine CC.seq ?_
    refine CC.region ?_
    refine LL.val (R.load rfl rfl (I.ldNc (vs := [Value.int IntKind.i64 b, Value.int IntKind.i64 i, Value.int IntKind.i64 r, Value.int IntKind.i64 t]) (RowL.cells r4 rfl) (by rfl) (by rfl))) rfl rfl rfl ?_
    refine LL.val (R.load rfl rfl (I.ldNc (vs := [Value.int IntKind.u64 ↑k1, Value.int IntKind.u64 ↑k2]) (RowL.cells r10 rfl) (by rfl) (by rfl))) rfl rfl rfl ?_
    refine LL.call (R.call rfl rfl rfl) rfl rfl rfl (rof_F _ _ _ _ _ _ _ (by first | assumption | omega)) ?_
    rintro e W13 ⟨rfl, b12⟩
    refine ⟨_, rfl, ?_⟩
    have zb12 := b12.size
    replace r10 := r10.up b12
    replace b7 := b7.trans (b12.mono b7.size)
    replace r4 := r4.up b12
    replace b1 := b1.trans (b12.mono b1.size)
    replace q := q.trans (b12.mono q.size)
    refine LL.val (R.move rfl rfl) rfl rfl rfl ?_
    refine LL.val (R.extract rfl rfl rfl) rfl rfl rfl ?_
    refine LL.val (R.extract rfl rfl rfl) rfl rfl rfl ?_
    have l14 := r10.lt
    have l15 := r4.lt
    refine LL.alloc ([Value.int IntKind.i64 0, Value.int IntKind.i64 0, Value.int IntKind.i64 0, Value.int IntKind.i64 0, Value.int IntKind.u64 0, Value.int IntKind.u64 0, Value.int IntKind.i64 0, Value.int IntKind.i64 0, Value.int IntKind.i64 0, Value.int IntKind.i64 0]) rfl rfl rfl rfl rfl ?_
    intro W17 g18 eg18 r19 z20 b16
    replace b12 := b12.trans (b16.mono b12.size)
    replace r10 := r10.up b16
    replace b7 := b7.trans (b16.mono b7.size)
    replace r4 := r4.up b16
    replace b1 := b1.trans (b16.mono b1.size)
    replace q := q.trans (b16.mono q.size)
    refine LL.storeN (vs := [Value.int IntKind.i64 0, Value.int IntKind.i64 0, Value.int IntKind.i64 0, Value.int IntKind.i64 0, Value.int IntKind.u64 ↑0, Value.int IntKind.u64 ↑0, Value.int IntKind.i64 0, Value.int IntKind.i64 0, Value.int IntKind.i64 0, Value.int IntKind.i64 0]) rfl rfl rfl rfl r19 (by exact Nat.le_of_ble_eq_true rfl) (ones_of rfl) rfl rfl ?_
    intro W22 r23 b21 z24
    have hlb21 := r19.lt
    replace r23 : RowL W22 _ 27 [Value.int IntKind.i64 0, Value.int IntKind.i64 0, Value.int IntKind.i64 0, Value.int IntKind.i64 0, Value.int IntKind.u64 ↑0, Value.int IntKind.u64 ↑0, Value.int IntKind.i64 0, Value.int IntKind.i64 0, Value.int IntKind.i64 0, Value.int IntKind.i64 0] := r23
    clear r19
    replace b16 := b16.grown b21 b16.size (by rintro k ⟨⟩; omega)
    replace b12 := b12.grown b21 b12.size (by rintro k ⟨⟩; omega)
    replace r10 := r10.gr b21 (by have := r10.lt; omega)
    replace b7 := b7.grown b21 b7.size (by rintro k ⟨⟩; omega)
    replace r4 := r4.gr b21 (by have := r4.lt; omega)
    replace b1 := b1.grown b21 b1.size (by rintro k ⟨⟩; omega)
    replace q := q.grown b21 q.size (by rintro k ⟨⟩; omega)
    have r19 := r23
    clear r23
    refine LL.val (R.assign rfl rfl) rfl rfl rfl ?_
    refine LL.nilS ?_
    refine CC.seq ?_
    refine CC.seq ?_
    refine CC.region ?_
    refine LL.val (R.move rfl rfl) rfl rfl rfl ?_
    refine LL.val (R.neT rfl rfl rfl (by omega)) rfl rfl rfl ?_
    refine LL.nilS ?_
    refine CC.yes rfl ?_
    refine CC.seq ?_
    refine CC.region ?_
    refine LL.call (R.call rfl rfl rfl) rfl rfl rfl (works_any _) ?_
    rintro e W26 ⟨rfl, b25⟩
    refine ⟨_, rfl, ?_⟩
    have zb25 := b25.size
    replace b16 := b16.trans (b25.mono b16.size)
    replace b12 := b12.trans (b25.mono b12.size)
    replace r10 := r10.up b25
    replace b7 := b7.trans (b25.mono b7.size)
    replace r4 := r4.up b25
    replace b1 := b1.trans (b25.mono b1.size)
    replace q := q.trans (b25.mono q.size)
    replace r19 := r19.up b25
    refine LL.val (R.assign rfl rfl) rfl rfl rfl ?_
    refine LL.nilS ?_
    refine CC.ret ?_
    refine EE.thenR ?_
    refine EE.ret _ rfl rfl ?_
    exact ⟨rfl, q⟩
  by_cases h1 : 0 ≤ n ∧ n ≤ 7 <;> by_cases h2 : 1 ≤ n ∧ n ≤ i <;> by_cases h3 : 1 ≤ n ∧ n ≤ r
  · refine X.fn Try.func6 rfl (n := 160) rfl rfl ?_
    refine CC.seq ?_
    refine CC.region ?_
    refine LL.box [Value.int IntKind.i64 b, Value.int IntKind.i64 i, Value.int IntKind.i64 r, Value.int IntKind.i64 t] rfl rfl rfl rfl rfl ?_
    intro Wa2 ga3 ega3 ra4 za5 ba1
    replace q := q.trans (ba1.mono q.size)
    have la6 := ra4.lt
    refine LL.box [Value.int IntKind.u64 ↑k1, Value.int IntKind.u64 ↑k2] rfl rfl rfl rfl rfl ?_
    intro Wa8 ga9 ega9 ra10 za11 ba7
    replace ra4 := ra4.up ba7
    replace ba1 := ba1.trans (ba7.mono ba1.size)
    replace q := q.trans (ba7.mono q.size)
    refine LL.val (R.assign rfl rfl) rfl rfl rfl ?_
    refine LL.nilS ?_
    refine CC.seq ?_
    refine CC.region ?_
    refine LL.val (R.load rfl rfl (I.ldNc (vs := [Value.int IntKind.i64 b, Value.int IntKind.i64 i, Value.int IntKind.i64 r, Value.int IntKind.i64 t]) (RowL.cells ra4 rfl) (by rfl) (by rfl))) rfl rfl rfl ?_
    refine LL.val (R.load rfl rfl (I.ldNc (vs := [Value.int IntKind.u64 ↑k1, Value.int IntKind.u64 ↑k2]) (RowL.cells ra10 rfl) (by rfl) (by rfl))) rfl rfl rfl ?_
    refine LL.call (R.call rfl rfl rfl) rfl rfl rfl (rof_T _ _ _ _ _ _ _ (by first | assumption | omega)) ?_
    rintro e Wa13 ⟨rfl, ba12⟩
    refine ⟨_, rfl, ?_⟩
    have zba12 := ba12.size
    replace ra10 := ra10.up ba12
    replace ba7 := ba7.trans (ba12.mono ba7.size)
    replace ra4 := ra4.up ba12
    replace ba1 := ba1.trans (ba12.mono ba1.size)
    replace q := q.trans (ba12.mono q.size)
    refine LL.val (R.move rfl rfl) rfl rfl rfl ?_
    refine LL.val (R.extract rfl rfl rfl) rfl rfl rfl ?_
    refine LL.val (R.extract rfl rfl rfl) rfl rfl rfl ?_
    have la14 := ra10.lt
    have la15 := ra4.lt
    refine LL.alloc ([Value.int IntKind.i64 0, Value.int IntKind.i64 0, Value.int IntKind.i64 0, Value.int IntKind.i64 0, Value.int IntKind.u64 0, Value.int IntKind.u64 0, Value.int IntKind.i64 0, Value.int IntKind.i64 0, Value.int IntKind.i64 0, Value.int IntKind.i64 0]) rfl rfl rfl rfl rfl ?_
    intro Wa17 ga18 ega18 ra19 za20 ba16
    replace ba12 := ba12.trans (ba16.mono ba12.size)
    replace ra10 := ra10.up ba16
    replace ba7 := ba7.trans (ba16.mono ba7.size)
    replace ra4 := ra4.up ba16
    replace ba1 := ba1.trans (ba16.mono ba1.size)
    replace q := q.trans (ba16.mono q.size)
    refine LL.storeN (vs := [Value.int IntKind.i64 b, Value.int IntKind.i64 i, Value.int IntKind.i64 r, Value.int IntKind.i64 t, Value.int IntKind.u64 ↑k1, Value.int IntKind.u64 ↑k2, Value.int IntKind.i64 9, Value.int IntKind.i64 (9 + i / 4), Value.int IntKind.i64 (9 + i / 4 + r / 4), Value.int IntKind.i64 (10 + i / 4 + r / 4)]) rfl rfl rfl rfl ra19 (by exact Nat.le_of_ble_eq_true rfl) (ones_of rfl) rfl rfl ?_
    intro Wa22 ra23 ba21 za24
    have hlba21 := ra19.lt
    replace ra23 : RowL Wa22 _ 27 [Value.int IntKind.i64 b, Value.int IntKind.i64 i, Value.int IntKind.i64 r, Value.int IntKind.i64 t, Value.int IntKind.u64 ↑k1, Value.int IntKind.u64 ↑k2, Value.int IntKind.i64 9, Value.int IntKind.i64 (9 + i / 4), Value.int IntKind.i64 (9 + i / 4 + r / 4), Value.int IntKind.i64 (10 + i / 4 + r / 4)] := ra23
    clear ra19
    replace ba16 := ba16.grown ba21 ba16.size (by rintro k ⟨⟩; omega)
    replace ba12 := ba12.grown ba21 ba12.size (by rintro k ⟨⟩; omega)
    replace ra10 := ra10.gr ba21 (by have := ra10.lt; omega)
    replace ba7 := ba7.grown ba21 ba7.size (by rintro k ⟨⟩; omega)
    replace ra4 := ra4.gr ba21 (by have := ra4.lt; omega)
    replace ba1 := ba1.grown ba21 ba1.size (by rintro k ⟨⟩; omega)
    replace q := q.grown ba21 q.size (by rintro k ⟨⟩; omega)
    have ra19 := ra23
    clear ra23
    refine LL.val (R.assign rfl rfl) rfl rfl rfl ?_
    refine LL.nilS ?_
    refine CC.seq ?_
    refine CC.seq ?_
    refine CC.region ?_
    refine LL.val (R.move rfl rfl) rfl rfl rfl ?_
    refine LL.val (R.neF rfl rfl rfl (by omega)) rfl rfl rfl ?_
    refine LL.nilS ?_
    refine CC.no rfl ?_
    refine CC.skip ?_
    refine EE.thenN ?_
    refine CC.seq ?_
    refine CC.region ?_
    refine LL.val (R.load rfl rfl (I.ldNc (vs := [Value.int IntKind.i64 b, Value.int IntKind.i64 i, Value.int IntKind.i64 r, Value.int IntKind.i64 t, Value.int IntKind.u64 ↑k1, Value.int IntKind.u64 ↑k2, Value.int IntKind.i64 9, Value.int IntKind.i64 (9 + i / 4), Value.int IntKind.i64 (9 + i / 4 + r / 4), Value.int IntKind.i64 (10 + i / 4 + r / 4)]) (RowL.cells ra19 rfl) (by rfl) (by rfl))) rfl rfl rfl ?_
    refine LL.val (R.move rfl rfl) rfl rfl rfl ?_
    refine LL.call (R.call rfl rfl rfl) rfl rfl rfl (pJournal_any _ _ _ _ _ _ _ _ _ _ _ _ (by first | assumption | omega) (by first | assumption | omega)) ?_
    rintro e Wa26 ⟨rfl, ba25⟩
    refine ⟨_, rfl, ?_⟩
    have zba25 := ba25.size
    replace ba16 := ba16.trans (ba25.mono ba16.size)
    replace ba12 := ba12.trans (ba25.mono ba12.size)
    replace ra10 := ra10.up ba25
    replace ba7 := ba7.trans (ba25.mono ba7.size)
    replace ra4 := ra4.up ba25
    replace ba1 := ba1.trans (ba25.mono ba1.size)
    replace q := q.trans (ba25.mono q.size)
    replace ra19 := ra19.up ba25
    refine LL.val (R.move rfl rfl) rfl rfl rfl ?_
    refine LL.val (R.extract rfl rfl rfl) rfl rfl rfl ?_
    refine LL.val (R.extract rfl rfl rfl) rfl rfl rfl ?_
    refine LL.val (R.assign rfl rfl) rfl rfl rfl ?_
    refine LL.val (R.assign rfl rfl) rfl rfl rfl ?_
    refine LL.nilS ?_
    refine CC.seq ?_
    refine CC.region ?_
    refine LL.val (R.load rfl rfl (I.ldNc (vs := [Value.int IntKind.i64 b, Value.int IntKind.i64 i, Value.int IntKind.i64 r, Value.int IntKind.i64 t, Value.int IntKind.u64 ↑k1, Value.int IntKind.u64 ↑k2, Value.int IntKind.i64 9, Value.int IntKind.i64 (9 + i / 4), Value.int IntKind.i64 (9 + i / 4 + r / 4), Value.int IntKind.i64 (10 + i / 4 + r / 4)]) (RowL.cells ra19 rfl) (by rfl) (by rfl))) rfl rfl rfl ?_
    refine LL.val (R.move rfl rfl) rfl rfl rfl ?_
    refine LL.call (R.call rfl rfl rfl) rfl rfl rfl (pInode_any _ _ _ _ _ _ _ _ _ _ _ _ (by first | assumption | omega) (by first | assumption | omega)) ?_
    rintro e Wa28 ⟨rfl, ba27⟩
    refine ⟨_, rfl, ?_⟩
    have zba27 := ba27.size
    replace ba25 := ba25.trans (ba27.mono ba25.size)
    replace ba16 := ba16.trans (ba27.mono ba16.size)
    replace ba12 := ba12.trans (ba27.mono ba12.size)
    replace ra10 := ra10.up ba27
    replace ba7 := ba7.trans (ba27.mono ba7.size)
    replace ra4 := ra4.up ba27
    replace ba1 := ba1.trans (ba27.mono ba1.size)
    replace q := q.trans (ba27.mono q.size)
    replace ra19 := ra19.up ba27
    refine LL.val (R.move rfl rfl) rfl rfl rfl ?_
    refine LL.val (R.extract rfl rfl rfl) rfl rfl rfl ?_
    refine LL.val (R.extract rfl rfl rfl) rfl rfl rfl ?_
    refine LL.val (R.assign rfl rfl) rfl rfl rfl ?_
    refine LL.val (R.assign rfl rfl) rfl rfl rfl ?_
    refine LL.nilS ?_
    refine CC.seq ?_
    refine CC.region ?_
    refine LL.val (R.load rfl rfl (I.ldNc (vs := [Value.int IntKind.i64 b, Value.int IntKind.i64 i, Value.int IntKind.i64 r, Value.int IntKind.i64 t, Value.int IntKind.u64 ↑k1, Value.int IntKind.u64 ↑k2, Value.int IntKind.i64 9, Value.int IntKind.i64 (9 + i / 4), Value.int IntKind.i64 (9 + i / 4 + r / 4), Value.int IntKind.i64 (10 + i / 4 + r / 4)]) (RowL.cells ra19 rfl) (by rfl) (by rfl))) rfl rfl rfl ?_
    refine LL.val (R.move rfl rfl) rfl rfl rfl ?_
    refine LL.call (R.call rfl rfl rfl) rfl rfl rfl (pRecord_any _ _ _ _ _ _ _ _ _ _ _ _ (by first | assumption | omega) (by first | assumption | omega)) ?_
    rintro e Wa30 ⟨rfl, ba29⟩
    refine ⟨_, rfl, ?_⟩
    have zba29 := ba29.size
    replace ba27 := ba27.trans (ba29.mono ba27.size)
    replace ba25 := ba25.trans (ba29.mono ba25.size)
    replace ba16 := ba16.trans (ba29.mono ba16.size)
    replace ba12 := ba12.trans (ba29.mono ba12.size)
    replace ra10 := ra10.up ba29
    replace ba7 := ba7.trans (ba29.mono ba7.size)
    replace ra4 := ra4.up ba29
    replace ba1 := ba1.trans (ba29.mono ba1.size)
    replace q := q.trans (ba29.mono q.size)
    replace ra19 := ra19.up ba29
    refine LL.val (R.move rfl rfl) rfl rfl rfl ?_
    refine LL.val (R.extract rfl rfl rfl) rfl rfl rfl ?_
    refine LL.val (R.extract rfl rfl rfl) rfl rfl rfl ?_
    refine LL.val (R.assign rfl rfl) rfl rfl rfl ?_
    refine LL.val (R.assign rfl rfl) rfl rfl rfl ?_
    refine LL.nilS ?_
    refine CC.seq ?_
    refine CC.quietB (by kernel_rfl) (by kernel_rfl) (fun Wa32 ba31 za33 => ?_)
    replace ba29 := ba29.trans (ba31.mono ba29.size)
    replace ba27 := ba27.trans (ba31.mono ba27.size)
    replace ba25 := ba25.trans (ba31.mono ba25.size)
    replace ba16 := ba16.trans (ba31.mono ba16.size)
    replace ba12 := ba12.trans (ba31.mono ba12.size)
    replace ra10 := ra10.up ba31
    replace ba7 := ba7.trans (ba31.mono ba7.size)
    replace ra4 := ra4.up ba31
    replace ba1 := ba1.trans (ba31.mono ba1.size)
    replace q := q.trans (ba31.mono q.size)
    replace ra19 := ra19.up ba31
    refine SS.val (R.move rfl rfl) rfl rfl ?_
    refine SS.val (R.geT rfl rfl rfl (by omega)) rfl rfl ?_
    refine SS.val (R.move rfl rfl) rfl rfl ?_
    refine SS.val (R.move rfl rfl) rfl rfl ?_
    refine SS.val (R.ltT rfl rfl rfl (by omega)) rfl rfl ?_
    refine SS.val (R.pick rfl rfl rfl) rfl rfl ?_
    refine SS.val (R.move rfl rfl) rfl rfl ?_
    refine SS.val (R.geT rfl rfl rfl (by omega)) rfl rfl ?_
    refine SS.val (R.move rfl rfl) rfl rfl ?_
    refine SS.val (R.move rfl rfl) rfl rfl ?_
    refine SS.val (R.field rfl rfl (I.fld rfl)) rfl rfl ?_
    refine SS.val (R.load rfl rfl (I.ld1 rfl (RowL.cell ra4 rfl))) rfl rfl ?_
    refine SS.val (R.leT rfl rfl rfl (by omega)) rfl rfl ?_
    refine SS.val (R.pick rfl rfl rfl) rfl rfl ?_
    refine SS.val (R.move rfl rfl) rfl rfl ?_
    refine SS.val (R.geT rfl rfl rfl (by omega)) rfl rfl ?_
    refine SS.val (R.move rfl rfl) rfl rfl ?_
    refine SS.val (R.move rfl rfl) rfl rfl ?_
    refine SS.val (R.field rfl rfl (I.fld rfl)) rfl rfl ?_
    refine SS.val (R.load rfl rfl (I.ld1 rfl (RowL.cell ra4 rfl))) rfl rfl ?_
    refine SS.val (R.leT rfl rfl rfl (by omega)) rfl rfl ?_
    refine SS.val (R.pick rfl rfl rfl) rfl rfl ?_
    refine SS.val (R.assign rfl rfl) rfl rfl ?_
    refine SS.val (R.assign rfl rfl) rfl rfl ?_
    refine SS.val (R.assign rfl rfl) rfl rfl ?_
    refine SS.nilQ ?_
    refine EE.thenN ?_
    refine CC.seq ?_
    refine CC.seq ?_
    refine CC.region ?_
    refine LL.val (R.move rfl rfl) rfl rfl rfl ?_
    refine LL.val (R.move rfl rfl) rfl rfl rfl ?_
    refine LL.call (R.call rfl rfl rfl) rfl rfl rfl (num_any _ _) ?_
    rintro e W' ⟨rfl, rfl⟩
    refine ⟨_, rfl, ?_⟩
    refine LL.val (R.eqT rfl rfl rfl (by omega)) rfl rfl rfl ?_
    refine LL.val (R.neBool rfl rfl rfl rfl rfl) rfl rfl rfl ?_
    refine LL.val (R.move rfl rfl) rfl rfl rfl ?_
    refine LL.val (R.move rfl rfl) rfl rfl rfl ?_
    refine LL.val (R.move rfl rfl) rfl rfl rfl ?_
    refine LL.call (R.call rfl rfl rfl) rfl rfl rfl (num_any _ _) ?_
    rintro e W' ⟨rfl, rfl⟩
    refine ⟨_, rfl, ?_⟩
    refine LL.val (R.eqT rfl rfl rfl (by omega)) rfl rfl rfl ?_
    refine LL.val (R.neBool rfl rfl rfl rfl rfl) rfl rfl rfl ?_
    refine LL.val (R.pick rfl rfl rfl) rfl rfl rfl ?_
    refine LL.val (R.move rfl rfl) rfl rfl rfl ?_
    refine LL.val (R.move rfl rfl) rfl rfl rfl ?_
    refine LL.val (R.move rfl rfl) rfl rfl rfl ?_
    refine LL.call (R.call rfl rfl rfl) rfl rfl rfl (num_any _ _) ?_
    rintro e W' ⟨rfl, rfl⟩
    refine ⟨_, rfl, ?_⟩
    refine LL.val (R.eqT rfl rfl rfl (by omega)) rfl rfl rfl ?_
    refine LL.val (R.neBool rfl rfl rfl rfl rfl) rfl rfl rfl ?_
    refine LL.val (R.pick rfl rfl rfl) rfl rfl rfl ?_
    refine LL.nilS ?_
    refine CC.no rfl ?_
    refine CC.skip ?_
    refine EE.thenN ?_
    refine CC.seq ?_
    refine CC.seq ?_
    refine CC.region ?_
    refine LL.val (R.move rfl rfl) rfl rfl rfl ?_
    refine LL.val (R.not rfl rfl) rfl rfl rfl ?_
    refine LL.val (R.move rfl rfl) rfl rfl rfl ?_
    refine LL.skip rfl rfl ?_
    refine LL.skip rfl rfl ?_
    refine LL.skip rfl rfl ?_
    refine LL.skip rfl rfl ?_
    refine LL.skip rfl rfl ?_
    refine LL.skip rfl rfl ?_
    refine LL.skip rfl rfl ?_
    refine LL.val (R.pick rfl rfl rfl) rfl rfl rfl ?_
    refine LL.val (R.move rfl rfl) rfl rfl rfl ?_
    refine LL.val (R.move rfl rfl) rfl rfl rfl ?_
    refine LL.val (R.not rfl rfl) rfl rfl rfl ?_
    refine LL.val (R.move rfl rfl) rfl rfl rfl ?_
    refine LL.skip rfl rfl ?_
    refine LL.skip rfl rfl ?_
    refine LL.skip rfl rfl ?_
    refine LL.skip rfl rfl ?_
    refine LL.skip rfl rfl ?_
    refine LL.skip rfl rfl ?_
    refine LL.skip rfl rfl ?_
    refine LL.val (R.pick rfl rfl rfl) rfl rfl rfl ?_
    refine LL.val (R.pick rfl rfl rfl) rfl rfl rfl ?_
    refine LL.val (R.move rfl rfl) rfl rfl rfl ?_
    refine LL.val (R.move rfl rfl) rfl rfl rfl ?_
    refine LL.val (R.not rfl rfl) rfl rfl rfl ?_
    refine LL.val (R.move rfl rfl) rfl rfl rfl ?_
    refine LL.skip rfl rfl ?_
    refine LL.skip rfl rfl ?_
    refine LL.skip rfl rfl ?_
    refine LL.skip rfl rfl ?_
    refine LL.skip rfl rfl ?_
    refine LL.skip rfl rfl ?_
    refine LL.skip rfl rfl ?_
    refine LL.val (R.pick rfl rfl rfl) rfl rfl rfl ?_
    refine LL.val (R.pick rfl rfl rfl) rfl rfl rfl ?_
    refine LL.nilS ?_
    refine CC.no rfl ?_
    refine CC.skip ?_
    refine EE.thenN ?_
    refine CC.seq ?_
    refine CC.seq ?_
    refine CC.region ?_
    refine LL.val (R.move rfl rfl) rfl rfl rfl ?_
    refine LL.val (R.move rfl rfl) rfl rfl rfl ?_
    refine LL.val (R.move rfl rfl) rfl rfl rfl ?_
    refine LL.val (R.move rfl rfl) rfl rfl rfl ?_
    refine LL.val (R.mulI rfl rfl rfl (by omega)) rfl rfl rfl ?_
    refine LL.val (R.addI rfl rfl rfl (by omega)) rfl rfl rfl ?_
    refine LL.val (R.neF rfl rfl rfl (by omega)) rfl rfl rfl ?_
    refine LL.val (R.pick rfl rfl rfl) rfl rfl rfl ?_
    refine LL.val (R.move rfl rfl) rfl rfl rfl ?_
    refine LL.val (R.move rfl rfl) rfl rfl rfl ?_
    refine LL.val (R.move rfl rfl) rfl rfl rfl ?_
    refine LL.val (R.move rfl rfl) rfl rfl rfl ?_
    refine LL.val (R.field rfl rfl (I.fld rfl)) rfl rfl rfl ?_
    refine LL.val (R.load rfl rfl (I.ld1 rfl (RowL.cell ra19 rfl))) rfl rfl rfl ?_
    refine LL.val (R.mulIz (z := 576) rfl rfl rfl (by decide) (by decide)) rfl rfl rfl ?_
    refine LL.val (R.move rfl rfl) rfl rfl rfl ?_
    refine LL.val (R.subI rfl rfl rfl (by omega)) rfl rfl rfl ?_
    refine LL.val (R.mulI rfl rfl rfl (by omega)) rfl rfl rfl ?_
    refine LL.val (R.addI rfl rfl rfl (by omega)) rfl rfl rfl ?_
    refine LL.val (R.neF rfl rfl rfl (by omega)) rfl rfl rfl ?_
    refine LL.val (R.pick rfl rfl rfl) rfl rfl rfl ?_
    refine LL.val (R.pick rfl rfl rfl) rfl rfl rfl ?_
    refine LL.val (R.move rfl rfl) rfl rfl rfl ?_
    refine LL.val (R.move rfl rfl) rfl rfl rfl ?_
    refine LL.val (R.move rfl rfl) rfl rfl rfl ?_
    refine LL.val (R.move rfl rfl) rfl rfl rfl ?_
    refine LL.val (R.field rfl rfl (I.fld rfl)) rfl rfl rfl ?_
    refine LL.val (R.load rfl rfl (I.ld1 rfl (RowL.cell ra19 rfl))) rfl rfl rfl ?_
    refine LL.val (R.mulI rfl rfl rfl (by omega)) rfl rfl rfl ?_
    refine LL.val (R.move rfl rfl) rfl rfl rfl ?_
    refine LL.val (R.subI rfl rfl rfl (by omega)) rfl rfl rfl ?_
    refine LL.val (R.mulI rfl rfl rfl (by omega)) rfl rfl rfl ?_
    refine LL.val (R.addI rfl rfl rfl (by omega)) rfl rfl rfl ?_
    refine LL.val (R.neF rfl rfl rfl (by omega)) rfl rfl rfl ?_
    refine LL.val (R.pick rfl rfl rfl) rfl rfl rfl ?_
    refine LL.val (R.pick rfl rfl rfl) rfl rfl rfl ?_
    refine LL.nilS ?_
    refine CC.no rfl ?_
    refine CC.skip ?_
    refine EE.thenN ?_
    refine CC.seq ?_
    refine CC.region ?_
    refine LL.call (R.call rfl rfl rfl) rfl rfl rfl (works_any _) ?_
    rintro e Wa35 ⟨rfl, ba34⟩
    refine ⟨_, rfl, ?_⟩
    have zba34 := ba34.size
    replace ba31 := ba31.trans (ba34.mono ba31.size)
    replace ba29 := ba29.trans (ba34.mono ba29.size)
    replace ba27 := ba27.trans (ba34.mono ba27.size)
    replace ba25 := ba25.trans (ba34.mono ba25.size)
    replace ba16 := ba16.trans (ba34.mono ba16.size)
    replace ba12 := ba12.trans (ba34.mono ba12.size)
    replace ra10 := ra10.up ba34
    replace ba7 := ba7.trans (ba34.mono ba7.size)
    replace ra4 := ra4.up ba34
    replace ba1 := ba1.trans (ba34.mono ba1.size)
    replace q := q.trans (ba34.mono q.size)
    replace ra19 := ra19.up ba34
    refine LL.val (R.assign rfl rfl) rfl rfl rfl ?_
    refine LL.nilS ?_
    refine CC.ret ?_
    refine EE.ret _ rfl rfl ?_
    exact ⟨rfl, q⟩
  · refine X.fn Try.func6 rfl (n := 160) rfl rfl ?_
    refine CC.seq ?_
    refine CC.region ?_
    refine LL.box [Value.int IntKind.i64 b, Value.int IntKind.i64 i, Value.int IntKind.i64 r, Value.int IntKind.i64 t] rfl rfl rfl rfl rfl ?_
    intro Wb2 gb3 egb3 rb4 zb5 bb1
    replace q := q.trans (bb1.mono q.size)
    have lb6 := rb4.lt
    refine LL.box [Value.int IntKind.u64 ↑k1, Value.int IntKind.u64 ↑k2] rfl rfl rfl rfl rfl ?_
    intro Wb8 gb9 egb9 rb10 zb11 bb7
    replace rb4 := rb4.up bb7
    replace bb1 := bb1.trans (bb7.mono bb1.size)
    replace q := q.trans (bb7.mono q.size)
    refine LL.val (R.assign rfl rfl) rfl rfl rfl ?_
    refine LL.nilS ?_
    refine CC.seq ?_
    refine CC.region ?_
    refine LL.val (R.load rfl rfl (I.ldNc (vs := [Value.int IntKind.i64 b, Value.int IntKind.i64 i, Value.int IntKind.i64 r, Value.int IntKind.i64 t]) (RowL.cells rb4 rfl) (by rfl) (by rfl))) rfl rfl rfl ?_
    refine LL.val (R.load rfl rfl (I.ldNc (vs := [Value.int IntKind.u64 ↑k1, Value.int IntKind.u64 ↑k2]) (RowL.cells rb10 rfl) (by rfl) (by rfl))) rfl rfl rfl ?_
    refine LL.call (R.call rfl rfl rfl) rfl rfl rfl (rof_T _ _ _ _ _ _ _ (by first | assumption | omega)) ?_
    rintro e Wb13 ⟨rfl, bb12⟩
    refine ⟨_, rfl, ?_⟩
    have zbb12 := bb12.size
    replace rb10 := rb10.up bb12
    replace bb7 := bb7.trans (bb12.mono bb7.size)
    replace rb4 := rb4.up bb12
    replace bb1 := bb1.trans (bb12.mono bb1.size)
    replace q := q.trans (bb12.mono q.size)
    refine LL.val (R.move rfl rfl) rfl rfl rfl ?_
    refine LL.val (R.extract rfl rfl rfl) rfl rfl rfl ?_
    refine LL.val (R.extract rfl rfl rfl) rfl rfl rfl ?_
    have lb14 := rb10.lt
    have lb15 := rb4.lt
    refine LL.alloc ([Value.int IntKind.i64 0, Value.int IntKind.i64 0, Value.int IntKind.i64 0, Value.int IntKind.i64 0, Value.int IntKind.u64 0, Value.int IntKind.u64 0, Value.int IntKind.i64 0, Value.int IntKind.i64 0, Value.int IntKind.i64 0, Value.int IntKind.i64 0]) rfl rfl rfl rfl rfl ?_
    intro Wb17 gb18 egb18 rb19 zb20 bb16
    replace bb12 := bb12.trans (bb16.mono bb12.size)
    replace rb10 := rb10.up bb16
    replace bb7 := bb7.trans (bb16.mono bb7.size)
    replace rb4 := rb4.up bb16
    replace bb1 := bb1.trans (bb16.mono bb1.size)
    replace q := q.trans (bb16.mono q.size)
    refine LL.storeN (vs := [Value.int IntKind.i64 b, Value.int IntKind.i64 i, Value.int IntKind.i64 r, Value.int IntKind.i64 t, Value.int IntKind.u64 ↑k1, Value.int IntKind.u64 ↑k2, Value.int IntKind.i64 9, Value.int IntKind.i64 (9 + i / 4), Value.int IntKind.i64 (9 + i / 4 + r / 4), Value.int IntKind.i64 (10 + i / 4 + r / 4)]) rfl rfl rfl rfl rb19 (by exact Nat.le_of_ble_eq_true rfl) (ones_of rfl) rfl rfl ?_
    intro Wb22 rb23 bb21 zb24
    have hlbb21 := rb19.lt
    replace rb23 : RowL Wb22 _ 27 [Value.int IntKind.i64 b, Value.int IntKind.i64 i, Value.int IntKind.i64 r, Value.int IntKind.i64 t, Value.int IntKind.u64 ↑k1, Value.int IntKind.u64 ↑k2, Value.int IntKind.i64 9, Value.int IntKind.i64 (9 + i / 4), Value.int IntKind.i64 (9 + i / 4 + r / 4), Value.int IntKind.i64 (10 + i / 4 + r / 4)] := rb23
    clear rb19
    replace bb16 := bb16.grown bb21 bb16.size (by rintro k ⟨⟩; omega)
    replace bb12 := bb12.grown bb21 bb12.size (by rintro k ⟨⟩; omega)
    replace rb10 := rb10.gr bb21 (by have := rb10.lt; omega)
    replace bb7 := bb7.grown bb21 bb7.size (by rintro k ⟨⟩; omega)
    replace rb4 := rb4.gr bb21 (by have := rb4.lt; omega)
    replace bb1 := bb1.grown bb21 bb1.size (by rintro k ⟨⟩; omega)
    replace q := q.grown bb21 q.size (by rintro k ⟨⟩; omega)
    have rb19 := rb23
    clear rb23
    refine LL.val (R.assign rfl rfl) rfl rfl rfl ?_
    refine LL.nilS ?_
    refine CC.seq ?_
    refine CC.seq ?_
    refine CC.region ?_
    refine LL.val (R.move rfl rfl) rfl rfl rfl ?_
    refine LL.val (R.neF rfl rfl rfl (by omega)) rfl rfl rfl ?_
    refine LL.nilS ?_
    refine CC.no rfl ?_
    refine CC.skip ?_
    refine EE.thenN ?_
    refine CC.seq ?_
    refine CC.region ?_
    refine LL.val (R.load rfl rfl (I.ldNc (vs := [Value.int IntKind.i64 b, Value.int IntKind.i64 i, Value.int IntKind.i64 r, Value.int IntKind.i64 t, Value.int IntKind.u64 ↑k1, Value.int IntKind.u64 ↑k2, Value.int IntKind.i64 9, Value.int IntKind.i64 (9 + i / 4), Value.int IntKind.i64 (9 + i / 4 + r / 4), Value.int IntKind.i64 (10 + i / 4 + r / 4)]) (RowL.cells rb19 rfl) (by rfl) (by rfl))) rfl rfl rfl ?_
    refine LL.val (R.move rfl rfl) rfl rfl rfl ?_
    refine LL.call (R.call rfl rfl rfl) rfl rfl rfl (pJournal_any _ _ _ _ _ _ _ _ _ _ _ _ (by first | assumption | omega) (by first | assumption | omega)) ?_
    rintro e Wb26 ⟨rfl, bb25⟩
    refine ⟨_, rfl, ?_⟩
    have zbb25 := bb25.size
    replace bb16 := bb16.trans (bb25.mono bb16.size)
    replace bb12 := bb12.trans (bb25.mono bb12.size)
    replace rb10 := rb10.up bb25
    replace bb7 := bb7.trans (bb25.mono bb7.size)
    replace rb4 := rb4.up bb25
    replace bb1 := bb1.trans (bb25.mono bb1.size)
    replace q := q.trans (bb25.mono q.size)
    replace rb19 := rb19.up bb25
    refine LL.val (R.move rfl rfl) rfl rfl rfl ?_
    refine LL.val (R.extract rfl rfl rfl) rfl rfl rfl ?_
    refine LL.val (R.extract rfl rfl rfl) rfl rfl rfl ?_
    refine LL.val (R.assign rfl rfl) rfl rfl rfl ?_
    refine LL.val (R.assign rfl rfl) rfl rfl rfl ?_
    refine LL.nilS ?_
    refine CC.seq ?_
    refine CC.region ?_
    refine LL.val (R.load rfl rfl (I.ldNc (vs := [Value.int IntKind.i64 b, Value.int IntKind.i64 i, Value.int IntKind.i64 r, Value.int IntKind.i64 t, Value.int IntKind.u64 ↑k1, Value.int IntKind.u64 ↑k2, Value.int IntKind.i64 9, Value.int IntKind.i64 (9 + i / 4), Value.int IntKind.i64 (9 + i / 4 + r / 4), Value.int IntKind.i64 (10 + i / 4 + r / 4)]) (RowL.cells rb19 rfl) (by rfl) (by rfl))) rfl rfl rfl ?_
    refine LL.val (R.move rfl rfl) rfl rfl rfl ?_
    refine LL.call (R.call rfl rfl rfl) rfl rfl rfl (pInode_any _ _ _ _ _ _ _ _ _ _ _ _ (by first | assumption | omega) (by first | assumption | omega)) ?_
    rintro e Wb28 ⟨rfl, bb27⟩
    refine ⟨_, rfl, ?_⟩
    have zbb27 := bb27.size
    replace bb25 := bb25.trans (bb27.mono bb25.size)
    replace bb16 := bb16.trans (bb27.mono bb16.size)
    replace bb12 := bb12.trans (bb27.mono bb12.size)
    replace rb10 := rb10.up bb27
    replace bb7 := bb7.trans (bb27.mono bb7.size)
    replace rb4 := rb4.up bb27
    replace bb1 := bb1.trans (bb27.mono bb1.size)
    replace q := q.trans (bb27.mono q.size)
    replace rb19 := rb19.up bb27
    refine LL.val (R.move rfl rfl) rfl rfl rfl ?_
    refine LL.val (R.extract rfl rfl rfl) rfl rfl rfl ?_
    refine LL.val (R.extract rfl rfl rfl) rfl rfl rfl ?_
    refine LL.val (R.assign rfl rfl) rfl rfl rfl ?_
    refine LL.val (R.assign rfl rfl) rfl rfl rfl ?_
    refine LL.nilS ?_
    refine CC.seq ?_
    refine CC.region ?_
    refine LL.val (R.load rfl rfl (I.ldNc (vs := [Value.int IntKind.i64 b, Value.int IntKind.i64 i, Value.int IntKind.i64 r, Value.int IntKind.i64 t, Value.int IntKind.u64 ↑k1, Value.int IntKind.u64 ↑k2, Value.int IntKind.i64 9, Value.int IntKind.i64 (9 + i / 4), Value.int IntKind.i64 (9 + i / 4 + r / 4), Value.int IntKind.i64 (10 + i / 4 + r / 4)]) (RowL.cells rb19 rfl) (by rfl) (by rfl))) rfl rfl rfl ?_
    refine LL.val (R.move rfl rfl) rfl rfl rfl ?_
    refine LL.call (R.call rfl rfl rfl) rfl rfl rfl (pRecord_out _ _ _ _ _ _ _ _ _ _ _ _ (by first | assumption | omega) (by first | assumption | omega)) ?_
    rintro e Wb30 ⟨rfl, bb29⟩
    refine ⟨_, rfl, ?_⟩
    have zbb29 := bb29.size
    replace bb27 := bb27.trans (bb29.mono bb27.size)
    replace bb25 := bb25.trans (bb29.mono bb25.size)
    replace bb16 := bb16.trans (bb29.mono bb16.size)
    replace bb12 := bb12.trans (bb29.mono bb12.size)
    replace rb10 := rb10.up bb29
    replace bb7 := bb7.trans (bb29.mono bb7.size)
    replace rb4 := rb4.up bb29
    replace bb1 := bb1.trans (bb29.mono bb1.size)
    replace q := q.trans (bb29.mono q.size)
    replace rb19 := rb19.up bb29
    refine LL.val (R.move rfl rfl) rfl rfl rfl ?_
    refine LL.val (R.extract rfl rfl rfl) rfl rfl rfl ?_
    refine LL.val (R.extract rfl rfl rfl) rfl rfl rfl ?_
    refine LL.val (R.assign rfl rfl) rfl rfl rfl ?_
    refine LL.val (R.assign rfl rfl) rfl rfl rfl ?_
    refine LL.nilS ?_
    refine CC.seq ?_
    refine CC.quietB (by kernel_rfl) (by kernel_rfl) (fun Wb32 bb31 zb33 => ?_)
    replace bb29 := bb29.trans (bb31.mono bb29.size)
    replace bb27 := bb27.trans (bb31.mono bb27.size)
    replace bb25 := bb25.trans (bb31.mono bb25.size)
    replace bb16 := bb16.trans (bb31.mono bb16.size)
    replace bb12 := bb12.trans (bb31.mono bb12.size)
    replace rb10 := rb10.up bb31
    replace bb7 := bb7.trans (bb31.mono bb7.size)
    replace rb4 := rb4.up bb31
    replace bb1 := bb1.trans (bb31.mono bb1.size)
    replace q := q.trans (bb31.mono q.size)
    replace rb19 := rb19.up bb31
    refine SS.val (R.move rfl rfl) rfl rfl ?_
    refine SS.val (R.geT rfl rfl rfl (by omega)) rfl rfl ?_
    refine SS.val (R.move rfl rfl) rfl rfl ?_
    refine SS.val (R.move rfl rfl) rfl rfl ?_
    refine SS.val (R.ltT rfl rfl rfl (by omega)) rfl rfl ?_
    refine SS.val (R.pick rfl rfl rfl) rfl rfl ?_
    refine SS.val (R.move rfl rfl) rfl rfl ?_
    refine SS.val (R.geT rfl rfl rfl (by omega)) rfl rfl ?_
    refine SS.val (R.move rfl rfl) rfl rfl ?_
    refine SS.val (R.move rfl rfl) rfl rfl ?_
    refine SS.val (R.field rfl rfl (I.fld rfl)) rfl rfl ?_
    refine SS.val (R.load rfl rfl (I.ld1 rfl (RowL.cell rb4 rfl))) rfl rfl ?_
    refine SS.val (R.leT rfl rfl rfl (by omega)) rfl rfl ?_
    refine SS.val (R.pick rfl rfl rfl) rfl rfl ?_
    refine SS.val (R.move rfl rfl) rfl rfl ?_
    refine SS.val (R.geT rfl rfl rfl (by omega)) rfl rfl ?_
    refine SS.val (R.move rfl rfl) rfl rfl ?_
    refine SS.val (R.move rfl rfl) rfl rfl ?_
    refine SS.val (R.field rfl rfl (I.fld rfl)) rfl rfl ?_
    refine SS.val (R.load rfl rfl (I.ld1 rfl (RowL.cell rb4 rfl))) rfl rfl ?_
    refine SS.val (R.leF rfl rfl rfl (by omega)) rfl rfl ?_
    refine SS.val (R.pick rfl rfl rfl) rfl rfl ?_
    refine SS.val (R.assign rfl rfl) rfl rfl ?_
    refine SS.val (R.assign rfl rfl) rfl rfl ?_
    refine SS.val (R.assign rfl rfl) rfl rfl ?_
    refine SS.nilQ ?_
    refine EE.thenN ?_
    refine CC.seq ?_
    refine CC.seq ?_
    refine CC.region ?_
    refine LL.val (R.move rfl rfl) rfl rfl rfl ?_
    refine LL.val (R.move rfl rfl) rfl rfl rfl ?_
    refine LL.call (R.call rfl rfl rfl) rfl rfl rfl (num_any _ _) ?_
    rintro e W' ⟨rfl, rfl⟩
    refine ⟨_, rfl, ?_⟩
    refine LL.val (R.eqT rfl rfl rfl (by omega)) rfl rfl rfl ?_
    refine LL.val (R.neBool rfl rfl rfl rfl rfl) rfl rfl rfl ?_
    refine LL.val (R.move rfl rfl) rfl rfl rfl ?_
    refine LL.val (R.move rfl rfl) rfl rfl rfl ?_
    refine LL.val (R.move rfl rfl) rfl rfl rfl ?_
    refine LL.call (R.call rfl rfl rfl) rfl rfl rfl (num_any _ _) ?_
    rintro e W' ⟨rfl, rfl⟩
    refine ⟨_, rfl, ?_⟩
    refine LL.val (R.eqT rfl rfl rfl (by omega)) rfl rfl rfl ?_
    refine LL.val (R.neBool rfl rfl rfl rfl rfl) rfl rfl rfl ?_
    refine LL.val (R.pick rfl rfl rfl) rfl rfl rfl ?_
    refine LL.val (R.move rfl rfl) rfl rfl rfl ?_
    refine LL.val (R.move rfl rfl) rfl rfl rfl ?_
    refine LL.val (R.move rfl rfl) rfl rfl rfl ?_
    refine LL.call (R.call rfl rfl rfl) rfl rfl rfl (num_any _ _) ?_
    rintro e W' ⟨rfl, rfl⟩
    refine ⟨_, rfl, ?_⟩
    refine LL.val (R.eqF rfl rfl rfl (by omega)) rfl rfl rfl ?_
    refine LL.val (R.neBool rfl rfl rfl rfl rfl) rfl rfl rfl ?_
    refine LL.val (R.pick rfl rfl rfl) rfl rfl rfl ?_
    refine LL.nilS ?_
    refine CC.no rfl ?_
    refine CC.skip ?_
    refine EE.thenN ?_
    refine CC.seq ?_
    refine CC.seq ?_
    refine CC.region ?_
    refine LL.val (R.move rfl rfl) rfl rfl rfl ?_
    refine LL.val (R.not rfl rfl) rfl rfl rfl ?_
    refine LL.val (R.move rfl rfl) rfl rfl rfl ?_
    refine LL.skip rfl rfl ?_
    refine LL.skip rfl rfl ?_
    refine LL.skip rfl rfl ?_
    refine LL.skip rfl rfl ?_
    refine LL.skip rfl rfl ?_
    refine LL.skip rfl rfl ?_
    refine LL.skip rfl rfl ?_
    refine LL.val (R.pick rfl rfl rfl) rfl rfl rfl ?_
    refine LL.val (R.move rfl rfl) rfl rfl rfl ?_
    refine LL.val (R.move rfl rfl) rfl rfl rfl ?_
    refine LL.val (R.not rfl rfl) rfl rfl rfl ?_
    refine LL.val (R.move rfl rfl) rfl rfl rfl ?_
    refine LL.skip rfl rfl ?_
    refine LL.skip rfl rfl ?_
    refine LL.skip rfl rfl ?_
    refine LL.skip rfl rfl ?_
    refine LL.skip rfl rfl ?_
    refine LL.skip rfl rfl ?_
    refine LL.skip rfl rfl ?_
    refine LL.val (R.pick rfl rfl rfl) rfl rfl rfl ?_
    refine LL.val (R.pick rfl rfl rfl) rfl rfl rfl ?_
    refine LL.val (R.move rfl rfl) rfl rfl rfl ?_
    refine LL.val (R.move rfl rfl) rfl rfl rfl ?_
    refine LL.val (R.not rfl rfl) rfl rfl rfl ?_
    refine LL.val (R.move rfl rfl) rfl rfl rfl ?_
    refine LL.val (R.move rfl rfl) rfl rfl rfl ?_
    refine LL.val (R.neF rfl rfl rfl (by omega)) rfl rfl rfl ?_
    refine LL.val (R.move rfl rfl) rfl rfl rfl ?_
    refine LL.val (R.move rfl rfl) rfl rfl rfl ?_
    refine LL.call (R.call rfl rfl rfl) rfl rfl rfl (num_any _ _) ?_
    rintro e W' ⟨rfl, rfl⟩
    refine ⟨_, rfl, ?_⟩
    refine LL.val (R.neF rfl rfl rfl (by omega)) rfl rfl rfl ?_
    refine LL.val (R.pick rfl rfl rfl) rfl rfl rfl ?_
    refine LL.val (R.pick rfl rfl rfl) rfl rfl rfl ?_
    refine LL.val (R.pick rfl rfl rfl) rfl rfl rfl ?_
    refine LL.nilS ?_
    refine CC.no rfl ?_
    refine CC.skip ?_
    refine EE.thenN ?_
    refine CC.seq ?_
    refine CC.seq ?_
    refine CC.region ?_
    refine LL.val (R.move rfl rfl) rfl rfl rfl ?_
    refine LL.val (R.move rfl rfl) rfl rfl rfl ?_
    refine LL.val (R.move rfl rfl) rfl rfl rfl ?_
    refine LL.val (R.move rfl rfl) rfl rfl rfl ?_
    refine LL.val (R.mulI rfl rfl rfl (by omega)) rfl rfl rfl ?_
    refine LL.val (R.addI rfl rfl rfl (by omega)) rfl rfl rfl ?_
    refine LL.val (R.neF rfl rfl rfl (by omega)) rfl rfl rfl ?_
    refine LL.val (R.pick rfl rfl rfl) rfl rfl rfl ?_
    refine LL.val (R.move rfl rfl) rfl rfl rfl ?_
    refine LL.val (R.move rfl rfl) rfl rfl rfl ?_
    refine LL.val (R.move rfl rfl) rfl rfl rfl ?_
    refine LL.val (R.move rfl rfl) rfl rfl rfl ?_
    refine LL.val (R.field rfl rfl (I.fld rfl)) rfl rfl rfl ?_
    refine LL.val (R.load rfl rfl (I.ld1 rfl (RowL.cell rb19 rfl))) rfl rfl rfl ?_
    refine LL.val (R.mulIz (z := 576) rfl rfl rfl (by decide) (by decide)) rfl rfl rfl ?_
    refine LL.val (R.move rfl rfl) rfl rfl rfl ?_
    refine LL.val (R.subI rfl rfl rfl (by omega)) rfl rfl rfl ?_
    refine LL.val (R.mulI rfl rfl rfl (by omega)) rfl rfl rfl ?_
    refine LL.val (R.addI rfl rfl rfl (by omega)) rfl rfl rfl ?_
    refine LL.val (R.neF rfl rfl rfl (by omega)) rfl rfl rfl ?_
    refine LL.val (R.pick rfl rfl rfl) rfl rfl rfl ?_
    refine LL.val (R.pick rfl rfl rfl) rfl rfl rfl ?_
    refine LL.val (R.move rfl rfl) rfl rfl rfl ?_
    refine LL.val (R.move rfl rfl) rfl rfl rfl ?_
    refine LL.val (R.move rfl rfl) rfl rfl rfl ?_
    refine LL.skip rfl rfl ?_
    refine LL.skip rfl rfl ?_
    refine LL.skip rfl rfl ?_
    refine LL.skip rfl rfl ?_
    refine LL.skip rfl rfl ?_
    refine LL.skip rfl rfl ?_
    refine LL.skip rfl rfl ?_
    refine LL.skip rfl rfl ?_
    refine LL.skip rfl rfl ?_
    refine LL.val (R.pick rfl rfl rfl) rfl rfl rfl ?_
    refine LL.val (R.pick rfl rfl rfl) rfl rfl rfl ?_
    refine LL.nilS ?_
    refine CC.no rfl ?_
    refine CC.skip ?_
    refine EE.thenN ?_
    refine CC.seq ?_
    refine CC.region ?_
    refine LL.call (R.call rfl rfl rfl) rfl rfl rfl (works_any _) ?_
    rintro e Wb35 ⟨rfl, bb34⟩
    refine ⟨_, rfl, ?_⟩
    have zbb34 := bb34.size
    replace bb31 := bb31.trans (bb34.mono bb31.size)
    replace bb29 := bb29.trans (bb34.mono bb29.size)
    replace bb27 := bb27.trans (bb34.mono bb27.size)
    replace bb25 := bb25.trans (bb34.mono bb25.size)
    replace bb16 := bb16.trans (bb34.mono bb16.size)
    replace bb12 := bb12.trans (bb34.mono bb12.size)
    replace rb10 := rb10.up bb34
    replace bb7 := bb7.trans (bb34.mono bb7.size)
    replace rb4 := rb4.up bb34
    replace bb1 := bb1.trans (bb34.mono bb1.size)
    replace q := q.trans (bb34.mono q.size)
    replace rb19 := rb19.up bb34
    refine LL.val (R.assign rfl rfl) rfl rfl rfl ?_
    refine LL.nilS ?_
    refine CC.ret ?_
    refine EE.ret _ rfl rfl ?_
    exact ⟨rfl, q⟩
  · refine X.fn Try.func6 rfl (n := 160) rfl rfl ?_
    refine CC.seq ?_
    refine CC.region ?_
    refine LL.box [Value.int IntKind.i64 b, Value.int IntKind.i64 i, Value.int IntKind.i64 r, Value.int IntKind.i64 t] rfl rfl rfl rfl rfl ?_
    intro Wc2 gc3 egc3 rc4 zc5 bc1
    replace q := q.trans (bc1.mono q.size)
    have lc6 := rc4.lt
    refine LL.box [Value.int IntKind.u64 ↑k1, Value.int IntKind.u64 ↑k2] rfl rfl rfl rfl rfl ?_
    intro Wc8 gc9 egc9 rc10 zc11 bc7
    replace rc4 := rc4.up bc7
    replace bc1 := bc1.trans (bc7.mono bc1.size)
    replace q := q.trans (bc7.mono q.size)
    refine LL.val (R.assign rfl rfl) rfl rfl rfl ?_
    refine LL.nilS ?_
    refine CC.seq ?_
    refine CC.region ?_
    refine LL.val (R.load rfl rfl (I.ldNc (vs := [Value.int IntKind.i64 b, Value.int IntKind.i64 i, Value.int IntKind.i64 r, Value.int IntKind.i64 t]) (RowL.cells rc4 rfl) (by rfl) (by rfl))) rfl rfl rfl ?_
    refine LL.val (R.load rfl rfl (I.ldNc (vs := [Value.int IntKind.u64 ↑k1, Value.int IntKind.u64 ↑k2]) (RowL.cells rc10 rfl) (by rfl) (by rfl))) rfl rfl rfl ?_
    refine LL.call (R.call rfl rfl rfl) rfl rfl rfl (rof_T _ _ _ _ _ _ _ (by first | assumption | omega)) ?_
    rintro e Wc13 ⟨rfl, bc12⟩
    refine ⟨_, rfl, ?_⟩
    have zbc12 := bc12.size
    replace rc10 := rc10.up bc12
    replace bc7 := bc7.trans (bc12.mono bc7.size)
    replace rc4 := rc4.up bc12
    replace bc1 := bc1.trans (bc12.mono bc1.size)
    replace q := q.trans (bc12.mono q.size)
    refine LL.val (R.move rfl rfl) rfl rfl rfl ?_
    refine LL.val (R.extract rfl rfl rfl) rfl rfl rfl ?_
    refine LL.val (R.extract rfl rfl rfl) rfl rfl rfl ?_
    have lc14 := rc10.lt
    have lc15 := rc4.lt
    refine LL.alloc ([Value.int IntKind.i64 0, Value.int IntKind.i64 0, Value.int IntKind.i64 0, Value.int IntKind.i64 0, Value.int IntKind.u64 0, Value.int IntKind.u64 0, Value.int IntKind.i64 0, Value.int IntKind.i64 0, Value.int IntKind.i64 0, Value.int IntKind.i64 0]) rfl rfl rfl rfl rfl ?_
    intro Wc17 gc18 egc18 rc19 zc20 bc16
    replace bc12 := bc12.trans (bc16.mono bc12.size)
    replace rc10 := rc10.up bc16
    replace bc7 := bc7.trans (bc16.mono bc7.size)
    replace rc4 := rc4.up bc16
    replace bc1 := bc1.trans (bc16.mono bc1.size)
    replace q := q.trans (bc16.mono q.size)
    refine LL.storeN (vs := [Value.int IntKind.i64 b, Value.int IntKind.i64 i, Value.int IntKind.i64 r, Value.int IntKind.i64 t, Value.int IntKind.u64 ↑k1, Value.int IntKind.u64 ↑k2, Value.int IntKind.i64 9, Value.int IntKind.i64 (9 + i / 4), Value.int IntKind.i64 (9 + i / 4 + r / 4), Value.int IntKind.i64 (10 + i / 4 + r / 4)]) rfl rfl rfl rfl rc19 (by exact Nat.le_of_ble_eq_true rfl) (ones_of rfl) rfl rfl ?_
    intro Wc22 rc23 bc21 zc24
    have hlbc21 := rc19.lt
    replace rc23 : RowL Wc22 _ 27 [Value.int IntKind.i64 b, Value.int IntKind.i64 i, Value.int IntKind.i64 r, Value.int IntKind.i64 t, Value.int IntKind.u64 ↑k1, Value.int IntKind.u64 ↑k2, Value.int IntKind.i64 9, Value.int IntKind.i64 (9 + i / 4), Value.int IntKind.i64 (9 + i / 4 + r / 4), Value.int IntKind.i64 (10 + i / 4 + r / 4)] := rc23
    clear rc19
    replace bc16 := bc16.grown bc21 bc16.size (by rintro k ⟨⟩; omega)
    replace bc12 := bc12.grown bc21 bc12.size (by rintro k ⟨⟩; omega)
    replace rc10 := rc10.gr bc21 (by have := rc10.lt; omega)
    replace bc7 := bc7.grown bc21 bc7.size (by rintro k ⟨⟩; omega)
    replace rc4 := rc4.gr bc21 (by have := rc4.lt; omega)
    replace bc1 := bc1.grown bc21 bc1.size (by rintro k ⟨⟩; omega)
    replace q := q.grown bc21 q.size (by rintro k ⟨⟩; omega)
    have rc19 := rc23
    clear rc23
    refine LL.val (R.assign rfl rfl) rfl rfl rfl ?_
    refine LL.nilS ?_
    refine CC.seq ?_
    refine CC.seq ?_
    refine CC.region ?_
    refine LL.val (R.move rfl rfl) rfl rfl rfl ?_
    refine LL.val (R.neF rfl rfl rfl (by omega)) rfl rfl rfl ?_
    refine LL.nilS ?_
    refine CC.no rfl ?_
    refine CC.skip ?_
    refine EE.thenN ?_
    refine CC.seq ?_
    refine CC.region ?_
    refine LL.val (R.load rfl rfl (I.ldNc (vs := [Value.int IntKind.i64 b, Value.int IntKind.i64 i, Value.int IntKind.i64 r, Value.int IntKind.i64 t, Value.int IntKind.u64 ↑k1, Value.int IntKind.u64 ↑k2, Value.int IntKind.i64 9, Value.int IntKind.i64 (9 + i / 4), Value.int IntKind.i64 (9 + i / 4 + r / 4), Value.int IntKind.i64 (10 + i / 4 + r / 4)]) (RowL.cells rc19 rfl) (by rfl) (by rfl))) rfl rfl rfl ?_
    refine LL.val (R.move rfl rfl) rfl rfl rfl ?_
    refine LL.call (R.call rfl rfl rfl) rfl rfl rfl (pJournal_any _ _ _ _ _ _ _ _ _ _ _ _ (by first | assumption | omega) (by first | assumption | omega)) ?_
    rintro e Wc26 ⟨rfl, bc25⟩
    refine ⟨_, rfl, ?_⟩
    have zbc25 := bc25.size
    replace bc16 := bc16.trans (bc25.mono bc16.size)
    replace bc12 := bc12.trans (bc25.mono bc12.size)
    replace rc10 := rc10.up bc25
    replace bc7 := bc7.trans (bc25.mono bc7.size)
    replace rc4 := rc4.up bc25
    replace bc1 := bc1.trans (bc25.mono bc1.size)
    replace q := q.trans (bc25.mono q.size)
    replace rc19 := rc19.up bc25
    refine LL.val (R.move rfl rfl) rfl rfl rfl ?_
    refine LL.val (R.extract rfl rfl rfl) rfl rfl rfl ?_
    refine LL.val (R.extract rfl rfl rfl) rfl rfl rfl ?_
    refine LL.val (R.assign rfl rfl) rfl rfl rfl ?_
    refine LL.val (R.assign rfl rfl) rfl rfl rfl ?_
    refine LL.nilS ?_
    refine CC.seq ?_
    refine CC.region ?_
    refine LL.val (R.load rfl rfl (I.ldNc (vs := [Value.int IntKind.i64 b, Value.int IntKind.i64 i, Value.int IntKind.i64 r, Value.int IntKind.i64 t, Value.int IntKind.u64 ↑k1, Value.int IntKind.u64 ↑k2, Value.int IntKind.i64 9, Value.int IntKind.i64 (9 + i / 4), Value.int IntKind.i64 (9 + i / 4 + r / 4), Value.int IntKind.i64 (10 + i / 4 + r / 4)]) (RowL.cells rc19 rfl) (by rfl) (by rfl))) rfl rfl rfl ?_
    refine LL.val (R.move rfl rfl) rfl rfl rfl ?_
    refine LL.call (R.call rfl rfl rfl) rfl rfl rfl (pInode_out _ _ _ _ _ _ _ _ _ _ _ _ (by first | assumption | omega) (by first | assumption | omega)) ?_
    rintro e Wc28 ⟨rfl, bc27⟩
    refine ⟨_, rfl, ?_⟩
    have zbc27 := bc27.size
    replace bc25 := bc25.trans (bc27.mono bc25.size)
    replace bc16 := bc16.trans (bc27.mono bc16.size)
    replace bc12 := bc12.trans (bc27.mono bc12.size)
    replace rc10 := rc10.up bc27
    replace bc7 := bc7.trans (bc27.mono bc7.size)
    replace rc4 := rc4.up bc27
    replace bc1 := bc1.trans (bc27.mono bc1.size)
    replace q := q.trans (bc27.mono q.size)
    replace rc19 := rc19.up bc27
    refine LL.val (R.move rfl rfl) rfl rfl rfl ?_
    refine LL.val (R.extract rfl rfl rfl) rfl rfl rfl ?_
    refine LL.val (R.extract rfl rfl rfl) rfl rfl rfl ?_
    refine LL.val (R.assign rfl rfl) rfl rfl rfl ?_
    refine LL.val (R.assign rfl rfl) rfl rfl rfl ?_
    refine LL.nilS ?_
    refine CC.seq ?_
    refine CC.region ?_
    refine LL.val (R.load rfl rfl (I.ldNc (vs := [Value.int IntKind.i64 b, Value.int IntKind.i64 i, Value.int IntKind.i64 r, Value.int IntKind.i64 t, Value.int IntKind.u64 ↑k1, Value.int IntKind.u64 ↑k2, Value.int IntKind.i64 9, Value.int IntKind.i64 (9 + i / 4), Value.int IntKind.i64 (9 + i / 4 + r / 4), Value.int IntKind.i64 (10 + i / 4 + r / 4)]) (RowL.cells rc19 rfl) (by rfl) (by rfl))) rfl rfl rfl ?_
    refine LL.val (R.move rfl rfl) rfl rfl rfl ?_
    refine LL.call (R.call rfl rfl rfl) rfl rfl rfl (pRecord_any _ _ _ _ _ _ _ _ _ _ _ _ (by first | assumption | omega) (by first | assumption | omega)) ?_
    rintro e Wc30 ⟨rfl, bc29⟩
    refine ⟨_, rfl, ?_⟩
    have zbc29 := bc29.size
    replace bc27 := bc27.trans (bc29.mono bc27.size)
    replace bc25 := bc25.trans (bc29.mono bc25.size)
    replace bc16 := bc16.trans (bc29.mono bc16.size)
    replace bc12 := bc12.trans (bc29.mono bc12.size)
    replace rc10 := rc10.up bc29
    replace bc7 := bc7.trans (bc29.mono bc7.size)
    replace rc4 := rc4.up bc29
    replace bc1 := bc1.trans (bc29.mono bc1.size)
    replace q := q.trans (bc29.mono q.size)
    replace rc19 := rc19.up bc29
    refine LL.val (R.move rfl rfl) rfl rfl rfl ?_
    refine LL.val (R.extract rfl rfl rfl) rfl rfl rfl ?_
    refine LL.val (R.extract rfl rfl rfl) rfl rfl rfl ?_
    refine LL.val (R.assign rfl rfl) rfl rfl rfl ?_
    refine LL.val (R.assign rfl rfl) rfl rfl rfl ?_
    refine LL.nilS ?_
    refine CC.seq ?_
    refine CC.quietB (by kernel_rfl) (by kernel_rfl) (fun Wc32 bc31 zc33 => ?_)
    replace bc29 := bc29.trans (bc31.mono bc29.size)
    replace bc27 := bc27.trans (bc31.mono bc27.size)
    replace bc25 := bc25.trans (bc31.mono bc25.size)
    replace bc16 := bc16.trans (bc31.mono bc16.size)
    replace bc12 := bc12.trans (bc31.mono bc12.size)
    replace rc10 := rc10.up bc31
    replace bc7 := bc7.trans (bc31.mono bc7.size)
    replace rc4 := rc4.up bc31
    replace bc1 := bc1.trans (bc31.mono bc1.size)
    replace q := q.trans (bc31.mono q.size)
    replace rc19 := rc19.up bc31
    refine SS.val (R.move rfl rfl) rfl rfl ?_
    refine SS.val (R.geT rfl rfl rfl (by omega)) rfl rfl ?_
    refine SS.val (R.move rfl rfl) rfl rfl ?_
    refine SS.val (R.move rfl rfl) rfl rfl ?_
    refine SS.val (R.ltT rfl rfl rfl (by omega)) rfl rfl ?_
    refine SS.val (R.pick rfl rfl rfl) rfl rfl ?_
    refine SS.val (R.move rfl rfl) rfl rfl ?_
    refine SS.val (R.geT rfl rfl rfl (by omega)) rfl rfl ?_
    refine SS.val (R.move rfl rfl) rfl rfl ?_
    refine SS.val (R.move rfl rfl) rfl rfl ?_
    refine SS.val (R.field rfl rfl (I.fld rfl)) rfl rfl ?_
    refine SS.val (R.load rfl rfl (I.ld1 rfl (RowL.cell rc4 rfl))) rfl rfl ?_
    refine SS.val (R.leF rfl rfl rfl (by omega)) rfl rfl ?_
    refine SS.val (R.pick rfl rfl rfl) rfl rfl ?_
    refine SS.val (R.move rfl rfl) rfl rfl ?_
    refine SS.val (R.geT rfl rfl rfl (by omega)) rfl rfl ?_
    refine SS.val (R.move rfl rfl) rfl rfl ?_
    refine SS.val (R.move rfl rfl) rfl rfl ?_
    refine SS.val (R.field rfl rfl (I.fld rfl)) rfl rfl ?_
    refine SS.val (R.load rfl rfl (I.ld1 rfl (RowL.cell rc4 rfl))) rfl rfl ?_
    refine SS.val (R.leT rfl rfl rfl (by omega)) rfl rfl ?_
    refine SS.val (R.pick rfl rfl rfl) rfl rfl ?_
    refine SS.val (R.assign rfl rfl) rfl rfl ?_
    refine SS.val (R.assign rfl rfl) rfl rfl ?_
    refine SS.val (R.assign rfl rfl) rfl rfl ?_
    refine SS.nilQ ?_
    refine EE.thenN ?_
    refine CC.seq ?_
    refine CC.seq ?_
    refine CC.region ?_
    refine LL.val (R.move rfl rfl) rfl rfl rfl ?_
    refine LL.val (R.move rfl rfl) rfl rfl rfl ?_
    refine LL.call (R.call rfl rfl rfl) rfl rfl rfl (num_any _ _) ?_
    rintro e W' ⟨rfl, rfl⟩
    refine ⟨_, rfl, ?_⟩
    refine LL.val (R.eqT rfl rfl rfl (by omega)) rfl rfl rfl ?_
    refine LL.val (R.neBool rfl rfl rfl rfl rfl) rfl rfl rfl ?_
    refine LL.val (R.move rfl rfl) rfl rfl rfl ?_
    refine LL.val (R.move rfl rfl) rfl rfl rfl ?_
    refine LL.val (R.move rfl rfl) rfl rfl rfl ?_
    refine LL.call (R.call rfl rfl rfl) rfl rfl rfl (num_any _ _) ?_
    rintro e W' ⟨rfl, rfl⟩
    refine ⟨_, rfl, ?_⟩
    refine LL.val (R.eqF rfl rfl rfl (by omega)) rfl rfl rfl ?_
    refine LL.val (R.neBool rfl rfl rfl rfl rfl) rfl rfl rfl ?_
    refine LL.val (R.pick rfl rfl rfl) rfl rfl rfl ?_
    refine LL.val (R.move rfl rfl) rfl rfl rfl ?_
    refine LL.val (R.move rfl rfl) rfl rfl rfl ?_
    refine LL.val (R.move rfl rfl) rfl rfl rfl ?_
    refine LL.call (R.call rfl rfl rfl) rfl rfl rfl (num_any _ _) ?_
    rintro e W' ⟨rfl, rfl⟩
    refine ⟨_, rfl, ?_⟩
    refine LL.val (R.eqT rfl rfl rfl (by omega)) rfl rfl rfl ?_
    refine LL.val (R.neBool rfl rfl rfl rfl rfl) rfl rfl rfl ?_
    refine LL.val (R.pick rfl rfl rfl) rfl rfl rfl ?_
    refine LL.nilS ?_
    refine CC.no rfl ?_
    refine CC.skip ?_
    refine EE.thenN ?_
    refine CC.seq ?_
    refine CC.seq ?_
    refine CC.region ?_
    refine LL.val (R.move rfl rfl) rfl rfl rfl ?_
    refine LL.val (R.not rfl rfl) rfl rfl rfl ?_
    refine LL.val (R.move rfl rfl) rfl rfl rfl ?_
    refine LL.skip rfl rfl ?_
    refine LL.skip rfl rfl ?_
    refine LL.skip rfl rfl ?_
    refine LL.skip rfl rfl ?_
    refine LL.skip rfl rfl ?_
    refine LL.skip rfl rfl ?_
    refine LL.skip rfl rfl ?_
    refine LL.val (R.pick rfl rfl rfl) rfl rfl rfl ?_
    refine LL.val (R.move rfl rfl) rfl rfl rfl ?_
    refine LL.val (R.move rfl rfl) rfl rfl rfl ?_
    refine LL.val (R.not rfl rfl) rfl rfl rfl ?_
    refine LL.val (R.move rfl rfl) rfl rfl rfl ?_
    refine LL.val (R.move rfl rfl) rfl rfl rfl ?_
    refine LL.val (R.neF rfl rfl rfl (by omega)) rfl rfl rfl ?_
    refine LL.val (R.move rfl rfl) rfl rfl rfl ?_
    refine LL.val (R.move rfl rfl) rfl rfl rfl ?_
    refine LL.call (R.call rfl rfl rfl) rfl rfl rfl (num_any _ _) ?_
    rintro e W' ⟨rfl, rfl⟩
    refine ⟨_, rfl, ?_⟩
    refine LL.val (R.neF rfl rfl rfl (by omega)) rfl rfl rfl ?_
    refine LL.val (R.pick rfl rfl rfl) rfl rfl rfl ?_
    refine LL.val (R.pick rfl rfl rfl) rfl rfl rfl ?_
    refine LL.val (R.pick rfl rfl rfl) rfl rfl rfl ?_
    refine LL.val (R.move rfl rfl) rfl rfl rfl ?_
    refine LL.val (R.move rfl rfl) rfl rfl rfl ?_
    refine LL.val (R.not rfl rfl) rfl rfl rfl ?_
    refine LL.val (R.move rfl rfl) rfl rfl rfl ?_
    refine LL.skip rfl rfl ?_
    refine LL.skip rfl rfl ?_
    refine LL.skip rfl rfl ?_
    refine LL.skip rfl rfl ?_
    refine LL.skip rfl rfl ?_
    refine LL.skip rfl rfl ?_
    refine LL.skip rfl rfl ?_
    refine LL.val (R.pick rfl rfl rfl) rfl rfl rfl ?_
    refine LL.val (R.pick rfl rfl rfl) rfl rfl rfl ?_
    refine LL.nilS ?_
    refine CC.no rfl ?_
    refine CC.skip ?_
    refine EE.thenN ?_
    refine CC.seq ?_
    refine CC.seq ?_
    refine CC.region ?_
    refine LL.val (R.move rfl rfl) rfl rfl rfl ?_
    refine LL.val (R.move rfl rfl) rfl rfl rfl ?_
    refine LL.val (R.move rfl rfl) rfl rfl rfl ?_
    refine LL.val (R.move rfl rfl) rfl rfl rfl ?_
    refine LL.val (R.mulI rfl rfl rfl (by omega)) rfl rfl rfl ?_
    refine LL.val (R.addI rfl rfl rfl (by omega)) rfl rfl rfl ?_
    refine LL.val (R.neF rfl rfl rfl (by omega)) rfl rfl rfl ?_
    refine LL.val (R.pick rfl rfl rfl) rfl rfl rfl ?_
    refine LL.val (R.move rfl rfl) rfl rfl rfl ?_
    refine LL.val (R.move rfl rfl) rfl rfl rfl ?_
    refine LL.val (R.move rfl rfl) rfl rfl rfl ?_
    refine LL.skip rfl rfl ?_
    refine LL.skip rfl rfl ?_
    refine LL.skip rfl rfl ?_
    refine LL.skip rfl rfl ?_
    refine LL.skip rfl rfl ?_
    refine LL.skip rfl rfl ?_
    refine LL.skip rfl rfl ?_
    refine LL.skip rfl rfl ?_
    refine LL.skip rfl rfl ?_
    refine LL.val (R.pick rfl rfl rfl) rfl rfl rfl ?_
    refine LL.val (R.pick rfl rfl rfl) rfl rfl rfl ?_
    refine LL.val (R.move rfl rfl) rfl rfl rfl ?_
    refine LL.val (R.move rfl rfl) rfl rfl rfl ?_
    refine LL.val (R.move rfl rfl) rfl rfl rfl ?_
    refine LL.val (R.move rfl rfl) rfl rfl rfl ?_
    refine LL.val (R.field rfl rfl (I.fld rfl)) rfl rfl rfl ?_
    refine LL.val (R.load rfl rfl (I.ld1 rfl (RowL.cell rc19 rfl))) rfl rfl rfl ?_
    refine LL.val (R.mulI rfl rfl rfl (by omega)) rfl rfl rfl ?_
    refine LL.val (R.move rfl rfl) rfl rfl rfl ?_
    refine LL.val (R.subI rfl rfl rfl (by omega)) rfl rfl rfl ?_
    refine LL.val (R.mulI rfl rfl rfl (by omega)) rfl rfl rfl ?_
    refine LL.val (R.addI rfl rfl rfl (by omega)) rfl rfl rfl ?_
    refine LL.val (R.neF rfl rfl rfl (by omega)) rfl rfl rfl ?_
    refine LL.val (R.pick rfl rfl rfl) rfl rfl rfl ?_
    refine LL.val (R.pick rfl rfl rfl) rfl rfl rfl ?_
    refine LL.nilS ?_
    refine CC.no rfl ?_
    refine CC.skip ?_
    refine EE.thenN ?_
    refine CC.seq ?_
    refine CC.region ?_
    refine LL.call (R.call rfl rfl rfl) rfl rfl rfl (works_any _) ?_
    rintro e Wc35 ⟨rfl, bc34⟩
    refine ⟨_, rfl, ?_⟩
    have zbc34 := bc34.size
    replace bc31 := bc31.trans (bc34.mono bc31.size)
    replace bc29 := bc29.trans (bc34.mono bc29.size)
    replace bc27 := bc27.trans (bc34.mono bc27.size)
    replace bc25 := bc25.trans (bc34.mono bc25.size)
    replace bc16 := bc16.trans (bc34.mono bc16.size)
    replace bc12 := bc12.trans (bc34.mono bc12.size)
    replace rc10 := rc10.up bc34
    replace bc7 := bc7.trans (bc34.mono bc7.size)
    replace rc4 := rc4.up bc34
    replace bc1 := bc1.trans (bc34.mono bc1.size)
    replace q := q.trans (bc34.mono q.size)
    replace rc19 := rc19.up bc34
    refine LL.val (R.assign rfl rfl) rfl rfl rfl ?_
    refine LL.nilS ?_
    refine CC.ret ?_
    refine EE.ret _ rfl rfl ?_
    exact ⟨rfl, q⟩
  · refine X.fn Try.func6 rfl (n := 160) rfl rfl ?_
    refine CC.seq ?_
    refine CC.region ?_
    refine LL.box [Value.int IntKind.i64 b, Value.int IntKind.i64 i, Value.int IntKind.i64 r, Value.int IntKind.i64 t] rfl rfl rfl rfl rfl ?_
    intro Wd2 gd3 egd3 rd4 zd5 bd1
    replace q := q.trans (bd1.mono q.size)
    have ld6 := rd4.lt
    refine LL.box [Value.int IntKind.u64 ↑k1, Value.int IntKind.u64 ↑k2] rfl rfl rfl rfl rfl ?_
    intro Wd8 gd9 egd9 rd10 zd11 bd7
    replace rd4 := rd4.up bd7
    replace bd1 := bd1.trans (bd7.mono bd1.size)
    replace q := q.trans (bd7.mono q.size)
    refine LL.val (R.assign rfl rfl) rfl rfl rfl ?_
    refine LL.nilS ?_
    refine CC.seq ?_
    refine CC.region ?_
    refine LL.val (R.load rfl rfl (I.ldNc (vs := [Value.int IntKind.i64 b, Value.int IntKind.i64 i, Value.int IntKind.i64 r, Value.int IntKind.i64 t]) (RowL.cells rd4 rfl) (by rfl) (by rfl))) rfl rfl rfl ?_
    refine LL.val (R.load rfl rfl (I.ldNc (vs := [Value.int IntKind.u64 ↑k1, Value.int IntKind.u64 ↑k2]) (RowL.cells rd10 rfl) (by rfl) (by rfl))) rfl rfl rfl ?_
    refine LL.call (R.call rfl rfl rfl) rfl rfl rfl (rof_T _ _ _ _ _ _ _ (by first | assumption | omega)) ?_
    rintro e Wd13 ⟨rfl, bd12⟩
    refine ⟨_, rfl, ?_⟩
    have zbd12 := bd12.size
    replace rd10 := rd10.up bd12
    replace bd7 := bd7.trans (bd12.mono bd7.size)
    replace rd4 := rd4.up bd12
    replace bd1 := bd1.trans (bd12.mono bd1.size)
    replace q := q.trans (bd12.mono q.size)
    refine LL.val (R.move rfl rfl) rfl rfl rfl ?_
    refine LL.val (R.extract rfl rfl rfl) rfl rfl rfl ?_
    refine LL.val (R.extract rfl rfl rfl) rfl rfl rfl ?_
    have ld14 := rd10.lt
    have ld15 := rd4.lt
    refine LL.alloc ([Value.int IntKind.i64 0, Value.int IntKind.i64 0, Value.int IntKind.i64 0, Value.int IntKind.i64 0, Value.int IntKind.u64 0, Value.int IntKind.u64 0, Value.int IntKind.i64 0, Value.int IntKind.i64 0, Value.int IntKind.i64 0, Value.int IntKind.i64 0]) rfl rfl rfl rfl rfl ?_
    intro Wd17 gd18 egd18 rd19 zd20 bd16
    replace bd12 := bd12.trans (bd16.mono bd12.size)
    replace rd10 := rd10.up bd16
    replace bd7 := bd7.trans (bd16.mono bd7.size)
    replace rd4 := rd4.up bd16
    replace bd1 := bd1.trans (bd16.mono bd1.size)
    replace q := q.trans (bd16.mono q.size)
    refine LL.storeN (vs := [Value.int IntKind.i64 b, Value.int IntKind.i64 i, Value.int IntKind.i64 r, Value.int IntKind.i64 t, Value.int IntKind.u64 ↑k1, Value.int IntKind.u64 ↑k2, Value.int IntKind.i64 9, Value.int IntKind.i64 (9 + i / 4), Value.int IntKind.i64 (9 + i / 4 + r / 4), Value.int IntKind.i64 (10 + i / 4 + r / 4)]) rfl rfl rfl rfl rd19 (by exact Nat.le_of_ble_eq_true rfl) (ones_of rfl) rfl rfl ?_
    intro Wd22 rd23 bd21 zd24
    have hlbd21 := rd19.lt
    replace rd23 : RowL Wd22 _ 27 [Value.int IntKind.i64 b, Value.int IntKind.i64 i, Value.int IntKind.i64 r, Value.int IntKind.i64 t, Value.int IntKind.u64 ↑k1, Value.int IntKind.u64 ↑k2, Value.int IntKind.i64 9, Value.int IntKind.i64 (9 + i / 4), Value.int IntKind.i64 (9 + i / 4 + r / 4), Value.int IntKind.i64 (10 + i / 4 + r / 4)] := rd23
    clear rd19
    replace bd16 := bd16.grown bd21 bd16.size (by rintro k ⟨⟩; omega)
    replace bd12 := bd12.grown bd21 bd12.size (by rintro k ⟨⟩; omega)
    replace rd10 := rd10.gr bd21 (by have := rd10.lt; omega)
    replace bd7 := bd7.grown bd21 bd7.size (by rintro k ⟨⟩; omega)
    replace rd4 := rd4.gr bd21 (by have := rd4.lt; omega)
    replace bd1 := bd1.grown bd21 bd1.size (by rintro k ⟨⟩; omega)
    replace q := q.grown bd21 q.size (by rintro k ⟨⟩; omega)
    have rd19 := rd23
    clear rd23
    refine LL.val (R.assign rfl rfl) rfl rfl rfl ?_
    refine LL.nilS ?_
    refine CC.seq ?_
    refine CC.seq ?_
    refine CC.region ?_
    refine LL.val (R.move rfl rfl) rfl rfl rfl ?_
    refine LL.val (R.neF rfl rfl rfl (by omega)) rfl rfl rfl ?_
    refine LL.nilS ?_
    refine CC.no rfl ?_
    refine CC.skip ?_
    refine EE.thenN ?_
    refine CC.seq ?_
    refine CC.region ?_
    refine LL.val (R.load rfl rfl (I.ldNc (vs := [Value.int IntKind.i64 b, Value.int IntKind.i64 i, Value.int IntKind.i64 r, Value.int IntKind.i64 t, Value.int IntKind.u64 ↑k1, Value.int IntKind.u64 ↑k2, Value.int IntKind.i64 9, Value.int IntKind.i64 (9 + i / 4), Value.int IntKind.i64 (9 + i / 4 + r / 4), Value.int IntKind.i64 (10 + i / 4 + r / 4)]) (RowL.cells rd19 rfl) (by rfl) (by rfl))) rfl rfl rfl ?_
    refine LL.val (R.move rfl rfl) rfl rfl rfl ?_
    refine LL.call (R.call rfl rfl rfl) rfl rfl rfl (pJournal_any _ _ _ _ _ _ _ _ _ _ _ _ (by first | assumption | omega) (by first | assumption | omega)) ?_
    rintro e Wd26 ⟨rfl, bd25⟩
    refine ⟨_, rfl, ?_⟩
    have zbd25 := bd25.size
    replace bd16 := bd16.trans (bd25.mono bd16.size)
    replace bd12 := bd12.trans (bd25.mono bd12.size)
    replace rd10 := rd10.up bd25
    replace bd7 := bd7.trans (bd25.mono bd7.size)
    replace rd4 := rd4.up bd25
    replace bd1 := bd1.trans (bd25.mono bd1.size)
    replace q := q.trans (bd25.mono q.size)
    replace rd19 := rd19.up bd25
    refine LL.val (R.move rfl rfl) rfl rfl rfl ?_
    refine LL.val (R.extract rfl rfl rfl) rfl rfl rfl ?_
    refine LL.val (R.extract rfl rfl rfl) rfl rfl rfl ?_
    refine LL.val (R.assign rfl rfl) rfl rfl rfl ?_
    refine LL.val (R.assign rfl rfl) rfl rfl rfl ?_
    refine LL.nilS ?_
    refine CC.seq ?_
    refine CC.region ?_
    refine LL.val (R.load rfl rfl (I.ldNc (vs := [Value.int IntKind.i64 b, Value.int IntKind.i64 i, Value.int IntKind.i64 r, Value.int IntKind.i64 t, Value.int IntKind.u64 ↑k1, Value.int IntKind.u64 ↑k2, Value.int IntKind.i64 9, Value.int IntKind.i64 (9 + i / 4), Value.int IntKind.i64 (9 + i / 4 + r / 4), Value.int IntKind.i64 (10 + i / 4 + r / 4)]) (RowL.cells rd19 rfl) (by rfl) (by rfl))) rfl rfl rfl ?_
    refine LL.val (R.move rfl rfl) rfl rfl rfl ?_
    refine LL.call (R.call rfl rfl rfl) rfl rfl rfl (pInode_out _ _ _ _ _ _ _ _ _ _ _ _ (by first | assumption | omega) (by first | assumption | omega)) ?_
    rintro e Wd28 ⟨rfl, bd27⟩
    refine ⟨_, rfl, ?_⟩
    have zbd27 := bd27.size
    replace bd25 := bd25.trans (bd27.mono bd25.size)
    replace bd16 := bd16.trans (bd27.mono bd16.size)
    replace bd12 := bd12.trans (bd27.mono bd12.size)
    replace rd10 := rd10.up bd27
    replace bd7 := bd7.trans (bd27.mono bd7.size)
    replace rd4 := rd4.up bd27
    replace bd1 := bd1.trans (bd27.mono bd1.size)
    replace q := q.trans (bd27.mono q.size)
    replace rd19 := rd19.up bd27
    refine LL.val (R.move rfl rfl) rfl rfl rfl ?_
    refine LL.val (R.extract rfl rfl rfl) rfl rfl rfl ?_
    refine LL.val (R.extract rfl rfl rfl) rfl rfl rfl ?_
    refine LL.val (R.assign rfl rfl) rfl rfl rfl ?_
    refine LL.val (R.assign rfl rfl) rfl rfl rfl ?_
    refine LL.nilS ?_
    refine CC.seq ?_
    refine CC.region ?_
    refine LL.val (R.load rfl rfl (I.ldNc (vs := [Value.int IntKind.i64 b, Value.int IntKind.i64 i, Value.int IntKind.i64 r, Value.int IntKind.i64 t, Value.int IntKind.u64 ↑k1, Value.int IntKind.u64 ↑k2, Value.int IntKind.i64 9, Value.int IntKind.i64 (9 + i / 4), Value.int IntKind.i64 (9 + i / 4 + r / 4), Value.int IntKind.i64 (10 + i / 4 + r / 4)]) (RowL.cells rd19 rfl) (by rfl) (by rfl))) rfl rfl rfl ?_
    refine LL.val (R.move rfl rfl) rfl rfl rfl ?_
    refine LL.call (R.call rfl rfl rfl) rfl rfl rfl (pRecord_out _ _ _ _ _ _ _ _ _ _ _ _ (by first | assumption | omega) (by first | assumption | omega)) ?_
    rintro e Wd30 ⟨rfl, bd29⟩
    refine ⟨_, rfl, ?_⟩
    have zbd29 := bd29.size
    replace bd27 := bd27.trans (bd29.mono bd27.size)
    replace bd25 := bd25.trans (bd29.mono bd25.size)
    replace bd16 := bd16.trans (bd29.mono bd16.size)
    replace bd12 := bd12.trans (bd29.mono bd12.size)
    replace rd10 := rd10.up bd29
    replace bd7 := bd7.trans (bd29.mono bd7.size)
    replace rd4 := rd4.up bd29
    replace bd1 := bd1.trans (bd29.mono bd1.size)
    replace q := q.trans (bd29.mono q.size)
    replace rd19 := rd19.up bd29
    refine LL.val (R.move rfl rfl) rfl rfl rfl ?_
    refine LL.val (R.extract rfl rfl rfl) rfl rfl rfl ?_
    refine LL.val (R.extract rfl rfl rfl) rfl rfl rfl ?_
    refine LL.val (R.assign rfl rfl) rfl rfl rfl ?_
    refine LL.val (R.assign rfl rfl) rfl rfl rfl ?_
    refine LL.nilS ?_
    refine CC.seq ?_
    refine CC.quietB (by kernel_rfl) (by kernel_rfl) (fun Wd32 bd31 zd33 => ?_)
    replace bd29 := bd29.trans (bd31.mono bd29.size)
    replace bd27 := bd27.trans (bd31.mono bd27.size)
    replace bd25 := bd25.trans (bd31.mono bd25.size)
    replace bd16 := bd16.trans (bd31.mono bd16.size)
    replace bd12 := bd12.trans (bd31.mono bd12.size)
    replace rd10 := rd10.up bd31
    replace bd7 := bd7.trans (bd31.mono bd7.size)
    replace rd4 := rd4.up bd31
    replace bd1 := bd1.trans (bd31.mono bd1.size)
    replace q := q.trans (bd31.mono q.size)
    replace rd19 := rd19.up bd31
    refine SS.val (R.move rfl rfl) rfl rfl ?_
    refine SS.val (R.geT rfl rfl rfl (by omega)) rfl rfl ?_
    refine SS.val (R.move rfl rfl) rfl rfl ?_
    refine SS.val (R.move rfl rfl) rfl rfl ?_
    refine SS.val (R.ltT rfl rfl rfl (by omega)) rfl rfl ?_
    refine SS.val (R.pick rfl rfl rfl) rfl rfl ?_
    refine SS.val (R.move rfl rfl) rfl rfl ?_
    refine SS.vsplit (fun h => R.geT rfl rfl rfl h) (fun h => R.geF rfl rfl rfl (Int.not_le.1 h)) rfl rfl (fun cd34 => ?_) (fun cd34 => ?_)
    refine SS.val (R.move rfl rfl) rfl rfl ?_
    refine SS.val (R.move rfl rfl) rfl rfl ?_
    refine SS.val (R.field rfl rfl (I.fld rfl)) rfl rfl ?_
    refine SS.val (R.load rfl rfl (I.ld1 rfl (RowL.cell rd4 rfl))) rfl rfl ?_
    refine SS.val (R.leF rfl rfl rfl (by omega)) rfl rfl ?_
    refine SS.val (R.pick rfl rfl rfl) rfl rfl ?_
    refine SS.val (R.move rfl rfl) rfl rfl ?_
    refine SS.val (R.geT rfl rfl rfl (by omega)) rfl rfl ?_
    refine SS.val (R.move rfl rfl) rfl rfl ?_
    refine SS.val (R.move rfl rfl) rfl rfl ?_
    refine SS.val (R.field rfl rfl (I.fld rfl)) rfl rfl ?_
    refine SS.val (R.load rfl rfl (I.ld1 rfl (RowL.cell rd4 rfl))) rfl rfl ?_
    refine SS.val (R.leF rfl rfl rfl (by omega)) rfl rfl ?_
    refine SS.val (R.pick rfl rfl rfl) rfl rfl ?_
    refine SS.val (R.assign rfl rfl) rfl rfl ?_
    refine SS.val (R.assign rfl rfl) rfl rfl ?_
    refine SS.val (R.assign rfl rfl) rfl rfl ?_
    refine SS.nilQ ?_
    refine EE.thenN ?_
    refine CC.seq ?_
    refine CC.seq ?_
    refine CC.region ?_
    refine LL.val (R.move rfl rfl) rfl rfl rfl ?_
    refine LL.val (R.move rfl rfl) rfl rfl rfl ?_
    refine LL.call (R.call rfl rfl rfl) rfl rfl rfl (num_any _ _) ?_
    rintro e W' ⟨rfl, rfl⟩
    refine ⟨_, rfl, ?_⟩
    refine LL.val (R.eqT rfl rfl rfl (by omega)) rfl rfl rfl ?_
    refine LL.val (R.neBool rfl rfl rfl rfl rfl) rfl rfl rfl ?_
    refine LL.val (R.move rfl rfl) rfl rfl rfl ?_
    refine LL.val (R.move rfl rfl) rfl rfl rfl ?_
    refine LL.val (R.move rfl rfl) rfl rfl rfl ?_
    refine LL.call (R.call rfl rfl rfl) rfl rfl rfl (num_any _ _) ?_
    rintro e W' ⟨rfl, rfl⟩
    refine ⟨_, rfl, ?_⟩
    refine LL.val (R.eqF rfl rfl rfl (by omega)) rfl rfl rfl ?_
    refine LL.val (R.neBool rfl rfl rfl rfl rfl) rfl rfl rfl ?_
    refine LL.val (R.pick rfl rfl rfl) rfl rfl rfl ?_
    refine LL.val (R.move rfl rfl) rfl rfl rfl ?_
    refine LL.val (R.move rfl rfl) rfl rfl rfl ?_
    refine LL.val (R.move rfl rfl) rfl rfl rfl ?_
    refine LL.call (R.call rfl rfl rfl) rfl rfl rfl (num_any _ _) ?_
    rintro e W' ⟨rfl, rfl⟩
    refine ⟨_, rfl, ?_⟩
    refine LL.val (R.eqF rfl rfl rfl (by omega)) rfl rfl rfl ?_
    refine LL.val (R.neBool rfl rfl rfl rfl rfl) rfl rfl rfl ?_
    refine LL.val (R.pick rfl rfl rfl) rfl rfl rfl ?_
    refine LL.nilS ?_
    refine CC.no rfl ?_
    refine CC.skip ?_
    refine EE.thenN ?_
    refine CC.seq ?_
    refine CC.seq ?_
    refine CC.region ?_
    refine LL.val (R.move rfl rfl) rfl rfl rfl ?_
    refine LL.val (R.not rfl rfl) rfl rfl rfl ?_
    refine LL.val (R.move rfl rfl) rfl rfl rfl ?_
    refine LL.skip rfl rfl ?_
    refine LL.skip rfl rfl ?_
    refine LL.skip rfl rfl ?_
    refine LL.skip rfl rfl ?_
    refine LL.skip rfl rfl ?_
    refine LL.skip rfl rfl ?_
    refine LL.skip rfl rfl ?_
    refine LL.val (R.pick rfl rfl rfl) rfl rfl rfl ?_
    refine LL.val (R.move rfl rfl) rfl rfl rfl ?_
    refine LL.val (R.move rfl rfl) rfl rfl rfl ?_
    refine LL.val (R.not rfl rfl) rfl rfl rfl ?_
    refine LL.val (R.move rfl rfl) rfl rfl rfl ?_
    refine LL.val (R.move rfl rfl) rfl rfl rfl ?_
    refine LL.val (R.neF rfl rfl rfl (by omega)) rfl rfl rfl ?_
    refine LL.val (R.move rfl rfl) rfl rfl rfl ?_
    refine LL.val (R.move rfl rfl) rfl rfl rfl ?_
    refine LL.call (R.call rfl rfl rfl) rfl rfl rfl (num_any _ _) ?_
    rintro e W' ⟨rfl, rfl⟩
    refine ⟨_, rfl, ?_⟩
    refine LL.val (R.neF rfl rfl rfl (by omega)) rfl rfl rfl ?_
    refine LL.val (R.pick rfl rfl rfl) rfl rfl rfl ?_
    refine LL.val (R.pick rfl rfl rfl) rfl rfl rfl ?_
    refine LL.val (R.pick rfl rfl rfl) rfl rfl rfl ?_
    refine LL.val (R.move rfl rfl) rfl rfl rfl ?_
    refine LL.val (R.move rfl rfl) rfl rfl rfl ?_
    refine LL.val (R.not rfl rfl) rfl rfl rfl ?_
    refine LL.val (R.move rfl rfl) rfl rfl rfl ?_
    refine LL.val (R.move rfl rfl) rfl rfl rfl ?_
    refine LL.val (R.neF rfl rfl rfl (by omega)) rfl rfl rfl ?_
    refine LL.val (R.move rfl rfl) rfl rfl rfl ?_
    refine LL.val (R.move rfl rfl) rfl rfl rfl ?_
    refine LL.call (R.call rfl rfl rfl) rfl rfl rfl (num_any _ _) ?_
    rintro e W' ⟨rfl, rfl⟩
    refine ⟨_, rfl, ?_⟩
    refine LL.val (R.neF rfl rfl rfl (by omega)) rfl rfl rfl ?_
    refine LL.val (R.pick rfl rfl rfl) rfl rfl rfl ?_
    refine LL.val (R.pick rfl rfl rfl) rfl rfl rfl ?_
    refine LL.val (R.pick rfl rfl rfl) rfl rfl rfl ?_
    refine LL.nilS ?_
    refine CC.no rfl ?_
    refine CC.skip ?_
    refine EE.thenN ?_
    refine CC.seq ?_
    refine CC.seq ?_
    refine CC.region ?_
    refine LL.val (R.move rfl rfl) rfl rfl rfl ?_
    refine LL.val (R.move rfl rfl) rfl rfl rfl ?_
    refine LL.val (R.move rfl rfl) rfl rfl rfl ?_
    refine LL.val (R.move rfl rfl) rfl rfl rfl ?_
    refine LL.val (R.mulI rfl rfl rfl (by omega)) rfl rfl rfl ?_
    refine LL.val (R.addI rfl rfl rfl (by omega)) rfl rfl rfl ?_
    refine LL.val (R.neF rfl rfl rfl (by omega)) rfl rfl rfl ?_
    refine LL.val (R.pick rfl rfl rfl) rfl rfl rfl ?_
    refine LL.val (R.move rfl rfl) rfl rfl rfl ?_
    refine LL.val (R.move rfl rfl) rfl rfl rfl ?_
    refine LL.val (R.move rfl rfl) rfl rfl rfl ?_
    refine LL.skip rfl rfl ?_
    refine LL.skip rfl rfl ?_
    refine LL.skip rfl rfl ?_
    refine LL.skip rfl rfl ?_
    refine LL.skip rfl rfl ?_
    refine LL.skip rfl rfl ?_
    refine LL.skip rfl rfl ?_
    refine LL.skip rfl rfl ?_
    refine LL.skip rfl rfl ?_
    refine LL.val (R.pick rfl rfl rfl) rfl rfl rfl ?_
    refine LL.val (R.pick rfl rfl rfl) rfl rfl rfl ?_
    refine LL.val (R.move rfl rfl) rfl rfl rfl ?_
    refine LL.val (R.move rfl rfl) rfl rfl rfl ?_
    refine LL.val (R.move rfl rfl) rfl rfl rfl ?_
    refine LL.skip rfl rfl ?_
    refine LL.skip rfl rfl ?_
    refine LL.skip rfl rfl ?_
    refine LL.skip rfl rfl ?_
    refine LL.skip rfl rfl ?_
    refine LL.skip rfl rfl ?_
    refine LL.skip rfl rfl ?_
    refine LL.skip rfl rfl ?_
    refine LL.skip rfl rfl ?_
    refine LL.val (R.pick rfl rfl rfl) rfl rfl rfl ?_
    refine LL.val (R.pick rfl rfl rfl) rfl rfl rfl ?_
    refine LL.nilS ?_
    refine CC.no rfl ?_
    refine CC.skip ?_
    refine EE.thenN ?_
    refine CC.seq ?_
    refine CC.region ?_
    refine LL.call (R.call rfl rfl rfl) rfl rfl rfl (works_any _) ?_
    rintro e Wd36 ⟨rfl, bd35⟩
    refine ⟨_, rfl, ?_⟩
    have zbd35 := bd35.size
    replace bd31 := bd31.trans (bd35.mono bd31.size)
    replace bd29 := bd29.trans (bd35.mono bd29.size)
    replace bd27 := bd27.trans (bd35.mono bd27.size)
    replace bd25 := bd25.trans (bd35.mono bd25.size)
    replace bd16 := bd16.trans (bd35.mono bd16.size)
    replace bd12 := bd12.trans (bd35.mono bd12.size)
    replace rd10 := rd10.up bd35
    replace bd7 := bd7.trans (bd35.mono bd7.size)
    replace rd4 := rd4.up bd35
    replace bd1 := bd1.trans (bd35.mono bd1.size)
    replace q := q.trans (bd35.mono q.size)
    replace rd19 := rd19.up bd35
    refine LL.val (R.assign rfl rfl) rfl rfl rfl ?_
    refine LL.nilS ?_
    refine CC.ret ?_
    refine EE.ret _ rfl rfl ?_
    exact ⟨rfl, q⟩
    refine SS.val (R.move rfl rfl) rfl rfl ?_
    refine SS.skip rfl rfl ?_
    refine SS.skip rfl rfl ?_
    refine SS.skip rfl rfl ?_
    refine SS.skip rfl rfl ?_
    refine SS.val (R.pick rfl rfl rfl) rfl rfl ?_
    refine SS.val (R.move rfl rfl) rfl rfl ?_
    refine SS.val (R.geF rfl rfl rfl (by omega)) rfl rfl ?_
    refine SS.val (R.move rfl rfl) rfl rfl ?_
    refine SS.skip rfl rfl ?_
    refine SS.skip rfl rfl ?_
    refine SS.skip rfl rfl ?_
    refine SS.skip rfl rfl ?_
    refine SS.val (R.pick rfl rfl rfl) rfl rfl ?_
    refine SS.val (R.assign rfl rfl) rfl rfl ?_
    refine SS.val (R.assign rfl rfl) rfl rfl ?_
    refine SS.val (R.assign rfl rfl) rfl rfl ?_
    refine SS.nilQ ?_
    refine EE.thenN ?_
    refine CC.seq ?_
    refine CC.seq ?_
    refine CC.region ?_
    refine LL.val (R.move rfl rfl) rfl rfl rfl ?_
    refine LL.val (R.move rfl rfl) rfl rfl rfl ?_
    refine LL.call (R.call rfl rfl rfl) rfl rfl rfl (num_any _ _) ?_
    rintro e W' ⟨rfl, rfl⟩
    refine ⟨_, rfl, ?_⟩
    refine LL.val (R.eqT rfl rfl rfl (by omega)) rfl rfl rfl ?_
    refine LL.val (R.neBool rfl rfl rfl rfl rfl) rfl rfl rfl ?_
    refine LL.val (R.move rfl rfl) rfl rfl rfl ?_
    refine LL.val (R.move rfl rfl) rfl rfl rfl ?_
    refine LL.val (R.move rfl rfl) rfl rfl rfl ?_
    refine LL.call (R.call rfl rfl rfl) rfl rfl rfl (num_any _ _) ?_
    rintro e W' ⟨rfl, rfl⟩
    refine ⟨_, rfl, ?_⟩
    refine LL.val (R.eqF rfl rfl rfl (by omega)) rfl rfl rfl ?_
    refine LL.val (R.neBool rfl rfl rfl rfl rfl) rfl rfl rfl ?_
    refine LL.val (R.pick rfl rfl rfl) rfl rfl rfl ?_
    refine LL.val (R.move rfl rfl) rfl rfl rfl ?_
    refine LL.val (R.move rfl rfl) rfl rfl rfl ?_
    refine LL.val (R.move rfl rfl) rfl rfl rfl ?_
    refine LL.call (R.call rfl rfl rfl) rfl rfl rfl (num_any _ _) ?_
    rintro e W' ⟨rfl, rfl⟩
    refine ⟨_, rfl, ?_⟩
    refine LL.val (R.eqF rfl rfl rfl (by omega)) rfl rfl rfl ?_
    refine LL.val (R.neBool rfl rfl rfl rfl rfl) rfl rfl rfl ?_
    refine LL.val (R.pick rfl rfl rfl) rfl rfl rfl ?_
    refine LL.nilS ?_
    refine CC.no rfl ?_
    refine CC.skip ?_
    refine EE.thenN ?_
    refine CC.seq ?_
    refine CC.seq ?_
    refine CC.region ?_
    refine LL.val (R.move rfl rfl) rfl rfl rfl ?_
    refine LL.val (R.not rfl rfl) rfl rfl rfl ?_
    refine LL.val (R.move rfl rfl) rfl rfl rfl ?_
    refine LL.skip rfl rfl ?_
    refine LL.skip rfl rfl ?_
    refine LL.skip rfl rfl ?_
    refine LL.skip rfl rfl ?_
    refine LL.skip rfl rfl ?_
    refine LL.skip rfl rfl ?_
    refine LL.skip rfl rfl ?_
    refine LL.val (R.pick rfl rfl rfl) rfl rfl rfl ?_
    refine LL.val (R.move rfl rfl) rfl rfl rfl ?_
    refine LL.val (R.move rfl rfl) rfl rfl rfl ?_
    refine LL.val (R.not rfl rfl) rfl rfl rfl ?_
    refine LL.val (R.move rfl rfl) rfl rfl rfl ?_
    refine LL.val (R.move rfl rfl) rfl rfl rfl ?_
    refine LL.val (R.neF rfl rfl rfl (by omega)) rfl rfl rfl ?_
    refine LL.val (R.move rfl rfl) rfl rfl rfl ?_
    refine LL.val (R.move rfl rfl) rfl rfl rfl ?_
    refine LL.call (R.call rfl rfl rfl) rfl rfl rfl (num_any _ _) ?_
    rintro e W' ⟨rfl, rfl⟩
    refine ⟨_, rfl, ?_⟩
    refine LL.val (R.neF rfl rfl rfl (by omega)) rfl rfl rfl ?_
    refine LL.val (R.pick rfl rfl rfl) rfl rfl rfl ?_
    refine LL.val (R.pick rfl rfl rfl) rfl rfl rfl ?_
    refine LL.val (R.pick rfl rfl rfl) rfl rfl rfl ?_
    refine LL.val (R.move rfl rfl) rfl rfl rfl ?_
    refine LL.val (R.move rfl rfl) rfl rfl rfl ?_
    refine LL.val (R.not rfl rfl) rfl rfl rfl ?_
    refine LL.val (R.move rfl rfl) rfl rfl rfl ?_
    refine LL.val (R.move rfl rfl) rfl rfl rfl ?_
    refine LL.val (R.neF rfl rfl rfl (by omega)) rfl rfl rfl ?_
    refine LL.val (R.move rfl rfl) rfl rfl rfl ?_
    refine LL.val (R.move rfl rfl) rfl rfl rfl ?_
    refine LL.call (R.call rfl rfl rfl) rfl rfl rfl (num_any _ _) ?_
    rintro e W' ⟨rfl, rfl⟩
    refine ⟨_, rfl, ?_⟩
    refine LL.val (R.neF rfl rfl rfl (by omega)) rfl rfl rfl ?_
    refine LL.val (R.pick rfl rfl rfl) rfl rfl rfl ?_
    refine LL.val (R.pick rfl rfl rfl) rfl rfl rfl ?_
    refine LL.val (R.pick rfl rfl rfl) rfl rfl rfl ?_
    refine LL.nilS ?_
    refine CC.no rfl ?_
    refine CC.skip ?_
    refine EE.thenN ?_
    refine CC.seq ?_
    refine CC.seq ?_
    refine CC.region ?_
    refine LL.val (R.move rfl rfl) rfl rfl rfl ?_
    refine LL.val (R.move rfl rfl) rfl rfl rfl ?_
    refine LL.val (R.move rfl rfl) rfl rfl rfl ?_
    refine LL.val (R.move rfl rfl) rfl rfl rfl ?_
    refine LL.val (R.mulI rfl rfl rfl (by omega)) rfl rfl rfl ?_
    refine LL.val (R.addI rfl rfl rfl (by omega)) rfl rfl rfl ?_
    refine LL.val (R.neF rfl rfl rfl (by omega)) rfl rfl rfl ?_
    refine LL.val (R.pick rfl rfl rfl) rfl rfl rfl ?_
    refine LL.val (R.move rfl rfl) rfl rfl rfl ?_
    refine LL.val (R.move rfl rfl) rfl rfl rfl ?_
    refine LL.val (R.move rfl rfl) rfl rfl rfl ?_
    refine LL.skip rfl rfl ?_
    refine LL.skip rfl rfl ?_
    refine LL.skip rfl rfl ?_
    refine LL.skip rfl rfl ?_
    refine LL.skip rfl rfl ?_
    refine LL.skip rfl rfl ?_
    refine LL.skip rfl rfl ?_
    refine LL.skip rfl rfl ?_
    refine LL.skip rfl rfl ?_
    refine LL.val (R.pick rfl rfl rfl) rfl rfl rfl ?_
    refine LL.val (R.pick rfl rfl rfl) rfl rfl rfl ?_
    refine LL.val (R.move rfl rfl) rfl rfl rfl ?_
    refine LL.val (R.move rfl rfl) rfl rfl rfl ?_
    refine LL.val (R.move rfl rfl) rfl rfl rfl ?_
    refine LL.skip rfl rfl ?_
    refine LL.skip rfl rfl ?_
    refine LL.skip rfl rfl ?_
    refine LL.skip rfl rfl ?_
    refine LL.skip rfl rfl ?_
    refine LL.skip rfl rfl ?_
    refine LL.skip rfl rfl ?_
    refine LL.skip rfl rfl ?_
    refine LL.skip rfl rfl ?_
    refine LL.val (R.pick rfl rfl rfl) rfl rfl rfl ?_
    refine LL.val (R.pick rfl rfl rfl) rfl rfl rfl ?_
    refine LL.nilS ?_
    refine CC.no rfl ?_
    refine CC.skip ?_
    refine EE.thenN ?_
    refine CC.seq ?_
    refine CC.region ?_
    refine LL.call (R.call rfl rfl rfl) rfl rfl rfl (works_any _) ?_
    rintro e Wd38 ⟨rfl, bd37⟩
    refine ⟨_, rfl, ?_⟩
    have zbd37 := bd37.size
    replace bd31 := bd31.trans (bd37.mono bd31.size)
    replace bd29 := bd29.trans (bd37.mono bd29.size)
    replace bd27 := bd27.trans (bd37.mono bd27.size)
    replace bd25 := bd25.trans (bd37.mono bd25.size)
    replace bd16 := bd16.trans (bd37.mono bd16.size)
    replace bd12 := bd12.trans (bd37.mono bd12.size)
    replace rd10 := rd10.up bd37
    replace bd7 := bd7.trans (bd37.mono bd7.size)
    replace rd4 := rd4.up bd37
    replace bd1 := bd1.trans (bd37.mono bd1.size)
    replace q := q.trans (bd37.mono q.size)
    replace rd19 := rd19.up bd37
    refine LL.val (R.assign rfl rfl) rfl rfl rfl ?_
    refine LL.nilS ?_
    refine CC.ret ?_
    refine EE.ret _ rfl rfl ?_
    exact ⟨rfl, q⟩
  · refine X.fn Try.func6 rfl (n := 160) rfl rfl ?_
    refine CC.seq ?_
    refine CC.region ?_
    refine LL.box [Value.int IntKind.i64 b, Value.int IntKind.i64 i, Value.int IntKind.i64 r, Value.int IntKind.i64 t] rfl rfl rfl rfl rfl ?_
    intro We2 ge3 ege3 re4 ze5 be1
    replace q := q.trans (be1.mono q.size)
    have le6 := re4.lt
    refine LL.box [Value.int IntKind.u64 ↑k1, Value.int IntKind.u64 ↑k2] rfl rfl rfl rfl rfl ?_
    intro We8 ge9 ege9 re10 ze11 be7
    replace re4 := re4.up be7
    replace be1 := be1.trans (be7.mono be1.size)
    replace q := q.trans (be7.mono q.size)
    refine LL.val (R.assign rfl rfl) rfl rfl rfl ?_
    refine LL.nilS ?_
    refine CC.seq ?_
    refine CC.region ?_
    refine LL.val (R.load rfl rfl (I.ldNc (vs := [Value.int IntKind.i64 b, Value.int IntKind.i64 i, Value.int IntKind.i64 r, Value.int IntKind.i64 t]) (RowL.cells re4 rfl) (by rfl) (by rfl))) rfl rfl rfl ?_
    refine LL.val (R.load rfl rfl (I.ldNc (vs := [Value.int IntKind.u64 ↑k1, Value.int IntKind.u64 ↑k2]) (RowL.cells re10 rfl) (by rfl) (by rfl))) rfl rfl rfl ?_
    refine LL.call (R.call rfl rfl rfl) rfl rfl rfl (rof_T _ _ _ _ _ _ _ (by first | assumption | omega)) ?_
    rintro e We13 ⟨rfl, be12⟩
    refine ⟨_, rfl, ?_⟩
    have zbe12 := be12.size
    replace re10 := re10.up be12
    replace be7 := be7.trans (be12.mono be7.size)
    replace re4 := re4.up be12
    replace be1 := be1.trans (be12.mono be1.size)
    replace q := q.trans (be12.mono q.size)
    refine LL.val (R.move rfl rfl) rfl rfl rfl ?_
    refine LL.val (R.extract rfl rfl rfl) rfl rfl rfl ?_
    refine LL.val (R.extract rfl rfl rfl) rfl rfl rfl ?_
    have le14 := re10.lt
    have le15 := re4.lt
    refine LL.alloc ([Value.int IntKind.i64 0, Value.int IntKind.i64 0, Value.int IntKind.i64 0, Value.int IntKind.i64 0, Value.int IntKind.u64 0, Value.int IntKind.u64 0, Value.int IntKind.i64 0, Value.int IntKind.i64 0, Value.int IntKind.i64 0, Value.int IntKind.i64 0]) rfl rfl rfl rfl rfl ?_
    intro We17 ge18 ege18 re19 ze20 be16
    replace be12 := be12.trans (be16.mono be12.size)
    replace re10 := re10.up be16
    replace be7 := be7.trans (be16.mono be7.size)
    replace re4 := re4.up be16
    replace be1 := be1.trans (be16.mono be1.size)
    replace q := q.trans (be16.mono q.size)
    refine LL.storeN (vs := [Value.int IntKind.i64 b, Value.int IntKind.i64 i, Value.int IntKind.i64 r, Value.int IntKind.i64 t, Value.int IntKind.u64 ↑k1, Value.int IntKind.u64 ↑k2, Value.int IntKind.i64 9, Value.int IntKind.i64 (9 + i / 4), Value.int IntKind.i64 (9 + i / 4 + r / 4), Value.int IntKind.i64 (10 + i / 4 + r / 4)]) rfl rfl rfl rfl re19 (by exact Nat.le_of_ble_eq_true rfl) (ones_of rfl) rfl rfl ?_
    intro We22 re23 be21 ze24
    have hlbe21 := re19.lt
    replace re23 : RowL We22 _ 27 [Value.int IntKind.i64 b, Value.int IntKind.i64 i, Value.int IntKind.i64 r, Value.int IntKind.i64 t, Value.int IntKind.u64 ↑k1, Value.int IntKind.u64 ↑k2, Value.int IntKind.i64 9, Value.int IntKind.i64 (9 + i / 4), Value.int IntKind.i64 (9 + i / 4 + r / 4), Value.int IntKind.i64 (10 + i / 4 + r / 4)] := re23
    clear re19
    replace be16 := be16.grown be21 be16.size (by rintro k ⟨⟩; omega)
    replace be12 := be12.grown be21 be12.size (by rintro k ⟨⟩; omega)
    replace re10 := re10.gr be21 (by have := re10.lt; omega)
    replace be7 := be7.grown be21 be7.size (by rintro k ⟨⟩; omega)
    replace re4 := re4.gr be21 (by have := re4.lt; omega)
    replace be1 := be1.grown be21 be1.size (by rintro k ⟨⟩; omega)
    replace q := q.grown be21 q.size (by rintro k ⟨⟩; omega)
    have re19 := re23
    clear re23
    refine LL.val (R.assign rfl rfl) rfl rfl rfl ?_
    refine LL.nilS ?_
    refine CC.seq ?_
    refine CC.seq ?_
    refine CC.region ?_
    refine LL.val (R.move rfl rfl) rfl rfl rfl ?_
    refine LL.val (R.neF rfl rfl rfl (by omega)) rfl rfl rfl ?_
    refine LL.nilS ?_
    refine CC.no rfl ?_
    refine CC.skip ?_
    refine EE.thenN ?_
    refine CC.seq ?_
    refine CC.region ?_
    refine LL.val (R.load rfl rfl (I.ldNc (vs := [Value.int IntKind.i64 b, Value.int IntKind.i64 i, Value.int IntKind.i64 r, Value.int IntKind.i64 t, Value.int IntKind.u64 ↑k1, Value.int IntKind.u64 ↑k2, Value.int IntKind.i64 9, Value.int IntKind.i64 (9 + i / 4), Value.int IntKind.i64 (9 + i / 4 + r / 4), Value.int IntKind.i64 (10 + i / 4 + r / 4)]) (RowL.cells re19 rfl) (by rfl) (by rfl))) rfl rfl rfl ?_
    refine LL.val (R.move rfl rfl) rfl rfl rfl ?_
    refine LL.call (R.call rfl rfl rfl) rfl rfl rfl (pJournal_out _ _ _ _ _ _ _ _ _ _ _ _ (by first | assumption | omega) (by first | assumption | omega)) ?_
    rintro e We26 ⟨rfl, be25⟩
    refine ⟨_, rfl, ?_⟩
    have zbe25 := be25.size
    replace be16 := be16.trans (be25.mono be16.size)
    replace be12 := be12.trans (be25.mono be12.size)
    replace re10 := re10.up be25
    replace be7 := be7.trans (be25.mono be7.size)
    replace re4 := re4.up be25
    replace be1 := be1.trans (be25.mono be1.size)
    replace q := q.trans (be25.mono q.size)
    replace re19 := re19.up be25
    refine LL.val (R.move rfl rfl) rfl rfl rfl ?_
    refine LL.val (R.extract rfl rfl rfl) rfl rfl rfl ?_
    refine LL.val (R.extract rfl rfl rfl) rfl rfl rfl ?_
    refine LL.val (R.assign rfl rfl) rfl rfl rfl ?_
    refine LL.val (R.assign rfl rfl) rfl rfl rfl ?_
    refine LL.nilS ?_
    refine CC.seq ?_
    refine CC.region ?_
    refine LL.val (R.load rfl rfl (I.ldNc (vs := [Value.int IntKind.i64 b, Value.int IntKind.i64 i, Value.int IntKind.i64 r, Value.int IntKind.i64 t, Value.int IntKind.u64 ↑k1, Value.int IntKind.u64 ↑k2, Value.int IntKind.i64 9, Value.int IntKind.i64 (9 + i / 4), Value.int IntKind.i64 (9 + i / 4 + r / 4), Value.int IntKind.i64 (10 + i / 4 + r / 4)]) (RowL.cells re19 rfl) (by rfl) (by rfl))) rfl rfl rfl ?_
    refine LL.val (R.move rfl rfl) rfl rfl rfl ?_
    refine LL.call (R.call rfl rfl rfl) rfl rfl rfl (pInode_any _ _ _ _ _ _ _ _ _ _ _ _ (by first | assumption | omega) (by first | assumption | omega)) ?_
    rintro e We28 ⟨rfl, be27⟩
    refine ⟨_, rfl, ?_⟩
    have zbe27 := be27.size
    replace be25 := be25.trans (be27.mono be25.size)
    replace be16 := be16.trans (be27.mono be16.size)
    replace be12 := be12.trans (be27.mono be12.size)
    replace re10 := re10.up be27
    replace be7 := be7.trans (be27.mono be7.size)
    replace re4 := re4.up be27
    replace be1 := be1.trans (be27.mono be1.size)
    replace q := q.trans (be27.mono q.size)
    replace re19 := re19.up be27
    refine LL.val (R.move rfl rfl) rfl rfl rfl ?_
    refine LL.val (R.extract rfl rfl rfl) rfl rfl rfl ?_
    refine LL.val (R.extract rfl rfl rfl) rfl rfl rfl ?_
    refine LL.val (R.assign rfl rfl) rfl rfl rfl ?_
    refine LL.val (R.assign rfl rfl) rfl rfl rfl ?_
    refine LL.nilS ?_
    refine CC.seq ?_
    refine CC.region ?_
    refine LL.val (R.load rfl rfl (I.ldNc (vs := [Value.int IntKind.i64 b, Value.int IntKind.i64 i, Value.int IntKind.i64 r, Value.int IntKind.i64 t, Value.int IntKind.u64 ↑k1, Value.int IntKind.u64 ↑k2, Value.int IntKind.i64 9, Value.int IntKind.i64 (9 + i / 4), Value.int IntKind.i64 (9 + i / 4 + r / 4), Value.int IntKind.i64 (10 + i / 4 + r / 4)]) (RowL.cells re19 rfl) (by rfl) (by rfl))) rfl rfl rfl ?_
    refine LL.val (R.move rfl rfl) rfl rfl rfl ?_
    refine LL.call (R.call rfl rfl rfl) rfl rfl rfl (pRecord_any _ _ _ _ _ _ _ _ _ _ _ _ (by first | assumption | omega) (by first | assumption | omega)) ?_
    rintro e We30 ⟨rfl, be29⟩
    refine ⟨_, rfl, ?_⟩
    have zbe29 := be29.size
    replace be27 := be27.trans (be29.mono be27.size)
    replace be25 := be25.trans (be29.mono be25.size)
    replace be16 := be16.trans (be29.mono be16.size)
    replace be12 := be12.trans (be29.mono be12.size)
    replace re10 := re10.up be29
    replace be7 := be7.trans (be29.mono be7.size)
    replace re4 := re4.up be29
    replace be1 := be1.trans (be29.mono be1.size)
    replace q := q.trans (be29.mono q.size)
    replace re19 := re19.up be29
    refine LL.val (R.move rfl rfl) rfl rfl rfl ?_
    refine LL.val (R.extract rfl rfl rfl) rfl rfl rfl ?_
    refine LL.val (R.extract rfl rfl rfl) rfl rfl rfl ?_
    refine LL.val (R.assign rfl rfl) rfl rfl rfl ?_
    refine LL.val (R.assign rfl rfl) rfl rfl rfl ?_
    refine LL.nilS ?_
    refine CC.seq ?_
    refine CC.quietB (by kernel_rfl) (by kernel_rfl) (fun We32 be31 ze33 => ?_)
    replace be29 := be29.trans (be31.mono be29.size)
    replace be27 := be27.trans (be31.mono be27.size)
    replace be25 := be25.trans (be31.mono be25.size)
    replace be16 := be16.trans (be31.mono be16.size)
    replace be12 := be12.trans (be31.mono be12.size)
    replace re10 := re10.up be31
    replace be7 := be7.trans (be31.mono be7.size)
    replace re4 := re4.up be31
    replace be1 := be1.trans (be31.mono be1.size)
    replace q := q.trans (be31.mono q.size)
    replace re19 := re19.up be31
    refine SS.val (R.move rfl rfl) rfl rfl ?_
    refine SS.val (R.geT rfl rfl rfl (by omega)) rfl rfl ?_
    refine SS.val (R.move rfl rfl) rfl rfl ?_
    refine SS.val (R.move rfl rfl) rfl rfl ?_
    refine SS.val (R.ltF rfl rfl rfl (by omega)) rfl rfl ?_
    refine SS.val (R.pick rfl rfl rfl) rfl rfl ?_
    refine SS.val (R.move rfl rfl) rfl rfl ?_
    refine SS.val (R.geT rfl rfl rfl (by omega)) rfl rfl ?_
    refine SS.val (R.move rfl rfl) rfl rfl ?_
    refine SS.val (R.move rfl rfl) rfl rfl ?_
    refine SS.val (R.field rfl rfl (I.fld rfl)) rfl rfl ?_
    refine SS.val (R.load rfl rfl (I.ld1 rfl (RowL.cell re4 rfl))) rfl rfl ?_
    refine SS.val (R.leT rfl rfl rfl (by omega)) rfl rfl ?_
    refine SS.val (R.pick rfl rfl rfl) rfl rfl ?_
    refine SS.val (R.move rfl rfl) rfl rfl ?_
    refine SS.val (R.geT rfl rfl rfl (by omega)) rfl rfl ?_
    refine SS.val (R.move rfl rfl) rfl rfl ?_
    refine SS.val (R.move rfl rfl) rfl rfl ?_
    refine SS.val (R.field rfl rfl (I.fld rfl)) rfl rfl ?_
    refine SS.val (R.load rfl rfl (I.ld1 rfl (RowL.cell re4 rfl))) rfl rfl ?_
    refine SS.val (R.leT rfl rfl rfl (by omega)) rfl rfl ?_
    refine SS.val (R.pick rfl rfl rfl) rfl rfl ?_
    refine SS.val (R.assign rfl rfl) rfl rfl ?_
    refine SS.val (R.assign rfl rfl) rfl rfl ?_
    refine SS.val (R.assign rfl rfl) rfl rfl ?_
    refine SS.nilQ ?_
    refine EE.thenN ?_
    refine CC.seq ?_
    refine CC.seq ?_
    refine CC.region ?_
    refine LL.val (R.move rfl rfl) rfl rfl rfl ?_
    refine LL.val (R.move rfl rfl) rfl rfl rfl ?_
    refine LL.call (R.call rfl rfl rfl) rfl rfl rfl (num_any _ _) ?_
    rintro e W' ⟨rfl, rfl⟩
    refine ⟨_, rfl, ?_⟩
    refine LL.val (R.eqF rfl rfl rfl (by omega)) rfl rfl rfl ?_
    refine LL.val (R.neBool rfl rfl rfl rfl rfl) rfl rfl rfl ?_
    refine LL.val (R.move rfl rfl) rfl rfl rfl ?_
    refine LL.val (R.move rfl rfl) rfl rfl rfl ?_
    refine LL.val (R.move rfl rfl) rfl rfl rfl ?_
    refine LL.call (R.call rfl rfl rfl) rfl rfl rfl (num_any _ _) ?_
    rintro e W' ⟨rfl, rfl⟩
    refine ⟨_, rfl, ?_⟩
    refine LL.val (R.eqT rfl rfl rfl (by omega)) rfl rfl rfl ?_
    refine LL.val (R.neBool rfl rfl rfl rfl rfl) rfl rfl rfl ?_
    refine LL.val (R.pick rfl rfl rfl) rfl rfl rfl ?_
    refine LL.val (R.move rfl rfl) rfl rfl rfl ?_
    refine LL.val (R.move rfl rfl) rfl rfl rfl ?_
    refine LL.val (R.move rfl rfl) rfl rfl rfl ?_
    refine LL.call (R.call rfl rfl rfl) rfl rfl rfl (num_any _ _) ?_
    rintro e W' ⟨rfl, rfl⟩
    refine ⟨_, rfl, ?_⟩
    refine LL.val (R.eqT rfl rfl rfl (by omega)) rfl rfl rfl ?_
    refine LL.val (R.neBool rfl rfl rfl rfl rfl) rfl rfl rfl ?_
    refine LL.val (R.pick rfl rfl rfl) rfl rfl rfl ?_
    refine LL.nilS ?_
    refine CC.no rfl ?_
    refine CC.skip ?_
    refine EE.thenN ?_
    refine CC.seq ?_
    refine CC.seq ?_
    refine CC.region ?_
    refine LL.val (R.move rfl rfl) rfl rfl rfl ?_
    refine LL.val (R.not rfl rfl) rfl rfl rfl ?_
    refine LL.val (R.move rfl rfl) rfl rfl rfl ?_
    refine LL.val (R.move rfl rfl) rfl rfl rfl ?_
    refine LL.val (R.neF rfl rfl rfl (by omega)) rfl rfl rfl ?_
    refine LL.val (R.move rfl rfl) rfl rfl rfl ?_
    refine LL.val (R.move rfl rfl) rfl rfl rfl ?_
    refine LL.call (R.call rfl rfl rfl) rfl rfl rfl (num_any _ _) ?_
    rintro e W' ⟨rfl, rfl⟩
    refine ⟨_, rfl, ?_⟩
    refine LL.val (R.neF rfl rfl rfl (by omega)) rfl rfl rfl ?_
    refine LL.val (R.pick rfl rfl rfl) rfl rfl rfl ?_
    refine LL.val (R.pick rfl rfl rfl) rfl rfl rfl ?_
    refine LL.val (R.move rfl rfl) rfl rfl rfl ?_
    refine LL.val (R.move rfl rfl) rfl rfl rfl ?_
    refine LL.val (R.not rfl rfl) rfl rfl rfl ?_
    refine LL.val (R.move rfl rfl) rfl rfl rfl ?_
    refine LL.skip rfl rfl ?_
    refine LL.skip rfl rfl ?_
    refine LL.skip rfl rfl ?_
    refine LL.skip rfl rfl ?_
    refine LL.skip rfl rfl ?_
    refine LL.skip rfl rfl ?_
    refine LL.skip rfl rfl ?_
    refine LL.val (R.pick rfl rfl rfl) rfl rfl rfl ?_
    refine LL.val (R.pick rfl rfl rfl) rfl rfl rfl ?_
    refine LL.val (R.move rfl rfl) rfl rfl rfl ?_
    refine LL.val (R.move rfl rfl) rfl rfl rfl ?_
    refine LL.val (R.not rfl rfl) rfl rfl rfl ?_
    refine LL.val (R.move rfl rfl) rfl rfl rfl ?_
    refine LL.skip rfl rfl ?_
    refine LL.skip rfl rfl ?_
    refine LL.skip rfl rfl ?_
    refine LL.skip rfl rfl ?_
    refine LL.skip rfl rfl ?_
    refine LL.skip rfl rfl ?_
    refine LL.skip rfl rfl ?_
    refine LL.val (R.pick rfl rfl rfl) rfl rfl rfl ?_
    refine LL.val (R.pick rfl rfl rfl) rfl rfl rfl ?_
    refine LL.nilS ?_
    refine CC.no rfl ?_
    refine CC.skip ?_
    refine EE.thenN ?_
    refine CC.seq ?_
    refine CC.seq ?_
    refine CC.region ?_
    refine LL.val (R.move rfl rfl) rfl rfl rfl ?_
    refine LL.val (R.move rfl rfl) rfl rfl rfl ?_
    refine LL.skip rfl rfl ?_
    refine LL.skip rfl rfl ?_
    refine LL.skip rfl rfl ?_
    refine LL.skip rfl rfl ?_
    refine LL.skip rfl rfl ?_
    refine LL.val (R.pick rfl rfl rfl) rfl rfl rfl ?_
    refine LL.val (R.move rfl rfl) rfl rfl rfl ?_
    refine LL.val (R.move rfl rfl) rfl rfl rfl ?_
    refine LL.val (R.move rfl rfl) rfl rfl rfl ?_
    refine LL.val (R.move rfl rfl) rfl rfl rfl ?_
    refine LL.val (R.field rfl rfl (I.fld rfl)) rfl rfl rfl ?_
    refine LL.val (R.load rfl rfl (I.ld1 rfl (RowL.cell re19 rfl))) rfl rfl rfl ?_
    refine LL.val (R.mulIz (z := 576) rfl rfl rfl (by decide) (by decide)) rfl rfl rfl ?_
    refine LL.val (R.move rfl rfl) rfl rfl rfl ?_
    refine LL.val (R.subI rfl rfl rfl (by omega)) rfl rfl rfl ?_
    refine LL.val (R.mulI rfl rfl rfl (by omega)) rfl rfl rfl ?_
    refine LL.val (R.addI rfl rfl rfl (by omega)) rfl rfl rfl ?_
    refine LL.val (R.neF rfl rfl rfl (by omega)) rfl rfl rfl ?_
    refine LL.val (R.pick rfl rfl rfl) rfl rfl rfl ?_
    refine LL.val (R.pick rfl rfl rfl) rfl rfl rfl ?_
    refine LL.val (R.move rfl rfl) rfl rfl rfl ?_
    refine LL.val (R.move rfl rfl) rfl rfl rfl ?_
    refine LL.val (R.move rfl rfl) rfl rfl rfl ?_
    refine LL.val (R.move rfl rfl) rfl rfl rfl ?_
    refine LL.val (R.field rfl rfl (I.fld rfl)) rfl rfl rfl ?_
    refine LL.val (R.load rfl rfl (I.ld1 rfl (RowL.cell re19 rfl))) rfl rfl rfl ?_
    refine LL.val (R.mulI rfl rfl rfl (by omega)) rfl rfl rfl ?_
    refine LL.val (R.move rfl rfl) rfl rfl rfl ?_
    refine LL.val (R.subI rfl rfl rfl (by omega)) rfl rfl rfl ?_
    refine LL.val (R.mulI rfl rfl rfl (by omega)) rfl rfl rfl ?_
    refine LL.val (R.addI rfl rfl rfl (by omega)) rfl rfl rfl ?_
    refine LL.val (R.neF rfl rfl rfl (by omega)) rfl rfl rfl ?_
    refine LL.val (R.pick rfl rfl rfl) rfl rfl rfl ?_
    refine LL.val (R.pick rfl rfl rfl) rfl rfl rfl ?_
    refine LL.nilS ?_
    refine CC.no rfl ?_
    refine CC.skip ?_
    refine EE.thenN ?_
    refine CC.seq ?_
    refine CC.region ?_
    refine LL.call (R.call rfl rfl rfl) rfl rfl rfl (works_any _) ?_
    rintro e We35 ⟨rfl, be34⟩
    refine ⟨_, rfl, ?_⟩
    have zbe34 := be34.size
    replace be31 := be31.trans (be34.mono be31.size)
    replace be29 := be29.trans (be34.mono be29.size)
    replace be27 := be27.trans (be34.mono be27.size)
    replace be25 := be25.trans (be34.mono be25.size)
    replace be16 := be16.trans (be34.mono be16.size)
    replace be12 := be12.trans (be34.mono be12.size)
    replace re10 := re10.up be34
    replace be7 := be7.trans (be34.mono be7.size)
    replace re4 := re4.up be34
    replace be1 := be1.trans (be34.mono be1.size)
    replace q := q.trans (be34.mono q.size)
    replace re19 := re19.up be34
    refine LL.val (R.assign rfl rfl) rfl rfl rfl ?_
    refine LL.nilS ?_
    refine CC.ret ?_
    refine EE.ret _ rfl rfl ?_
    exact ⟨rfl, q⟩
  · refine X.fn Try.func6 rfl (n := 160) rfl rfl ?_
    refine CC.seq ?_
    refine CC.region ?_
    refine LL.box [Value.int IntKind.i64 b, Value.int IntKind.i64 i, Value.int IntKind.i64 r, Value.int IntKind.i64 t] rfl rfl rfl rfl rfl ?_
    intro Wf2 gf3 egf3 rf4 zf5 bf1
    replace q := q.trans (bf1.mono q.size)
    have lf6 := rf4.lt
    refine LL.box [Value.int IntKind.u64 ↑k1, Value.int IntKind.u64 ↑k2] rfl rfl rfl rfl rfl ?_
    intro Wf8 gf9 egf9 rf10 zf11 bf7
    replace rf4 := rf4.up bf7
    replace bf1 := bf1.trans (bf7.mono bf1.size)
    replace q := q.trans (bf7.mono q.size)
    refine LL.val (R.assign rfl rfl) rfl rfl rfl ?_
    refine LL.nilS ?_
    refine CC.seq ?_
    refine CC.region ?_
    refine LL.val (R.load rfl rfl (I.ldNc (vs := [Value.int IntKind.i64 b, Value.int IntKind.i64 i, Value.int IntKind.i64 r, Value.int IntKind.i64 t]) (RowL.cells rf4 rfl) (by rfl) (by rfl))) rfl rfl rfl ?_
    refine LL.val (R.load rfl rfl (I.ldNc (vs := [Value.int IntKind.u64 ↑k1, Value.int IntKind.u64 ↑k2]) (RowL.cells rf10 rfl) (by rfl) (by rfl))) rfl rfl rfl ?_
    refine LL.call (R.call rfl rfl rfl) rfl rfl rfl (rof_T _ _ _ _ _ _ _ (by first | assumption | omega)) ?_
    rintro e Wf13 ⟨rfl, bf12⟩
    refine ⟨_, rfl, ?_⟩
    have zbf12 := bf12.size
    replace rf10 := rf10.up bf12
    replace bf7 := bf7.trans (bf12.mono bf7.size)
    replace rf4 := rf4.up bf12
    replace bf1 := bf1.trans (bf12.mono bf1.size)
    replace q := q.trans (bf12.mono q.size)
    refine LL.val (R.move rfl rfl) rfl rfl rfl ?_
    refine LL.val (R.extract rfl rfl rfl) rfl rfl rfl ?_
    refine LL.val (R.extract rfl rfl rfl) rfl rfl rfl ?_
    have lf14 := rf10.lt
    have lf15 := rf4.lt
    refine LL.alloc ([Value.int IntKind.i64 0, Value.int IntKind.i64 0, Value.int IntKind.i64 0, Value.int IntKind.i64 0, Value.int IntKind.u64 0, Value.int IntKind.u64 0, Value.int IntKind.i64 0, Value.int IntKind.i64 0, Value.int IntKind.i64 0, Value.int IntKind.i64 0]) rfl rfl rfl rfl rfl ?_
    intro Wf17 gf18 egf18 rf19 zf20 bf16
    replace bf12 := bf12.trans (bf16.mono bf12.size)
    replace rf10 := rf10.up bf16
    replace bf7 := bf7.trans (bf16.mono bf7.size)
    replace rf4 := rf4.up bf16
    replace bf1 := bf1.trans (bf16.mono bf1.size)
    replace q := q.trans (bf16.mono q.size)
    refine LL.storeN (vs := [Value.int IntKind.i64 b, Value.int IntKind.i64 i, Value.int IntKind.i64 r, Value.int IntKind.i64 t, Value.int IntKind.u64 ↑k1, Value.int IntKind.u64 ↑k2, Value.int IntKind.i64 9, Value.int IntKind.i64 (9 + i / 4), Value.int IntKind.i64 (9 + i / 4 + r / 4), Value.int IntKind.i64 (10 + i / 4 + r / 4)]) rfl rfl rfl rfl rf19 (by exact Nat.le_of_ble_eq_true rfl) (ones_of rfl) rfl rfl ?_
    intro Wf22 rf23 bf21 zf24
    have hlbf21 := rf19.lt
    replace rf23 : RowL Wf22 _ 27 [Value.int IntKind.i64 b, Value.int IntKind.i64 i, Value.int IntKind.i64 r, Value.int IntKind.i64 t, Value.int IntKind.u64 ↑k1, Value.int IntKind.u64 ↑k2, Value.int IntKind.i64 9, Value.int IntKind.i64 (9 + i / 4), Value.int IntKind.i64 (9 + i / 4 + r / 4), Value.int IntKind.i64 (10 + i / 4 + r / 4)] := rf23
    clear rf19
    replace bf16 := bf16.grown bf21 bf16.size (by rintro k ⟨⟩; omega)
    replace bf12 := bf12.grown bf21 bf12.size (by rintro k ⟨⟩; omega)
    replace rf10 := rf10.gr bf21 (by have := rf10.lt; omega)
    replace bf7 := bf7.grown bf21 bf7.size (by rintro k ⟨⟩; omega)
    replace rf4 := rf4.gr bf21 (by have := rf4.lt; omega)
    replace bf1 := bf1.grown bf21 bf1.size (by rintro k ⟨⟩; omega)
    replace q := q.grown bf21 q.size (by rintro k ⟨⟩; omega)
    have rf19 := rf23
    clear rf23
    refine LL.val (R.assign rfl rfl) rfl rfl rfl ?_
    refine LL.nilS ?_
    refine CC.seq ?_
    refine CC.seq ?_
    refine CC.region ?_
    refine LL.val (R.move rfl rfl) rfl rfl rfl ?_
    refine LL.val (R.neF rfl rfl rfl (by omega)) rfl rfl rfl ?_
    refine LL.nilS ?_
    refine CC.no rfl ?_
    refine CC.skip ?_
    refine EE.thenN ?_
    refine CC.seq ?_
    refine CC.region ?_
    refine LL.val (R.load rfl rfl (I.ldNc (vs := [Value.int IntKind.i64 b, Value.int IntKind.i64 i, Value.int IntKind.i64 r, Value.int IntKind.i64 t, Value.int IntKind.u64 ↑k1, Value.int IntKind.u64 ↑k2, Value.int IntKind.i64 9, Value.int IntKind.i64 (9 + i / 4), Value.int IntKind.i64 (9 + i / 4 + r / 4), Value.int IntKind.i64 (10 + i / 4 + r / 4)]) (RowL.cells rf19 rfl) (by rfl) (by rfl))) rfl rfl rfl ?_
    refine LL.val (R.move rfl rfl) rfl rfl rfl ?_
    refine LL.call (R.call rfl rfl rfl) rfl rfl rfl (pJournal_out _ _ _ _ _ _ _ _ _ _ _ _ (by first | assumption | omega) (by first | assumption | omega)) ?_
    rintro e Wf26 ⟨rfl, bf25⟩
    refine ⟨_, rfl, ?_⟩
    have zbf25 := bf25.size
    replace bf16 := bf16.trans (bf25.mono bf16.size)
    replace bf12 := bf12.trans (bf25.mono bf12.size)
    replace rf10 := rf10.up bf25
    replace bf7 := bf7.trans (bf25.mono bf7.size)
    replace rf4 := rf4.up bf25
    replace bf1 := bf1.trans (bf25.mono bf1.size)
    replace q := q.trans (bf25.mono q.size)
    replace rf19 := rf19.up bf25
    refine LL.val (R.move rfl rfl) rfl rfl rfl ?_
    refine LL.val (R.extract rfl rfl rfl) rfl rfl rfl ?_
    refine LL.val (R.extract rfl rfl rfl) rfl rfl rfl ?_
    refine LL.val (R.assign rfl rfl) rfl rfl rfl ?_
    refine LL.val (R.assign rfl rfl) rfl rfl rfl ?_
    refine LL.nilS ?_
    refine CC.seq ?_
    refine CC.region ?_
    refine LL.val (R.load rfl rfl (I.ldNc (vs := [Value.int IntKind.i64 b, Value.int IntKind.i64 i, Value.int IntKind.i64 r, Value.int IntKind.i64 t, Value.int IntKind.u64 ↑k1, Value.int IntKind.u64 ↑k2, Value.int IntKind.i64 9, Value.int IntKind.i64 (9 + i / 4), Value.int IntKind.i64 (9 + i / 4 + r / 4), Value.int IntKind.i64 (10 + i / 4 + r / 4)]) (RowL.cells rf19 rfl) (by rfl) (by rfl))) rfl rfl rfl ?_
    refine LL.val (R.move rfl rfl) rfl rfl rfl ?_
    refine LL.call (R.call rfl rfl rfl) rfl rfl rfl (pInode_any _ _ _ _ _ _ _ _ _ _ _ _ (by first | assumption | omega) (by first | assumption | omega)) ?_
    rintro e Wf28 ⟨rfl, bf27⟩
    refine ⟨_, rfl, ?_⟩
    have zbf27 := bf27.size
    replace bf25 := bf25.trans (bf27.mono bf25.size)
    replace bf16 := bf16.trans (bf27.mono bf16.size)
    replace bf12 := bf12.trans (bf27.mono bf12.size)
    replace rf10 := rf10.up bf27
    replace bf7 := bf7.trans (bf27.mono bf7.size)
    replace rf4 := rf4.up bf27
    replace bf1 := bf1.trans (bf27.mono bf1.size)
    replace q := q.trans (bf27.mono q.size)
    replace rf19 := rf19.up bf27
    refine LL.val (R.move rfl rfl) rfl rfl rfl ?_
    refine LL.val (R.extract rfl rfl rfl) rfl rfl rfl ?_
    refine LL.val (R.extract rfl rfl rfl) rfl rfl rfl ?_
    refine LL.val (R.assign rfl rfl) rfl rfl rfl ?_
    refine LL.val (R.assign rfl rfl) rfl rfl rfl ?_
    refine LL.nilS ?_
    refine CC.seq ?_
    refine CC.region ?_
    refine LL.val (R.load rfl rfl (I.ldNc (vs := [Value.int IntKind.i64 b, Value.int IntKind.i64 i, Value.int IntKind.i64 r, Value.int IntKind.i64 t, Value.int IntKind.u64 ↑k1, Value.int IntKind.u64 ↑k2, Value.int IntKind.i64 9, Value.int IntKind.i64 (9 + i / 4), Value.int IntKind.i64 (9 + i / 4 + r / 4), Value.int IntKind.i64 (10 + i / 4 + r / 4)]) (RowL.cells rf19 rfl) (by rfl) (by rfl))) rfl rfl rfl ?_
    refine LL.val (R.move rfl rfl) rfl rfl rfl ?_
    refine LL.call (R.call rfl rfl rfl) rfl rfl rfl (pRecord_out _ _ _ _ _ _ _ _ _ _ _ _ (by first | assumption | omega) (by first | assumption | omega)) ?_
    rintro e Wf30 ⟨rfl, bf29⟩
    refine ⟨_, rfl, ?_⟩
    have zbf29 := bf29.size
    replace bf27 := bf27.trans (bf29.mono bf27.size)
    replace bf25 := bf25.trans (bf29.mono bf25.size)
    replace bf16 := bf16.trans (bf29.mono bf16.size)
    replace bf12 := bf12.trans (bf29.mono bf12.size)
    replace rf10 := rf10.up bf29
    replace bf7 := bf7.trans (bf29.mono bf7.size)
    replace rf4 := rf4.up bf29
    replace bf1 := bf1.trans (bf29.mono bf1.size)
    replace q := q.trans (bf29.mono q.size)
    replace rf19 := rf19.up bf29
    refine LL.val (R.move rfl rfl) rfl rfl rfl ?_
    refine LL.val (R.extract rfl rfl rfl) rfl rfl rfl ?_
    refine LL.val (R.extract rfl rfl rfl) rfl rfl rfl ?_
    refine LL.val (R.assign rfl rfl) rfl rfl rfl ?_
    refine LL.val (R.assign rfl rfl) rfl rfl rfl ?_
    refine LL.nilS ?_
    refine CC.seq ?_
    refine CC.quietB (by kernel_rfl) (by kernel_rfl) (fun Wf32 bf31 zf33 => ?_)
    replace bf29 := bf29.trans (bf31.mono bf29.size)
    replace bf27 := bf27.trans (bf31.mono bf27.size)
    replace bf25 := bf25.trans (bf31.mono bf25.size)
    replace bf16 := bf16.trans (bf31.mono bf16.size)
    replace bf12 := bf12.trans (bf31.mono bf12.size)
    replace rf10 := rf10.up bf31
    replace bf7 := bf7.trans (bf31.mono bf7.size)
    replace rf4 := rf4.up bf31
    replace bf1 := bf1.trans (bf31.mono bf1.size)
    replace q := q.trans (bf31.mono q.size)
    replace rf19 := rf19.up bf31
    refine SS.val (R.move rfl rfl) rfl rfl ?_
    refine SS.val (R.geT rfl rfl rfl (by omega)) rfl rfl ?_
    refine SS.val (R.move rfl rfl) rfl rfl ?_
    refine SS.val (R.move rfl rfl) rfl rfl ?_
    refine SS.val (R.ltF rfl rfl rfl (by omega)) rfl rfl ?_
    refine SS.val (R.pick rfl rfl rfl) rfl rfl ?_
    refine SS.val (R.move rfl rfl) rfl rfl ?_
    refine SS.val (R.geT rfl rfl rfl (by omega)) rfl rfl ?_
    refine SS.val (R.move rfl rfl) rfl rfl ?_
    refine SS.val (R.move rfl rfl) rfl rfl ?_
    refine SS.val (R.field rfl rfl (I.fld rfl)) rfl rfl ?_
    refine SS.val (R.load rfl rfl (I.ld1 rfl (RowL.cell rf4 rfl))) rfl rfl ?_
    refine SS.val (R.leT rfl rfl rfl (by omega)) rfl rfl ?_
    refine SS.val (R.pick rfl rfl rfl) rfl rfl ?_
    refine SS.val (R.move rfl rfl) rfl rfl ?_
    refine SS.val (R.geT rfl rfl rfl (by omega)) rfl rfl ?_
    refine SS.val (R.move rfl rfl) rfl rfl ?_
    refine SS.val (R.move rfl rfl) rfl rfl ?_
    refine SS.val (R.field rfl rfl (I.fld rfl)) rfl rfl ?_
    refine SS.val (R.load rfl rfl (I.ld1 rfl (RowL.cell rf4 rfl))) rfl rfl ?_
    refine SS.val (R.leF rfl rfl rfl (by omega)) rfl rfl ?_
    refine SS.val (R.pick rfl rfl rfl) rfl rfl ?_
    refine SS.val (R.assign rfl rfl) rfl rfl ?_
    refine SS.val (R.assign rfl rfl) rfl rfl ?_
    refine SS.val (R.assign rfl rfl) rfl rfl ?_
    refine SS.nilQ ?_
    refine EE.thenN ?_
    refine CC.seq ?_
    refine CC.seq ?_
    refine CC.region ?_
    refine LL.val (R.move rfl rfl) rfl rfl rfl ?_
    refine LL.val (R.move rfl rfl) rfl rfl rfl ?_
    refine LL.call (R.call rfl rfl rfl) rfl rfl rfl (num_any _ _) ?_
    rintro e W' ⟨rfl, rfl⟩
    refine ⟨_, rfl, ?_⟩
    refine LL.val (R.eqF rfl rfl rfl (by omega)) rfl rfl rfl ?_
    refine LL.val (R.neBool rfl rfl rfl rfl rfl) rfl rfl rfl ?_
    refine LL.val (R.move rfl rfl) rfl rfl rfl ?_
    refine LL.val (R.move rfl rfl) rfl rfl rfl ?_
    refine LL.val (R.move rfl rfl) rfl rfl rfl ?_
    refine LL.call (R.call rfl rfl rfl) rfl rfl rfl (num_any _ _) ?_
    rintro e W' ⟨rfl, rfl⟩
    refine ⟨_, rfl, ?_⟩
    refine LL.val (R.eqT rfl rfl rfl (by omega)) rfl rfl rfl ?_
    refine LL.val (R.neBool rfl rfl rfl rfl rfl) rfl rfl rfl ?_
    refine LL.val (R.pick rfl rfl rfl) rfl rfl rfl ?_
    refine LL.val (R.move rfl rfl) rfl rfl rfl ?_
    refine LL.val (R.move rfl rfl) rfl rfl rfl ?_
    refine LL.val (R.move rfl rfl) rfl rfl rfl ?_
    refine LL.call (R.call rfl rfl rfl) rfl rfl rfl (num_any _ _) ?_
    rintro e W' ⟨rfl, rfl⟩
    refine ⟨_, rfl, ?_⟩
    refine LL.val (R.eqF rfl rfl rfl (by omega)) rfl rfl rfl ?_
    refine LL.val (R.neBool rfl rfl rfl rfl rfl) rfl rfl rfl ?_
    refine LL.val (R.pick rfl rfl rfl) rfl rfl rfl ?_
    refine LL.nilS ?_
    refine CC.no rfl ?_
    refine CC.skip ?_
    refine EE.thenN ?_
    refine CC.seq ?_
    refine CC.seq ?_
    refine CC.region ?_
    refine LL.val (R.move rfl rfl) rfl rfl rfl ?_
    refine LL.val (R.not rfl rfl) rfl rfl rfl ?_
    refine LL.val (R.move rfl rfl) rfl rfl rfl ?_
    refine LL.val (R.move rfl rfl) rfl rfl rfl ?_
    refine LL.val (R.neF rfl rfl rfl (by omega)) rfl rfl rfl ?_
    refine LL.val (R.move rfl rfl) rfl rfl rfl ?_
    refine LL.val (R.move rfl rfl) rfl rfl rfl ?_
    refine LL.call (R.call rfl rfl rfl) rfl rfl rfl (num_any _ _) ?_
    rintro e W' ⟨rfl, rfl⟩
    refine ⟨_, rfl, ?_⟩
    refine LL.val (R.neF rfl rfl rfl (by omega)) rfl rfl rfl ?_
    refine LL.val (R.pick rfl rfl rfl) rfl rfl rfl ?_
    refine LL.val (R.pick rfl rfl rfl) rfl rfl rfl ?_
    refine LL.val (R.move rfl rfl) rfl rfl rfl ?_
    refine LL.val (R.move rfl rfl) rfl rfl rfl ?_
    refine LL.val (R.not rfl rfl) rfl rfl rfl ?_
    refine LL.val (R.move rfl rfl) rfl rfl rfl ?_
    refine LL.skip rfl rfl ?_
    refine LL.skip rfl rfl ?_
    refine LL.skip rfl rfl ?_
    refine LL.skip rfl rfl ?_
    refine LL.skip rfl rfl ?_
    refine LL.skip rfl rfl ?_
    refine LL.skip rfl rfl ?_
    refine LL.val (R.pick rfl rfl rfl) rfl rfl rfl ?_
    refine LL.val (R.pick rfl rfl rfl) rfl rfl rfl ?_
    refine LL.val (R.move rfl rfl) rfl rfl rfl ?_
    refine LL.val (R.move rfl rfl) rfl rfl rfl ?_
    refine LL.val (R.not rfl rfl) rfl rfl rfl ?_
    refine LL.val (R.move rfl rfl) rfl rfl rfl ?_
    refine LL.val (R.move rfl rfl) rfl rfl rfl ?_
    refine LL.val (R.neF rfl rfl rfl (by omega)) rfl rfl rfl ?_
    refine LL.val (R.move rfl rfl) rfl rfl rfl ?_
    refine LL.val (R.move rfl rfl) rfl rfl rfl ?_
    refine LL.call (R.call rfl rfl rfl) rfl rfl rfl (num_any _ _) ?_
    rintro e W' ⟨rfl, rfl⟩
    refine ⟨_, rfl, ?_⟩
    refine LL.val (R.neF rfl rfl rfl (by omega)) rfl rfl rfl ?_
    refine LL.val (R.pick rfl rfl rfl) rfl rfl rfl ?_
    refine LL.val (R.pick rfl rfl rfl) rfl rfl rfl ?_
    refine LL.val (R.pick rfl rfl rfl) rfl rfl rfl ?_
    refine LL.nilS ?_
    refine CC.no rfl ?_
    refine CC.skip ?_
    refine EE.thenN ?_
    refine CC.seq ?_
    refine CC.seq ?_
    refine CC.region ?_
    refine LL.val (R.move rfl rfl) rfl rfl rfl ?_
    refine LL.val (R.move rfl rfl) rfl rfl rfl ?_
    refine LL.skip rfl rfl ?_
    refine LL.skip rfl rfl ?_
    refine LL.skip rfl rfl ?_
    refine LL.skip rfl rfl ?_
    refine LL.skip rfl rfl ?_
    refine LL.val (R.pick rfl rfl rfl) rfl rfl rfl ?_
    refine LL.val (R.move rfl rfl) rfl rfl rfl ?_
    refine LL.val (R.move rfl rfl) rfl rfl rfl ?_
    refine LL.val (R.move rfl rfl) rfl rfl rfl ?_
    refine LL.val (R.move rfl rfl) rfl rfl rfl ?_
    refine LL.val (R.field rfl rfl (I.fld rfl)) rfl rfl rfl ?_
    refine LL.val (R.load rfl rfl (I.ld1 rfl (RowL.cell rf19 rfl))) rfl rfl rfl ?_
    refine LL.val (R.mulIz (z := 576) rfl rfl rfl (by decide) (by decide)) rfl rfl rfl ?_
    refine LL.val (R.move rfl rfl) rfl rfl rfl ?_
    refine LL.val (R.subI rfl rfl rfl (by omega)) rfl rfl rfl ?_
    refine LL.val (R.mulI rfl rfl rfl (by omega)) rfl rfl rfl ?_
    refine LL.val (R.addI rfl rfl rfl (by omega)) rfl rfl rfl ?_
    refine LL.val (R.neF rfl rfl rfl (by omega)) rfl rfl rfl ?_
    refine LL.val (R.pick rfl rfl rfl) rfl rfl rfl ?_
    refine LL.val (R.pick rfl rfl rfl) rfl rfl rfl ?_
    refine LL.val (R.move rfl rfl) rfl rfl rfl ?_
    refine LL.val (R.move rfl rfl) rfl rfl rfl ?_
    refine LL.val (R.move rfl rfl) rfl rfl rfl ?_
    refine LL.skip rfl rfl ?_
    refine LL.skip rfl rfl ?_
    refine LL.skip rfl rfl ?_
    refine LL.skip rfl rfl ?_
    refine LL.skip rfl rfl ?_
    refine LL.skip rfl rfl ?_
    refine LL.skip rfl rfl ?_
    refine LL.skip rfl rfl ?_
    refine LL.skip rfl rfl ?_
    refine LL.val (R.pick rfl rfl rfl) rfl rfl rfl ?_
    refine LL.val (R.pick rfl rfl rfl) rfl rfl rfl ?_
    refine LL.nilS ?_
    refine CC.no rfl ?_
    refine CC.skip ?_
    refine EE.thenN ?_
    refine CC.seq ?_
    refine CC.region ?_
    refine LL.call (R.call rfl rfl rfl) rfl rfl rfl (works_any _) ?_
    rintro e Wf35 ⟨rfl, bf34⟩
    refine ⟨_, rfl, ?_⟩
    have zbf34 := bf34.size
    replace bf31 := bf31.trans (bf34.mono bf31.size)
    replace bf29 := bf29.trans (bf34.mono bf29.size)
    replace bf27 := bf27.trans (bf34.mono bf27.size)
    replace bf25 := bf25.trans (bf34.mono bf25.size)
    replace bf16 := bf16.trans (bf34.mono bf16.size)
    replace bf12 := bf12.trans (bf34.mono bf12.size)
    replace rf10 := rf10.up bf34
    replace bf7 := bf7.trans (bf34.mono bf7.size)
    replace rf4 := rf4.up bf34
    replace bf1 := bf1.trans (bf34.mono bf1.size)
    replace q := q.trans (bf34.mono q.size)
    replace rf19 := rf19.up bf34
    refine LL.val (R.assign rfl rfl) rfl rfl rfl ?_
    refine LL.nilS ?_
    refine CC.ret ?_
    refine EE.ret _ rfl rfl ?_
    exact ⟨rfl, q⟩
  · refine X.fn Try.func6 rfl (n := 160) rfl rfl ?_
    refine CC.seq ?_
    refine CC.region ?_
    refine LL.box [Value.int IntKind.i64 b, Value.int IntKind.i64 i, Value.int IntKind.i64 r, Value.int IntKind.i64 t] rfl rfl rfl rfl rfl ?_
    intro Wg2 gg3 egg3 rg4 zg5 bg1
    replace q := q.trans (bg1.mono q.size)
    have lg6 := rg4.lt
    refine LL.box [Value.int IntKind.u64 ↑k1, Value.int IntKind.u64 ↑k2] rfl rfl rfl rfl rfl ?_
    intro Wg8 gg9 egg9 rg10 zg11 bg7
    replace rg4 := rg4.up bg7
    replace bg1 := bg1.trans (bg7.mono bg1.size)
    replace q := q.trans (bg7.mono q.size)
    refine LL.val (R.assign rfl rfl) rfl rfl rfl ?_
    refine LL.nilS ?_
    refine CC.seq ?_
    refine CC.region ?_
    refine LL.val (R.load rfl rfl (I.ldNc (vs := [Value.int IntKind.i64 b, Value.int IntKind.i64 i, Value.int IntKind.i64 r, Value.int IntKind.i64 t]) (RowL.cells rg4 rfl) (by rfl) (by rfl))) rfl rfl rfl ?_
    refine LL.val (R.load rfl rfl (I.ldNc (vs := [Value.int IntKind.u64 ↑k1, Value.int IntKind.u64 ↑k2]) (RowL.cells rg10 rfl) (by rfl) (by rfl))) rfl rfl rfl ?_
    refine LL.call (R.call rfl rfl rfl) rfl rfl rfl (rof_T _ _ _ _ _ _ _ (by first | assumption | omega)) ?_
    rintro e Wg13 ⟨rfl, bg12⟩
    refine ⟨_, rfl, ?_⟩
    have zbg12 := bg12.size
    replace rg10 := rg10.up bg12
    replace bg7 := bg7.trans (bg12.mono bg7.size)
    replace rg4 := rg4.up bg12
    replace bg1 := bg1.trans (bg12.mono bg1.size)
    replace q := q.trans (bg12.mono q.size)
    refine LL.val (R.move rfl rfl) rfl rfl rfl ?_
    refine LL.val (R.extract rfl rfl rfl) rfl rfl rfl ?_
    refine LL.val (R.extract rfl rfl rfl) rfl rfl rfl ?_
    have lg14 := rg10.lt
    have lg15 := rg4.lt
    refine LL.alloc ([Value.int IntKind.i64 0, Value.int IntKind.i64 0, Value.int IntKind.i64 0, Value.int IntKind.i64 0, Value.int IntKind.u64 0, Value.int IntKind.u64 0, Value.int IntKind.i64 0, Value.int IntKind.i64 0, Value.int IntKind.i64 0, Value.int IntKind.i64 0]) rfl rfl rfl rfl rfl ?_
    intro Wg17 gg18 egg18 rg19 zg20 bg16
    replace bg12 := bg12.trans (bg16.mono bg12.size)
    replace rg10 := rg10.up bg16
    replace bg7 := bg7.trans (bg16.mono bg7.size)
    replace rg4 := rg4.up bg16
    replace bg1 := bg1.trans (bg16.mono bg1.size)
    replace q := q.trans (bg16.mono q.size)
    refine LL.storeN (vs := [Value.int IntKind.i64 b, Value.int IntKind.i64 i, Value.int IntKind.i64 r, Value.int IntKind.i64 t, Value.int IntKind.u64 ↑k1, Value.int IntKind.u64 ↑k2, Value.int IntKind.i64 9, Value.int IntKind.i64 (9 + i / 4), Value.int IntKind.i64 (9 + i / 4 + r / 4), Value.int IntKind.i64 (10 + i / 4 + r / 4)]) rfl rfl rfl rfl rg19 (by exact Nat.le_of_ble_eq_true rfl) (ones_of rfl) rfl rfl ?_
    intro Wg22 rg23 bg21 zg24
    have hlbg21 := rg19.lt
    replace rg23 : RowL Wg22 _ 27 [Value.int IntKind.i64 b, Value.int IntKind.i64 i, Value.int IntKind.i64 r, Value.int IntKind.i64 t, Value.int IntKind.u64 ↑k1, Value.int IntKind.u64 ↑k2, Value.int IntKind.i64 9, Value.int IntKind.i64 (9 + i / 4), Value.int IntKind.i64 (9 + i / 4 + r / 4), Value.int IntKind.i64 (10 + i / 4 + r / 4)] := rg23
    clear rg19
    replace bg16 := bg16.grown bg21 bg16.size (by rintro k ⟨⟩; omega)
    replace bg12 := bg12.grown bg21 bg12.size (by rintro k ⟨⟩; omega)
    replace rg10 := rg10.gr bg21 (by have := rg10.lt; omega)
    replace bg7 := bg7.grown bg21 bg7.size (by rintro k ⟨⟩; omega)
    replace rg4 := rg4.gr bg21 (by have := rg4.lt; omega)
    replace bg1 := bg1.grown bg21 bg1.size (by rintro k ⟨⟩; omega)
    replace q := q.grown bg21 q.size (by rintro k ⟨⟩; omega)
    have rg19 := rg23
    clear rg23
    refine LL.val (R.assign rfl rfl) rfl rfl rfl ?_
    refine LL.nilS ?_
    refine CC.seq ?_
    refine CC.seq ?_
    refine CC.region ?_
    refine LL.val (R.move rfl rfl) rfl rfl rfl ?_
    refine LL.val (R.neF rfl rfl rfl (by omega)) rfl rfl rfl ?_
    refine LL.nilS ?_
    refine CC.no rfl ?_
    refine CC.skip ?_
    refine EE.thenN ?_
    refine CC.seq ?_
    refine CC.region ?_
    refine LL.val (R.load rfl rfl (I.ldNc (vs := [Value.int IntKind.i64 b, Value.int IntKind.i64 i, Value.int IntKind.i64 r, Value.int IntKind.i64 t, Value.int IntKind.u64 ↑k1, Value.int IntKind.u64 ↑k2, Value.int IntKind.i64 9, Value.int IntKind.i64 (9 + i / 4), Value.int IntKind.i64 (9 + i / 4 + r / 4), Value.int IntKind.i64 (10 + i / 4 + r / 4)]) (RowL.cells rg19 rfl) (by rfl) (by rfl))) rfl rfl rfl ?_
    refine LL.val (R.move rfl rfl) rfl rfl rfl ?_
    refine LL.call (R.call rfl rfl rfl) rfl rfl rfl (pJournal_out _ _ _ _ _ _ _ _ _ _ _ _ (by first | assumption | omega) (by first | assumption | omega)) ?_
    rintro e Wg26 ⟨rfl, bg25⟩
    refine ⟨_, rfl, ?_⟩
    have zbg25 := bg25.size
    replace bg16 := bg16.trans (bg25.mono bg16.size)
    replace bg12 := bg12.trans (bg25.mono bg12.size)
    replace rg10 := rg10.up bg25
    replace bg7 := bg7.trans (bg25.mono bg7.size)
    replace rg4 := rg4.up bg25
    replace bg1 := bg1.trans (bg25.mono bg1.size)
    replace q := q.trans (bg25.mono q.size)
    replace rg19 := rg19.up bg25
    refine LL.val (R.move rfl rfl) rfl rfl rfl ?_
    refine LL.val (R.extract rfl rfl rfl) rfl rfl rfl ?_
    refine LL.val (R.extract rfl rfl rfl) rfl rfl rfl ?_
    refine LL.val (R.assign rfl rfl) rfl rfl rfl ?_
    refine LL.val (R.assign rfl rfl) rfl rfl rfl ?_
    refine LL.nilS ?_
    refine CC.seq ?_
    refine CC.region ?_
    refine LL.val (R.load rfl rfl (I.ldNc (vs := [Value.int IntKind.i64 b, Value.int IntKind.i64 i, Value.int IntKind.i64 r, Value.int IntKind.i64 t, Value.int IntKind.u64 ↑k1, Value.int IntKind.u64 ↑k2, Value.int IntKind.i64 9, Value.int IntKind.i64 (9 + i / 4), Value.int IntKind.i64 (9 + i / 4 + r / 4), Value.int IntKind.i64 (10 + i / 4 + r / 4)]) (RowL.cells rg19 rfl) (by rfl) (by rfl))) rfl rfl rfl ?_
    refine LL.val (R.move rfl rfl) rfl rfl rfl ?_
    refine LL.call (R.call rfl rfl rfl) rfl rfl rfl (pInode_out _ _ _ _ _ _ _ _ _ _ _ _ (by first | assumption | omega) (by first | assumption | omega)) ?_
    rintro e Wg28 ⟨rfl, bg27⟩
    refine ⟨_, rfl, ?_⟩
    have zbg27 := bg27.size
    replace bg25 := bg25.trans (bg27.mono bg25.size)
    replace bg16 := bg16.trans (bg27.mono bg16.size)
    replace bg12 := bg12.trans (bg27.mono bg12.size)
    replace rg10 := rg10.up bg27
    replace bg7 := bg7.trans (bg27.mono bg7.size)
    replace rg4 := rg4.up bg27
    replace bg1 := bg1.trans (bg27.mono bg1.size)
    replace q := q.trans (bg27.mono q.size)
    replace rg19 := rg19.up bg27
    refine LL.val (R.move rfl rfl) rfl rfl rfl ?_
    refine LL.val (R.extract rfl rfl rfl) rfl rfl rfl ?_
    refine LL.val (R.extract rfl rfl rfl) rfl rfl rfl ?_
    refine LL.val (R.assign rfl rfl) rfl rfl rfl ?_
    refine LL.val (R.assign rfl rfl) rfl rfl rfl ?_
    refine LL.nilS ?_
    refine CC.seq ?_
    refine CC.region ?_
    refine LL.val (R.load rfl rfl (I.ldNc (vs := [Value.int IntKind.i64 b, Value.int IntKind.i64 i, Value.int IntKind.i64 r, Value.int IntKind.i64 t, Value.int IntKind.u64 ↑k1, Value.int IntKind.u64 ↑k2, Value.int IntKind.i64 9, Value.int IntKind.i64 (9 + i / 4), Value.int IntKind.i64 (9 + i / 4 + r / 4), Value.int IntKind.i64 (10 + i / 4 + r / 4)]) (RowL.cells rg19 rfl) (by rfl) (by rfl))) rfl rfl rfl ?_
    refine LL.val (R.move rfl rfl) rfl rfl rfl ?_
    refine LL.call (R.call rfl rfl rfl) rfl rfl rfl (pRecord_any _ _ _ _ _ _ _ _ _ _ _ _ (by first | assumption | omega) (by first | assumption | omega)) ?_
    rintro e Wg30 ⟨rfl, bg29⟩
    refine ⟨_, rfl, ?_⟩
    have zbg29 := bg29.size
    replace bg27 := bg27.trans (bg29.mono bg27.size)
    replace bg25 := bg25.trans (bg29.mono bg25.size)
    replace bg16 := bg16.trans (bg29.mono bg16.size)
    replace bg12 := bg12.trans (bg29.mono bg12.size)
    replace rg10 := rg10.up bg29
    replace bg7 := bg7.trans (bg29.mono bg7.size)
    replace rg4 := rg4.up bg29
    replace bg1 := bg1.trans (bg29.mono bg1.size)
    replace q := q.trans (bg29.mono q.size)
    replace rg19 := rg19.up bg29
    refine LL.val (R.move rfl rfl) rfl rfl rfl ?_
    refine LL.val (R.extract rfl rfl rfl) rfl rfl rfl ?_
    refine LL.val (R.extract rfl rfl rfl) rfl rfl rfl ?_
    refine LL.val (R.assign rfl rfl) rfl rfl rfl ?_
    refine LL.val (R.assign rfl rfl) rfl rfl rfl ?_
    refine LL.nilS ?_
    refine CC.seq ?_
    refine CC.quietB (by kernel_rfl) (by kernel_rfl) (fun Wg32 bg31 zg33 => ?_)
    replace bg29 := bg29.trans (bg31.mono bg29.size)
    replace bg27 := bg27.trans (bg31.mono bg27.size)
    replace bg25 := bg25.trans (bg31.mono bg25.size)
    replace bg16 := bg16.trans (bg31.mono bg16.size)
    replace bg12 := bg12.trans (bg31.mono bg12.size)
    replace rg10 := rg10.up bg31
    replace bg7 := bg7.trans (bg31.mono bg7.size)
    replace rg4 := rg4.up bg31
    replace bg1 := bg1.trans (bg31.mono bg1.size)
    replace q := q.trans (bg31.mono q.size)
    replace rg19 := rg19.up bg31
    refine SS.val (R.move rfl rfl) rfl rfl ?_
    refine SS.val (R.geT rfl rfl rfl (by omega)) rfl rfl ?_
    refine SS.val (R.move rfl rfl) rfl rfl ?_
    refine SS.val (R.move rfl rfl) rfl rfl ?_
    refine SS.val (R.ltF rfl rfl rfl (by omega)) rfl rfl ?_
    refine SS.val (R.pick rfl rfl rfl) rfl rfl ?_
    refine SS.val (R.move rfl rfl) rfl rfl ?_
    refine SS.val (R.geT rfl rfl rfl (by omega)) rfl rfl ?_
    refine SS.val (R.move rfl rfl) rfl rfl ?_
    refine SS.val (R.move rfl rfl) rfl rfl ?_
    refine SS.val (R.field rfl rfl (I.fld rfl)) rfl rfl ?_
    refine SS.val (R.load rfl rfl (I.ld1 rfl (RowL.cell rg4 rfl))) rfl rfl ?_
    refine SS.val (R.leF rfl rfl rfl (by omega)) rfl rfl ?_
    refine SS.val (R.pick rfl rfl rfl) rfl rfl ?_
    refine SS.val (R.move rfl rfl) rfl rfl ?_
    refine SS.val (R.geT rfl rfl rfl (by omega)) rfl rfl ?_
    refine SS.val (R.move rfl rfl) rfl rfl ?_
    refine SS.val (R.move rfl rfl) rfl rfl ?_
    refine SS.val (R.field rfl rfl (I.fld rfl)) rfl rfl ?_
    refine SS.val (R.load rfl rfl (I.ld1 rfl (RowL.cell rg4 rfl))) rfl rfl ?_
    refine SS.val (R.leT rfl rfl rfl (by omega)) rfl rfl ?_
    refine SS.val (R.pick rfl rfl rfl) rfl rfl ?_
    refine SS.val (R.assign rfl rfl) rfl rfl ?_
    refine SS.val (R.assign rfl rfl) rfl rfl ?_
    refine SS.val (R.assign rfl rfl) rfl rfl ?_
    refine SS.nilQ ?_
    refine EE.thenN ?_
    refine CC.seq ?_
    refine CC.seq ?_
    refine CC.region ?_
    refine LL.val (R.move rfl rfl) rfl rfl rfl ?_
    refine LL.val (R.move rfl rfl) rfl rfl rfl ?_
    refine LL.call (R.call rfl rfl rfl) rfl rfl rfl (num_any _ _) ?_
    rintro e W' ⟨rfl, rfl⟩
    refine ⟨_, rfl, ?_⟩
    refine LL.val (R.eqF rfl rfl rfl (by omega)) rfl rfl rfl ?_
    refine LL.val (R.neBool rfl rfl rfl rfl rfl) rfl rfl rfl ?_
    refine LL.val (R.move rfl rfl) rfl rfl rfl ?_
    refine LL.val (R.move rfl rfl) rfl rfl rfl ?_
    refine LL.val (R.move rfl rfl) rfl rfl rfl ?_
    refine LL.call (R.call rfl rfl rfl) rfl rfl rfl (num_any _ _) ?_
    rintro e W' ⟨rfl, rfl⟩
    refine ⟨_, rfl, ?_⟩
    refine LL.val (R.eqF rfl rfl rfl (by omega)) rfl rfl rfl ?_
    refine LL.val (R.neBool rfl rfl rfl rfl rfl) rfl rfl rfl ?_
    refine LL.val (R.pick rfl rfl rfl) rfl rfl rfl ?_
    refine LL.val (R.move rfl rfl) rfl rfl rfl ?_
    refine LL.val (R.move rfl rfl) rfl rfl rfl ?_
    refine LL.val (R.move rfl rfl) rfl rfl rfl ?_
    refine LL.call (R.call rfl rfl rfl) rfl rfl rfl (num_any _ _) ?_
    rintro e W' ⟨rfl, rfl⟩
    refine ⟨_, rfl, ?_⟩
    refine LL.val (R.eqT rfl rfl rfl (by omega)) rfl rfl rfl ?_
    refine LL.val (R.neBool rfl rfl rfl rfl rfl) rfl rfl rfl ?_
    refine LL.val (R.pick rfl rfl rfl) rfl rfl rfl ?_
    refine LL.nilS ?_
    refine CC.no rfl ?_
    refine CC.skip ?_
    refine EE.thenN ?_
    refine CC.seq ?_
    refine CC.seq ?_
    refine CC.region ?_
    refine LL.val (R.move rfl rfl) rfl rfl rfl ?_
    refine LL.val (R.not rfl rfl) rfl rfl rfl ?_
    refine LL.val (R.move rfl rfl) rfl rfl rfl ?_
    refine LL.val (R.move rfl rfl) rfl rfl rfl ?_
    refine LL.val (R.neF rfl rfl rfl (by omega)) rfl rfl rfl ?_
    refine LL.val (R.move rfl rfl) rfl rfl rfl ?_
    refine LL.val (R.move rfl rfl) rfl rfl rfl ?_
    refine LL.call (R.call rfl rfl rfl) rfl rfl rfl (num_any _ _) ?_
    rintro e W' ⟨rfl, rfl⟩
    refine ⟨_, rfl, ?_⟩
    refine LL.val (R.neF rfl rfl rfl (by omega)) rfl rfl rfl ?_
    refine LL.val (R.pick rfl rfl rfl) rfl rfl rfl ?_
    refine LL.val (R.pick rfl rfl rfl) rfl rfl rfl ?_
    refine LL.val (R.move rfl rfl) rfl rfl rfl ?_
    refine LL.val (R.move rfl rfl) rfl rfl rfl ?_
    refine LL.val (R.not rfl rfl) rfl rfl rfl ?_
    refine LL.val (R.move rfl rfl) rfl rfl rfl ?_
    refine LL.val (R.move rfl rfl) rfl rfl rfl ?_
    refine LL.val (R.neF rfl rfl rfl (by omega)) rfl rfl rfl ?_
    refine LL.val (R.move rfl rfl) rfl rfl rfl ?_
    refine LL.val (R.move rfl rfl) rfl rfl rfl ?_
    refine LL.call (R.call rfl rfl rfl) rfl rfl rfl (num_any _ _) ?_
    rintro e W' ⟨rfl, rfl⟩
    refine ⟨_, rfl, ?_⟩
    refine LL.val (R.neF rfl rfl rfl (by omega)) rfl rfl rfl ?_
    refine LL.val (R.pick rfl rfl rfl) rfl rfl rfl ?_
    refine LL.val (R.pick rfl rfl rfl) rfl rfl rfl ?_
    refine LL.val (R.pick rfl rfl rfl) rfl rfl rfl ?_
    refine LL.val (R.move rfl rfl) rfl rfl rfl ?_
    refine LL.val (R.move rfl rfl) rfl rfl rfl ?_
    refine LL.val (R.not rfl rfl) rfl rfl rfl ?_
    refine LL.val (R.move rfl rfl) rfl rfl rfl ?_
    refine LL.skip rfl rfl ?_
    refine LL.skip rfl rfl ?_
    refine LL.skip rfl rfl ?_
    refine LL.skip rfl rfl ?_
    refine LL.skip rfl rfl ?_
    refine LL.skip rfl rfl ?_
    refine LL.skip rfl rfl ?_
    refine LL.val (R.pick rfl rfl rfl) rfl rfl rfl ?_
    refine LL.val (R.pick rfl rfl rfl) rfl rfl rfl ?_
    refine LL.nilS ?_
    refine CC.no rfl ?_
    refine CC.skip ?_
    refine EE.thenN ?_
    refine CC.seq ?_
    refine CC.seq ?_
    refine CC.region ?_
    refine LL.val (R.move rfl rfl) rfl rfl rfl ?_
    refine LL.val (R.move rfl rfl) rfl rfl rfl ?_
    refine LL.skip rfl rfl ?_
    refine LL.skip rfl rfl ?_
    refine LL.skip rfl rfl ?_
    refine LL.skip rfl rfl ?_
    refine LL.skip rfl rfl ?_
    refine LL.val (R.pick rfl rfl rfl) rfl rfl rfl ?_
    refine LL.val (R.move rfl rfl) rfl rfl rfl ?_
    refine LL.val (R.move rfl rfl) rfl rfl rfl ?_
    refine LL.val (R.move rfl rfl) rfl rfl rfl ?_
    refine LL.skip rfl rfl ?_
    refine LL.skip rfl rfl ?_
    refine LL.skip rfl rfl ?_
    refine LL.skip rfl rfl ?_
    refine LL.skip rfl rfl ?_
    refine LL.skip rfl rfl ?_
    refine LL.skip rfl rfl ?_
    refine LL.skip rfl rfl ?_
    refine LL.skip rfl rfl ?_
    refine LL.val (R.pick rfl rfl rfl) rfl rfl rfl ?_
    refine LL.val (R.pick rfl rfl rfl) rfl rfl rfl ?_
    refine LL.val (R.move rfl rfl) rfl rfl rfl ?_
    refine LL.val (R.move rfl rfl) rfl rfl rfl ?_
    refine LL.val (R.move rfl rfl) rfl rfl rfl ?_
    refine LL.val (R.move rfl rfl) rfl rfl rfl ?_
    refine LL.val (R.field rfl rfl (I.fld rfl)) rfl rfl rfl ?_
    refine LL.val (R.load rfl rfl (I.ld1 rfl (RowL.cell rg19 rfl))) rfl rfl rfl ?_
    refine LL.val (R.mulI rfl rfl rfl (by omega)) rfl rfl rfl ?_
    refine LL.val (R.move rfl rfl) rfl rfl rfl ?_
    refine LL.val (R.subI rfl rfl rfl (by omega)) rfl rfl rfl ?_
    refine LL.val (R.mulI rfl rfl rfl (by omega)) rfl rfl rfl ?_
    refine LL.val (R.addI rfl rfl rfl (by omega)) rfl rfl rfl ?_
    refine LL.val (R.neF rfl rfl rfl (by omega)) rfl rfl rfl ?_
    refine LL.val (R.pick rfl rfl rfl) rfl rfl rfl ?_
    refine LL.val (R.pick rfl rfl rfl) rfl rfl rfl ?_
    refine LL.nilS ?_
    refine CC.no rfl ?_
    refine CC.skip ?_
    refine EE.thenN ?_
    refine CC.seq ?_
    refine CC.region ?_
    refine LL.call (R.call rfl rfl rfl) rfl rfl rfl (works_any _) ?_
    rintro e Wg35 ⟨rfl, bg34⟩
    refine ⟨_, rfl, ?_⟩
    have zbg34 := bg34.size
    replace bg31 := bg31.trans (bg34.mono bg31.size)
    replace bg29 := bg29.trans (bg34.mono bg29.size)
    replace bg27 := bg27.trans (bg34.mono bg27.size)
    replace bg25 := bg25.trans (bg34.mono bg25.size)
    replace bg16 := bg16.trans (bg34.mono bg16.size)
    replace bg12 := bg12.trans (bg34.mono bg12.size)
    replace rg10 := rg10.up bg34
    replace bg7 := bg7.trans (bg34.mono bg7.size)
    replace rg4 := rg4.up bg34
    replace bg1 := bg1.trans (bg34.mono bg1.size)
    replace q := q.trans (bg34.mono q.size)
    replace rg19 := rg19.up bg34
    refine LL.val (R.assign rfl rfl) rfl rfl rfl ?_
    refine LL.nilS ?_
    refine CC.ret ?_
    refine EE.ret _ rfl rfl ?_
    exact ⟨rfl, q⟩
  · refine X.fn Try.func6 rfl (n := 160) rfl rfl ?_
    refine CC.seq ?_
    refine CC.region ?_
    refine LL.box [Value.int IntKind.i64 b, Value.int IntKind.i64 i, Value.int IntKind.i64 r, Value.int IntKind.i64 t] rfl rfl rfl rfl rfl ?_
    intro Wh2 gh3 egh3 rh4 zh5 bh1
    replace q := q.trans (bh1.mono q.size)
    have lh6 := rh4.lt
    refine LL.box [Value.int IntKind.u64 ↑k1, Value.int IntKind.u64 ↑k2] rfl rfl rfl rfl rfl ?_
    intro Wh8 gh9 egh9 rh10 zh11 bh7
    replace rh4 := rh4.up bh7
    replace bh1 := bh1.trans (bh7.mono bh1.size)
    replace q := q.trans (bh7.mono q.size)
    refine LL.val (R.assign rfl rfl) rfl rfl rfl ?_
    refine LL.nilS ?_
    refine CC.seq ?_
    refine CC.region ?_
    refine LL.val (R.load rfl rfl (I.ldNc (vs := [Value.int IntKind.i64 b, Value.int IntKind.i64 i, Value.int IntKind.i64 r, Value.int IntKind.i64 t]) (RowL.cells rh4 rfl) (by rfl) (by rfl))) rfl rfl rfl ?_
    refine LL.val (R.load rfl rfl (I.ldNc (vs := [Value.int IntKind.u64 ↑k1, Value.int IntKind.u64 ↑k2]) (RowL.cells rh10 rfl) (by rfl) (by rfl))) rfl rfl rfl ?_
    refine LL.call (R.call rfl rfl rfl) rfl rfl rfl (rof_T _ _ _ _ _ _ _ (by first | assumption | omega)) ?_
    rintro e Wh13 ⟨rfl, bh12⟩
    refine ⟨_, rfl, ?_⟩
    have zbh12 := bh12.size
    replace rh10 := rh10.up bh12
    replace bh7 := bh7.trans (bh12.mono bh7.size)
    replace rh4 := rh4.up bh12
    replace bh1 := bh1.trans (bh12.mono bh1.size)
    replace q := q.trans (bh12.mono q.size)
    refine LL.val (R.move rfl rfl) rfl rfl rfl ?_
    refine LL.val (R.extract rfl rfl rfl) rfl rfl rfl ?_
    refine LL.val (R.extract rfl rfl rfl) rfl rfl rfl ?_
    have lh14 := rh10.lt
    have lh15 := rh4.lt
    refine LL.alloc ([Value.int IntKind.i64 0, Value.int IntKind.i64 0, Value.int IntKind.i64 0, Value.int IntKind.i64 0, Value.int IntKind.u64 0, Value.int IntKind.u64 0, Value.int IntKind.i64 0, Value.int IntKind.i64 0, Value.int IntKind.i64 0, Value.int IntKind.i64 0]) rfl rfl rfl rfl rfl ?_
    intro Wh17 gh18 egh18 rh19 zh20 bh16
    replace bh12 := bh12.trans (bh16.mono bh12.size)
    replace rh10 := rh10.up bh16
    replace bh7 := bh7.trans (bh16.mono bh7.size)
    replace rh4 := rh4.up bh16
    replace bh1 := bh1.trans (bh16.mono bh1.size)
    replace q := q.trans (bh16.mono q.size)
    refine LL.storeN (vs := [Value.int IntKind.i64 b, Value.int IntKind.i64 i, Value.int IntKind.i64 r, Value.int IntKind.i64 t, Value.int IntKind.u64 ↑k1, Value.int IntKind.u64 ↑k2, Value.int IntKind.i64 9, Value.int IntKind.i64 (9 + i / 4), Value.int IntKind.i64 (9 + i / 4 + r / 4), Value.int IntKind.i64 (10 + i / 4 + r / 4)]) rfl rfl rfl rfl rh19 (by exact Nat.le_of_ble_eq_true rfl) (ones_of rfl) rfl rfl ?_
    intro Wh22 rh23 bh21 zh24
    have hlbh21 := rh19.lt
    replace rh23 : RowL Wh22 _ 27 [Value.int IntKind.i64 b, Value.int IntKind.i64 i, Value.int IntKind.i64 r, Value.int IntKind.i64 t, Value.int IntKind.u64 ↑k1, Value.int IntKind.u64 ↑k2, Value.int IntKind.i64 9, Value.int IntKind.i64 (9 + i / 4), Value.int IntKind.i64 (9 + i / 4 + r / 4), Value.int IntKind.i64 (10 + i / 4 + r / 4)] := rh23
    clear rh19
    replace bh16 := bh16.grown bh21 bh16.size (by rintro k ⟨⟩; omega)
    replace bh12 := bh12.grown bh21 bh12.size (by rintro k ⟨⟩; omega)
    replace rh10 := rh10.gr bh21 (by have := rh10.lt; omega)
    replace bh7 := bh7.grown bh21 bh7.size (by rintro k ⟨⟩; omega)
    replace rh4 := rh4.gr bh21 (by have := rh4.lt; omega)
    replace bh1 := bh1.grown bh21 bh1.size (by rintro k ⟨⟩; omega)
    replace q := q.grown bh21 q.size (by rintro k ⟨⟩; omega)
    have rh19 := rh23
    clear rh23
    refine LL.val (R.assign rfl rfl) rfl rfl rfl ?_
    refine LL.nilS ?_
    refine CC.seq ?_
    refine CC.seq ?_
    refine CC.region ?_
    refine LL.val (R.move rfl rfl) rfl rfl rfl ?_
    refine LL.val (R.neF rfl rfl rfl (by omega)) rfl rfl rfl ?_
    refine LL.nilS ?_
    refine CC.no rfl ?_
    refine CC.skip ?_
    refine EE.thenN ?_
    refine CC.seq ?_
    refine CC.region ?_
    refine LL.val (R.load rfl rfl (I.ldNc (vs := [Value.int IntKind.i64 b, Value.int IntKind.i64 i, Value.int IntKind.i64 r, Value.int IntKind.i64 t, Value.int IntKind.u64 ↑k1, Value.int IntKind.u64 ↑k2, Value.int IntKind.i64 9, Value.int IntKind.i64 (9 + i / 4), Value.int IntKind.i64 (9 + i / 4 + r / 4), Value.int IntKind.i64 (10 + i / 4 + r / 4)]) (RowL.cells rh19 rfl) (by rfl) (by rfl))) rfl rfl rfl ?_
    refine LL.val (R.move rfl rfl) rfl rfl rfl ?_
    refine LL.call (R.call rfl rfl rfl) rfl rfl rfl (pJournal_out _ _ _ _ _ _ _ _ _ _ _ _ (by first | assumption | omega) (by first | assumption | omega)) ?_
    rintro e Wh26 ⟨rfl, bh25⟩
    refine ⟨_, rfl, ?_⟩
    have zbh25 := bh25.size
    replace bh16 := bh16.trans (bh25.mono bh16.size)
    replace bh12 := bh12.trans (bh25.mono bh12.size)
    replace rh10 := rh10.up bh25
    replace bh7 := bh7.trans (bh25.mono bh7.size)
    replace rh4 := rh4.up bh25
    replace bh1 := bh1.trans (bh25.mono bh1.size)
    replace q := q.trans (bh25.mono q.size)
    replace rh19 := rh19.up bh25
    refine LL.val (R.move rfl rfl) rfl rfl rfl ?_
    refine LL.val (R.extract rfl rfl rfl) rfl rfl rfl ?_
    refine LL.val (R.extract rfl rfl rfl) rfl rfl rfl ?_
    refine LL.val (R.assign rfl rfl) rfl rfl rfl ?_
    refine LL.val (R.assign rfl rfl) rfl rfl rfl ?_
    refine LL.nilS ?_
    refine CC.seq ?_
    refine CC.region ?_
    refine LL.val (R.load rfl rfl (I.ldNc (vs := [Value.int IntKind.i64 b, Value.int IntKind.i64 i, Value.int IntKind.i64 r, Value.int IntKind.i64 t, Value.int IntKind.u64 ↑k1, Value.int IntKind.u64 ↑k2, Value.int IntKind.i64 9, Value.int IntKind.i64 (9 + i / 4), Value.int IntKind.i64 (9 + i / 4 + r / 4), Value.int IntKind.i64 (10 + i / 4 + r / 4)]) (RowL.cells rh19 rfl) (by rfl) (by rfl))) rfl rfl rfl ?_
    refine LL.val (R.move rfl rfl) rfl rfl rfl ?_
    refine LL.call (R.call rfl rfl rfl) rfl rfl rfl (pInode_out _ _ _ _ _ _ _ _ _ _ _ _ (by first | assumption | omega) (by first | assumption | omega)) ?_
    rintro e Wh28 ⟨rfl, bh27⟩
    refine ⟨_, rfl, ?_⟩
    have zbh27 := bh27.size
    replace bh25 := bh25.trans (bh27.mono bh25.size)
    replace bh16 := bh16.trans (bh27.mono bh16.size)
    replace bh12 := bh12.trans (bh27.mono bh12.size)
    replace rh10 := rh10.up bh27
    replace bh7 := bh7.trans (bh27.mono bh7.size)
    replace rh4 := rh4.up bh27
    replace bh1 := bh1.trans (bh27.mono bh1.size)
    replace q := q.trans (bh27.mono q.size)
    replace rh19 := rh19.up bh27
    refine LL.val (R.move rfl rfl) rfl rfl rfl ?_
    refine LL.val (R.extract rfl rfl rfl) rfl rfl rfl ?_
    refine LL.val (R.extract rfl rfl rfl) rfl rfl rfl ?_
    refine LL.val (R.assign rfl rfl) rfl rfl rfl ?_
    refine LL.val (R.assign rfl rfl) rfl rfl rfl ?_
    refine LL.nilS ?_
    refine CC.seq ?_
    refine CC.region ?_
    refine LL.val (R.load rfl rfl (I.ldNc (vs := [Value.int IntKind.i64 b, Value.int IntKind.i64 i, Value.int IntKind.i64 r, Value.int IntKind.i64 t, Value.int IntKind.u64 ↑k1, Value.int IntKind.u64 ↑k2, Value.int IntKind.i64 9, Value.int IntKind.i64 (9 + i / 4), Value.int IntKind.i64 (9 + i / 4 + r / 4), Value.int IntKind.i64 (10 + i / 4 + r / 4)]) (RowL.cells rh19 rfl) (by rfl) (by rfl))) rfl rfl rfl ?_
    refine LL.val (R.move rfl rfl) rfl rfl rfl ?_
    refine LL.call (R.call rfl rfl rfl) rfl rfl rfl (pRecord_out _ _ _ _ _ _ _ _ _ _ _ _ (by first | assumption | omega) (by first | assumption | omega)) ?_
    rintro e Wh30 ⟨rfl, bh29⟩
    refine ⟨_, rfl, ?_⟩
    have zbh29 := bh29.size
    replace bh27 := bh27.trans (bh29.mono bh27.size)
    replace bh25 := bh25.trans (bh29.mono bh25.size)
    replace bh16 := bh16.trans (bh29.mono bh16.size)
    replace bh12 := bh12.trans (bh29.mono bh12.size)
    replace rh10 := rh10.up bh29
    replace bh7 := bh7.trans (bh29.mono bh7.size)
    replace rh4 := rh4.up bh29
    replace bh1 := bh1.trans (bh29.mono bh1.size)
    replace q := q.trans (bh29.mono q.size)
    replace rh19 := rh19.up bh29
    refine LL.val (R.move rfl rfl) rfl rfl rfl ?_
    refine LL.val (R.extract rfl rfl rfl) rfl rfl rfl ?_
    refine LL.val (R.extract rfl rfl rfl) rfl rfl rfl ?_
    refine LL.val (R.assign rfl rfl) rfl rfl rfl ?_
    refine LL.val (R.assign rfl rfl) rfl rfl rfl ?_
    refine LL.nilS ?_
    refine CC.seq ?_
    refine CC.quietB (by kernel_rfl) (by kernel_rfl) (fun Wh32 bh31 zh33 => ?_)
    replace bh29 := bh29.trans (bh31.mono bh29.size)
    replace bh27 := bh27.trans (bh31.mono bh27.size)
    replace bh25 := bh25.trans (bh31.mono bh25.size)
    replace bh16 := bh16.trans (bh31.mono bh16.size)
    replace bh12 := bh12.trans (bh31.mono bh12.size)
    replace rh10 := rh10.up bh31
    replace bh7 := bh7.trans (bh31.mono bh7.size)
    replace rh4 := rh4.up bh31
    replace bh1 := bh1.trans (bh31.mono bh1.size)
    replace q := q.trans (bh31.mono q.size)
    replace rh19 := rh19.up bh31
    refine SS.val (R.move rfl rfl) rfl rfl ?_
    refine SS.vsplit (fun h => R.geT rfl rfl rfl h) (fun h => R.geF rfl rfl rfl (Int.not_le.1 h)) rfl rfl (fun ch34 => ?_) (fun ch34 => ?_)
    refine SS.val (R.move rfl rfl) rfl rfl ?_
    refine SS.val (R.move rfl rfl) rfl rfl ?_
    refine SS.val (R.ltF rfl rfl rfl (by omega)) rfl rfl ?_
    refine SS.val (R.pick rfl rfl rfl) rfl rfl ?_
    refine SS.val (R.move rfl rfl) rfl rfl ?_
    refine SS.val (R.geT rfl rfl rfl (by omega)) rfl rfl ?_
    refine SS.val (R.move rfl rfl) rfl rfl ?_
    refine SS.val (R.move rfl rfl) rfl rfl ?_
    refine SS.val (R.field rfl rfl (I.fld rfl)) rfl rfl ?_
    refine SS.val (R.load rfl rfl (I.ld1 rfl (RowL.cell rh4 rfl))) rfl rfl ?_
    refine SS.val (R.leF rfl rfl rfl (by omega)) rfl rfl ?_
    refine SS.val (R.pick rfl rfl rfl) rfl rfl ?_
    refine SS.val (R.move rfl rfl) rfl rfl ?_
    refine SS.val (R.geT rfl rfl rfl (by omega)) rfl rfl ?_
    refine SS.val (R.move rfl rfl) rfl rfl ?_
    refine SS.val (R.move rfl rfl) rfl rfl ?_
    refine SS.val (R.field rfl rfl (I.fld rfl)) rfl rfl ?_
    refine SS.val (R.load rfl rfl (I.ld1 rfl (RowL.cell rh4 rfl))) rfl rfl ?_
    refine SS.val (R.leF rfl rfl rfl (by omega)) rfl rfl ?_
    refine SS.val (R.pick rfl rfl rfl) rfl rfl ?_
    refine SS.val (R.assign rfl rfl) rfl rfl ?_
    refine SS.val (R.assign rfl rfl) rfl rfl ?_
    refine SS.val (R.assign rfl rfl) rfl rfl ?_
    refine SS.nilQ ?_
    refine EE.thenN ?_
    refine CC.seq ?_
    refine CC.seq ?_
    refine CC.region ?_
    refine LL.val (R.move rfl rfl) rfl rfl rfl ?_
    refine LL.val (R.move rfl rfl) rfl rfl rfl ?_
    refine LL.call (R.call rfl rfl rfl) rfl rfl rfl (num_any _ _) ?_
    rintro e W' ⟨rfl, rfl⟩
    refine ⟨_, rfl, ?_⟩
    refine LL.val (R.eqF rfl rfl rfl (by omega)) rfl rfl rfl ?_
    refine LL.val (R.neBool rfl rfl rfl rfl rfl) rfl rfl rfl ?_
    refine LL.val (R.move rfl rfl) rfl rfl rfl ?_
    refine LL.val (R.move rfl rfl) rfl rfl rfl ?_
    refine LL.val (R.move rfl rfl) rfl rfl rfl ?_
    refine LL.call (R.call rfl rfl rfl) rfl rfl rfl (num_any _ _) ?_
    rintro e W' ⟨rfl, rfl⟩
    refine ⟨_, rfl, ?_⟩
    refine LL.val (R.eqF rfl rfl rfl (by omega)) rfl rfl rfl ?_
    refine LL.val (R.neBool rfl rfl rfl rfl rfl) rfl rfl rfl ?_
    refine LL.val (R.pick rfl rfl rfl) rfl rfl rfl ?_
    refine LL.val (R.move rfl rfl) rfl rfl rfl ?_
    refine LL.val (R.move rfl rfl) rfl rfl rfl ?_
    refine LL.val (R.move rfl rfl) rfl rfl rfl ?_
    refine LL.call (R.call rfl rfl rfl) rfl rfl rfl (num_any _ _) ?_
    rintro e W' ⟨rfl, rfl⟩
    refine ⟨_, rfl, ?_⟩
    refine LL.val (R.eqF rfl rfl rfl (by omega)) rfl rfl rfl ?_
    refine LL.val (R.neBool rfl rfl rfl rfl rfl) rfl rfl rfl ?_
    refine LL.val (R.pick rfl rfl rfl) rfl rfl rfl ?_
    refine LL.nilS ?_
    refine CC.no rfl ?_
    refine CC.skip ?_
    refine EE.thenN ?_
    refine CC.seq ?_
    refine CC.seq ?_
    refine CC.region ?_
    refine LL.val (R.move rfl rfl) rfl rfl rfl ?_
    refine LL.val (R.not rfl rfl) rfl rfl rfl ?_
    refine LL.val (R.move rfl rfl) rfl rfl rfl ?_
    refine LL.val (R.move rfl rfl) rfl rfl rfl ?_
    refine LL.val (R.neF rfl rfl rfl (by omega)) rfl rfl rfl ?_
    refine LL.val (R.move rfl rfl) rfl rfl rfl ?_
    refine LL.val (R.move rfl rfl) rfl rfl rfl ?_
    refine LL.call (R.call rfl rfl rfl) rfl rfl rfl (num_any _ _) ?_
    rintro e W' ⟨rfl, rfl⟩
    refine ⟨_, rfl, ?_⟩
    refine LL.val (R.neF rfl rfl rfl (by omega)) rfl rfl rfl ?_
    refine LL.val (R.pick rfl rfl rfl) rfl rfl rfl ?_
    refine LL.val (R.pick rfl rfl rfl) rfl rfl rfl ?_
    refine LL.val (R.move rfl rfl) rfl rfl rfl ?_
    refine LL.val (R.move rfl rfl) rfl rfl rfl ?_
    refine LL.val (R.not rfl rfl) rfl rfl rfl ?_
    refine LL.val (R.move rfl rfl) rfl rfl rfl ?_
    refine LL.val (R.move rfl rfl) rfl rfl rfl ?_
    refine LL.val (R.neF rfl rfl rfl (by omega)) rfl rfl rfl ?_
    refine LL.val (R.move rfl rfl) rfl rfl rfl ?_
    refine LL.val (R.move rfl rfl) rfl rfl rfl ?_
    refine LL.call (R.call rfl rfl rfl) rfl rfl rfl (num_any _ _) ?_
    rintro e W' ⟨rfl, rfl⟩
    refine ⟨_, rfl, ?_⟩
    refine LL.val (R.neF rfl rfl rfl (by omega)) rfl rfl rfl ?_
    refine LL.val (R.pick rfl rfl rfl) rfl rfl rfl ?_
    refine LL.val (R.pick rfl rfl rfl) rfl rfl rfl ?_
    refine LL.val (R.pick rfl rfl rfl) rfl rfl rfl ?_
    refine LL.val (R.move rfl rfl) rfl rfl rfl ?_
    refine LL.val (R.move rfl rfl) rfl rfl rfl ?_
    refine LL.val (R.not rfl rfl) rfl rfl rfl ?_
    refine LL.val (R.move rfl rfl) rfl rfl rfl ?_
    refine LL.val (R.move rfl rfl) rfl rfl rfl ?_
    refine LL.val (R.neF rfl rfl rfl (by omega)) rfl rfl rfl ?_
    refine LL.val (R.move rfl rfl) rfl rfl rfl ?_
    refine LL.val (R.move rfl rfl) rfl rfl rfl ?_
    refine LL.call (R.call rfl rfl rfl) rfl rfl rfl (num_any _ _) ?_
    rintro e W' ⟨rfl, rfl⟩
    refine ⟨_, rfl, ?_⟩
    refine LL.val (R.neF rfl rfl rfl (by omega)) rfl rfl rfl ?_
    refine LL.val (R.pick rfl rfl rfl) rfl rfl rfl ?_
    refine LL.val (R.pick rfl rfl rfl) rfl rfl rfl ?_
    refine LL.val (R.pick rfl rfl rfl) rfl rfl rfl ?_
    refine LL.nilS ?_
    refine CC.no rfl ?_
    refine CC.skip ?_
    refine EE.thenN ?_
    refine CC.seq ?_
    refine CC.seq ?_
    refine CC.region ?_
    refine LL.val (R.move rfl rfl) rfl rfl rfl ?_
    refine LL.val (R.move rfl rfl) rfl rfl rfl ?_
    refine LL.skip rfl rfl ?_
    refine LL.skip rfl rfl ?_
    refine LL.skip rfl rfl ?_
    refine LL.skip rfl rfl ?_
    refine LL.skip rfl rfl ?_
    refine LL.val (R.pick rfl rfl rfl) rfl rfl rfl ?_
    refine LL.val (R.move rfl rfl) rfl rfl rfl ?_
    refine LL.val (R.move rfl rfl) rfl rfl rfl ?_
    refine LL.val (R.move rfl rfl) rfl rfl rfl ?_
    refine LL.skip rfl rfl ?_
    refine LL.skip rfl rfl ?_
    refine LL.skip rfl rfl ?_
    refine LL.skip rfl rfl ?_
    refine LL.skip rfl rfl ?_
    refine LL.skip rfl rfl ?_
    refine LL.skip rfl rfl ?_
    refine LL.skip rfl rfl ?_
    refine LL.skip rfl rfl ?_
    refine LL.val (R.pick rfl rfl rfl) rfl rfl rfl ?_
    refine LL.val (R.pick rfl rfl rfl) rfl rfl rfl ?_
    refine LL.val (R.move rfl rfl) rfl rfl rfl ?_
    refine LL.val (R.move rfl rfl) rfl rfl rfl ?_
    refine LL.val (R.move rfl rfl) rfl rfl rfl ?_
    refine LL.skip rfl rfl ?_
    refine LL.skip rfl rfl ?_
    refine LL.skip rfl rfl ?_
    refine LL.skip rfl rfl ?_
    refine LL.skip rfl rfl ?_
    refine LL.skip rfl rfl ?_
    refine LL.skip rfl rfl ?_
    refine LL.skip rfl rfl ?_
    refine LL.skip rfl rfl ?_
    refine LL.val (R.pick rfl rfl rfl) rfl rfl rfl ?_
    refine LL.val (R.pick rfl rfl rfl) rfl rfl rfl ?_
    refine LL.nilS ?_
    refine CC.no rfl ?_
    refine CC.skip ?_
    refine EE.thenN ?_
    refine CC.seq ?_
    refine CC.region ?_
    refine LL.call (R.call rfl rfl rfl) rfl rfl rfl (works_any _) ?_
    rintro e Wh36 ⟨rfl, bh35⟩
    refine ⟨_, rfl, ?_⟩
    have zbh35 := bh35.size
    replace bh31 := bh31.trans (bh35.mono bh31.size)
    replace bh29 := bh29.trans (bh35.mono bh29.size)
    replace bh27 := bh27.trans (bh35.mono bh27.size)
    replace bh25 := bh25.trans (bh35.mono bh25.size)
    replace bh16 := bh16.trans (bh35.mono bh16.size)
    replace bh12 := bh12.trans (bh35.mono bh12.size)
    replace rh10 := rh10.up bh35
    replace bh7 := bh7.trans (bh35.mono bh7.size)
    replace rh4 := rh4.up bh35
    replace bh1 := bh1.trans (bh35.mono bh1.size)
    replace q := q.trans (bh35.mono q.size)
    replace rh19 := rh19.up bh35
    refine LL.val (R.assign rfl rfl) rfl rfl rfl ?_
    refine LL.nilS ?_
    refine CC.ret ?_
    refine EE.ret _ rfl rfl ?_
    exact ⟨rfl, q⟩
    refine SS.val (R.move rfl rfl) rfl rfl ?_
    refine SS.skip rfl rfl ?_
    refine SS.skip rfl rfl ?_
    refine SS.val (R.pick rfl rfl rfl) rfl rfl ?_
    refine SS.val (R.move rfl rfl) rfl rfl ?_
    refine SS.val (R.geF rfl rfl rfl (by omega)) rfl rfl ?_
    refine SS.val (R.move rfl rfl) rfl rfl ?_
    refine SS.skip rfl rfl ?_
    refine SS.skip rfl rfl ?_
    refine SS.skip rfl rfl ?_
    refine SS.skip rfl rfl ?_
    refine SS.val (R.pick rfl rfl rfl) rfl rfl ?_
    refine SS.val (R.move rfl rfl) rfl rfl ?_
    refine SS.val (R.geF rfl rfl rfl (by omega)) rfl rfl ?_
    refine SS.val (R.move rfl rfl) rfl rfl ?_
    refine SS.skip rfl rfl ?_
    refine SS.skip rfl rfl ?_
    refine SS.skip rfl rfl ?_
    refine SS.skip rfl rfl ?_
    refine SS.val (R.pick rfl rfl rfl) rfl rfl ?_
    refine SS.val (R.assign rfl rfl) rfl rfl ?_
    refine SS.val (R.assign rfl rfl) rfl rfl ?_
    refine SS.val (R.assign rfl rfl) rfl rfl ?_
    refine SS.nilQ ?_
    refine EE.thenN ?_
    refine CC.seq ?_
    refine CC.seq ?_
    refine CC.region ?_
    refine LL.val (R.move rfl rfl) rfl rfl rfl ?_
    refine LL.val (R.move rfl rfl) rfl rfl rfl ?_
    refine LL.call (R.call rfl rfl rfl) rfl rfl rfl (num_any _ _) ?_
    rintro e W' ⟨rfl, rfl⟩
    refine ⟨_, rfl, ?_⟩
    refine LL.val (R.eqF rfl rfl rfl (by omega)) rfl rfl rfl ?_
    refine LL.val (R.neBool rfl rfl rfl rfl rfl) rfl rfl rfl ?_
    refine LL.val (R.move rfl rfl) rfl rfl rfl ?_
    refine LL.val (R.move rfl rfl) rfl rfl rfl ?_
    refine LL.val (R.move rfl rfl) rfl rfl rfl ?_
    refine LL.call (R.call rfl rfl rfl) rfl rfl rfl (num_any _ _) ?_
    rintro e W' ⟨rfl, rfl⟩
    refine ⟨_, rfl, ?_⟩
    refine LL.val (R.eqF rfl rfl rfl (by omega)) rfl rfl rfl ?_
    refine LL.val (R.neBool rfl rfl rfl rfl rfl) rfl rfl rfl ?_
    refine LL.val (R.pick rfl rfl rfl) rfl rfl rfl ?_
    refine LL.val (R.move rfl rfl) rfl rfl rfl ?_
    refine LL.val (R.move rfl rfl) rfl rfl rfl ?_
    refine LL.val (R.move rfl rfl) rfl rfl rfl ?_
    refine LL.call (R.call rfl rfl rfl) rfl rfl rfl (num_any _ _) ?_
    rintro e W' ⟨rfl, rfl⟩
    refine ⟨_, rfl, ?_⟩
    refine LL.val (R.eqF rfl rfl rfl (by omega)) rfl rfl rfl ?_
    refine LL.val (R.neBool rfl rfl rfl rfl rfl) rfl rfl rfl ?_
    refine LL.val (R.pick rfl rfl rfl) rfl rfl rfl ?_
    refine LL.nilS ?_
    refine CC.no rfl ?_
    refine CC.skip ?_
    refine EE.thenN ?_
    refine CC.seq ?_
    refine CC.seq ?_
    refine CC.region ?_
    refine LL.val (R.move rfl rfl) rfl rfl rfl ?_
    refine LL.val (R.not rfl rfl) rfl rfl rfl ?_
    refine LL.val (R.move rfl rfl) rfl rfl rfl ?_
    refine LL.val (R.move rfl rfl) rfl rfl rfl ?_
    refine LL.val (R.neF rfl rfl rfl (by omega)) rfl rfl rfl ?_
    refine LL.val (R.move rfl rfl) rfl rfl rfl ?_
    refine LL.val (R.move rfl rfl) rfl rfl rfl ?_
    refine LL.call (R.call rfl rfl rfl) rfl rfl rfl (num_any _ _) ?_
    rintro e W' ⟨rfl, rfl⟩
    refine ⟨_, rfl, ?_⟩
    refine LL.val (R.neF rfl rfl rfl (by omega)) rfl rfl rfl ?_
    refine LL.val (R.pick rfl rfl rfl) rfl rfl rfl ?_
    refine LL.val (R.pick rfl rfl rfl) rfl rfl rfl ?_
    refine LL.val (R.move rfl rfl) rfl rfl rfl ?_
    refine LL.val (R.move rfl rfl) rfl rfl rfl ?_
    refine LL.val (R.not rfl rfl) rfl rfl rfl ?_
    refine LL.val (R.move rfl rfl) rfl rfl rfl ?_
    refine LL.val (R.move rfl rfl) rfl rfl rfl ?_
    refine LL.val (R.neF rfl rfl rfl (by omega)) rfl rfl rfl ?_
    refine LL.val (R.move rfl rfl) rfl rfl rfl ?_
    refine LL.val (R.move rfl rfl) rfl rfl rfl ?_
    refine LL.call (R.call rfl rfl rfl) rfl rfl rfl (num_any _ _) ?_
    rintro e W' ⟨rfl, rfl⟩
    refine ⟨_, rfl, ?_⟩
    refine LL.val (R.neF rfl rfl rfl (by omega)) rfl rfl rfl ?_
    refine LL.val (R.pick rfl rfl rfl) rfl rfl rfl ?_
    refine LL.val (R.pick rfl rfl rfl) rfl rfl rfl ?_
    refine LL.val (R.pick rfl rfl rfl) rfl rfl rfl ?_
    refine LL.val (R.move rfl rfl) rfl rfl rfl ?_
    refine LL.val (R.move rfl rfl) rfl rfl rfl ?_
    refine LL.val (R.not rfl rfl) rfl rfl rfl ?_
    refine LL.val (R.move rfl rfl) rfl rfl rfl ?_
    refine LL.val (R.move rfl rfl) rfl rfl rfl ?_
    refine LL.val (R.neF rfl rfl rfl (by omega)) rfl rfl rfl ?_
    refine LL.val (R.move rfl rfl) rfl rfl rfl ?_
    refine LL.val (R.move rfl rfl) rfl rfl rfl ?_
    refine LL.call (R.call rfl rfl rfl) rfl rfl rfl (num_any _ _) ?_
    rintro e W' ⟨rfl, rfl⟩
    refine ⟨_, rfl, ?_⟩
    refine LL.val (R.neF rfl rfl rfl (by omega)) rfl rfl rfl ?_
    refine LL.val (R.pick rfl rfl rfl) rfl rfl rfl ?_
    refine LL.val (R.pick rfl rfl rfl) rfl rfl rfl ?_
    refine LL.val (R.pick rfl rfl rfl) rfl rfl rfl ?_
    refine LL.nilS ?_
    refine CC.no rfl ?_
    refine CC.skip ?_
    refine EE.thenN ?_
    refine CC.seq ?_
    refine CC.seq ?_
    refine CC.region ?_
    refine LL.val (R.move rfl rfl) rfl rfl rfl ?_
    refine LL.val (R.move rfl rfl) rfl rfl rfl ?_
    refine LL.skip rfl rfl ?_
    refine LL.skip rfl rfl ?_
    refine LL.skip rfl rfl ?_
    refine LL.skip rfl rfl ?_
    refine LL.skip rfl rfl ?_
    refine LL.val (R.pick rfl rfl rfl) rfl rfl rfl ?_
    refine LL.val (R.move rfl rfl) rfl rfl rfl ?_
    refine LL.val (R.move rfl rfl) rfl rfl rfl ?_
    refine LL.val (R.move rfl rfl) rfl rfl rfl ?_
    refine LL.skip rfl rfl ?_
    refine LL.skip rfl rfl ?_
    refine LL.skip rfl rfl ?_
    refine LL.skip rfl rfl ?_
    refine LL.skip rfl rfl ?_
    refine LL.skip rfl rfl ?_
    refine LL.skip rfl rfl ?_
    refine LL.skip rfl rfl ?_
    refine LL.skip rfl rfl ?_
    refine LL.val (R.pick rfl rfl rfl) rfl rfl rfl ?_
    refine LL.val (R.pick rfl rfl rfl) rfl rfl rfl ?_
    refine LL.val (R.move rfl rfl) rfl rfl rfl ?_
    refine LL.val (R.move rfl rfl) rfl rfl rfl ?_
    refine LL.val (R.move rfl rfl) rfl rfl rfl ?_
    refine LL.skip rfl rfl ?_
    refine LL.skip rfl rfl ?_
    refine LL.skip rfl rfl ?_
    refine LL.skip rfl rfl ?_
    refine LL.skip rfl rfl ?_
    refine LL.skip rfl rfl ?_
    refine LL.skip rfl rfl ?_
    refine LL.skip rfl rfl ?_
    refine LL.skip rfl rfl ?_
    refine LL.val (R.pick rfl rfl rfl) rfl rfl rfl ?_
    refine LL.val (R.pick rfl rfl rfl) rfl rfl rfl ?_
    refine LL.nilS ?_
    refine CC.no rfl ?_
    refine CC.skip ?_
    refine EE.thenN ?_
    refine CC.seq ?_
    refine CC.region ?_
    refine LL.call (R.call rfl rfl rfl) rfl rfl rfl (works_any _) ?_
    rintro e Wh38 ⟨rfl, bh37⟩
    refine ⟨_, rfl, ?_⟩
    have zbh37 := bh37.size
    replace bh31 := bh31.trans (bh37.mono bh31.size)
    replace bh29 := bh29.trans (bh37.mono bh29.size)
    replace bh27 := bh27.trans (bh37.mono bh27.size)
    replace bh25 := bh25.trans (bh37.mono bh25.size)
    replace bh16 := bh16.trans (bh37.mono bh16.size)
    replace bh12 := bh12.trans (bh37.mono bh12.size)
    replace rh10 := rh10.up bh37
    replace bh7 := bh7.trans (bh37.mono bh7.size)
    replace rh4 := rh4.up bh37
    replace bh1 := bh1.trans (bh37.mono bh1.size)
    replace q := q.trans (bh37.mono q.size)
    replace rh19 := rh19.up bh37
    refine LL.val (R.assign rfl rfl) rfl rfl rfl ?_
    refine LL.nilS ?_
    refine CC.ret ?_
    refine EE.ret _ rfl rfl ?_
    exact ⟨rfl, q⟩
end Go.Proofs.Ythdgnogpjpoklaa
