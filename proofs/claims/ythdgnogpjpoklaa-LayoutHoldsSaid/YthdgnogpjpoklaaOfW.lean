/- LayoutOf: the walk. -/
import Derived.Test.YthdgnogpjpoklaaSupersW
namespace Go.Proofs.Ythdgnogpjpoklaa
set_option linter.unusedVariables false
set_option linter.unusedSimpArgs false
open Go.RowKit Go.Shelf
def notF (b i r t : Int) : Prop := ¬okF b i r t
set_option maxRecDepth 100000 in
set_option maxHeartbeats 8000000 in
theorem ofl_F (b i r t : Int) (k1 k2 : Nat) (w : World) (hok : notF b i r t) : Calls Try.prog 3 #[formV b i r t, keyV k1 k2] w fun x w' => x = .returned (.bool true) ∧ Below w.heap.size w w' := by
  have q := Below.refl w.heap.size w
  refine X.fn Try.func3 rfl (n := 62) rfl rfl ?_
  refine CC.seq ?_
  refine CC.region ?_
  refine LL.box [Value.int IntKind.i64 b, Value.int IntKind.i64 i, Value.int IntKind.i64 r, Value.int IntKind.i64 t] rfl rfl rfl rfl rfl ?_
  intro W2 g3 eg3 r4 z5 b1
  replace q := q.trans (b1.mono q.size)
  have l6 := r4.lt
  refine LL.box [Value.int IntKind.u64 ↑k1, Value.int IntKind.u64 ↑k2] rfl rfl rfl rfl rfl ?_
  intro W8 g9 eg9 r10 z11 b7
  replace r4 := r4.up b7
  replace b1 := b1.trans (b7.mono b1.size)
  replace q := q.trans (b7.mono q.size)
  refine LL.val (R.assign rfl rfl) rfl rfl rfl ?_
  refine LL.nilS ?_
  refine CC.seq ?_
  refine CC.region ?_
  refine LL.val (R.load rfl rfl (I.ldNc (vs := [Value.int IntKind.i64 b, Value.int IntKind.i64 i, Value.int IntKind.i64 r, Value.int IntKind.i64 t]) (RowL.cells r4 rfl) (by rfl) (by rfl))) rfl rfl rfl ?_
  refine LL.val (R.load rfl rfl (I.ldNc (vs := [Value.int IntKind.u64 ↑k1, Value.int IntKind.u64 ↑k2]) (RowL.cells r10 rfl) (by rfl) (by rfl))) rfl rfl rfl ?_
  refine LL.call (R.call rfl rfl rfl) rfl rfl rfl (of_F _ _ _ _ _ _ _ (by first | assumption | omega)) ?_
  rintro e W13 ⟨rfl, b12⟩
  refine ⟨_, rfl, ?_⟩
  have zb12 := b12.size
  replace r10 := r10.up b12
  replace b7 := b7.trans (b12.mono b7.size)
  replace r4 := r4.up b12
  replace b1 := b1.trans (b12.mono b1.size)
  replace q := q.trans (b12.mono q.size)
  refine LL.val (R.move rfl rfl) rfl rfl rfl ?_
  refine LL.val (R.extract rfl rfl rfl) rfl rfl rfl ?_
  refine LL.val (R.extract rfl rfl rfl) rfl rfl rfl ?_
  have l14 := r10.lt
  have l15 := r4.lt
  refine LL.alloc ([Value.int IntKind.i64 0, Value.int IntKind.i64 0, Value.int IntKind.i64 0, Value.int IntKind.i64 0, Value.int IntKind.u64 0, Value.int IntKind.u64 0, Value.int IntKind.i64 0, Value.int IntKind.i64 0, Value.int IntKind.i64 0, Value.int IntKind.i64 0]) rfl rfl rfl rfl rfl ?_
  intro W17 g18 eg18 r19 z20 b16
  replace b12 := b12.trans (b16.mono b12.size)
  replace r10 := r10.up b16
  replace b7 := b7.trans (b16.mono b7.size)
  replace r4 := r4.up b16
  replace b1 := b1.trans (b16.mono b1.size)
  replace q := q.trans (b16.mono q.size)
  refine LL.storeN (vs := [Value.int IntKind.i64 0, Value.int IntKind.i64 0, Value.int IntKind.i64 0, Value.int IntKind.i64 0, Value.int IntKind.u64 ↑0, Value.int IntKind.u64 ↑0, Value.int IntKind.i64 0, Value.int IntKind.i64 0, Value.int IntKind.i64 0, Value.int IntKind.i64 0]) rfl rfl rfl rfl r19 (by exact Nat.le_of_ble_eq_true rfl) (ones_of rfl) rfl rfl ?_
  intro W22 r23 b21 z24
  have hlb21 := r19.lt
  replace r23 : RowL W22 _ 27 [Value.int IntKind.i64 0, Value.int IntKind.i64 0, Value.int IntKind.i64 0, Value.int IntKind.i64 0, Value.int IntKind.u64 ↑0, Value.int IntKind.u64 ↑0, Value.int IntKind.i64 0, Value.int IntKind.i64 0, Value.int IntKind.i64 0, Value.int IntKind.i64 0] := r23
  clear r19
  replace b16 := b16.grown b21 b16.size (by rintro k ⟨⟩; omega)
  replace b12 := b12.grown b21 b12.size (by rintro k ⟨⟩; omega)
  replace r10 := r10.gr b21 (by have := r10.lt; omega)
  replace b7 := b7.grown b21 b7.size (by rintro k ⟨⟩; omega)
  replace r4 := r4.gr b21 (by have := r4.lt; omega)
  replace b1 := b1.grown b21 b1.size (by rintro k ⟨⟩; omega)
  replace q := q.grown b21 q.size (by rintro k ⟨⟩; omega)
  have r19 := r23
  clear r23
  refine LL.val (R.assign rfl rfl) rfl rfl rfl ?_
  refine LL.nilS ?_
  refine CC.seq ?_
  refine CC.region ?_
  refine LL.val (R.load rfl rfl (I.ldNc (vs := [Value.int IntKind.i64 b, Value.int IntKind.i64 i, Value.int IntKind.i64 r, Value.int IntKind.i64 t]) (RowL.cells r4 rfl) (by rfl) (by rfl))) rfl rfl rfl ?_
  refine LL.val (R.load rfl rfl (I.ldNc (vs := [Value.int IntKind.u64 ↑k1, Value.int IntKind.u64 ↑k2]) (RowL.cells r10 rfl) (by rfl) (by rfl))) rfl rfl rfl ?_
  refine LL.call (R.call rfl rfl rfl) rfl rfl rfl (rof_F _ _ _ _ _ _ _ (by first | assumption | omega)) ?_
  rintro e W26 ⟨rfl, b25⟩
  refine ⟨_, rfl, ?_⟩
  have zb25 := b25.size
  replace b16 := b16.trans (b25.mono b16.size)
  replace b12 := b12.trans (b25.mono b12.size)
  replace r10 := r10.up b25
  replace b7 := b7.trans (b25.mono b7.size)
  replace r4 := r4.up b25
  replace b1 := b1.trans (b25.mono b1.size)
  replace q := q.trans (b25.mono q.size)
  replace r19 := r19.up b25
  refine LL.val (R.move rfl rfl) rfl rfl rfl ?_
  refine LL.val (R.extract rfl rfl rfl) rfl rfl rfl ?_
  refine LL.val (R.extract rfl rfl rfl) rfl rfl rfl ?_
  have l27 := r10.lt
  have l28 := r4.lt
  have l29 := r19.lt
  refine LL.alloc ([Value.int IntKind.i64 0, Value.int IntKind.i64 0, Value.int IntKind.i64 0, Value.int IntKind.i64 0, Value.int IntKind.u64 0, Value.int IntKind.u64 0, Value.int IntKind.i64 0, Value.int IntKind.i64 0, Value.int IntKind.i64 0, Value.int IntKind.i64 0]) rfl rfl rfl rfl rfl ?_
  intro W31 g32 eg32 r33 z34 b30
  replace b25 := b25.trans (b30.mono b25.size)
  replace b16 := b16.trans (b30.mono b16.size)
  replace b12 := b12.trans (b30.mono b12.size)
  replace r10 := r10.up b30
  replace b7 := b7.trans (b30.mono b7.size)
  replace r4 := r4.up b30
  replace b1 := b1.trans (b30.mono b1.size)
  replace q := q.trans (b30.mono q.size)
  replace r19 := r19.up b30
  refine LL.storeN (vs := [Value.int IntKind.i64 0, Value.int IntKind.i64 0, Value.int IntKind.i64 0, Value.int IntKind.i64 0, Value.int IntKind.u64 ↑0, Value.int IntKind.u64 ↑0, Value.int IntKind.i64 0, Value.int IntKind.i64 0, Value.int IntKind.i64 0, Value.int IntKind.i64 0]) rfl rfl rfl rfl r33 (by exact Nat.le_of_ble_eq_true rfl) (ones_of rfl) rfl rfl ?_
  intro W36 r37 b35 z38
  have hlb35 := r33.lt
  replace r37 : RowL W36 _ 27 [Value.int IntKind.i64 0, Value.int IntKind.i64 0, Value.int IntKind.i64 0, Value.int IntKind.i64 0, Value.int IntKind.u64 ↑0, Value.int IntKind.u64 ↑0, Value.int IntKind.i64 0, Value.int IntKind.i64 0, Value.int IntKind.i64 0, Value.int IntKind.i64 0] := r37
  clear r33
  replace b30 := b30.grown b35 b30.size (by rintro k ⟨⟩; omega)
  replace b25 := b25.grown b35 b25.size (by rintro k ⟨⟩; omega)
  replace b16 := b16.grown b35 b16.size (by rintro k ⟨⟩; omega)
  replace b12 := b12.grown b35 b12.size (by rintro k ⟨⟩; omega)
  replace r10 := r10.gr b35 (by have := r10.lt; omega)
  replace b7 := b7.grown b35 b7.size (by rintro k ⟨⟩; omega)
  replace r4 := r4.gr b35 (by have := r4.lt; omega)
  replace b1 := b1.grown b35 b1.size (by rintro k ⟨⟩; omega)
  replace q := q.grown b35 q.size (by rintro k ⟨⟩; omega)
  replace r19 := r19.gr b35 (by have := r19.lt; omega)
  have r33 := r37
  clear r37
  refine LL.val (R.assign rfl rfl) rfl rfl rfl ?_
  refine LL.nilS ?_
  refine CC.seq ?_
  refine CC.seq ?_
  refine CC.region ?_
  refine LL.val (R.load rfl rfl (I.ldNc (vs := [Value.int IntKind.i64 0, Value.int IntKind.i64 0, Value.int IntKind.i64 0, Value.int IntKind.i64 0, Value.int IntKind.u64 0, Value.int IntKind.u64 0, Value.int IntKind.i64 0, Value.int IntKind.i64 0, Value.int IntKind.i64 0, Value.int IntKind.i64 0]) (RowL.cells r19 rfl) (by rfl) (by rfl))) rfl rfl rfl ?_
  refine LL.val (R.load rfl rfl (I.ldNc (vs := [Value.int IntKind.i64 0, Value.int IntKind.i64 0, Value.int IntKind.i64 0, Value.int IntKind.i64 0, Value.int IntKind.u64 0, Value.int IntKind.u64 0, Value.int IntKind.i64 0, Value.int IntKind.i64 0, Value.int IntKind.i64 0, Value.int IntKind.i64 0]) (RowL.cells r33 rfl) (by rfl) (by rfl))) rfl rfl rfl ?_
  refine LL.val (R.neST (p := (0 : Int) = 0 ∧ (0 : Int) = 0 ∧ (0 : Int) = 0 ∧ (0 : Int) = 0 ∧ (0 : Int) = 0 ∧ (0 : Int) = 0 ∧ (0 : Int) = 0 ∧ (0 : Int) = 0 ∧ (0 : Int) = 0 ∧ (0 : Int) = 0) (bs := [decide ((0 : Int) = 0), decide ((0 : Int) = 0), decide ((0 : Int) = 0), decide ((0 : Int) = 0), decide ((0 : Int) = 0), decide ((0 : Int) = 0), decide ((0 : Int) = 0), decide ((0 : Int) = 0), decide ((0 : Int) = 0), decide ((0 : Int) = 0)]) rfl rfl rfl rfl (by kernel_rfl) (by kernel_rfl) (by simp) (by first | assumption | omega)) rfl rfl rfl ?_
  refine LL.val (R.move rfl rfl) rfl rfl rfl ?_
  refine LL.val (R.move rfl rfl) rfl rfl rfl ?_
  refine LL.call (R.call rfl rfl rfl) rfl rfl rfl (num_any _ _) ?_
  rintro e W' ⟨rfl, rfl⟩
  refine ⟨_, rfl, ?_⟩
  refine LL.val (R.move rfl rfl) rfl rfl rfl ?_
  refine LL.val (R.neF rfl rfl rfl (by omega)) rfl rfl rfl ?_
  refine LL.val (R.pick rfl rfl rfl) rfl rfl rfl ?_
  refine LL.nilS ?_
  refine CC.no rfl ?_
  refine CC.skip ?_
  refine EE.thenN ?_
  refine CC.seq ?_
  refine CC.region ?_
  refine LL.val (R.load rfl rfl (I.ldNc (vs := [Value.int IntKind.i64 0, Value.int IntKind.i64 0, Value.int IntKind.i64 0, Value.int IntKind.i64 0, Value.int IntKind.u64 0, Value.int IntKind.u64 0, Value.int IntKind.i64 0, Value.int IntKind.i64 0, Value.int IntKind.i64 0, Value.int IntKind.i64 0]) (RowL.cells r19 rfl) (by rfl) (by rfl))) rfl rfl rfl ?_
  refine LL.call (R.call rfl rfl rfl) rfl rfl rfl (super_bad _ _ _ _ _ _ _ _ _ _ _ (by first | assumption | omega)) ?_
  rintro e W40 ⟨rfl, b39⟩
  refine ⟨_, rfl, ?_⟩
  have zb39 := b39.size
  replace b30 := b30.trans (b39.mono b30.size)
  replace b25 := b25.trans (b39.mono b25.size)
  replace b16 := b16.trans (b39.mono b16.size)
  replace b12 := b12.trans (b39.mono b12.size)
  replace r10 := r10.up b39
  replace b7 := b7.trans (b39.mono b7.size)
  replace r4 := r4.up b39
  replace b1 := b1.trans (b39.mono b1.size)
  replace q := q.trans (b39.mono q.size)
  replace r19 := r19.up b39
  replace r33 := r33.up b39
  refine LL.val (R.move rfl rfl) rfl rfl rfl ?_
  refine LL.val (R.extract rfl rfl rfl) rfl rfl rfl ?_
  refine LL.val (R.extract rfl rfl rfl) rfl rfl rfl ?_
  refine LL.val (R.assign rfl rfl) rfl rfl rfl ?_
  refine LL.val (R.assign rfl rfl) rfl rfl rfl ?_
  refine LL.nilS ?_
  refine CC.seq ?_
  refine CC.seq ?_
  refine CC.region ?_
  refine LL.val (R.move rfl rfl) rfl rfl rfl ?_
  refine LL.val (R.neT rfl rfl rfl (by omega)) rfl rfl rfl ?_
  refine LL.nilS ?_
  refine CC.yes rfl ?_
  refine CC.seq ?_
  refine CC.region ?_
  refine LL.val (R.move rfl rfl) rfl rfl rfl ?_
  refine LL.val (R.len rfl rfl rfl rfl) rfl rfl rfl ?_
  refine LL.val (R.eqT rfl rfl rfl (by omega)) rfl rfl rfl ?_
  refine LL.val (R.move rfl rfl) rfl rfl rfl ?_
  refine LL.val (R.move rfl rfl) rfl rfl rfl ?_
  refine LL.call (R.call rfl rfl rfl) rfl rfl rfl (num_any _ _) ?_
  rintro e W' ⟨rfl, rfl⟩
  refine ⟨_, rfl, ?_⟩
  refine LL.val (R.eqT rfl rfl rfl (by omega)) rfl rfl rfl ?_
  refine LL.val (R.pick rfl rfl rfl) rfl rfl rfl ?_
  refine LL.val (R.move rfl rfl) rfl rfl rfl ?_
  refine LL.call (R.call rfl rfl rfl) rfl rfl rfl (works_any _) ?_
  rintro e W42 ⟨rfl, b41⟩
  refine ⟨_, rfl, ?_⟩
  have zb41 := b41.size
  replace b39 := b39.trans (b41.mono b39.size)
  replace b30 := b30.trans (b41.mono b30.size)
  replace b25 := b25.trans (b41.mono b25.size)
  replace b16 := b16.trans (b41.mono b16.size)
  replace b12 := b12.trans (b41.mono b12.size)
  replace r10 := r10.up b41
  replace b7 := b7.trans (b41.mono b7.size)
  replace r4 := r4.up b41
  replace b1 := b1.trans (b41.mono b1.size)
  replace q := q.trans (b41.mono q.size)
  replace r19 := r19.up b41
  replace r33 := r33.up b41
  refine LL.val (R.pick rfl rfl rfl) rfl rfl rfl ?_
  refine LL.val (R.assign rfl rfl) rfl rfl rfl ?_
  refine LL.nilS ?_
  refine CC.ret ?_
  refine EE.thenR ?_
  refine EE.ret _ rfl rfl ?_
  exact ⟨rfl, q⟩
set_option maxRecDepth 100000 in
set_option maxHeartbeats 8000000 in
theorem ofl_T (b i r t k1 k2 : Nat) (w : World) (hk : k1 < 18446744073709551616 ∧ k2 < 18446744073709551616) (hok : okF b i r t) : Calls Try.prog 3 #[formV b i r t, keyV k1 k2] w fun x w' => x = .returned (.bool true) ∧ Below w.heap.size w w' := by
  have q := Below.refl w.heap.size w
  have hlen := supL_len b i r t k1 k2
  refine X.fn Try.func3 rfl (n := 62) rfl rfl ?_
  refine CC.seq ?_
  refine CC.region ?_
  refine LL.box [Value.int IntKind.i64 ↑b, Value.int IntKind.i64 ↑i, Value.int IntKind.i64 ↑r, Value.int IntKind.i64 ↑t] rfl rfl rfl rfl rfl ?_
  intro W2 g3 eg3 r4 z5 b1
  replace q := q.trans (b1.mono q.size)
  have l6 := r4.lt
  refine LL.box [Value.int IntKind.u64 ↑k1, Value.int IntKind.u64 ↑k2] rfl rfl rfl rfl rfl ?_
  intro W8 g9 eg9 r10 z11 b7
  replace r4 := r4.up b7
  replace b1 := b1.trans (b7.mono b1.size)
  replace q := q.trans (b7.mono q.size)
  refine LL.val (R.assign rfl rfl) rfl rfl rfl ?_
  refine LL.nilS ?_
  refine CC.seq ?_
  refine CC.region ?_
  refine LL.val (R.load rfl rfl (I.ldNc (vs := [Value.int IntKind.i64 ↑b, Value.int IntKind.i64 ↑i, Value.int IntKind.i64 ↑r, Value.int IntKind.i64 ↑t]) (RowL.cells r4 rfl) (by rfl) (by rfl))) rfl rfl rfl ?_
  refine LL.val (R.load rfl rfl (I.ldNc (vs := [Value.int IntKind.u64 ↑k1, Value.int IntKind.u64 ↑k2]) (RowL.cells r10 rfl) (by rfl) (by rfl))) rfl rfl rfl ?_
  refine LL.call (R.call rfl rfl rfl) rfl rfl rfl (of_T _ _ _ _ _ _ _ (by first | assumption | omega)) ?_
  rintro e W13 ⟨rfl, b12⟩
  refine ⟨_, rfl, ?_⟩
  have zb12 := b12.size
  replace r10 := r10.up b12
  replace b7 := b7.trans (b12.mono b7.size)
  replace r4 := r4.up b12
  replace b1 := b1.trans (b12.mono b1.size)
  replace q := q.trans (b12.mono q.size)
  refine LL.val (R.move rfl rfl) rfl rfl rfl ?_
  refine LL.val (R.extract rfl rfl rfl) rfl rfl rfl ?_
  refine LL.val (R.extract rfl rfl rfl) rfl rfl rfl ?_
  have l14 := r10.lt
  have l15 := r4.lt
  refine LL.alloc ([Value.int IntKind.i64 0, Value.int IntKind.i64 0, Value.int IntKind.i64 0, Value.int IntKind.i64 0, Value.int IntKind.u64 0, Value.int IntKind.u64 0, Value.int IntKind.i64 0, Value.int IntKind.i64 0, Value.int IntKind.i64 0, Value.int IntKind.i64 0]) rfl rfl rfl rfl rfl ?_
  intro W17 g18 eg18 r19 z20 b16
  replace b12 := b12.trans (b16.mono b12.size)
  replace r10 := r10.up b16
  replace b7 := b7.trans (b16.mono b7.size)
  replace r4 := r4.up b16
  replace b1 := b1.trans (b16.mono b1.size)
  replace q := q.trans (b16.mono q.size)
  refine LL.storeN (vs := [Value.int IntKind.i64 ↑b, Value.int IntKind.i64 ↑i, Value.int IntKind.i64 ↑r, Value.int IntKind.i64 ↑t, Value.int IntKind.u64 ↑k1, Value.int IntKind.u64 ↑k2, Value.int IntKind.i64 9, Value.int IntKind.i64 (9 + ↑i / 4), Value.int IntKind.i64 (9 + ↑i / 4 + ↑r / 4), Value.int IntKind.i64 (10 + ↑i / 4 + ↑r / 4)]) rfl rfl rfl rfl r19 (by exact Nat.le_of_ble_eq_true rfl) (ones_of rfl) rfl rfl ?_
  intro W22 r23 b21 z24
  have hlb21 := r19.lt
  replace r23 : RowL W22 _ 27 [Value.int IntKind.i64 ↑b, Value.int IntKind.i64 ↑i, Value.int IntKind.i64 ↑r, Value.int IntKind.i64 ↑t, Value.int IntKind.u64 ↑k1, Value.int IntKind.u64 ↑k2, Value.int IntKind.i64 9, Value.int IntKind.i64 (9 + ↑i / 4), Value.int IntKind.i64 (9 + ↑i / 4 + ↑r / 4), Value.int IntKind.i64 (10 + ↑i / 4 + ↑r / 4)] := r23
  clear r19
  replace b16 := b16.grown b21 b16.size (by rintro k ⟨⟩; omega)
  replace b12 := b12.grown b21 b12.size (by rintro k ⟨⟩; omega)
  replace r10 := r10.gr b21 (by have := r10.lt; omega)
  replace b7 := b7.grown b21 b7.size (by rintro k ⟨⟩; omega)
  replace r4 := r4.gr b21 (by have := r4.lt; omega)
  replace b1 := b1.grown b21 b1.size (by rintro k ⟨⟩; omega)
  replace q := q.grown b21 q.size (by rintro k ⟨⟩; omega)
  have r19 := r23
  clear r23
  refine LL.val (R.assign rfl rfl) rfl rfl rfl ?_
  refine LL.nilS ?_
  refine CC.seq ?_
  refine CC.region ?_
  refine LL.val (R.load rfl rfl (I.ldNc (vs := [Value.int IntKind.i64 ↑b, Value.int IntKind.i64 ↑i, Value.int IntKind.i64 ↑r, Value.int IntKind.i64 ↑t]) (RowL.cells r4 rfl) (by rfl) (by rfl))) rfl rfl rfl ?_
  refine LL.val (R.load rfl rfl (I.ldNc (vs := [Value.int IntKind.u64 ↑k1, Value.int IntKind.u64 ↑k2]) (RowL.cells r10 rfl) (by rfl) (by rfl))) rfl rfl rfl ?_
  refine LL.call (R.call rfl rfl rfl) rfl rfl rfl (rof_T _ _ _ _ _ _ _ (by first | assumption | omega)) ?_
  rintro e W26 ⟨rfl, b25⟩
  refine ⟨_, rfl, ?_⟩
  have zb25 := b25.size
  replace b16 := b16.trans (b25.mono b16.size)
  replace b12 := b12.trans (b25.mono b12.size)
  replace r10 := r10.up b25
  replace b7 := b7.trans (b25.mono b7.size)
  replace r4 := r4.up b25
  replace b1 := b1.trans (b25.mono b1.size)
  replace q := q.trans (b25.mono q.size)
  replace r19 := r19.up b25
  refine LL.val (R.move rfl rfl) rfl rfl rfl ?_
  refine LL.val (R.extract rfl rfl rfl) rfl rfl rfl ?_
  refine LL.val (R.extract rfl rfl rfl) rfl rfl rfl ?_
  have l27 := r10.lt
  have l28 := r4.lt
  have l29 := r19.lt
  refine LL.alloc ([Value.int IntKind.i64 0, Value.int IntKind.i64 0, Value.int IntKind.i64 0, Value.int IntKind.i64 0, Value.int IntKind.u64 0, Value.int IntKind.u64 0, Value.int IntKind.i64 0, Value.int IntKind.i64 0, Value.int IntKind.i64 0, Value.int IntKind.i64 0]) rfl rfl rfl rfl rfl ?_
  intro W31 g32 eg32 r33 z34 b30
  replace b25 := b25.trans (b30.mono b25.size)
  replace b16 := b16.trans (b30.mono b16.size)
  replace b12 := b12.trans (b30.mono b12.size)
  replace r10 := r10.up b30
  replace b7 := b7.trans (b30.mono b7.size)
  replace r4 := r4.up b30
  replace b1 := b1.trans (b30.mono b1.size)
  replace q := q.trans (b30.mono q.size)
  replace r19 := r19.up b30
  refine LL.storeN (vs := [Value.int IntKind.i64 ↑b, Value.int IntKind.i64 ↑i, Value.int IntKind.i64 ↑r, Value.int IntKind.i64 ↑t, Value.int IntKind.u64 ↑k1, Value.int IntKind.u64 ↑k2, Value.int IntKind.i64 9, Value.int IntKind.i64 (9 + ↑i / 4), Value.int IntKind.i64 (9 + ↑i / 4 + ↑r / 4), Value.int IntKind.i64 (10 + ↑i / 4 + ↑r / 4)]) rfl rfl rfl rfl r33 (by exact Nat.le_of_ble_eq_true rfl) (ones_of rfl) rfl rfl ?_
  intro W36 r37 b35 z38
  have hlb35 := r33.lt
  replace r37 : RowL W36 _ 27 [Value.int IntKind.i64 ↑b, Value.int IntKind.i64 ↑i, Value.int IntKind.i64 ↑r, Value.int IntKind.i64 ↑t, Value.int IntKind.u64 ↑k1, Value.int IntKind.u64 ↑k2, Value.int IntKind.i64 9, Value.int IntKind.i64 (9 + ↑i / 4), Value.int IntKind.i64 (9 + ↑i / 4 + ↑r / 4), Value.int IntKind.i64 (10 + ↑i / 4 + ↑r / 4)] := r37
  clear r33
  replace b30 := b30.grown b35 b30.size (by rintro k ⟨⟩; omega)
  replace b25 := b25.grown b35 b25.size (by rintro k ⟨⟩; omega)
  replace b16 := b16.grown b35 b16.size (by rintro k ⟨⟩; omega)
  replace b12 := b12.grown b35 b12.size (by rintro k ⟨⟩; omega)
  replace r10 := r10.gr b35 (by have := r10.lt; omega)
  replace b7 := b7.grown b35 b7.size (by rintro k ⟨⟩; omega)
  replace r4 := r4.gr b35 (by have := r4.lt; omega)
  replace b1 := b1.grown b35 b1.size (by rintro k ⟨⟩; omega)
  replace q := q.grown b35 q.size (by rintro k ⟨⟩; omega)
  replace r19 := r19.gr b35 (by have := r19.lt; omega)
  have r33 := r37
  clear r37
  refine LL.val (R.assign rfl rfl) rfl rfl rfl ?_
  refine LL.nilS ?_
  refine CC.seq ?_
  refine CC.seq ?_
  refine CC.region ?_
  refine LL.val (R.load rfl rfl (I.ldNc (vs := [Value.int IntKind.i64 ↑b, Value.int IntKind.i64 ↑i, Value.int IntKind.i64 ↑r, Value.int IntKind.i64 ↑t, Value.int IntKind.u64 ↑k1, Value.int IntKind.u64 ↑k2, Value.int IntKind.i64 9, Value.int IntKind.i64 (9 + ↑i / 4), Value.int IntKind.i64 (9 + ↑i / 4 + ↑r / 4), Value.int IntKind.i64 (10 + ↑i / 4 + ↑r / 4)]) (RowL.cells r19 rfl) (by rfl) (by rfl))) rfl rfl rfl ?_
  refine LL.val (R.load rfl rfl (I.ldNc (vs := [Value.int IntKind.i64 ↑b, Value.int IntKind.i64 ↑i, Value.int IntKind.i64 ↑r, Value.int IntKind.i64 ↑t, Value.int IntKind.u64 ↑k1, Value.int IntKind.u64 ↑k2, Value.int IntKind.i64 9, Value.int IntKind.i64 (9 + ↑i / 4), Value.int IntKind.i64 (9 + ↑i / 4 + ↑r / 4), Value.int IntKind.i64 (10 + ↑i / 4 + ↑r / 4)]) (RowL.cells r33 rfl) (by rfl) (by rfl))) rfl rfl rfl ?_
  refine LL.val (R.neST (p := (↑b : Int) = ↑b ∧ (↑i : Int) = ↑i ∧ (↑r : Int) = ↑r ∧ (↑t : Int) = ↑t ∧ (↑k1 : Int) = ↑k1 ∧ (↑k2 : Int) = ↑k2 ∧ (9 : Int) = 9 ∧ (9 + ↑i / 4 : Int) = 9 + ↑i / 4 ∧ (9 + ↑i / 4 + ↑r / 4 : Int) = 9 + ↑i / 4 + ↑r / 4 ∧ (10 + ↑i / 4 + ↑r / 4 : Int) = 10 + ↑i / 4 + ↑r / 4) (bs := [decide ((↑b : Int) = ↑b), decide ((↑i : Int) = ↑i), decide ((↑r : Int) = ↑r), decide ((↑t : Int) = ↑t), decide ((↑k1 : Int) = ↑k1), decide ((↑k2 : Int) = ↑k2), decide ((9 : Int) = 9), decide ((9 + ↑i / 4 : Int) = 9 + ↑i / 4), decide ((9 + ↑i / 4 + ↑r / 4 : Int) = 9 + ↑i / 4 + ↑r / 4), decide ((10 + ↑i / 4 + ↑r / 4 : Int) = 10 + ↑i / 4 + ↑r / 4)]) rfl rfl rfl rfl (by kernel_rfl) (by kernel_rfl) (by simp) (by first | assumption | omega)) rfl rfl rfl ?_
  refine LL.val (R.move rfl rfl) rfl rfl rfl ?_
  refine LL.val (R.move rfl rfl) rfl rfl rfl ?_
  refine LL.call (R.call rfl rfl rfl) rfl rfl rfl (num_any _ _) ?_
  rintro e W' ⟨rfl, rfl⟩
  refine ⟨_, rfl, ?_⟩
  refine LL.val (R.move rfl rfl) rfl rfl rfl ?_
  refine LL.val (R.neF rfl rfl rfl (by omega)) rfl rfl rfl ?_
  refine LL.val (R.pick rfl rfl rfl) rfl rfl rfl ?_
  refine LL.nilS ?_
  refine CC.no rfl ?_
  refine CC.skip ?_
  refine EE.thenN ?_
  refine CC.seq ?_
  refine CC.region ?_
  refine LL.val (R.load rfl rfl (I.ldNc (vs := [Value.int IntKind.i64 ↑b, Value.int IntKind.i64 ↑i, Value.int IntKind.i64 ↑r, Value.int IntKind.i64 ↑t, Value.int IntKind.u64 ↑k1, Value.int IntKind.u64 ↑k2, Value.int IntKind.i64 9, Value.int IntKind.i64 (9 + ↑i / 4), Value.int IntKind.i64 (9 + ↑i / 4 + ↑r / 4), Value.int IntKind.i64 (10 + ↑i / 4 + ↑r / 4)]) (RowL.cells r19 rfl) (by rfl) (by rfl))) rfl rfl rfl ?_
  refine LL.call (R.call rfl rfl rfl) rfl rfl rfl (super_any b i r t k1 k2 _ _ _ _ _ (by omega)) ?_
  rintro e2 W1 ⟨v, rfl, o, b1⟩
  refine ⟨_, rfl, ?_⟩
  have q1 := q.trans (b1.mono q.size)
  replace r19 := r19.up b1
  have h1 := reads_of_owns o
  clear o
  refine LL.val (R.move rfl rfl) rfl rfl rfl ?_
  refine LL.val (R.extract rfl rfl rfl) rfl rfl rfl ?_
  refine LL.val (R.extract rfl rfl rfl) rfl rfl rfl ?_
  refine LL.val (R.assign rfl rfl) rfl rfl rfl ?_
  refine LL.val (R.assign rfl rfl) rfl rfl rfl ?_
  refine LL.nilS ?_
  refine CC.seq ?_
  refine CC.seq ?_
  refine CC.region ?_
  refine LL.val (R.move rfl rfl) rfl rfl rfl ?_
  refine LL.val (R.neF rfl rfl rfl (by omega)) rfl rfl rfl ?_
  refine LL.nilS ?_
  refine CC.no rfl ?_
  refine CC.skip ?_
  refine EE.thenN ?_
  refine CC.seq ?_
  refine CC.region ?_
  refine LL.val (R.move rfl rfl) rfl rfl rfl ?_
  refine LL.call (R.call rfl rfl rfl) rfl rfl rfl (num_any _ _) ?_
  rintro e W' ⟨rfl, rfl⟩
  refine ⟨_, rfl, ?_⟩
  refine LL.val (R.eqT rfl rfl rfl (by omega)) rfl rfl rfl ?_
  refine LL.val (R.move rfl rfl) rfl rfl rfl ?_
  refine LL.val (R.move rfl rfl) rfl rfl rfl ?_
  refine LL.val (R.load rfl rfl (I.ldNc (vs := [Value.int IntKind.i64 ↑b, Value.int IntKind.i64 ↑i, Value.int IntKind.i64 ↑r, Value.int IntKind.i64 ↑t, Value.int IntKind.u64 ↑k1, Value.int IntKind.u64 ↑k2, Value.int IntKind.i64 9, Value.int IntKind.i64 (9 + ↑i / 4), Value.int IntKind.i64 (9 + ↑i / 4 + ↑r / 4), Value.int IntKind.i64 (10 + ↑i / 4 + ↑r / 4)]) (RowL.cells r19 rfl) (by rfl) (by rfl))) rfl rfl rfl ?_
  refine LL.call (R.call rfl rfl rfl) rfl rfl rfl (rsuper_any b i r t k1 k2 _ _ _ _ _ (by omega)) ?_
  rintro e2 W2' ⟨v2, rfl, o2, b2⟩
  refine ⟨_, rfl, ?_⟩
  replace q1 := q1.trans (b2.mono q1.size)
  replace h1 := h1.up b2
  have h2 := reads_of_owns o2
  clear o2
  refine LL.callBT (R.call rfl rfl rfl) rfl rfl rfl (wsame_any _ _ _ _ _ h1 h2 (by omega) (by omega)) rfl (fun W3' b3 => ?_)
  replace q1 := q1.trans (b3.mono q1.size)
  refine LL.val (R.pick rfl rfl rfl) rfl rfl rfl ?_
  refine LL.val (R.move rfl rfl) rfl rfl rfl ?_
  refine LL.call (R.call rfl rfl rfl) rfl rfl rfl (works_any _) ?_
  rintro e Wb2 ⟨rfl, bb1⟩
  refine ⟨_, rfl, ?_⟩
  have zbb1 := bb1.size
  replace b3 := b3.trans (bb1.mono b3.size)
  replace q1 := q1.trans (bb1.mono q1.size)
  refine LL.val (R.pick rfl rfl rfl) rfl rfl rfl ?_
  refine LL.val (R.assign rfl rfl) rfl rfl rfl ?_
  refine LL.nilS ?_
  refine CC.ret ?_
  refine EE.ret _ rfl rfl ?_
  exact ⟨rfl, by assumption⟩
theorem ofl_walk (b i r t : Int) (k1 k2 : Nat) (w : World) (hk : k1 < 18446744073709551616 ∧ k2 < 18446744073709551616) : Calls Try.prog 3 #[formV b i r t, keyV k1 k2] w fun x w' => x = .returned (.bool true) ∧ Below w.heap.size w w' := by
  by_cases hl : okF b i r t
  · obtain ⟨b, rfl⟩ := Int.eq_ofNat_of_zero_le (show 0 ≤ b by omega)
    obtain ⟨i, rfl⟩ := Int.eq_ofNat_of_zero_le (show 0 ≤ i by omega)
    obtain ⟨r, rfl⟩ := Int.eq_ofNat_of_zero_le (show 0 ≤ r by omega)
    obtain ⟨t, rfl⟩ := Int.eq_ofNat_of_zero_le (show 0 ≤ t by omega)
    exact ofl_T b i r t k1 k2 w hk hl
  · exact ofl_F b i r t k1 k2 w hl
end Go.Proofs.Ythdgnogpjpoklaa
