/- layout: where journals, inodes, records lie. -/
import Derived.Test.YthdgnogpjpoklaaLay3
namespace Go.Proofs.Ythdgnogpjpoklaa
set_option linter.unusedVariables false
set_option linter.unusedSimpArgs false
open Go.RowKit Go.Shelf

set_option maxRecDepth 100000 in
set_option maxHeartbeats 8000000 in
theorem first2_any (b i r t : Int) (k1 k2 : Nat) (a c d e n : Int) (w : World) (hl : isL b i r t a c d e) (hn : 0 ≤ n ∧ n ≤ 7) : Calls Try.prog 35 #[layV b i r t k1 k2 a c d e, .int .i64 2, .int .i64 n] w fun x w' => x = .returned (.tuple #[.int .i64 (64 + 64 * n), .int .i64 0]) ∧ Below w.heap.size w w' := by
  have q := Below.refl w.heap.size w
  refine X.fn Try.func35 rfl (n := 63) rfl rfl ?_
  refine CC.seq ?_
  refine CC.region ?_
  refine LL.box [Value.int IntKind.i64 b, Value.int IntKind.i64 i, Value.int IntKind.i64 r, Value.int IntKind.i64 t, Value.int IntKind.u64 ↑k1, Value.int IntKind.u64 ↑k2, Value.int IntKind.i64 a, Value.int IntKind.i64 c, Value.int IntKind.i64 d, Value.int IntKind.i64 e] rfl rfl rfl rfl rfl ?_
  intro W2 g3 eg3 r4 z5 b1
  replace q := q.trans (b1.mono q.size)
  refine LL.val (R.assign rfl rfl) rfl rfl rfl ?_
  refine LL.val (R.assign rfl rfl) rfl rfl rfl ?_
  refine LL.nilS ?_
  refine CC.seq ?_
  refine CC.seq ?_
  refine CC.region ?_
  refine LL.val (R.load rfl rfl (I.ldNc (vs := [Value.int IntKind.i64 b, Value.int IntKind.i64 i, Value.int IntKind.i64 r, Value.int IntKind.i64 t, Value.int IntKind.u64 ↑k1, Value.int IntKind.u64 ↑k2, Value.int IntKind.i64 a, Value.int IntKind.i64 c, Value.int IntKind.i64 d, Value.int IntKind.i64 e]) (RowL.cells r4 rfl) (by rfl) (by rfl))) rfl rfl rfl ?_
  refine LL.callBT (R.call rfl rfl rfl) rfl rfl rfl (is_any _ _ _ _ _ _ _ _ _ _ _) (by first | assumption | omega) (fun W7 b6 => ?_)
  have zb6 := b6.size
  replace r4 := r4.up b6
  replace b1 := b1.trans (b6.mono b1.size)
  replace q := q.trans (b6.mono q.size)
  refine LL.val (R.not rfl rfl) rfl rfl rfl ?_
  refine LL.nilS ?_
  refine CC.no rfl ?_
  refine CC.skip ?_
  refine EE.thenN ?_
  refine CC.seq ?_
  refine CC.region ?_
  refine LL.val (R.field rfl rfl (I.fld rfl)) rfl rfl rfl ?_
  refine LL.val (R.load rfl rfl (I.ldNc (vs := [Value.int IntKind.i64 b, Value.int IntKind.i64 i, Value.int IntKind.i64 r, Value.int IntKind.i64 t]) (RowL.cells r4 rfl) (by rfl) (by rfl))) rfl rfl rfl ?_
  refine LL.val (R.field rfl rfl (I.fld rfl)) rfl rfl rfl ?_
  refine LL.val (R.load rfl rfl (I.ldNc (vs := [Value.int IntKind.u64 ↑k1, Value.int IntKind.u64 ↑k2]) (RowL.cells r4 rfl) (by rfl) (by rfl))) rfl rfl rfl ?_
  refine LL.val (R.buildV rfl rfl (v := .agg #[Value.int IntKind.i64 b, Value.int IntKind.i64 i, Value.int IntKind.i64 r, Value.int IntKind.i64 t, Value.int IntKind.u64 ↑k1, Value.int IntKind.u64 ↑k2]) (fun _ => by kernel_rfl)) rfl rfl rfl ?_
  have l8 := r4.lt
  refine LL.alloc ([Value.int IntKind.i64 0, Value.int IntKind.i64 0, Value.int IntKind.i64 0, Value.int IntKind.i64 0, Value.int IntKind.u64 0, Value.int IntKind.u64 0]) rfl rfl rfl rfl rfl ?_
  intro W10 g11 eg11 r12 z13 b9
  replace b6 := b6.trans (b9.mono b6.size)
  replace r4 := r4.up b9
  replace b1 := b1.trans (b9.mono b1.size)
  replace q := q.trans (b9.mono q.size)
  refine LL.storeN (vs := [Value.int IntKind.i64 b, Value.int IntKind.i64 i, Value.int IntKind.i64 r, Value.int IntKind.i64 t, Value.int IntKind.u64 ↑k1, Value.int IntKind.u64 ↑k2]) rfl rfl rfl rfl r12 (by exact Nat.le_of_ble_eq_true rfl) (ones_of rfl) rfl rfl ?_
  intro W15 r16 b14 z17
  have hlb14 := r12.lt
  replace r16 : RowL W15 _ 68 [Value.int IntKind.i64 b, Value.int IntKind.i64 i, Value.int IntKind.i64 r, Value.int IntKind.i64 t, Value.int IntKind.u64 ↑k1, Value.int IntKind.u64 ↑k2] := r16
  clear r12
  replace b9 := b9.grown b14 b9.size (by rintro k ⟨⟩; omega)
  replace b6 := b6.grown b14 b6.size (by rintro k ⟨⟩; omega)
  replace r4 := r4.gr b14 (by have := r4.lt; omega)
  replace b1 := b1.grown b14 b1.size (by rintro k ⟨⟩; omega)
  replace q := q.grown b14 q.size (by rintro k ⟨⟩; omega)
  have r12 := r16
  clear r16
  refine LL.nilS ?_
  refine CC.seq ?_
  refine CC.seq ?_
  refine CC.region ?_
  refine LL.call (R.call rfl rfl rfl) rfl rfl rfl (kinds_any _) ?_
  rintro e W19 ⟨g20, rfl, r21, l22, b18⟩
  refine ⟨_, rfl, ?_⟩
  have zb18 := b18.size
  replace b9 := b9.trans (b18.mono b9.size)
  replace b6 := b6.trans (b18.mono b6.size)
  replace r4 := r4.up b18
  replace b1 := b1.trans (b18.mono b1.size)
  replace q := q.trans (b18.mono q.size)
  replace r12 := r12.up b18
  refine LL.val (R.len rfl rfl rfl rfl) rfl rfl rfl ?_
  refine LL.val (R.move rfl rfl) rfl rfl rfl ?_
  refine LL.nilS ?_
  refine CC.block ?_
  refine CC.loopN 7 ?_
  refine RN.step ?_
  refine CC.seq ?_
  refine CC.region ?_
  refine LL.val (R.ltT rfl rfl rfl (by omega)) rfl rfl rfl ?_
  refine LL.nilS ?_
  refine CC.seq ?_
  refine CC.yes rfl ?_
  refine CC.skip ?_
  refine EE.thenN ?_
  refine CC.seq ?_
  refine CC.block ?_
  refine CC.seq ?_
  refine CC.region ?_
  refine LL.val (R.index rfl rfl rfl (I.ixSc rfl rfl (by omega))) rfl rfl rfl ?_
  refine LL.val (R.load rfl rfl (I.ldNc (vs := [Value.int IntKind.i64 1, fnV 41, fnV 42, fnV 41, Value.int IntKind.i64 64]) (RowL.cells r21 rfl) (by rfl) (by rfl))) rfl rfl rfl ?_
  have l23 := r21.lt
  have l24 := r4.lt
  have l25 := r12.lt
  refine LL.alloc ([Value.int IntKind.i64 0, Value.nilFunc, Value.nilFunc, Value.nilFunc, Value.int IntKind.i64 0]) rfl rfl rfl rfl rfl ?_
  intro W27 g28 eg28 r29 z30 b26
  replace r21 := r21.up b26
  replace b18 := b18.trans (b26.mono b18.size)
  replace b9 := b9.trans (b26.mono b9.size)
  replace b6 := b6.trans (b26.mono b6.size)
  replace r4 := r4.up b26
  replace b1 := b1.trans (b26.mono b1.size)
  replace q := q.trans (b26.mono q.size)
  replace r12 := r12.up b26
  refine LL.storeN (vs := [Value.int IntKind.i64 1, fnV 41, fnV 42, fnV 41, Value.int IntKind.i64 64]) rfl rfl rfl rfl r29 (by exact Nat.le_of_ble_eq_true rfl) (ones_of rfl) rfl rfl ?_
  intro W32 r33 b31 z34
  have hlb31 := r29.lt
  replace r33 : RowL W32 _ 79 [Value.int IntKind.i64 1, fnV 41, fnV 42, fnV 41, Value.int IntKind.i64 64] := r33
  clear r29
  replace b26 := b26.grown b31 b26.size (by rintro k ⟨⟩; omega)
  replace r21 := r21.gr b31 (by have := r21.lt; omega)
  replace b18 := b18.grown b31 b18.size (by rintro k ⟨⟩; omega)
  replace b9 := b9.grown b31 b9.size (by rintro k ⟨⟩; omega)
  replace b6 := b6.grown b31 b6.size (by rintro k ⟨⟩; omega)
  replace r4 := r4.gr b31 (by have := r4.lt; omega)
  replace b1 := b1.grown b31 b1.size (by rintro k ⟨⟩; omega)
  replace q := q.grown b31 q.size (by rintro k ⟨⟩; omega)
  replace r12 := r12.gr b31 (by have := r12.lt; omega)
  have r29 := r33
  clear r33
  refine LL.nilS ?_
  refine CC.seq ?_
  refine CC.grow (by kernel_rfl) (by kernel_rfl) ?_
  refine GG.val (fun w' b' => R.field rfl rfl (I.fld rfl)) rfl rfl ?_
  refine GG.val (fun w' b' => R.load rfl rfl (I.ld1 rfl (RowL.cell (r29.up b') rfl))) rfl rfl ?_
  refine GG.val (fun w' b' => R.move rfl rfl) rfl rfl ?_
  refine GG.val (fun w' b' => R.eqF rfl rfl rfl (by omega)) rfl rfl ?_
  refine GG.val (fun w' b' => R.move rfl rfl) rfl rfl ?_
  refine GG.skip rfl rfl ?_
  refine GG.skip rfl rfl ?_
  refine GG.skip rfl rfl ?_
  refine GG.skip rfl rfl ?_
  refine GG.skip rfl rfl ?_
  refine GG.skip rfl rfl ?_
  refine GG.skip rfl rfl ?_
  refine GG.skip rfl rfl ?_
  refine GG.skip rfl rfl ?_
  refine GG.skip rfl rfl ?_
  refine GG.skip rfl rfl ?_
  refine GG.skip rfl rfl ?_
  refine GG.skip rfl rfl ?_
  refine GG.skip rfl rfl ?_
  refine GG.skip rfl rfl ?_
  refine GG.skip rfl rfl ?_
  refine GG.val (fun w' b' => R.pick rfl rfl rfl) rfl rfl ?_
  refine GG.nilQ (fun W39 b38 => ?_)
  have zb38 := b38.size
  replace b26 := b26.trans (b38.mono b26.size)
  replace r21 := r21.up b38
  replace b18 := b18.trans (b38.mono b18.size)
  replace b9 := b9.trans (b38.mono b9.size)
  replace b6 := b6.trans (b38.mono b6.size)
  replace r4 := r4.up b38
  replace b1 := b1.trans (b38.mono b1.size)
  replace q := q.trans (b38.mono q.size)
  replace r12 := r12.up b38
  replace r29 := r29.up b38
  refine EE.thenN ?_
  refine CC.no rfl ?_
  refine CC.skip ?_
  refine EE.inN ?_
  refine EE.thenN ?_
  refine CC.region ?_
  refine LL.val (R.addIz (z := 1) rfl rfl rfl (by decide) (by decide)) rfl rfl rfl ?_
  refine LL.val (R.move rfl rfl) rfl rfl rfl ?_
  refine LL.nil ?_
  refine EE.again ?_
  refine RN.step ?_
  refine CC.seq ?_
  refine CC.region ?_
  refine LL.val (R.ltT rfl rfl rfl (by omega)) rfl rfl rfl ?_
  refine LL.nilS ?_
  refine CC.seq ?_
  refine CC.yes rfl ?_
  refine CC.skip ?_
  refine EE.thenN ?_
  refine CC.seq ?_
  refine CC.block ?_
  refine CC.seq ?_
  refine CC.region ?_
  refine LL.val (R.index rfl rfl rfl (I.ixSc rfl rfl (by omega))) rfl rfl rfl ?_
  refine LL.val (R.load rfl rfl (I.ldNc (vs := [Value.int IntKind.i64 2, fnV 42, fnV 43, fnV 41, Value.int IntKind.i64 64]) (RowL.cells r21 rfl) (by rfl) (by rfl))) rfl rfl rfl ?_
  have l40 := r21.lt
  have l41 := r4.lt
  have l42 := r12.lt
  have l43 := r29.lt
  refine LL.alloc ([Value.int IntKind.i64 0, Value.nilFunc, Value.nilFunc, Value.nilFunc, Value.int IntKind.i64 0]) rfl rfl rfl rfl rfl ?_
  intro W45 g46 eg46 r47 z48 b44
  replace b38 := b38.trans (b44.mono b38.size)
  replace b26 := b26.trans (b44.mono b26.size)
  replace r21 := r21.up b44
  replace b18 := b18.trans (b44.mono b18.size)
  replace b9 := b9.trans (b44.mono b9.size)
  replace b6 := b6.trans (b44.mono b6.size)
  replace r4 := r4.up b44
  replace b1 := b1.trans (b44.mono b1.size)
  replace q := q.trans (b44.mono q.size)
  replace r12 := r12.up b44
  replace r29 := r29.up b44
  refine LL.storeN (vs := [Value.int IntKind.i64 2, fnV 42, fnV 43, fnV 41, Value.int IntKind.i64 64]) rfl rfl rfl rfl r47 (by exact Nat.le_of_ble_eq_true rfl) (ones_of rfl) rfl rfl ?_
  intro W50 r51 b49 z52
  have hlb49 := r47.lt
  replace r51 : RowL W50 _ 79 [Value.int IntKind.i64 2, fnV 42, fnV 43, fnV 41, Value.int IntKind.i64 64] := r51
  clear r47
  replace b44 := b44.grown b49 b44.size (by rintro k ⟨⟩; omega)
  replace b38 := b38.grown b49 b38.size (by rintro k ⟨⟩; omega)
  replace b26 := b26.grown b49 b26.size (by rintro k ⟨⟩; omega)
  replace r21 := r21.gr b49 (by have := r21.lt; omega)
  replace b18 := b18.grown b49 b18.size (by rintro k ⟨⟩; omega)
  replace b9 := b9.grown b49 b9.size (by rintro k ⟨⟩; omega)
  replace b6 := b6.grown b49 b6.size (by rintro k ⟨⟩; omega)
  replace r4 := r4.gr b49 (by have := r4.lt; omega)
  replace b1 := b1.grown b49 b1.size (by rintro k ⟨⟩; omega)
  replace q := q.grown b49 q.size (by rintro k ⟨⟩; omega)
  replace r12 := r12.gr b49 (by have := r12.lt; omega)
  replace r29 := r29.gr b49 (by have := r29.lt; omega)
  have r47 := r51
  clear r51
  refine LL.nilS ?_
  refine CC.seq ?_
  refine CC.grow (by kernel_rfl) (by kernel_rfl) ?_
  refine GG.val (fun w' b' => R.field rfl rfl (I.fld rfl)) rfl rfl ?_
  refine GG.val (fun w' b' => R.load rfl rfl (I.ld1 rfl (RowL.cell (r47.up b') rfl))) rfl rfl ?_
  refine GG.val (fun w' b' => R.move rfl rfl) rfl rfl ?_
  refine GG.val (fun w' b' => R.eqT rfl rfl rfl (by omega)) rfl rfl ?_
  refine GG.val (fun w' b' => R.move rfl rfl) rfl rfl ?_
  refine GG.val (fun w' b' => R.move rfl rfl) rfl rfl ?_
  refine GG.val (fun w' b' => R.field rfl rfl (I.fld rfl)) rfl rfl ?_
  refine GG.val (fun w' b' => R.load rfl rfl (I.ld1 rfl (RowL.cell (r47.up b') rfl))) rfl rfl ?_
  refine GG.val (fun w' b' => R.load rfl rfl (I.ldNc (vs := [Value.int IntKind.i64 b, Value.int IntKind.i64 i, Value.int IntKind.i64 r, Value.int IntKind.i64 t, Value.int IntKind.u64 ↑k1, Value.int IntKind.u64 ↑k2]) (RowL.cells (r12.up b') rfl) (by rfl) (by rfl))) rfl rfl ?_
  refine GG.call (fun w' => (R.callV rfl rfl rfl rfl)) rfl rfl (fun w' b' => (zero_any _ _ _ _ _ _ w').mono fun e W' h => ⟨h.1, b'.trans (h.2.mono b'.size)⟩) ?_
  refine GG.val (fun w' b' => R.field rfl rfl (I.fld rfl)) rfl rfl ?_
  refine GG.val (fun w' b' => R.load rfl rfl (I.ld1 rfl (RowL.cell (r47.up b') rfl))) rfl rfl ?_
  refine GG.val (fun w' b' => R.load rfl rfl (I.ldNc (vs := [Value.int IntKind.i64 b, Value.int IntKind.i64 i, Value.int IntKind.i64 r, Value.int IntKind.i64 t, Value.int IntKind.u64 ↑k1, Value.int IntKind.u64 ↑k2]) (RowL.cells (r12.up b') rfl) (by rfl) (by rfl))) rfl rfl ?_
  refine GG.call (fun w' => (R.callV rfl rfl rfl rfl)) rfl rfl (fun w' b' => (zero_any _ _ _ _ _ _ w').mono fun e W' h => ⟨h.1, b'.trans (h.2.mono b'.size)⟩) ?_
  refine GG.val (fun w' b' => R.field rfl rfl (I.fld rfl)) rfl rfl ?_
  refine GG.val (fun w' b' => R.load rfl rfl (I.ld1 rfl (RowL.cell (r47.up b') rfl))) rfl rfl ?_
  refine GG.val (fun w' b' => R.load rfl rfl (I.ldNc (vs := [Value.int IntKind.i64 b, Value.int IntKind.i64 i, Value.int IntKind.i64 r, Value.int IntKind.i64 t, Value.int IntKind.u64 ↑k1, Value.int IntKind.u64 ↑k2]) (RowL.cells (r12.up b') rfl) (by rfl) (by rfl))) rfl rfl ?_
  refine GG.call (fun w' => (R.callV rfl rfl rfl rfl)) rfl rfl (fun w' b' => (kinds1_any _ _ _ _ _ _ w').mono fun e W' h => ⟨h.1, b'.trans (h.2.mono b'.size)⟩) ?_
  refine GG.val (fun w' b' => R.addIz (z := 8) rfl rfl rfl (by decide) (by decide)) rfl rfl ?_
  refine GG.val (fun w' b' => R.subIz (z := 7) rfl rfl rfl (by decide) (by decide)) rfl rfl ?_
  refine GG.callDT (fun w' => (R.call rfl rfl rfl)) rfl rfl (fun w' b' => (within_any _ _ _ w').mono fun e W' h => ⟨h.1, h.2 ▸ b'⟩) (by first | assumption | omega) ?_
  refine GG.val (fun w' b' => R.pick rfl rfl rfl) rfl rfl ?_
  refine GG.nilQ (fun W57 b56 => ?_)
  have zb56 := b56.size
  replace b44 := b44.trans (b56.mono b44.size)
  replace b38 := b38.trans (b56.mono b38.size)
  replace b26 := b26.trans (b56.mono b26.size)
  replace r21 := r21.up b56
  replace b18 := b18.trans (b56.mono b18.size)
  replace b9 := b9.trans (b56.mono b9.size)
  replace b6 := b6.trans (b56.mono b6.size)
  replace r4 := r4.up b56
  replace b1 := b1.trans (b56.mono b1.size)
  replace q := q.trans (b56.mono q.size)
  replace r12 := r12.up b56
  replace r29 := r29.up b56
  replace r47 := r47.up b56
  refine EE.thenN ?_
  refine CC.yes rfl ?_
  refine CC.seq ?_
  refine CC.grow (by kernel_rfl) (by kernel_rfl) ?_
  refine GG.val (fun w' b' => R.field rfl rfl (I.fld rfl)) rfl rfl ?_
  refine GG.val (fun w' b' => R.load rfl rfl (I.ld1 rfl (RowL.cell (r47.up b') rfl))) rfl rfl ?_
  refine GG.val (fun w' b' => R.load rfl rfl (I.ldNc (vs := [Value.int IntKind.i64 b, Value.int IntKind.i64 i, Value.int IntKind.i64 r, Value.int IntKind.i64 t, Value.int IntKind.u64 ↑k1, Value.int IntKind.u64 ↑k2]) (RowL.cells (r12.up b') rfl) (by rfl) (by rfl))) rfl rfl ?_
  refine GG.call (fun w' => (R.callV rfl rfl rfl rfl)) rfl rfl (fun w' b' => (one_any _ _ _ _ _ _ w').mono fun e W' h => ⟨h.1, b'.trans (h.2.mono b'.size)⟩) ?_
  refine GG.val (fun w' b' => R.mulIz (z := 64) rfl rfl rfl (by decide) (by decide)) rfl rfl ?_
  refine GG.val (fun w' b' => R.move rfl rfl) rfl rfl ?_
  refine GG.val (fun w' b' => R.field rfl rfl (I.fld rfl)) rfl rfl ?_
  refine GG.val (fun w' b' => R.load rfl rfl (I.ld1 rfl (RowL.cell (r47.up b') rfl))) rfl rfl ?_
  refine GG.val (fun w' b' => R.load rfl rfl (I.ldNc (vs := [Value.int IntKind.i64 b, Value.int IntKind.i64 i, Value.int IntKind.i64 r, Value.int IntKind.i64 t, Value.int IntKind.u64 ↑k1, Value.int IntKind.u64 ↑k2]) (RowL.cells (r12.up b') rfl) (by rfl) (by rfl))) rfl rfl ?_
  refine GG.call (fun w' => (R.callV rfl rfl rfl rfl)) rfl rfl (fun w' b' => (zero_any _ _ _ _ _ _ w').mono fun e W' h => ⟨h.1, b'.trans (h.2.mono b'.size)⟩) ?_
  refine GG.val (fun w' b' => R.subI rfl rfl rfl (by omega)) rfl rfl ?_
  refine GG.val (fun w' b' => R.field rfl rfl (I.fld rfl)) rfl rfl ?_
  refine GG.val (fun w' b' => R.load rfl rfl (I.ld1 rfl (RowL.cell (r47.up b') rfl))) rfl rfl ?_
  refine GG.val (fun w' b' => R.mulI rfl rfl rfl (by omega)) rfl rfl ?_
  refine GG.val (fun w' b' => R.addI rfl rfl rfl (by omega)) rfl rfl ?_
  refine GG.val (fun w' b' => R.assign rfl rfl) rfl rfl ?_
  refine GG.val (fun w' b' => R.assign rfl rfl) rfl rfl ?_
  refine GG.nilQ (fun W62 b61 => ?_)
  have zb61 := b61.size
  replace b56 := b56.trans (b61.mono b56.size)
  replace b44 := b44.trans (b61.mono b44.size)
  replace b38 := b38.trans (b61.mono b38.size)
  replace b26 := b26.trans (b61.mono b26.size)
  replace r21 := r21.up b61
  replace b18 := b18.trans (b61.mono b18.size)
  replace b9 := b9.trans (b61.mono b9.size)
  replace b6 := b6.trans (b61.mono b6.size)
  replace r4 := r4.up b61
  replace b1 := b1.trans (b61.mono b1.size)
  replace q := q.trans (b61.mono q.size)
  replace r12 := r12.up b61
  replace r29 := r29.up b61
  replace r47 := r47.up b61
  refine EE.thenN ?_
  refine CC.ret ?_
  refine EE.inR ?_
  refine EE.thenR ?_
  refine EE.thenR ?_
  refine EE.inR ?_
  refine EE.thenR ?_
  refine EE.ret _ rfl rfl ?_
  exact ⟨by simp [resV]; omega, q⟩
set_option maxRecDepth 100000 in
set_option maxHeartbeats 8000000 in
theorem first2_out (b i r t : Int) (k1 k2 : Nat) (a c d e n : Int) (w : World) (hl : isL b i r t a c d e) (hn : ¬(0 ≤ n ∧ n ≤ 7)) : Calls Try.prog 35 #[layV b i r t k1 k2 a c d e, .int .i64 2, .int .i64 n] w fun x w' => x = .returned (.tuple #[.int .i64 0, .int .i64 4]) ∧ Below w.heap.size w w' := by
  have q := Below.refl w.heap.size w
  refine X.fn Try.func35 rfl (n := 63) rfl rfl ?_
  refine CC.seq ?_
  refine CC.region ?_
  refine LL.box [Value.int IntKind.i64 b, Value.int IntKind.i64 i, Value.int IntKind.i64 r, Value.int IntKind.i64 t, Value.int IntKind.u64 ↑k1, Value.int IntKind.u64 ↑k2, Value.int IntKind.i64 a, Value.int IntKind.i64 c, Value.int IntKind.i64 d, Value.int IntKind.i64 e] rfl rfl rfl rfl rfl ?_
  intro W2 g3 eg3 r4 z5 b1
  replace q := q.trans (b1.mono q.size)
  refine LL.val (R.assign rfl rfl) rfl rfl rfl ?_
  refine LL.val (R.assign rfl rfl) rfl rfl rfl ?_
  refine LL.nilS ?_
  refine CC.seq ?_
  refine CC.seq ?_
  refine CC.region ?_
  refine LL.val (R.load rfl rfl (I.ldNc (vs := [Value.int IntKind.i64 b, Value.int IntKind.i64 i, Value.int IntKind.i64 r, Value.int IntKind.i64 t, Value.int IntKind.u64 ↑k1, Value.int IntKind.u64 ↑k2, Value.int IntKind.i64 a, Value.int IntKind.i64 c, Value.int IntKind.i64 d, Value.int IntKind.i64 e]) (RowL.cells r4 rfl) (by rfl) (by rfl))) rfl rfl rfl ?_
  refine LL.callBT (R.call rfl rfl rfl) rfl rfl rfl (is_any _ _ _ _ _ _ _ _ _ _ _) (by first | assumption | omega) (fun W7 b6 => ?_)
  have zb6 := b6.size
  replace r4 := r4.up b6
  replace b1 := b1.trans (b6.mono b1.size)
  replace q := q.trans (b6.mono q.size)
  refine LL.val (R.not rfl rfl) rfl rfl rfl ?_
  refine LL.nilS ?_
  refine CC.no rfl ?_
  refine CC.skip ?_
  refine EE.thenN ?_
  refine CC.seq ?_
  refine CC.region ?_
  refine LL.val (R.field rfl rfl (I.fld rfl)) rfl rfl rfl ?_
  refine LL.val (R.load rfl rfl (I.ldNc (vs := [Value.int IntKind.i64 b, Value.int IntKind.i64 i, Value.int IntKind.i64 r, Value.int IntKind.i64 t]) (RowL.cells r4 rfl) (by rfl) (by rfl))) rfl rfl rfl ?_
  refine LL.val (R.field rfl rfl (I.fld rfl)) rfl rfl rfl ?_
  refine LL.val (R.load rfl rfl (I.ldNc (vs := [Value.int IntKind.u64 ↑k1, Value.int IntKind.u64 ↑k2]) (RowL.cells r4 rfl) (by rfl) (by rfl))) rfl rfl rfl ?_
  refine LL.val (R.buildV rfl rfl (v := .agg #[Value.int IntKind.i64 b, Value.int IntKind.i64 i, Value.int IntKind.i64 r, Value.int IntKind.i64 t, Value.int IntKind.u64 ↑k1, Value.int IntKind.u64 ↑k2]) (fun _ => by kernel_rfl)) rfl rfl rfl ?_
  have l8 := r4.lt
  refine LL.alloc ([Value.int IntKind.i64 0, Value.int IntKind.i64 0, Value.int IntKind.i64 0, Value.int IntKind.i64 0, Value.int IntKind.u64 0, Value.int IntKind.u64 0]) rfl rfl rfl rfl rfl ?_
  intro W10 g11 eg11 r12 z13 b9
  replace b6 := b6.trans (b9.mono b6.size)
  replace r4 := r4.up b9
  replace b1 := b1.trans (b9.mono b1.size)
  replace q := q.trans (b9.mono q.size)
  refine LL.storeN (vs := [Value.int IntKind.i64 b, Value.int IntKind.i64 i, Value.int IntKind.i64 r, Value.int IntKind.i64 t, Value.int IntKind.u64 ↑k1, Value.int IntKind.u64 ↑k2]) rfl rfl rfl rfl r12 (by exact Nat.le_of_ble_eq_true rfl) (ones_of rfl) rfl rfl ?_
  intro W15 r16 b14 z17
  have hlb14 := r12.lt
  replace r16 : RowL W15 _ 68 [Value.int IntKind.i64 b, Value.int IntKind.i64 i, Value.int IntKind.i64 r, Value.int IntKind.i64 t, Value.int IntKind.u64 ↑k1, Value.int IntKind.u64 ↑k2] := r16
  clear r12
  replace b9 := b9.grown b14 b9.size (by rintro k ⟨⟩; omega)
  replace b6 := b6.grown b14 b6.size (by rintro k ⟨⟩; omega)
  replace r4 := r4.gr b14 (by have := r4.lt; omega)
  replace b1 := b1.grown b14 b1.size (by rintro k ⟨⟩; omega)
  replace q := q.grown b14 q.size (by rintro k ⟨⟩; omega)
  have r12 := r16
  clear r16
  refine LL.nilS ?_
  refine CC.seq ?_
  refine CC.seq ?_
  refine CC.region ?_
  refine LL.call (R.call rfl rfl rfl) rfl rfl rfl (kinds_any _) ?_
  rintro e W19 ⟨g20, rfl, r21, l22, b18⟩
  refine ⟨_, rfl, ?_⟩
  have zb18 := b18.size
  replace b9 := b9.trans (b18.mono b9.size)
  replace b6 := b6.trans (b18.mono b6.size)
  replace r4 := r4.up b18
  replace b1 := b1.trans (b18.mono b1.size)
  replace q := q.trans (b18.mono q.size)
  replace r12 := r12.up b18
  refine LL.val (R.len rfl rfl rfl rfl) rfl rfl rfl ?_
  refine LL.val (R.move rfl rfl) rfl rfl rfl ?_
  refine LL.nilS ?_
  refine CC.block ?_
  refine CC.loopN 7 ?_
  refine RN.step ?_
  refine CC.seq ?_
  refine CC.region ?_
  refine LL.val (R.ltT rfl rfl rfl (by omega)) rfl rfl rfl ?_
  refine LL.nilS ?_
  refine CC.seq ?_
  refine CC.yes rfl ?_
  refine CC.skip ?_
  refine EE.thenN ?_
  refine CC.seq ?_
  refine CC.block ?_
  refine CC.seq ?_
  refine CC.region ?_
  refine LL.val (R.index rfl rfl rfl (I.ixSc rfl rfl (by omega))) rfl rfl rfl ?_
  refine LL.val (R.load rfl rfl (I.ldNc (vs := [Value.int IntKind.i64 1, fnV 41, fnV 42, fnV 41, Value.int IntKind.i64 64]) (RowL.cells r21 rfl) (by rfl) (by rfl))) rfl rfl rfl ?_
  have l23 := r21.lt
  have l24 := r4.lt
  have l25 := r12.lt
  refine LL.alloc ([Value.int IntKind.i64 0, Value.nilFunc, Value.nilFunc, Value.nilFunc, Value.int IntKind.i64 0]) rfl rfl rfl rfl rfl ?_
  intro W27 g28 eg28 r29 z30 b26
  replace r21 := r21.up b26
  replace b18 := b18.trans (b26.mono b18.size)
  replace b9 := b9.trans (b26.mono b9.size)
  replace b6 := b6.trans (b26.mono b6.size)
  replace r4 := r4.up b26
  replace b1 := b1.trans (b26.mono b1.size)
  replace q := q.trans (b26.mono q.size)
  replace r12 := r12.up b26
  refine LL.storeN (vs := [Value.int IntKind.i64 1, fnV 41, fnV 42, fnV 41, Value.int IntKind.i64 64]) rfl rfl rfl rfl r29 (by exact Nat.le_of_ble_eq_true rfl) (ones_of rfl) rfl rfl ?_
  intro W32 r33 b31 z34
  have hlb31 := r29.lt
  replace r33 : RowL W32 _ 79 [Value.int IntKind.i64 1, fnV 41, fnV 42, fnV 41, Value.int IntKind.i64 64] := r33
  clear r29
  replace b26 := b26.grown b31 b26.size (by rintro k ⟨⟩; omega)
  replace r21 := r21.gr b31 (by have := r21.lt; omega)
  replace b18 := b18.grown b31 b18.size (by rintro k ⟨⟩; omega)
  replace b9 := b9.grown b31 b9.size (by rintro k ⟨⟩; omega)
  replace b6 := b6.grown b31 b6.size (by rintro k ⟨⟩; omega)
  replace r4 := r4.gr b31 (by have := r4.lt; omega)
  replace b1 := b1.grown b31 b1.size (by rintro k ⟨⟩; omega)
  replace q := q.grown b31 q.size (by rintro k ⟨⟩; omega)
  replace r12 := r12.gr b31 (by have := r12.lt; omega)
  have r29 := r33
  clear r33
  refine LL.nilS ?_
  refine CC.seq ?_
  refine CC.grow (by kernel_rfl) (by kernel_rfl) ?_
  refine GG.val (fun w' b' => R.field rfl rfl (I.fld rfl)) rfl rfl ?_
  refine GG.val (fun w' b' => R.load rfl rfl (I.ld1 rfl (RowL.cell (r29.up b') rfl))) rfl rfl ?_
  refine GG.val (fun w' b' => R.move rfl rfl) rfl rfl ?_
  refine GG.val (fun w' b' => R.eqF rfl rfl rfl (by omega)) rfl rfl ?_
  refine GG.val (fun w' b' => R.move rfl rfl) rfl rfl ?_
  refine GG.skip rfl rfl ?_
  refine GG.skip rfl rfl ?_
  refine GG.skip rfl rfl ?_
  refine GG.skip rfl rfl ?_
  refine GG.skip rfl rfl ?_
  refine GG.skip rfl rfl ?_
  refine GG.skip rfl rfl ?_
  refine GG.skip rfl rfl ?_
  refine GG.skip rfl rfl ?_
  refine GG.skip rfl rfl ?_
  refine GG.skip rfl rfl ?_
  refine GG.skip rfl rfl ?_
  refine GG.skip rfl rfl ?_
  refine GG.skip rfl rfl ?_
  refine GG.skip rfl rfl ?_
  refine GG.skip rfl rfl ?_
  refine GG.val (fun w' b' => R.pick rfl rfl rfl) rfl rfl ?_
  refine GG.nilQ (fun W39 b38 => ?_)
  have zb38 := b38.size
  replace b26 := b26.trans (b38.mono b26.size)
  replace r21 := r21.up b38
  replace b18 := b18.trans (b38.mono b18.size)
  replace b9 := b9.trans (b38.mono b9.size)
  replace b6 := b6.trans (b38.mono b6.size)
  replace r4 := r4.up b38
  replace b1 := b1.trans (b38.mono b1.size)
  replace q := q.trans (b38.mono q.size)
  replace r12 := r12.up b38
  replace r29 := r29.up b38
  refine EE.thenN ?_
  refine CC.no rfl ?_
  refine CC.skip ?_
  refine EE.inN ?_
  refine EE.thenN ?_
  refine CC.region ?_
  refine LL.val (R.addIz (z := 1) rfl rfl rfl (by decide) (by decide)) rfl rfl rfl ?_
  refine LL.val (R.move rfl rfl) rfl rfl rfl ?_
  refine LL.nil ?_
  refine EE.again ?_
  refine RN.step ?_
  refine CC.seq ?_
  refine CC.region ?_
  refine LL.val (R.ltT rfl rfl rfl (by omega)) rfl rfl rfl ?_
  refine LL.nilS ?_
  refine CC.seq ?_
  refine CC.yes rfl ?_
  refine CC.skip ?_
  refine EE.thenN ?_
  refine CC.seq ?_
  refine CC.block ?_
  refine CC.seq ?_
  refine CC.region ?_
  refine LL.val (R.index rfl rfl rfl (I.ixSc rfl rfl (by omega))) rfl rfl rfl ?_
  refine LL.val (R.load rfl rfl (I.ldNc (vs := [Value.int IntKind.i64 2, fnV 42, fnV 43, fnV 41, Value.int IntKind.i64 64]) (RowL.cells r21 rfl) (by rfl) (by rfl))) rfl rfl rfl ?_
  have l40 := r21.lt
  have l41 := r4.lt
  have l42 := r12.lt
  have l43 := r29.lt
  refine LL.alloc ([Value.int IntKind.i64 0, Value.nilFunc, Value.nilFunc, Value.nilFunc, Value.int IntKind.i64 0]) rfl rfl rfl rfl rfl ?_
  intro W45 g46 eg46 r47 z48 b44
  replace b38 := b38.trans (b44.mono b38.size)
  replace b26 := b26.trans (b44.mono b26.size)
  replace r21 := r21.up b44
  replace b18 := b18.trans (b44.mono b18.size)
  replace b9 := b9.trans (b44.mono b9.size)
  replace b6 := b6.trans (b44.mono b6.size)
  replace r4 := r4.up b44
  replace b1 := b1.trans (b44.mono b1.size)
  replace q := q.trans (b44.mono q.size)
  replace r12 := r12.up b44
  replace r29 := r29.up b44
  refine LL.storeN (vs := [Value.int IntKind.i64 2, fnV 42, fnV 43, fnV 41, Value.int IntKind.i64 64]) rfl rfl rfl rfl r47 (by exact Nat.le_of_ble_eq_true rfl) (ones_of rfl) rfl rfl ?_
  intro W50 r51 b49 z52
  have hlb49 := r47.lt
  replace r51 : RowL W50 _ 79 [Value.int IntKind.i64 2, fnV 42, fnV 43, fnV 41, Value.int IntKind.i64 64] := r51
  clear r47
  replace b44 := b44.grown b49 b44.size (by rintro k ⟨⟩; omega)
  replace b38 := b38.grown b49 b38.size (by rintro k ⟨⟩; omega)
  replace b26 := b26.grown b49 b26.size (by rintro k ⟨⟩; omega)
  replace r21 := r21.gr b49 (by have := r21.lt; omega)
  replace b18 := b18.grown b49 b18.size (by rintro k ⟨⟩; omega)
  replace b9 := b9.grown b49 b9.size (by rintro k ⟨⟩; omega)
  replace b6 := b6.grown b49 b6.size (by rintro k ⟨⟩; omega)
  replace r4 := r4.gr b49 (by have := r4.lt; omega)
  replace b1 := b1.grown b49 b1.size (by rintro k ⟨⟩; omega)
  replace q := q.grown b49 q.size (by rintro k ⟨⟩; omega)
  replace r12 := r12.gr b49 (by have := r12.lt; omega)
  replace r29 := r29.gr b49 (by have := r29.lt; omega)
  have r47 := r51
  clear r51
  refine LL.nilS ?_
  refine CC.seq ?_
  refine CC.grow (by kernel_rfl) (by kernel_rfl) ?_
  refine GG.val (fun w' b' => R.field rfl rfl (I.fld rfl)) rfl rfl ?_
  refine GG.val (fun w' b' => R.load rfl rfl (I.ld1 rfl (RowL.cell (r47.up b') rfl))) rfl rfl ?_
  refine GG.val (fun w' b' => R.move rfl rfl) rfl rfl ?_
  refine GG.val (fun w' b' => R.eqT rfl rfl rfl (by omega)) rfl rfl ?_
  refine GG.val (fun w' b' => R.move rfl rfl) rfl rfl ?_
  refine GG.val (fun w' b' => R.move rfl rfl) rfl rfl ?_
  refine GG.val (fun w' b' => R.field rfl rfl (I.fld rfl)) rfl rfl ?_
  refine GG.val (fun w' b' => R.load rfl rfl (I.ld1 rfl (RowL.cell (r47.up b') rfl))) rfl rfl ?_
  refine GG.val (fun w' b' => R.load rfl rfl (I.ldNc (vs := [Value.int IntKind.i64 b, Value.int IntKind.i64 i, Value.int IntKind.i64 r, Value.int IntKind.i64 t, Value.int IntKind.u64 ↑k1, Value.int IntKind.u64 ↑k2]) (RowL.cells (r12.up b') rfl) (by rfl) (by rfl))) rfl rfl ?_
  refine GG.call (fun w' => (R.callV rfl rfl rfl rfl)) rfl rfl (fun w' b' => (zero_any _ _ _ _ _ _ w').mono fun e W' h => ⟨h.1, b'.trans (h.2.mono b'.size)⟩) ?_
  refine GG.val (fun w' b' => R.field rfl rfl (I.fld rfl)) rfl rfl ?_
  refine GG.val (fun w' b' => R.load rfl rfl (I.ld1 rfl (RowL.cell (r47.up b') rfl))) rfl rfl ?_
  refine GG.val (fun w' b' => R.load rfl rfl (I.ldNc (vs := [Value.int IntKind.i64 b, Value.int IntKind.i64 i, Value.int IntKind.i64 r, Value.int IntKind.i64 t, Value.int IntKind.u64 ↑k1, Value.int IntKind.u64 ↑k2]) (RowL.cells (r12.up b') rfl) (by rfl) (by rfl))) rfl rfl ?_
  refine GG.call (fun w' => (R.callV rfl rfl rfl rfl)) rfl rfl (fun w' b' => (zero_any _ _ _ _ _ _ w').mono fun e W' h => ⟨h.1, b'.trans (h.2.mono b'.size)⟩) ?_
  refine GG.val (fun w' b' => R.field rfl rfl (I.fld rfl)) rfl rfl ?_
  refine GG.val (fun w' b' => R.load rfl rfl (I.ld1 rfl (RowL.cell (r47.up b') rfl))) rfl rfl ?_
  refine GG.val (fun w' b' => R.load rfl rfl (I.ldNc (vs := [Value.int IntKind.i64 b, Value.int IntKind.i64 i, Value.int IntKind.i64 r, Value.int IntKind.i64 t, Value.int IntKind.u64 ↑k1, Value.int IntKind.u64 ↑k2]) (RowL.cells (r12.up b') rfl) (by rfl) (by rfl))) rfl rfl ?_
  refine GG.call (fun w' => (R.callV rfl rfl rfl rfl)) rfl rfl (fun w' b' => (kinds1_any _ _ _ _ _ _ w').mono fun e W' h => ⟨h.1, b'.trans (h.2.mono b'.size)⟩) ?_
  refine GG.val (fun w' b' => R.addIz (z := 8) rfl rfl rfl (by decide) (by decide)) rfl rfl ?_
  refine GG.val (fun w' b' => R.subIz (z := 7) rfl rfl rfl (by decide) (by decide)) rfl rfl ?_
  refine GG.callDF (fun w' => (R.call rfl rfl rfl)) rfl rfl (fun w' b' => (within_any _ _ _ w').mono fun e W' h => ⟨h.1, h.2 ▸ b'⟩) (by first | assumption | omega) ?_
  refine GG.val (fun w' b' => R.pick rfl rfl rfl) rfl rfl ?_
  refine GG.nilQ (fun W57 b56 => ?_)
  have zb56 := b56.size
  replace b44 := b44.trans (b56.mono b44.size)
  replace b38 := b38.trans (b56.mono b38.size)
  replace b26 := b26.trans (b56.mono b26.size)
  replace r21 := r21.up b56
  replace b18 := b18.trans (b56.mono b18.size)
  replace b9 := b9.trans (b56.mono b9.size)
  replace b6 := b6.trans (b56.mono b6.size)
  replace r4 := r4.up b56
  replace b1 := b1.trans (b56.mono b1.size)
  replace q := q.trans (b56.mono q.size)
  replace r12 := r12.up b56
  replace r29 := r29.up b56
  replace r47 := r47.up b56
  refine EE.thenN ?_
  refine CC.no rfl ?_
  refine CC.skip ?_
  refine EE.inN ?_
  refine EE.thenN ?_
  refine CC.region ?_
  refine LL.val (R.addIz (z := 2) rfl rfl rfl (by decide) (by decide)) rfl rfl rfl ?_
  refine LL.val (R.move rfl rfl) rfl rfl rfl ?_
  refine LL.nil ?_
  refine EE.again ?_
  refine RN.step ?_
  refine CC.seq ?_
  refine CC.region ?_
  refine LL.val (R.ltT rfl rfl rfl (by omega)) rfl rfl rfl ?_
  refine LL.nilS ?_
  refine CC.seq ?_
  refine CC.yes rfl ?_
  refine CC.skip ?_
  refine EE.thenN ?_
  refine CC.seq ?_
  refine CC.block ?_
  refine CC.seq ?_
  refine CC.region ?_
  refine LL.val (R.index rfl rfl rfl (I.ixSc rfl rfl (by omega))) rfl rfl rfl ?_
  refine LL.val (R.load rfl rfl (I.ldNc (vs := [Value.int IntKind.i64 3, fnV 44, fnV 45, fnV 42, Value.int IntKind.i64 16]) (RowL.cells r21 rfl) (by rfl) (by rfl))) rfl rfl rfl ?_
  have l58 := r21.lt
  have l59 := r4.lt
  have l60 := r12.lt
  have l61 := r29.lt
  have l62 := r47.lt
  refine LL.alloc ([Value.int IntKind.i64 0, Value.nilFunc, Value.nilFunc, Value.nilFunc, Value.int IntKind.i64 0]) rfl rfl rfl rfl rfl ?_
  intro W64 g65 eg65 r66 z67 b63
  replace b56 := b56.trans (b63.mono b56.size)
  replace b44 := b44.trans (b63.mono b44.size)
  replace b38 := b38.trans (b63.mono b38.size)
  replace b26 := b26.trans (b63.mono b26.size)
  replace r21 := r21.up b63
  replace b18 := b18.trans (b63.mono b18.size)
  replace b9 := b9.trans (b63.mono b9.size)
  replace b6 := b6.trans (b63.mono b6.size)
  replace r4 := r4.up b63
  replace b1 := b1.trans (b63.mono b1.size)
  replace q := q.trans (b63.mono q.size)
  replace r12 := r12.up b63
  replace r29 := r29.up b63
  replace r47 := r47.up b63
  refine LL.storeN (vs := [Value.int IntKind.i64 3, fnV 44, fnV 45, fnV 42, Value.int IntKind.i64 16]) rfl rfl rfl rfl r66 (by exact Nat.le_of_ble_eq_true rfl) (ones_of rfl) rfl rfl ?_
  intro W69 r70 b68 z71
  have hlb68 := r66.lt
  replace r70 : RowL W69 _ 79 [Value.int IntKind.i64 3, fnV 44, fnV 45, fnV 42, Value.int IntKind.i64 16] := r70
  clear r66
  replace b63 := b63.grown b68 b63.size (by rintro k ⟨⟩; omega)
  replace b56 := b56.grown b68 b56.size (by rintro k ⟨⟩; omega)
  replace b44 := b44.grown b68 b44.size (by rintro k ⟨⟩; omega)
  replace b38 := b38.grown b68 b38.size (by rintro k ⟨⟩; omega)
  replace b26 := b26.grown b68 b26.size (by rintro k ⟨⟩; omega)
  replace r21 := r21.gr b68 (by have := r21.lt; omega)
  replace b18 := b18.grown b68 b18.size (by rintro k ⟨⟩; omega)
  replace b9 := b9.grown b68 b9.size (by rintro k ⟨⟩; omega)
  replace b6 := b6.grown b68 b6.size (by rintro k ⟨⟩; omega)
  replace r4 := r4.gr b68 (by have := r4.lt; omega)
  replace b1 := b1.grown b68 b1.size (by rintro k ⟨⟩; omega)
  replace q := q.grown b68 q.size (by rintro k ⟨⟩; omega)
  replace r12 := r12.gr b68 (by have := r12.lt; omega)
  replace r29 := r29.gr b68 (by have := r29.lt; omega)
  replace r47 := r47.gr b68 (by have := r47.lt; omega)
  have r66 := r70
  clear r70
  refine LL.nilS ?_
  refine CC.seq ?_
  refine CC.grow (by kernel_rfl) (by kernel_rfl) ?_
  refine GG.val (fun w' b' => R.field rfl rfl (I.fld rfl)) rfl rfl ?_
  refine GG.val (fun w' b' => R.load rfl rfl (I.ld1 rfl (RowL.cell (r66.up b') rfl))) rfl rfl ?_
  refine GG.val (fun w' b' => R.move rfl rfl) rfl rfl ?_
  refine GG.val (fun w' b' => R.eqF rfl rfl rfl (by omega)) rfl rfl ?_
  refine GG.val (fun w' b' => R.move rfl rfl) rfl rfl ?_
  refine GG.skip rfl rfl ?_
  refine GG.skip rfl rfl ?_
  refine GG.skip rfl rfl ?_
  refine GG.skip rfl rfl ?_
  refine GG.skip rfl rfl ?_
  refine GG.skip rfl rfl ?_
  refine GG.skip rfl rfl ?_
  refine GG.skip rfl rfl ?_
  refine GG.skip rfl rfl ?_
  refine GG.skip rfl rfl ?_
  refine GG.skip rfl rfl ?_
  refine GG.skip rfl rfl ?_
  refine GG.skip rfl rfl ?_
  refine GG.skip rfl rfl ?_
  refine GG.skip rfl rfl ?_
  refine GG.skip rfl rfl ?_
  refine GG.val (fun w' b' => R.pick rfl rfl rfl) rfl rfl ?_
  refine GG.nilQ (fun W76 b75 => ?_)
  have zb75 := b75.size
  replace b63 := b63.trans (b75.mono b63.size)
  replace b56 := b56.trans (b75.mono b56.size)
  replace b44 := b44.trans (b75.mono b44.size)
  replace b38 := b38.trans (b75.mono b38.size)
  replace b26 := b26.trans (b75.mono b26.size)
  replace r21 := r21.up b75
  replace b18 := b18.trans (b75.mono b18.size)
  replace b9 := b9.trans (b75.mono b9.size)
  replace b6 := b6.trans (b75.mono b6.size)
  replace r4 := r4.up b75
  replace b1 := b1.trans (b75.mono b1.size)
  replace q := q.trans (b75.mono q.size)
  replace r12 := r12.up b75
  replace r29 := r29.up b75
  replace r47 := r47.up b75
  replace r66 := r66.up b75
  refine EE.thenN ?_
  refine CC.no rfl ?_
  refine CC.skip ?_
  refine EE.inN ?_
  refine EE.thenN ?_
  refine CC.region ?_
  refine LL.val (R.addIz (z := 3) rfl rfl rfl (by decide) (by decide)) rfl rfl rfl ?_
  refine LL.val (R.move rfl rfl) rfl rfl rfl ?_
  refine LL.nil ?_
  refine EE.again ?_
  refine RN.step ?_
  refine CC.seq ?_
  refine CC.region ?_
  refine LL.val (R.ltT rfl rfl rfl (by omega)) rfl rfl rfl ?_
  refine LL.nilS ?_
  refine CC.seq ?_
  refine CC.yes rfl ?_
  refine CC.skip ?_
  refine EE.thenN ?_
  refine CC.seq ?_
  refine CC.block ?_
  refine CC.seq ?_
  refine CC.region ?_
  refine LL.val (R.index rfl rfl rfl (I.ixSc rfl rfl (by omega))) rfl rfl rfl ?_
  refine LL.val (R.load rfl rfl (I.ldNc (vs := [Value.int IntKind.i64 4, fnV 29, fnV 46, fnV 42, Value.int IntKind.i64 16]) (RowL.cells r21 rfl) (by rfl) (by rfl))) rfl rfl rfl ?_
  have l77 := r21.lt
  have l78 := r4.lt
  have l79 := r12.lt
  have l80 := r29.lt
  have l81 := r47.lt
  have l82 := r66.lt
  refine LL.alloc ([Value.int IntKind.i64 0, Value.nilFunc, Value.nilFunc, Value.nilFunc, Value.int IntKind.i64 0]) rfl rfl rfl rfl rfl ?_
  intro W84 g85 eg85 r86 z87 b83
  replace b75 := b75.trans (b83.mono b75.size)
  replace b63 := b63.trans (b83.mono b63.size)
  replace b56 := b56.trans (b83.mono b56.size)
  replace b44 := b44.trans (b83.mono b44.size)
  replace b38 := b38.trans (b83.mono b38.size)
  replace b26 := b26.trans (b83.mono b26.size)
  replace r21 := r21.up b83
  replace b18 := b18.trans (b83.mono b18.size)
  replace b9 := b9.trans (b83.mono b9.size)
  replace b6 := b6.trans (b83.mono b6.size)
  replace r4 := r4.up b83
  replace b1 := b1.trans (b83.mono b1.size)
  replace q := q.trans (b83.mono q.size)
  replace r12 := r12.up b83
  replace r29 := r29.up b83
  replace r47 := r47.up b83
  replace r66 := r66.up b83
  refine LL.storeN (vs := [Value.int IntKind.i64 4, fnV 29, fnV 46, fnV 42, Value.int IntKind.i64 16]) rfl rfl rfl rfl r86 (by exact Nat.le_of_ble_eq_true rfl) (ones_of rfl) rfl rfl ?_
  intro W89 r90 b88 z91
  have hlb88 := r86.lt
  replace r90 : RowL W89 _ 79 [Value.int IntKind.i64 4, fnV 29, fnV 46, fnV 42, Value.int IntKind.i64 16] := r90
  clear r86
  replace b83 := b83.grown b88 b83.size (by rintro k ⟨⟩; omega)
  replace b75 := b75.grown b88 b75.size (by rintro k ⟨⟩; omega)
  replace b63 := b63.grown b88 b63.size (by rintro k ⟨⟩; omega)
  replace b56 := b56.grown b88 b56.size (by rintro k ⟨⟩; omega)
  replace b44 := b44.grown b88 b44.size (by rintro k ⟨⟩; omega)
  replace b38 := b38.grown b88 b38.size (by rintro k ⟨⟩; omega)
  replace b26 := b26.grown b88 b26.size (by rintro k ⟨⟩; omega)
  replace r21 := r21.gr b88 (by have := r21.lt; omega)
  replace b18 := b18.grown b88 b18.size (by rintro k ⟨⟩; omega)
  replace b9 := b9.grown b88 b9.size (by rintro k ⟨⟩; omega)
  replace b6 := b6.grown b88 b6.size (by rintro k ⟨⟩; omega)
  replace r4 := r4.gr b88 (by have := r4.lt; omega)
  replace b1 := b1.grown b88 b1.size (by rintro k ⟨⟩; omega)
  replace q := q.grown b88 q.size (by rintro k ⟨⟩; omega)
  replace r12 := r12.gr b88 (by have := r12.lt; omega)
  replace r29 := r29.gr b88 (by have := r29.lt; omega)
  replace r47 := r47.gr b88 (by have := r47.lt; omega)
  replace r66 := r66.gr b88 (by have := r66.lt; omega)
  have r86 := r90
  clear r90
  refine LL.nilS ?_
  refine CC.seq ?_
  refine CC.grow (by kernel_rfl) (by kernel_rfl) ?_
  refine GG.val (fun w' b' => R.field rfl rfl (I.fld rfl)) rfl rfl ?_
  refine GG.val (fun w' b' => R.load rfl rfl (I.ld1 rfl (RowL.cell (r86.up b') rfl))) rfl rfl ?_
  refine GG.val (fun w' b' => R.move rfl rfl) rfl rfl ?_
  refine GG.val (fun w' b' => R.eqF rfl rfl rfl (by omega)) rfl rfl ?_
  refine GG.val (fun w' b' => R.move rfl rfl) rfl rfl ?_
  refine GG.skip rfl rfl ?_
  refine GG.skip rfl rfl ?_
  refine GG.skip rfl rfl ?_
  refine GG.skip rfl rfl ?_
  refine GG.skip rfl rfl ?_
  refine GG.skip rfl rfl ?_
  refine GG.skip rfl rfl ?_
  refine GG.skip rfl rfl ?_
  refine GG.skip rfl rfl ?_
  refine GG.skip rfl rfl ?_
  refine GG.skip rfl rfl ?_
  refine GG.skip rfl rfl ?_
  refine GG.skip rfl rfl ?_
  refine GG.skip rfl rfl ?_
  refine GG.skip rfl rfl ?_
  refine GG.skip rfl rfl ?_
  refine GG.val (fun w' b' => R.pick rfl rfl rfl) rfl rfl ?_
  refine GG.nilQ (fun W96 b95 => ?_)
  have zb95 := b95.size
  replace b83 := b83.trans (b95.mono b83.size)
  replace b75 := b75.trans (b95.mono b75.size)
  replace b63 := b63.trans (b95.mono b63.size)
  replace b56 := b56.trans (b95.mono b56.size)
  replace b44 := b44.trans (b95.mono b44.size)
  replace b38 := b38.trans (b95.mono b38.size)
  replace b26 := b26.trans (b95.mono b26.size)
  replace r21 := r21.up b95
  replace b18 := b18.trans (b95.mono b18.size)
  replace b9 := b9.trans (b95.mono b9.size)
  replace b6 := b6.trans (b95.mono b6.size)
  replace r4 := r4.up b95
  replace b1 := b1.trans (b95.mono b1.size)
  replace q := q.trans (b95.mono q.size)
  replace r12 := r12.up b95
  replace r29 := r29.up b95
  replace r47 := r47.up b95
  replace r66 := r66.up b95
  replace r86 := r86.up b95
  refine EE.thenN ?_
  refine CC.no rfl ?_
  refine CC.skip ?_
  refine EE.inN ?_
  refine EE.thenN ?_
  refine CC.region ?_
  refine LL.val (R.addIz (z := 4) rfl rfl rfl (by decide) (by decide)) rfl rfl rfl ?_
  refine LL.val (R.move rfl rfl) rfl rfl rfl ?_
  refine LL.nil ?_
  refine EE.again ?_
  refine RN.step ?_
  refine CC.seq ?_
  refine CC.region ?_
  refine LL.val (R.ltT rfl rfl rfl (by omega)) rfl rfl rfl ?_
  refine LL.nilS ?_
  refine CC.seq ?_
  refine CC.yes rfl ?_
  refine CC.skip ?_
  refine EE.thenN ?_
  refine CC.seq ?_
  refine CC.block ?_
  refine CC.seq ?_
  refine CC.region ?_
  refine LL.val (R.index rfl rfl rfl (I.ixSc rfl rfl (by omega))) rfl rfl rfl ?_
  refine LL.val (R.load rfl rfl (I.ldNc (vs := [Value.int IntKind.i64 5, fnV 30, fnV 42, fnV 41, Value.int IntKind.i64 64]) (RowL.cells r21 rfl) (by rfl) (by rfl))) rfl rfl rfl ?_
  have l97 := r21.lt
  have l98 := r4.lt
  have l99 := r12.lt
  have l100 := r29.lt
  have l101 := r47.lt
  have l102 := r66.lt
  have l103 := r86.lt
  refine LL.alloc ([Value.int IntKind.i64 0, Value.nilFunc, Value.nilFunc, Value.nilFunc, Value.int IntKind.i64 0]) rfl rfl rfl rfl rfl ?_
  intro W105 g106 eg106 r107 z108 b104
  replace b95 := b95.trans (b104.mono b95.size)
  replace b83 := b83.trans (b104.mono b83.size)
  replace b75 := b75.trans (b104.mono b75.size)
  replace b63 := b63.trans (b104.mono b63.size)
  replace b56 := b56.trans (b104.mono b56.size)
  replace b44 := b44.trans (b104.mono b44.size)
  replace b38 := b38.trans (b104.mono b38.size)
  replace b26 := b26.trans (b104.mono b26.size)
  replace r21 := r21.up b104
  replace b18 := b18.trans (b104.mono b18.size)
  replace b9 := b9.trans (b104.mono b9.size)
  replace b6 := b6.trans (b104.mono b6.size)
  replace r4 := r4.up b104
  replace b1 := b1.trans (b104.mono b1.size)
  replace q := q.trans (b104.mono q.size)
  replace r12 := r12.up b104
  replace r29 := r29.up b104
  replace r47 := r47.up b104
  replace r66 := r66.up b104
  replace r86 := r86.up b104
  refine LL.storeN (vs := [Value.int IntKind.i64 5, fnV 30, fnV 42, fnV 41, Value.int IntKind.i64 64]) rfl rfl rfl rfl r107 (by exact Nat.le_of_ble_eq_true rfl) (ones_of rfl) rfl rfl ?_
  intro W110 r111 b109 z112
  have hlb109 := r107.lt
  replace r111 : RowL W110 _ 79 [Value.int IntKind.i64 5, fnV 30, fnV 42, fnV 41, Value.int IntKind.i64 64] := r111
  clear r107
  replace b104 := b104.grown b109 b104.size (by rintro k ⟨⟩; omega)
  replace b95 := b95.grown b109 b95.size (by rintro k ⟨⟩; omega)
  replace b83 := b83.grown b109 b83.size (by rintro k ⟨⟩; omega)
  replace b75 := b75.grown b109 b75.size (by rintro k ⟨⟩; omega)
  replace b63 := b63.grown b109 b63.size (by rintro k ⟨⟩; omega)
  replace b56 := b56.grown b109 b56.size (by rintro k ⟨⟩; omega)
  replace b44 := b44.grown b109 b44.size (by rintro k ⟨⟩; omega)
  replace b38 := b38.grown b109 b38.size (by rintro k ⟨⟩; omega)
  replace b26 := b26.grown b109 b26.size (by rintro k ⟨⟩; omega)
  replace r21 := r21.gr b109 (by have := r21.lt; omega)
  replace b18 := b18.grown b109 b18.size (by rintro k ⟨⟩; omega)
  replace b9 := b9.grown b109 b9.size (by rintro k ⟨⟩; omega)
  replace b6 := b6.grown b109 b6.size (by rintro k ⟨⟩; omega)
  replace r4 := r4.gr b109 (by have := r4.lt; omega)
  replace b1 := b1.grown b109 b1.size (by rintro k ⟨⟩; omega)
  replace q := q.grown b109 q.size (by rintro k ⟨⟩; omega)
  replace r12 := r12.gr b109 (by have := r12.lt; omega)
  replace r29 := r29.gr b109 (by have := r29.lt; omega)
  replace r47 := r47.gr b109 (by have := r47.lt; omega)
  replace r66 := r66.gr b109 (by have := r66.lt; omega)
  replace r86 := r86.gr b109 (by have := r86.lt; omega)
  have r107 := r111
  clear r111
  refine LL.nilS ?_
  refine CC.seq ?_
  refine CC.grow (by kernel_rfl) (by kernel_rfl) ?_
  refine GG.val (fun w' b' => R.field rfl rfl (I.fld rfl)) rfl rfl ?_
  refine GG.val (fun w' b' => R.load rfl rfl (I.ld1 rfl (RowL.cell (r107.up b') rfl))) rfl rfl ?_
  refine GG.val (fun w' b' => R.move rfl rfl) rfl rfl ?_
  refine GG.val (fun w' b' => R.eqF rfl rfl rfl (by omega)) rfl rfl ?_
  refine GG.val (fun w' b' => R.move rfl rfl) rfl rfl ?_
  refine GG.skip rfl rfl ?_
  refine GG.skip rfl rfl ?_
  refine GG.skip rfl rfl ?_
  refine GG.skip rfl rfl ?_
  refine GG.skip rfl rfl ?_
  refine GG.skip rfl rfl ?_
  refine GG.skip rfl rfl ?_
  refine GG.skip rfl rfl ?_
  refine GG.skip rfl rfl ?_
  refine GG.skip rfl rfl ?_
  refine GG.skip rfl rfl ?_
  refine GG.skip rfl rfl ?_
  refine GG.skip rfl rfl ?_
  refine GG.skip rfl rfl ?_
  refine GG.skip rfl rfl ?_
  refine GG.skip rfl rfl ?_
  refine GG.val (fun w' b' => R.pick rfl rfl rfl) rfl rfl ?_
  refine GG.nilQ (fun W117 b116 => ?_)
  have zb116 := b116.size
  replace b104 := b104.trans (b116.mono b104.size)
  replace b95 := b95.trans (b116.mono b95.size)
  replace b83 := b83.trans (b116.mono b83.size)
  replace b75 := b75.trans (b116.mono b75.size)
  replace b63 := b63.trans (b116.mono b63.size)
  replace b56 := b56.trans (b116.mono b56.size)
  replace b44 := b44.trans (b116.mono b44.size)
  replace b38 := b38.trans (b116.mono b38.size)
  replace b26 := b26.trans (b116.mono b26.size)
  replace r21 := r21.up b116
  replace b18 := b18.trans (b116.mono b18.size)
  replace b9 := b9.trans (b116.mono b9.size)
  replace b6 := b6.trans (b116.mono b6.size)
  replace r4 := r4.up b116
  replace b1 := b1.trans (b116.mono b1.size)
  replace q := q.trans (b116.mono q.size)
  replace r12 := r12.up b116
  replace r29 := r29.up b116
  replace r47 := r47.up b116
  replace r66 := r66.up b116
  replace r86 := r86.up b116
  replace r107 := r107.up b116
  refine EE.thenN ?_
  refine CC.no rfl ?_
  refine CC.skip ?_
  refine EE.inN ?_
  refine EE.thenN ?_
  refine CC.region ?_
  refine LL.val (R.addIz (z := 5) rfl rfl rfl (by decide) (by decide)) rfl rfl rfl ?_
  refine LL.val (R.move rfl rfl) rfl rfl rfl ?_
  refine LL.nil ?_
  refine EE.again ?_
  refine RN.step ?_
  refine CC.seq ?_
  refine CC.region ?_
  refine LL.val (R.ltT rfl rfl rfl (by omega)) rfl rfl rfl ?_
  refine LL.nilS ?_
  refine CC.seq ?_
  refine CC.yes rfl ?_
  refine CC.skip ?_
  refine EE.thenN ?_
  refine CC.seq ?_
  refine CC.block ?_
  refine CC.seq ?_
  refine CC.region ?_
  refine LL.val (R.index rfl rfl rfl (I.ixSc rfl rfl (by omega))) rfl rfl rfl ?_
  refine LL.val (R.load rfl rfl (I.ldNc (vs := [Value.int IntKind.i64 6, fnV 28, fnV 47, fnV 28, Value.int IntKind.i64 64]) (RowL.cells r21 rfl) (by rfl) (by rfl))) rfl rfl rfl ?_
  have l118 := r21.lt
  have l119 := r4.lt
  have l120 := r12.lt
  have l121 := r29.lt
  have l122 := r47.lt
  have l123 := r66.lt
  have l124 := r86.lt
  have l125 := r107.lt
  refine LL.alloc ([Value.int IntKind.i64 0, Value.nilFunc, Value.nilFunc, Value.nilFunc, Value.int IntKind.i64 0]) rfl rfl rfl rfl rfl ?_
  intro W127 g128 eg128 r129 z130 b126
  replace b116 := b116.trans (b126.mono b116.size)
  replace b104 := b104.trans (b126.mono b104.size)
  replace b95 := b95.trans (b126.mono b95.size)
  replace b83 := b83.trans (b126.mono b83.size)
  replace b75 := b75.trans (b126.mono b75.size)
  replace b63 := b63.trans (b126.mono b63.size)
  replace b56 := b56.trans (b126.mono b56.size)
  replace b44 := b44.trans (b126.mono b44.size)
  replace b38 := b38.trans (b126.mono b38.size)
  replace b26 := b26.trans (b126.mono b26.size)
  replace r21 := r21.up b126
  replace b18 := b18.trans (b126.mono b18.size)
  replace b9 := b9.trans (b126.mono b9.size)
  replace b6 := b6.trans (b126.mono b6.size)
  replace r4 := r4.up b126
  replace b1 := b1.trans (b126.mono b1.size)
  replace q := q.trans (b126.mono q.size)
  replace r12 := r12.up b126
  replace r29 := r29.up b126
  replace r47 := r47.up b126
  replace r66 := r66.up b126
  replace r86 := r86.up b126
  replace r107 := r107.up b126
  refine LL.storeN (vs := [Value.int IntKind.i64 6, fnV 28, fnV 47, fnV 28, Value.int IntKind.i64 64]) rfl rfl rfl rfl r129 (by exact Nat.le_of_ble_eq_true rfl) (ones_of rfl) rfl rfl ?_
  intro W132 r133 b131 z134
  have hlb131 := r129.lt
  replace r133 : RowL W132 _ 79 [Value.int IntKind.i64 6, fnV 28, fnV 47, fnV 28, Value.int IntKind.i64 64] := r133
  clear r129
  replace b126 := b126.grown b131 b126.size (by rintro k ⟨⟩; omega)
  replace b116 := b116.grown b131 b116.size (by rintro k ⟨⟩; omega)
  replace b104 := b104.grown b131 b104.size (by rintro k ⟨⟩; omega)
  replace b95 := b95.grown b131 b95.size (by rintro k ⟨⟩; omega)
  replace b83 := b83.grown b131 b83.size (by rintro k ⟨⟩; omega)
  replace b75 := b75.grown b131 b75.size (by rintro k ⟨⟩; omega)
  replace b63 := b63.grown b131 b63.size (by rintro k ⟨⟩; omega)
  replace b56 := b56.grown b131 b56.size (by rintro k ⟨⟩; omega)
  replace b44 := b44.grown b131 b44.size (by rintro k ⟨⟩; omega)
  replace b38 := b38.grown b131 b38.size (by rintro k ⟨⟩; omega)
  replace b26 := b26.grown b131 b26.size (by rintro k ⟨⟩; omega)
  replace r21 := r21.gr b131 (by have := r21.lt; omega)
  replace b18 := b18.grown b131 b18.size (by rintro k ⟨⟩; omega)
  replace b9 := b9.grown b131 b9.size (by rintro k ⟨⟩; omega)
  replace b6 := b6.grown b131 b6.size (by rintro k ⟨⟩; omega)
  replace r4 := r4.gr b131 (by have := r4.lt; omega)
  replace b1 := b1.grown b131 b1.size (by rintro k ⟨⟩; omega)
  replace q := q.grown b131 q.size (by rintro k ⟨⟩; omega)
  replace r12 := r12.gr b131 (by have := r12.lt; omega)
  replace r29 := r29.gr b131 (by have := r29.lt; omega)
  replace r47 := r47.gr b131 (by have := r47.lt; omega)
  replace r66 := r66.gr b131 (by have := r66.lt; omega)
  replace r86 := r86.gr b131 (by have := r86.lt; omega)
  replace r107 := r107.gr b131 (by have := r107.lt; omega)
  have r129 := r133
  clear r133
  refine LL.nilS ?_
  refine CC.seq ?_
  refine CC.grow (by kernel_rfl) (by kernel_rfl) ?_
  refine GG.val (fun w' b' => R.field rfl rfl (I.fld rfl)) rfl rfl ?_
  refine GG.val (fun w' b' => R.load rfl rfl (I.ld1 rfl (RowL.cell (r129.up b') rfl))) rfl rfl ?_
  refine GG.val (fun w' b' => R.move rfl rfl) rfl rfl ?_
  refine GG.val (fun w' b' => R.eqF rfl rfl rfl (by omega)) rfl rfl ?_
  refine GG.val (fun w' b' => R.move rfl rfl) rfl rfl ?_
  refine GG.skip rfl rfl ?_
  refine GG.skip rfl rfl ?_
  refine GG.skip rfl rfl ?_
  refine GG.skip rfl rfl ?_
  refine GG.skip rfl rfl ?_
  refine GG.skip rfl rfl ?_
  refine GG.skip rfl rfl ?_
  refine GG.skip rfl rfl ?_
  refine GG.skip rfl rfl ?_
  refine GG.skip rfl rfl ?_
  refine GG.skip rfl rfl ?_
  refine GG.skip rfl rfl ?_
  refine GG.skip rfl rfl ?_
  refine GG.skip rfl rfl ?_
  refine GG.skip rfl rfl ?_
  refine GG.skip rfl rfl ?_
  refine GG.val (fun w' b' => R.pick rfl rfl rfl) rfl rfl ?_
  refine GG.nilQ (fun W139 b138 => ?_)
  have zb138 := b138.size
  replace b126 := b126.trans (b138.mono b126.size)
  replace b116 := b116.trans (b138.mono b116.size)
  replace b104 := b104.trans (b138.mono b104.size)
  replace b95 := b95.trans (b138.mono b95.size)
  replace b83 := b83.trans (b138.mono b83.size)
  replace b75 := b75.trans (b138.mono b75.size)
  replace b63 := b63.trans (b138.mono b63.size)
  replace b56 := b56.trans (b138.mono b56.size)
  replace b44 := b44.trans (b138.mono b44.size)
  replace b38 := b38.trans (b138.mono b38.size)
  replace b26 := b26.trans (b138.mono b26.size)
  replace r21 := r21.up b138
  replace b18 := b18.trans (b138.mono b18.size)
  replace b9 := b9.trans (b138.mono b9.size)
  replace b6 := b6.trans (b138.mono b6.size)
  replace r4 := r4.up b138
  replace b1 := b1.trans (b138.mono b1.size)
  replace q := q.trans (b138.mono q.size)
  replace r12 := r12.up b138
  replace r29 := r29.up b138
  replace r47 := r47.up b138
  replace r66 := r66.up b138
  replace r86 := r86.up b138
  replace r107 := r107.up b138
  replace r129 := r129.up b138
  refine EE.thenN ?_
  refine CC.no rfl ?_
  refine CC.skip ?_
  refine EE.inN ?_
  refine EE.thenN ?_
  refine CC.region ?_
  refine LL.val (R.addIz (z := 6) rfl rfl rfl (by decide) (by decide)) rfl rfl rfl ?_
  refine LL.val (R.move rfl rfl) rfl rfl rfl ?_
  refine LL.nil ?_
  refine EE.again ?_
  refine RN.step ?_
  refine CC.seq ?_
  refine CC.region ?_
  refine LL.val (R.ltF rfl rfl rfl (by omega)) rfl rfl rfl ?_
  refine LL.nilS ?_
  refine CC.seq ?_
  refine CC.no rfl ?_
  refine CC.exit ?_
  refine EE.thenX ?_
  refine EE.thenX ?_
  refine EE.inX ?_
  refine EE.thenN ?_
  refine CC.seq ?_
  refine CC.region ?_
  refine LL.val (R.assign rfl rfl) rfl rfl rfl ?_
  refine LL.val (R.assign rfl rfl) rfl rfl rfl ?_
  refine LL.nilS ?_
  refine CC.ret ?_
  refine EE.ret _ rfl rfl ?_
  exact ⟨rfl, q⟩
set_option maxRecDepth 100000 in
set_option maxHeartbeats 8000000 in
theorem first2_bad (b i r t : Int) (k1 k2 : Nat) (a c d e n : Int) (w : World) (hl : ¬isL b i r t a c d e) : Calls Try.prog 35 #[layV b i r t k1 k2 a c d e, .int .i64 2, .int .i64 n] w fun x w' => x = .returned (.tuple #[.int .i64 0, .int .i64 2]) ∧ Below w.heap.size w w' := by
  have q := Below.refl w.heap.size w
  refine X.fn Try.func35 rfl (n := 63) rfl rfl ?_
  refine CC.seq ?_
  refine CC.region ?_
  refine LL.box [Value.int IntKind.i64 b, Value.int IntKind.i64 i, Value.int IntKind.i64 r, Value.int IntKind.i64 t, Value.int IntKind.u64 ↑k1, Value.int IntKind.u64 ↑k2, Value.int IntKind.i64 a, Value.int IntKind.i64 c, Value.int IntKind.i64 d, Value.int IntKind.i64 e] rfl rfl rfl rfl rfl ?_
  intro W2 g3 eg3 r4 z5 b1
  replace q := q.trans (b1.mono q.size)
  refine LL.val (R.assign rfl rfl) rfl rfl rfl ?_
  refine LL.val (R.assign rfl rfl) rfl rfl rfl ?_
  refine LL.nilS ?_
  refine CC.seq ?_
  refine CC.seq ?_
  refine CC.region ?_
  refine LL.val (R.load rfl rfl (I.ldNc (vs := [Value.int IntKind.i64 b, Value.int IntKind.i64 i, Value.int IntKind.i64 r, Value.int IntKind.i64 t, Value.int IntKind.u64 ↑k1, Value.int IntKind.u64 ↑k2, Value.int IntKind.i64 a, Value.int IntKind.i64 c, Value.int IntKind.i64 d, Value.int IntKind.i64 e]) (RowL.cells r4 rfl) (by rfl) (by rfl))) rfl rfl rfl ?_
  refine LL.callBF (R.call rfl rfl rfl) rfl rfl rfl (is_any _ _ _ _ _ _ _ _ _ _ _) (by first | assumption | omega) (fun W7 b6 => ?_)
  have zb6 := b6.size
  replace r4 := r4.up b6
  replace b1 := b1.trans (b6.mono b1.size)
  replace q := q.trans (b6.mono q.size)
  refine LL.val (R.not rfl rfl) rfl rfl rfl ?_
  refine LL.nilS ?_
  refine CC.yes rfl ?_
  refine CC.seq ?_
  refine CC.region ?_
  refine LL.val (R.assign rfl rfl) rfl rfl rfl ?_
  refine LL.val (R.assign rfl rfl) rfl rfl rfl ?_
  refine LL.nilS ?_
  refine CC.ret ?_
  refine EE.thenR ?_
  refine EE.ret _ rfl rfl ?_
  exact ⟨rfl, q⟩
set_option maxRecDepth 100000 in
set_option maxHeartbeats 8000000 in
theorem first3_any (b i r t : Int) (k1 k2 : Nat) (a c d e n : Int) (w : World) (hl : isL b i r t a c d e) (hn : 1 ≤ n ∧ n ≤ i) : Calls Try.prog 35 #[layV b i r t k1 k2 a c d e, .int .i64 3, .int .i64 n] w fun x w' => x = .returned (.tuple #[.int .i64 (64 * a + 16 * (n - 1)), .int .i64 0]) ∧ Below w.heap.size w w' := by
  have q := Below.refl w.heap.size w
  refine X.fn Try.func35 rfl (n := 63) rfl rfl ?_
  refine CC.seq ?_
  refine CC.region ?_
  refine LL.box [Value.int IntKind.i64 b, Value.int IntKind.i64 i, Value.int IntKind.i64 r, Value.int IntKind.i64 t, Value.int IntKind.u64 ↑k1, Value.int IntKind.u64 ↑k2, Value.int IntKind.i64 a, Value.int IntKind.i64 c, Value.int IntKind.i64 d, Value.int IntKind.i64 e] rfl rfl rfl rfl rfl ?_
  intro W2 g3 eg3 r4 z5 b1
  replace q := q.trans (b1.mono q.size)
  refine LL.val (R.assign rfl rfl) rfl rfl rfl ?_
  refine LL.val (R.assign rfl rfl) rfl rfl rfl ?_
  refine LL.nilS ?_
  refine CC.seq ?_
  refine CC.seq ?_
  refine CC.region ?_
  refine LL.val (R.load rfl rfl (I.ldNc (vs := [Value.int IntKind.i64 b, Value.int IntKind.i64 i, Value.int IntKind.i64 r, Value.int IntKind.i64 t, Value.int IntKind.u64 ↑k1, Value.int IntKind.u64 ↑k2, Value.int IntKind.i64 a, Value.int IntKind.i64 c, Value.int IntKind.i64 d, Value.int IntKind.i64 e]) (RowL.cells r4 rfl) (by rfl) (by rfl))) rfl rfl rfl ?_
  refine LL.callBT (R.call rfl rfl rfl) rfl rfl rfl (is_any _ _ _ _ _ _ _ _ _ _ _) (by first | assumption | omega) (fun W7 b6 => ?_)
  have zb6 := b6.size
  replace r4 := r4.up b6
  replace b1 := b1.trans (b6.mono b1.size)
  replace q := q.trans (b6.mono q.size)
  refine LL.val (R.not rfl rfl) rfl rfl rfl ?_
  refine LL.nilS ?_
  refine CC.no rfl ?_
  refine CC.skip ?_
  refine EE.thenN ?_
  refine CC.seq ?_
  refine CC.region ?_
  refine LL.val (R.field rfl rfl (I.fld rfl)) rfl rfl rfl ?_
  refine LL.val (R.load rfl rfl (I.ldNc (vs := [Value.int IntKind.i64 b, Value.int IntKind.i64 i, Value.int IntKind.i64 r, Value.int IntKind.i64 t]) (RowL.cells r4 rfl) (by rfl) (by rfl))) rfl rfl rfl ?_
  refine LL.val (R.field rfl rfl (I.fld rfl)) rfl rfl rfl ?_
  refine LL.val (R.load rfl rfl (I.ldNc (vs := [Value.int IntKind.u64 ↑k1, Value.int IntKind.u64 ↑k2]) (RowL.cells r4 rfl) (by rfl) (by rfl))) rfl rfl rfl ?_
  refine LL.val (R.buildV rfl rfl (v := .agg #[Value.int IntKind.i64 b, Value.int IntKind.i64 i, Value.int IntKind.i64 r, Value.int IntKind.i64 t, Value.int IntKind.u64 ↑k1, Value.int IntKind.u64 ↑k2]) (fun _ => by kernel_rfl)) rfl rfl rfl ?_
  have l8 := r4.lt
  refine LL.alloc ([Value.int IntKind.i64 0, Value.int IntKind.i64 0, Value.int IntKind.i64 0, Value.int IntKind.i64 0, Value.int IntKind.u64 0, Value.int IntKind.u64 0]) rfl rfl rfl rfl rfl ?_
  intro W10 g11 eg11 r12 z13 b9
  replace b6 := b6.trans (b9.mono b6.size)
  replace r4 := r4.up b9
  replace b1 := b1.trans (b9.mono b1.size)
  replace q := q.trans (b9.mono q.size)
  refine LL.storeN (vs := [Value.int IntKind.i64 b, Value.int IntKind.i64 i, Value.int IntKind.i64 r, Value.int IntKind.i64 t, Value.int IntKind.u64 ↑k1, Value.int IntKind.u64 ↑k2]) rfl rfl rfl rfl r12 (by exact Nat.le_of_ble_eq_true rfl) (ones_of rfl) rfl rfl ?_
  intro W15 r16 b14 z17
  have hlb14 := r12.lt
  replace r16 : RowL W15 _ 68 [Value.int IntKind.i64 b, Value.int IntKind.i64 i, Value.int IntKind.i64 r, Value.int IntKind.i64 t, Value.int IntKind.u64 ↑k1, Value.int IntKind.u64 ↑k2] := r16
  clear r12
  replace b9 := b9.grown b14 b9.size (by rintro k ⟨⟩; omega)
  replace b6 := b6.grown b14 b6.size (by rintro k ⟨⟩; omega)
  replace r4 := r4.gr b14 (by have := r4.lt; omega)
  replace b1 := b1.grown b14 b1.size (by rintro k ⟨⟩; omega)
  replace q := q.grown b14 q.size (by rintro k ⟨⟩; omega)
  have r12 := r16
  clear r16
  refine LL.nilS ?_
  refine CC.seq ?_
  refine CC.seq ?_
  refine CC.region ?_
  refine LL.call (R.call rfl rfl rfl) rfl rfl rfl (kinds_any _) ?_
  rintro e W19 ⟨g20, rfl, r21, l22, b18⟩
  refine ⟨_, rfl, ?_⟩
  have zb18 := b18.size
  replace b9 := b9.trans (b18.mono b9.size)
  replace b6 := b6.trans (b18.mono b6.size)
  replace r4 := r4.up b18
  replace b1 := b1.trans (b18.mono b1.size)
  replace q := q.trans (b18.mono q.size)
  replace r12 := r12.up b18
  refine LL.val (R.len rfl rfl rfl rfl) rfl rfl rfl ?_
  refine LL.val (R.move rfl rfl) rfl rfl rfl ?_
  refine LL.nilS ?_
  refine CC.block ?_
  refine CC.loopN 7 ?_
  refine RN.step ?_
  refine CC.seq ?_
  refine CC.region ?_
  refine LL.val (R.ltT rfl rfl rfl (by omega)) rfl rfl rfl ?_
  refine LL.nilS ?_
  refine CC.seq ?_
  refine CC.yes rfl ?_
  refine CC.skip ?_
  refine EE.thenN ?_
  refine CC.seq ?_
  refine CC.block ?_
  refine CC.seq ?_
  refine CC.region ?_
  refine LL.val (R.index rfl rfl rfl (I.ixSc rfl rfl (by omega))) rfl rfl rfl ?_
  refine LL.val (R.load rfl rfl (I.ldNc (vs := [Value.int IntKind.i64 1, fnV 41, fnV 42, fnV 41, Value.int IntKind.i64 64]) (RowL.cells r21 rfl) (by rfl) (by rfl))) rfl rfl rfl ?_
  have l23 := r21.lt
  have l24 := r4.lt
  have l25 := r12.lt
  refine LL.alloc ([Value.int IntKind.i64 0, Value.nilFunc, Value.nilFunc, Value.nilFunc, Value.int IntKind.i64 0]) rfl rfl rfl rfl rfl ?_
  intro W27 g28 eg28 r29 z30 b26
  replace r21 := r21.up b26
  replace b18 := b18.trans (b26.mono b18.size)
  replace b9 := b9.trans (b26.mono b9.size)
  replace b6 := b6.trans (b26.mono b6.size)
  replace r4 := r4.up b26
  replace b1 := b1.trans (b26.mono b1.size)
  replace q := q.trans (b26.mono q.size)
  replace r12 := r12.up b26
  refine LL.storeN (vs := [Value.int IntKind.i64 1, fnV 41, fnV 42, fnV 41, Value.int IntKind.i64 64]) rfl rfl rfl rfl r29 (by exact Nat.le_of_ble_eq_true rfl) (ones_of rfl) rfl rfl ?_
  intro W32 r33 b31 z34
  have hlb31 := r29.lt
  replace r33 : RowL W32 _ 79 [Value.int IntKind.i64 1, fnV 41, fnV 42, fnV 41, Value.int IntKind.i64 64] := r33
  clear r29
  replace b26 := b26.grown b31 b26.size (by rintro k ⟨⟩; omega)
  replace r21 := r21.gr b31 (by have := r21.lt; omega)
  replace b18 := b18.grown b31 b18.size (by rintro k ⟨⟩; omega)
  replace b9 := b9.grown b31 b9.size (by rintro k ⟨⟩; omega)
  replace b6 := b6.grown b31 b6.size (by rintro k ⟨⟩; omega)
  replace r4 := r4.gr b31 (by have := r4.lt; omega)
  replace b1 := b1.grown b31 b1.size (by rintro k ⟨⟩; omega)
  replace q := q.grown b31 q.size (by rintro k ⟨⟩; omega)
  replace r12 := r12.gr b31 (by have := r12.lt; omega)
  have r29 := r33
  clear r33
  refine LL.nilS ?_
  refine CC.seq ?_
  refine CC.grow (by kernel_rfl) (by kernel_rfl) ?_
  refine GG.val (fun w' b' => R.field rfl rfl (I.fld rfl)) rfl rfl ?_
  refine GG.val (fun w' b' => R.load rfl rfl (I.ld1 rfl (RowL.cell (r29.up b') rfl))) rfl rfl ?_
  refine GG.val (fun w' b' => R.move rfl rfl) rfl rfl ?_
  refine GG.val (fun w' b' => R.eqF rfl rfl rfl (by omega)) rfl rfl ?_
  refine GG.val (fun w' b' => R.move rfl rfl) rfl rfl ?_
  refine GG.skip rfl rfl ?_
  refine GG.skip rfl rfl ?_
  refine GG.skip rfl rfl ?_
  refine GG.skip rfl rfl ?_
  refine GG.skip rfl rfl ?_
  refine GG.skip rfl rfl ?_
  refine GG.skip rfl rfl ?_
  refine GG.skip rfl rfl ?_
  refine GG.skip rfl rfl ?_
  refine GG.skip rfl rfl ?_
  refine GG.skip rfl rfl ?_
  refine GG.skip rfl rfl ?_
  refine GG.skip rfl rfl ?_
  refine GG.skip rfl rfl ?_
  refine GG.skip rfl rfl ?_
  refine GG.skip rfl rfl ?_
  refine GG.val (fun w' b' => R.pick rfl rfl rfl) rfl rfl ?_
  refine GG.nilQ (fun W39 b38 => ?_)
  have zb38 := b38.size
  replace b26 := b26.trans (b38.mono b26.size)
  replace r21 := r21.up b38
  replace b18 := b18.trans (b38.mono b18.size)
  replace b9 := b9.trans (b38.mono b9.size)
  replace b6 := b6.trans (b38.mono b6.size)
  replace r4 := r4.up b38
  replace b1 := b1.trans (b38.mono b1.size)
  replace q := q.trans (b38.mono q.size)
  replace r12 := r12.up b38
  replace r29 := r29.up b38
  refine EE.thenN ?_
  refine CC.no rfl ?_
  refine CC.skip ?_
  refine EE.inN ?_
  refine EE.thenN ?_
  refine CC.region ?_
  refine LL.val (R.addIz (z := 1) rfl rfl rfl (by decide) (by decide)) rfl rfl rfl ?_
  refine LL.val (R.move rfl rfl) rfl rfl rfl ?_
  refine LL.nil ?_
  refine EE.again ?_
  refine RN.step ?_
  refine CC.seq ?_
  refine CC.region ?_
  refine LL.val (R.ltT rfl rfl rfl (by omega)) rfl rfl rfl ?_
  refine LL.nilS ?_
  refine CC.seq ?_
  refine CC.yes rfl ?_
  refine CC.skip ?_
  refine EE.thenN ?_
  refine CC.seq ?_
  refine CC.block ?_
  refine CC.seq ?_
  refine CC.region ?_
  refine LL.val (R.index rfl rfl rfl (I.ixSc rfl rfl (by omega))) rfl rfl rfl ?_
  refine LL.val (R.load rfl rfl (I.ldNc (vs := [Value.int IntKind.i64 2, fnV 42, fnV 43, fnV 41, Value.int IntKind.i64 64]) (RowL.cells r21 rfl) (by rfl) (by rfl))) rfl rfl rfl ?_
  have l40 := r21.lt
  have l41 := r4.lt
  have l42 := r12.lt
  have l43 := r29.lt
  refine LL.alloc ([Value.int IntKind.i64 0, Value.nilFunc, Value.nilFunc, Value.nilFunc, Value.int IntKind.i64 0]) rfl rfl rfl rfl rfl ?_
  intro W45 g46 eg46 r47 z48 b44
  replace b38 := b38.trans (b44.mono b38.size)
  replace b26 := b26.trans (b44.mono b26.size)
  replace r21 := r21.up b44
  replace b18 := b18.trans (b44.mono b18.size)
  replace b9 := b9.trans (b44.mono b9.size)
  replace b6 := b6.trans (b44.mono b6.size)
  replace r4 := r4.up b44
  replace b1 := b1.trans (b44.mono b1.size)
  replace q := q.trans (b44.mono q.size)
  replace r12 := r12.up b44
  replace r29 := r29.up b44
  refine LL.storeN (vs := [Value.int IntKind.i64 2, fnV 42, fnV 43, fnV 41, Value.int IntKind.i64 64]) rfl rfl rfl rfl r47 (by exact Nat.le_of_ble_eq_true rfl) (ones_of rfl) rfl rfl ?_
  intro W50 r51 b49 z52
  have hlb49 := r47.lt
  replace r51 : RowL W50 _ 79 [Value.int IntKind.i64 2, fnV 42, fnV 43, fnV 41, Value.int IntKind.i64 64] := r51
  clear r47
  replace b44 := b44.grown b49 b44.size (by rintro k ⟨⟩; omega)
  replace b38 := b38.grown b49 b38.size (by rintro k ⟨⟩; omega)
  replace b26 := b26.grown b49 b26.size (by rintro k ⟨⟩; omega)
  replace r21 := r21.gr b49 (by have := r21.lt; omega)
  replace b18 := b18.grown b49 b18.size (by rintro k ⟨⟩; omega)
  replace b9 := b9.grown b49 b9.size (by rintro k ⟨⟩; omega)
  replace b6 := b6.grown b49 b6.size (by rintro k ⟨⟩; omega)
  replace r4 := r4.gr b49 (by have := r4.lt; omega)
  replace b1 := b1.grown b49 b1.size (by rintro k ⟨⟩; omega)
  replace q := q.grown b49 q.size (by rintro k ⟨⟩; omega)
  replace r12 := r12.gr b49 (by have := r12.lt; omega)
  replace r29 := r29.gr b49 (by have := r29.lt; omega)
  have r47 := r51
  clear r51
  refine LL.nilS ?_
  refine CC.seq ?_
  refine CC.grow (by kernel_rfl) (by kernel_rfl) ?_
  refine GG.val (fun w' b' => R.field rfl rfl (I.fld rfl)) rfl rfl ?_
  refine GG.val (fun w' b' => R.load rfl rfl (I.ld1 rfl (RowL.cell (r47.up b') rfl))) rfl rfl ?_
  refine GG.val (fun w' b' => R.move rfl rfl) rfl rfl ?_
  refine GG.val (fun w' b' => R.eqF rfl rfl rfl (by omega)) rfl rfl ?_
  refine GG.val (fun w' b' => R.move rfl rfl) rfl rfl ?_
  refine GG.skip rfl rfl ?_
  refine GG.skip rfl rfl ?_
  refine GG.skip rfl rfl ?_
  refine GG.skip rfl rfl ?_
  refine GG.skip rfl rfl ?_
  refine GG.skip rfl rfl ?_
  refine GG.skip rfl rfl ?_
  refine GG.skip rfl rfl ?_
  refine GG.skip rfl rfl ?_
  refine GG.skip rfl rfl ?_
  refine GG.skip rfl rfl ?_
  refine GG.skip rfl rfl ?_
  refine GG.skip rfl rfl ?_
  refine GG.skip rfl rfl ?_
  refine GG.skip rfl rfl ?_
  refine GG.skip rfl rfl ?_
  refine GG.val (fun w' b' => R.pick rfl rfl rfl) rfl rfl ?_
  refine GG.nilQ (fun W57 b56 => ?_)
  have zb56 := b56.size
  replace b44 := b44.trans (b56.mono b44.size)
  replace b38 := b38.trans (b56.mono b38.size)
  replace b26 := b26.trans (b56.mono b26.size)
  replace r21 := r21.up b56
  replace b18 := b18.trans (b56.mono b18.size)
  replace b9 := b9.trans (b56.mono b9.size)
  replace b6 := b6.trans (b56.mono b6.size)
  replace r4 := r4.up b56
  replace b1 := b1.trans (b56.mono b1.size)
  replace q := q.trans (b56.mono q.size)
  replace r12 := r12.up b56
  replace r29 := r29.up b56
  replace r47 := r47.up b56
  refine EE.thenN ?_
  refine CC.no rfl ?_
  refine CC.skip ?_
  refine EE.inN ?_
  refine EE.thenN ?_
  refine CC.region ?_
  refine LL.val (R.addIz (z := 2) rfl rfl rfl (by decide) (by decide)) rfl rfl rfl ?_
  refine LL.val (R.move rfl rfl) rfl rfl rfl ?_
  refine LL.nil ?_
  refine EE.again ?_
  refine RN.step ?_
  refine CC.seq ?_
  refine CC.region ?_
  refine LL.val (R.ltT rfl rfl rfl (by omega)) rfl rfl rfl ?_
  refine LL.nilS ?_
  refine CC.seq ?_
  refine CC.yes rfl ?_
  refine CC.skip ?_
  refine EE.thenN ?_
  refine CC.seq ?_
  refine CC.block ?_
  refine CC.seq ?_
  refine CC.region ?_
  refine LL.val (R.index rfl rfl rfl (I.ixSc rfl rfl (by omega))) rfl rfl rfl ?_
  refine LL.val (R.load rfl rfl (I.ldNc (vs := [Value.int IntKind.i64 3, fnV 44, fnV 45, fnV 42, Value.int IntKind.i64 16]) (RowL.cells r21 rfl) (by rfl) (by rfl))) rfl rfl rfl ?_
  have l58 := r21.lt
  have l59 := r4.lt
  have l60 := r12.lt
  have l61 := r29.lt
  have l62 := r47.lt
  refine LL.alloc ([Value.int IntKind.i64 0, Value.nilFunc, Value.nilFunc, Value.nilFunc, Value.int IntKind.i64 0]) rfl rfl rfl rfl rfl ?_
  intro W64 g65 eg65 r66 z67 b63
  replace b56 := b56.trans (b63.mono b56.size)
  replace b44 := b44.trans (b63.mono b44.size)
  replace b38 := b38.trans (b63.mono b38.size)
  replace b26 := b26.trans (b63.mono b26.size)
  replace r21 := r21.up b63
  replace b18 := b18.trans (b63.mono b18.size)
  replace b9 := b9.trans (b63.mono b9.size)
  replace b6 := b6.trans (b63.mono b6.size)
  replace r4 := r4.up b63
  replace b1 := b1.trans (b63.mono b1.size)
  replace q := q.trans (b63.mono q.size)
  replace r12 := r12.up b63
  replace r29 := r29.up b63
  replace r47 := r47.up b63
  refine LL.storeN (vs := [Value.int IntKind.i64 3, fnV 44, fnV 45, fnV 42, Value.int IntKind.i64 16]) rfl rfl rfl rfl r66 (by exact Nat.le_of_ble_eq_true rfl) (ones_of rfl) rfl rfl ?_
  intro W69 r70 b68 z71
  have hlb68 := r66.lt
  replace r70 : RowL W69 _ 79 [Value.int IntKind.i64 3, fnV 44, fnV 45, fnV 42, Value.int IntKind.i64 16] := r70
  clear r66
  replace b63 := b63.grown b68 b63.size (by rintro k ⟨⟩; omega)
  replace b56 := b56.grown b68 b56.size (by rintro k ⟨⟩; omega)
  replace b44 := b44.grown b68 b44.size (by rintro k ⟨⟩; omega)
  replace b38 := b38.grown b68 b38.size (by rintro k ⟨⟩; omega)
  replace b26 := b26.grown b68 b26.size (by rintro k ⟨⟩; omega)
  replace r21 := r21.gr b68 (by have := r21.lt; omega)
  replace b18 := b18.grown b68 b18.size (by rintro k ⟨⟩; omega)
  replace b9 := b9.grown b68 b9.size (by rintro k ⟨⟩; omega)
  replace b6 := b6.grown b68 b6.size (by rintro k ⟨⟩; omega)
  replace r4 := r4.gr b68 (by have := r4.lt; omega)
  replace b1 := b1.grown b68 b1.size (by rintro k ⟨⟩; omega)
  replace q := q.grown b68 q.size (by rintro k ⟨⟩; omega)
  replace r12 := r12.gr b68 (by have := r12.lt; omega)
  replace r29 := r29.gr b68 (by have := r29.lt; omega)
  replace r47 := r47.gr b68 (by have := r47.lt; omega)
  have r66 := r70
  clear r70
  refine LL.nilS ?_
  refine CC.seq ?_
  refine CC.grow (by kernel_rfl) (by kernel_rfl) ?_
  refine GG.val (fun w' b' => R.field rfl rfl (I.fld rfl)) rfl rfl ?_
  refine GG.val (fun w' b' => R.load rfl rfl (I.ld1 rfl (RowL.cell (r66.up b') rfl))) rfl rfl ?_
  refine GG.val (fun w' b' => R.move rfl rfl) rfl rfl ?_
  refine GG.val (fun w' b' => R.eqT rfl rfl rfl (by omega)) rfl rfl ?_
  refine GG.val (fun w' b' => R.move rfl rfl) rfl rfl ?_
  refine GG.val (fun w' b' => R.move rfl rfl) rfl rfl ?_
  refine GG.val (fun w' b' => R.field rfl rfl (I.fld rfl)) rfl rfl ?_
  refine GG.val (fun w' b' => R.load rfl rfl (I.ld1 rfl (RowL.cell (r66.up b') rfl))) rfl rfl ?_
  refine GG.val (fun w' b' => R.load rfl rfl (I.ldNc (vs := [Value.int IntKind.i64 b, Value.int IntKind.i64 i, Value.int IntKind.i64 r, Value.int IntKind.i64 t, Value.int IntKind.u64 ↑k1, Value.int IntKind.u64 ↑k2]) (RowL.cells (r12.up b') rfl) (by rfl) (by rfl))) rfl rfl ?_
  refine GG.call (fun w' => (R.callV rfl rfl rfl rfl)) rfl rfl (fun w' b' => (one_any _ _ _ _ _ _ w').mono fun e W' h => ⟨h.1, b'.trans (h.2.mono b'.size)⟩) ?_
  refine GG.val (fun w' b' => R.field rfl rfl (I.fld rfl)) rfl rfl ?_
  refine GG.val (fun w' b' => R.load rfl rfl (I.ld1 rfl (RowL.cell (r66.up b') rfl))) rfl rfl ?_
  refine GG.val (fun w' b' => R.load rfl rfl (I.ldNc (vs := [Value.int IntKind.i64 b, Value.int IntKind.i64 i, Value.int IntKind.i64 r, Value.int IntKind.i64 t, Value.int IntKind.u64 ↑k1, Value.int IntKind.u64 ↑k2]) (RowL.cells (r12.up b') rfl) (by rfl) (by rfl))) rfl rfl ?_
  refine GG.call (fun w' => (R.callV rfl rfl rfl rfl)) rfl rfl (fun w' b' => (one_any _ _ _ _ _ _ w').mono fun e W' h => ⟨h.1, b'.trans (h.2.mono b'.size)⟩) ?_
  refine GG.val (fun w' b' => R.field rfl rfl (I.fld rfl)) rfl rfl ?_
  refine GG.val (fun w' b' => R.load rfl rfl (I.ld1 rfl (RowL.cell (r66.up b') rfl))) rfl rfl ?_
  refine GG.val (fun w' b' => R.load rfl rfl (I.ldNc (vs := [Value.int IntKind.i64 b, Value.int IntKind.i64 i, Value.int IntKind.i64 r, Value.int IntKind.i64 t, Value.int IntKind.u64 ↑k1, Value.int IntKind.u64 ↑k2]) (RowL.cells (r12.up b') rfl) (by rfl) (by rfl))) rfl rfl ?_
  refine GG.call (fun w' => (R.callV rfl rfl rfl rfl)) rfl rfl (fun w' b' => (kinds3_any _ _ _ _ _ _ w').mono fun e W' h => ⟨h.1, b'.trans (h.2.mono b'.size)⟩) ?_
  refine GG.val (fun w' b' => R.addI rfl rfl rfl (by omega)) rfl rfl ?_
  refine GG.val (fun w' b' => R.subI rfl rfl rfl (by omega)) rfl rfl ?_
  refine GG.callDT (fun w' => (R.call rfl rfl rfl)) rfl rfl (fun w' b' => (within_any _ _ _ w').mono fun e W' h => ⟨h.1, h.2 ▸ b'⟩) (by first | assumption | omega) ?_
  refine GG.val (fun w' b' => R.pick rfl rfl rfl) rfl rfl ?_
  refine GG.nilQ (fun W76 b75 => ?_)
  have zb75 := b75.size
  replace b63 := b63.trans (b75.mono b63.size)
  replace b56 := b56.trans (b75.mono b56.size)
  replace b44 := b44.trans (b75.mono b44.size)
  replace b38 := b38.trans (b75.mono b38.size)
  replace b26 := b26.trans (b75.mono b26.size)
  replace r21 := r21.up b75
  replace b18 := b18.trans (b75.mono b18.size)
  replace b9 := b9.trans (b75.mono b9.size)
  replace b6 := b6.trans (b75.mono b6.size)
  replace r4 := r4.up b75
  replace b1 := b1.trans (b75.mono b1.size)
  replace q := q.trans (b75.mono q.size)
  replace r12 := r12.up b75
  replace r29 := r29.up b75
  replace r47 := r47.up b75
  replace r66 := r66.up b75
  refine EE.thenN ?_
  refine CC.yes rfl ?_
  refine CC.seq ?_
  refine CC.grow (by kernel_rfl) (by kernel_rfl) ?_
  refine GG.val (fun w' b' => R.field rfl rfl (I.fld rfl)) rfl rfl ?_
  refine GG.val (fun w' b' => R.load rfl rfl (I.ld1 rfl (RowL.cell (r66.up b') rfl))) rfl rfl ?_
  refine GG.val (fun w' b' => R.load rfl rfl (I.ldNc (vs := [Value.int IntKind.i64 b, Value.int IntKind.i64 i, Value.int IntKind.i64 r, Value.int IntKind.i64 t, Value.int IntKind.u64 ↑k1, Value.int IntKind.u64 ↑k2]) (RowL.cells (r12.up b') rfl) (by rfl) (by rfl))) rfl rfl ?_
  refine GG.call (fun w' => (R.callV rfl rfl rfl rfl)) rfl rfl (fun w' b' => (kinds2_any _ _ _ _ _ _ w').mono fun e W' h => ⟨h.1, b'.trans (h.2.mono b'.size)⟩) ?_
  refine GG.val (fun w' b' => R.mulIz (z := 576) rfl rfl rfl (by decide) (by decide)) rfl rfl ?_
  refine GG.val (fun w' b' => R.move rfl rfl) rfl rfl ?_
  refine GG.val (fun w' b' => R.field rfl rfl (I.fld rfl)) rfl rfl ?_
  refine GG.val (fun w' b' => R.load rfl rfl (I.ld1 rfl (RowL.cell (r66.up b') rfl))) rfl rfl ?_
  refine GG.val (fun w' b' => R.load rfl rfl (I.ldNc (vs := [Value.int IntKind.i64 b, Value.int IntKind.i64 i, Value.int IntKind.i64 r, Value.int IntKind.i64 t, Value.int IntKind.u64 ↑k1, Value.int IntKind.u64 ↑k2]) (RowL.cells (r12.up b') rfl) (by rfl) (by rfl))) rfl rfl ?_
  refine GG.call (fun w' => (R.callV rfl rfl rfl rfl)) rfl rfl (fun w' b' => (one_any _ _ _ _ _ _ w').mono fun e W' h => ⟨h.1, b'.trans (h.2.mono b'.size)⟩) ?_
  refine GG.val (fun w' b' => R.subI rfl rfl rfl (by omega)) rfl rfl ?_
  refine GG.val (fun w' b' => R.field rfl rfl (I.fld rfl)) rfl rfl ?_
  refine GG.val (fun w' b' => R.load rfl rfl (I.ld1 rfl (RowL.cell (r66.up b') rfl))) rfl rfl ?_
  refine GG.val (fun w' b' => R.mulI rfl rfl rfl (by omega)) rfl rfl ?_
  refine GG.val (fun w' b' => R.addI rfl rfl rfl (by omega)) rfl rfl ?_
  refine GG.val (fun w' b' => R.assign rfl rfl) rfl rfl ?_
  refine GG.val (fun w' b' => R.assign rfl rfl) rfl rfl ?_
  refine GG.nilQ (fun W81 b80 => ?_)
  have zb80 := b80.size
  replace b75 := b75.trans (b80.mono b75.size)
  replace b63 := b63.trans (b80.mono b63.size)
  replace b56 := b56.trans (b80.mono b56.size)
  replace b44 := b44.trans (b80.mono b44.size)
  replace b38 := b38.trans (b80.mono b38.size)
  replace b26 := b26.trans (b80.mono b26.size)
  replace r21 := r21.up b80
  replace b18 := b18.trans (b80.mono b18.size)
  replace b9 := b9.trans (b80.mono b9.size)
  replace b6 := b6.trans (b80.mono b6.size)
  replace r4 := r4.up b80
  replace b1 := b1.trans (b80.mono b1.size)
  replace q := q.trans (b80.mono q.size)
  replace r12 := r12.up b80
  replace r29 := r29.up b80
  replace r47 := r47.up b80
  replace r66 := r66.up b80
  refine EE.thenN ?_
  refine CC.ret ?_
  refine EE.inR ?_
  refine EE.thenR ?_
  refine EE.thenR ?_
  refine EE.inR ?_
  refine EE.thenR ?_
  refine EE.ret _ rfl rfl ?_
  exact ⟨by simp [resV]; omega, q⟩
set_option maxRecDepth 100000 in
set_option maxHeartbeats 8000000 in
theorem first3_out (b i r t : Int) (k1 k2 : Nat) (a c d e n : Int) (w : World) (hl : isL b i r t a c d e) (hn : ¬(1 ≤ n ∧ n ≤ i)) : Calls Try.prog 35 #[layV b i r t k1 k2 a c d e, .int .i64 3, .int .i64 n] w fun x w' => x = .returned (.tuple #[.int .i64 0, .int .i64 4]) ∧ Below w.heap.size w w' := by
  have q := Below.refl w.heap.size w
  refine X.fn Try.func35 rfl (n := 63) rfl rfl ?_
  refine CC.seq ?_
  refine CC.region ?_
  refine LL.box [Value.int IntKind.i64 b, Value.int IntKind.i64 i, Value.int IntKind.i64 r, Value.int IntKind.i64 t, Value.int IntKind.u64 ↑k1, Value.int IntKind.u64 ↑k2, Value.int IntKind.i64 a, Value.int IntKind.i64 c, Value.int IntKind.i64 d, Value.int IntKind.i64 e] rfl rfl rfl rfl rfl ?_
  intro W2 g3 eg3 r4 z5 b1
  replace q := q.trans (b1.mono q.size)
  refine LL.val (R.assign rfl rfl) rfl rfl rfl ?_
  refine LL.val (R.assign rfl rfl) rfl rfl rfl ?_
  refine LL.nilS ?_
  refine CC.seq ?_
  refine CC.seq ?_
  refine CC.region ?_
  refine LL.val (R.load rfl rfl (I.ldNc (vs := [Value.int IntKind.i64 b, Value.int IntKind.i64 i, Value.int IntKind.i64 r, Value.int IntKind.i64 t, Value.int IntKind.u64 ↑k1, Value.int IntKind.u64 ↑k2, Value.int IntKind.i64 a, Value.int IntKind.i64 c, Value.int IntKind.i64 d, Value.int IntKind.i64 e]) (RowL.cells r4 rfl) (by rfl) (by rfl))) rfl rfl rfl ?_
  refine LL.callBT (R.call rfl rfl rfl) rfl rfl rfl (is_any _ _ _ _ _ _ _ _ _ _ _) (by first | assumption | omega) (fun W7 b6 => ?_)
  have zb6 := b6.size
  replace r4 := r4.up b6
  replace b1 := b1.trans (b6.mono b1.size)
  replace q := q.trans (b6.mono q.size)
  refine LL.val (R.not rfl rfl) rfl rfl rfl ?_
  refine LL.nilS ?_
  refine CC.no rfl ?_
  refine CC.skip ?_
  refine EE.thenN ?_
  refine CC.seq ?_
  refine CC.region ?_
  refine LL.val (R.field rfl rfl (I.fld rfl)) rfl rfl rfl ?_
  refine LL.val (R.load rfl rfl (I.ldNc (vs := [Value.int IntKind.i64 b, Value.int IntKind.i64 i, Value.int IntKind.i64 r, Value.int IntKind.i64 t]) (RowL.cells r4 rfl) (by rfl) (by rfl))) rfl rfl rfl ?_
  refine LL.val (R.field rfl rfl (I.fld rfl)) rfl rfl rfl ?_
  refine LL.val (R.load rfl rfl (I.ldNc (vs := [Value.int IntKind.u64 ↑k1, Value.int IntKind.u64 ↑k2]) (RowL.cells r4 rfl) (by rfl) (by rfl))) rfl rfl rfl ?_
  refine LL.val (R.buildV rfl rfl (v := .agg #[Value.int IntKind.i64 b, Value.int IntKind.i64 i, Value.int IntKind.i64 r, Value.int IntKind.i64 t, Value.int IntKind.u64 ↑k1, Value.int IntKind.u64 ↑k2]) (fun _ => by kernel_rfl)) rfl rfl rfl ?_
  have l8 := r4.lt
  refine LL.alloc ([Value.int IntKind.i64 0, Value.int IntKind.i64 0, Value.int IntKind.i64 0, Value.int IntKind.i64 0, Value.int IntKind.u64 0, Value.int IntKind.u64 0]) rfl rfl rfl rfl rfl ?_
  intro W10 g11 eg11 r12 z13 b9
  replace b6 := b6.trans (b9.mono b6.size)
  replace r4 := r4.up b9
  replace b1 := b1.trans (b9.mono b1.size)
  replace q := q.trans (b9.mono q.size)
  refine LL.storeN (vs := [Value.int IntKind.i64 b, Value.int IntKind.i64 i, Value.int IntKind.i64 r, Value.int IntKind.i64 t, Value.int IntKind.u64 ↑k1, Value.int IntKind.u64 ↑k2]) rfl rfl rfl rfl r12 (by exact Nat.le_of_ble_eq_true rfl) (ones_of rfl) rfl rfl ?_
  intro W15 r16 b14 z17
  have hlb14 := r12.lt
  replace r16 : RowL W15 _ 68 [Value.int IntKind.i64 b, Value.int IntKind.i64 i, Value.int IntKind.i64 r, Value.int IntKind.i64 t, Value.int IntKind.u64 ↑k1, Value.int IntKind.u64 ↑k2] := r16
  clear r12
  replace b9 := b9.grown b14 b9.size (by rintro k ⟨⟩; omega)
  replace b6 := b6.grown b14 b6.size (by rintro k ⟨⟩; omega)
  replace r4 := r4.gr b14 (by have := r4.lt; omega)
  replace b1 := b1.grown b14 b1.size (by rintro k ⟨⟩; omega)
  replace q := q.grown b14 q.size (by rintro k ⟨⟩; omega)
  have r12 := r16
  clear r16
  refine LL.nilS ?_
  refine CC.seq ?_
  refine CC.seq ?_
  refine CC.region ?_
  refine LL.call (R.call rfl rfl rfl) rfl rfl rfl (kinds_any _) ?_
  rintro e W19 ⟨g20, rfl, r21, l22, b18⟩
  refine ⟨_, rfl, ?_⟩
  have zb18 := b18.size
  replace b9 := b9.trans (b18.mono b9.size)
  replace b6 := b6.trans (b18.mono b6.size)
  replace r4 := r4.up b18
  replace b1 := b1.trans (b18.mono b1.size)
  replace q := q.trans (b18.mono q.size)
  replace r12 := r12.up b18
  refine LL.val (R.len rfl rfl rfl rfl) rfl rfl rfl ?_
  refine LL.val (R.move rfl rfl) rfl rfl rfl ?_
  refine LL.nilS ?_
  refine CC.block ?_
  refine CC.loopN 7 ?_
  refine RN.step ?_
  refine CC.seq ?_
  refine CC.region ?_
  refine LL.val (R.ltT rfl rfl rfl (by omega)) rfl rfl rfl ?_
  refine LL.nilS ?_
  refine CC.seq ?_
  refine CC.yes rfl ?_
  refine CC.skip ?_
  refine EE.thenN ?_
  refine CC.seq ?_
  refine CC.block ?_
  refine CC.seq ?_
  refine CC.region ?_
  refine LL.val (R.index rfl rfl rfl (I.ixSc rfl rfl (by omega))) rfl rfl rfl ?_
  refine LL.val (R.load rfl rfl (I.ldNc (vs := [Value.int IntKind.i64 1, fnV 41, fnV 42, fnV 41, Value.int IntKind.i64 64]) (RowL.cells r21 rfl) (by rfl) (by rfl))) rfl rfl rfl ?_
  have l23 := r21.lt
  have l24 := r4.lt
  have l25 := r12.lt
  refine LL.alloc ([Value.int IntKind.i64 0, Value.nilFunc, Value.nilFunc, Value.nilFunc, Value.int IntKind.i64 0]) rfl rfl rfl rfl rfl ?_
  intro W27 g28 eg28 r29 z30 b26
  replace r21 := r21.up b26
  replace b18 := b18.trans (b26.mono b18.size)
  replace b9 := b9.trans (b26.mono b9.size)
  replace b6 := b6.trans (b26.mono b6.size)
  replace r4 := r4.up b26
  replace b1 := b1.trans (b26.mono b1.size)
  replace q := q.trans (b26.mono q.size)
  replace r12 := r12.up b26
  refine LL.storeN (vs := [Value.int IntKind.i64 1, fnV 41, fnV 42, fnV 41, Value.int IntKind.i64 64]) rfl rfl rfl rfl r29 (by exact Nat.le_of_ble_eq_true rfl) (ones_of rfl) rfl rfl ?_
  intro W32 r33 b31 z34
  have hlb31 := r29.lt
  replace r33 : RowL W32 _ 79 [Value.int IntKind.i64 1, fnV 41, fnV 42, fnV 41, Value.int IntKind.i64 64] := r33
  clear r29
  replace b26 := b26.grown b31 b26.size (by rintro k ⟨⟩; omega)
  replace r21 := r21.gr b31 (by have := r21.lt; omega)
  replace b18 := b18.grown b31 b18.size (by rintro k ⟨⟩; omega)
  replace b9 := b9.grown b31 b9.size (by rintro k ⟨⟩; omega)
  replace b6 := b6.grown b31 b6.size (by rintro k ⟨⟩; omega)
  replace r4 := r4.gr b31 (by have := r4.lt; omega)
  replace b1 := b1.grown b31 b1.size (by rintro k ⟨⟩; omega)
  replace q := q.grown b31 q.size (by rintro k ⟨⟩; omega)
  replace r12 := r12.gr b31 (by have := r12.lt; omega)
  have r29 := r33
  clear r33
  refine LL.nilS ?_
  refine CC.seq ?_
  refine CC.grow (by kernel_rfl) (by kernel_rfl) ?_
  refine GG.val (fun w' b' => R.field rfl rfl (I.fld rfl)) rfl rfl ?_
  refine GG.val (fun w' b' => R.load rfl rfl (I.ld1 rfl (RowL.cell (r29.up b') rfl))) rfl rfl ?_
  refine GG.val (fun w' b' => R.move rfl rfl) rfl rfl ?_
  refine GG.val (fun w' b' => R.eqF rfl rfl rfl (by omega)) rfl rfl ?_
  refine GG.val (fun w' b' => R.move rfl rfl) rfl rfl ?_
  refine GG.skip rfl rfl ?_
  refine GG.skip rfl rfl ?_
  refine GG.skip rfl rfl ?_
  refine GG.skip rfl rfl ?_
  refine GG.skip rfl rfl ?_
  refine GG.skip rfl rfl ?_
  refine GG.skip rfl rfl ?_
  refine GG.skip rfl rfl ?_
  refine GG.skip rfl rfl ?_
  refine GG.skip rfl rfl ?_
  refine GG.skip rfl rfl ?_
  refine GG.skip rfl rfl ?_
  refine GG.skip rfl rfl ?_
  refine GG.skip rfl rfl ?_
  refine GG.skip rfl rfl ?_
  refine GG.skip rfl rfl ?_
  refine GG.val (fun w' b' => R.pick rfl rfl rfl) rfl rfl ?_
  refine GG.nilQ (fun W39 b38 => ?_)
  have zb38 := b38.size
  replace b26 := b26.trans (b38.mono b26.size)
  replace r21 := r21.up b38
  replace b18 := b18.trans (b38.mono b18.size)
  replace b9 := b9.trans (b38.mono b9.size)
  replace b6 := b6.trans (b38.mono b6.size)
  replace r4 := r4.up b38
  replace b1 := b1.trans (b38.mono b1.size)
  replace q := q.trans (b38.mono q.size)
  replace r12 := r12.up b38
  replace r29 := r29.up b38
  refine EE.thenN ?_
  refine CC.no rfl ?_
  refine CC.skip ?_
  refine EE.inN ?_
  refine EE.thenN ?_
  refine CC.region ?_
  refine LL.val (R.addIz (z := 1) rfl rfl rfl (by decide) (by decide)) rfl rfl rfl ?_
  refine LL.val (R.move rfl rfl) rfl rfl rfl ?_
  refine LL.nil ?_
  refine EE.again ?_
  refine RN.step ?_
  refine CC.seq ?_
  refine CC.region ?_
  refine LL.val (R.ltT rfl rfl rfl (by omega)) rfl rfl rfl ?_
  refine LL.nilS ?_
  refine CC.seq ?_
  refine CC.yes rfl ?_
  refine CC.skip ?_
  refine EE.thenN ?_
  refine CC.seq ?_
  refine CC.block ?_
  refine CC.seq ?_
  refine CC.region ?_
  refine LL.val (R.index rfl rfl rfl (I.ixSc rfl rfl (by omega))) rfl rfl rfl ?_
  refine LL.val (R.load rfl rfl (I.ldNc (vs := [Value.int IntKind.i64 2, fnV 42, fnV 43, fnV 41, Value.int IntKind.i64 64]) (RowL.cells r21 rfl) (by rfl) (by rfl))) rfl rfl rfl ?_
  have l40 := r21.lt
  have l41 := r4.lt
  have l42 := r12.lt
  have l43 := r29.lt
  refine LL.alloc ([Value.int IntKind.i64 0, Value.nilFunc, Value.nilFunc, Value.nilFunc, Value.int IntKind.i64 0]) rfl rfl rfl rfl rfl ?_
  intro W45 g46 eg46 r47 z48 b44
  replace b38 := b38.trans (b44.mono b38.size)
  replace b26 := b26.trans (b44.mono b26.size)
  replace r21 := r21.up b44
  replace b18 := b18.trans (b44.mono b18.size)
  replace b9 := b9.trans (b44.mono b9.size)
  replace b6 := b6.trans (b44.mono b6.size)
  replace r4 := r4.up b44
  replace b1 := b1.trans (b44.mono b1.size)
  replace q := q.trans (b44.mono q.size)
  replace r12 := r12.up b44
  replace r29 := r29.up b44
  refine LL.storeN (vs := [Value.int IntKind.i64 2, fnV 42, fnV 43, fnV 41, Value.int IntKind.i64 64]) rfl rfl rfl rfl r47 (by exact Nat.le_of_ble_eq_true rfl) (ones_of rfl) rfl rfl ?_
  intro W50 r51 b49 z52
  have hlb49 := r47.lt
  replace r51 : RowL W50 _ 79 [Value.int IntKind.i64 2, fnV 42, fnV 43, fnV 41, Value.int IntKind.i64 64] := r51
  clear r47
  replace b44 := b44.grown b49 b44.size (by rintro k ⟨⟩; omega)
  replace b38 := b38.grown b49 b38.size (by rintro k ⟨⟩; omega)
  replace b26 := b26.grown b49 b26.size (by rintro k ⟨⟩; omega)
  replace r21 := r21.gr b49 (by have := r21.lt; omega)
  replace b18 := b18.grown b49 b18.size (by rintro k ⟨⟩; omega)
  replace b9 := b9.grown b49 b9.size (by rintro k ⟨⟩; omega)
  replace b6 := b6.grown b49 b6.size (by rintro k ⟨⟩; omega)
  replace r4 := r4.gr b49 (by have := r4.lt; omega)
  replace b1 := b1.grown b49 b1.size (by rintro k ⟨⟩; omega)
  replace q := q.grown b49 q.size (by rintro k ⟨⟩; omega)
  replace r12 := r12.gr b49 (by have := r12.lt; omega)
  replace r29 := r29.gr b49 (by have := r29.lt; omega)
  have r47 := r51
  clear r51
  refine LL.nilS ?_
  refine CC.seq ?_
  refine CC.grow (by kernel_rfl) (by kernel_rfl) ?_
  refine GG.val (fun w' b' => R.field rfl rfl (I.fld rfl)) rfl rfl ?_
  refine GG.val (fun w' b' => R.load rfl rfl (I.ld1 rfl (RowL.cell (r47.up b') rfl))) rfl rfl ?_
  refine GG.val (fun w' b' => R.move rfl rfl) rfl rfl ?_
  refine GG.val (fun w' b' => R.eqF rfl rfl rfl (by omega)) rfl rfl ?_
  refine GG.val (fun w' b' => R.move rfl rfl) rfl rfl ?_
  refine GG.skip rfl rfl ?_
  refine GG.skip rfl rfl ?_
  refine GG.skip rfl rfl ?_
  refine GG.skip rfl rfl ?_
  refine GG.skip rfl rfl ?_
  refine GG.skip rfl rfl ?_
  refine GG.skip rfl rfl ?_
  refine GG.skip rfl rfl ?_
  refine GG.skip rfl rfl ?_
  refine GG.skip rfl rfl ?_
  refine GG.skip rfl rfl ?_
  refine GG.skip rfl rfl ?_
  refine GG.skip rfl rfl ?_
  refine GG.skip rfl rfl ?_
  refine GG.skip rfl rfl ?_
  refine GG.skip rfl rfl ?_
  refine GG.val (fun w' b' => R.pick rfl rfl rfl) rfl rfl ?_
  refine GG.nilQ (fun W57 b56 => ?_)
  have zb56 := b56.size
  replace b44 := b44.trans (b56.mono b44.size)
  replace b38 := b38.trans (b56.mono b38.size)
  replace b26 := b26.trans (b56.mono b26.size)
  replace r21 := r21.up b56
  replace b18 := b18.trans (b56.mono b18.size)
  replace b9 := b9.trans (b56.mono b9.size)
  replace b6 := b6.trans (b56.mono b6.size)
  replace r4 := r4.up b56
  replace b1 := b1.trans (b56.mono b1.size)
  replace q := q.trans (b56.mono q.size)
  replace r12 := r12.up b56
  replace r29 := r29.up b56
  replace r47 := r47.up b56
  refine EE.thenN ?_
  refine CC.no rfl ?_
  refine CC.skip ?_
  refine EE.inN ?_
  refine EE.thenN ?_
  refine CC.region ?_
  refine LL.val (R.addIz (z := 2) rfl rfl rfl (by decide) (by decide)) rfl rfl rfl ?_
  refine LL.val (R.move rfl rfl) rfl rfl rfl ?_
  refine LL.nil ?_
  refine EE.again ?_
  refine RN.step ?_
  refine CC.seq ?_
  refine CC.region ?_
  refine LL.val (R.ltT rfl rfl rfl (by omega)) rfl rfl rfl ?_
  refine LL.nilS ?_
  refine CC.seq ?_
  refine CC.yes rfl ?_
  refine CC.skip ?_
  refine EE.thenN ?_
  refine CC.seq ?_
  refine CC.block ?_
  refine CC.seq ?_
  refine CC.region ?_
  refine LL.val (R.index rfl rfl rfl (I.ixSc rfl rfl (by omega))) rfl rfl rfl ?_
  refine LL.val (R.load rfl rfl (I.ldNc (vs := [Value.int IntKind.i64 3, fnV 44, fnV 45, fnV 42, Value.int IntKind.i64 16]) (RowL.cells r21 rfl) (by rfl) (by rfl))) rfl rfl rfl ?_
  have l58 := r21.lt
  have l59 := r4.lt
  have l60 := r12.lt
  have l61 := r29.lt
  have l62 := r47.lt
  refine LL.alloc ([Value.int IntKind.i64 0, Value.nilFunc, Value.nilFunc, Value.nilFunc, Value.int IntKind.i64 0]) rfl rfl rfl rfl rfl ?_
  intro W64 g65 eg65 r66 z67 b63
  replace b56 := b56.trans (b63.mono b56.size)
  replace b44 := b44.trans (b63.mono b44.size)
  replace b38 := b38.trans (b63.mono b38.size)
  replace b26 := b26.trans (b63.mono b26.size)
  replace r21 := r21.up b63
  replace b18 := b18.trans (b63.mono b18.size)
  replace b9 := b9.trans (b63.mono b9.size)
  replace b6 := b6.trans (b63.mono b6.size)
  replace r4 := r4.up b63
  replace b1 := b1.trans (b63.mono b1.size)
  replace q := q.trans (b63.mono q.size)
  replace r12 := r12.up b63
  replace r29 := r29.up b63
  replace r47 := r47.up b63
  refine LL.storeN (vs := [Value.int IntKind.i64 3, fnV 44, fnV 45, fnV 42, Value.int IntKind.i64 16]) rfl rfl rfl rfl r66 (by exact Nat.le_of_ble_eq_true rfl) (ones_of rfl) rfl rfl ?_
  intro W69 r70 b68 z71
  have hlb68 := r66.lt
  replace r70 : RowL W69 _ 79 [Value.int IntKind.i64 3, fnV 44, fnV 45, fnV 42, Value.int IntKind.i64 16] := r70
  clear r66
  replace b63 := b63.grown b68 b63.size (by rintro k ⟨⟩; omega)
  replace b56 := b56.grown b68 b56.size (by rintro k ⟨⟩; omega)
  replace b44 := b44.grown b68 b44.size (by rintro k ⟨⟩; omega)
  replace b38 := b38.grown b68 b38.size (by rintro k ⟨⟩; omega)
  replace b26 := b26.grown b68 b26.size (by rintro k ⟨⟩; omega)
  replace r21 := r21.gr b68 (by have := r21.lt; omega)
  replace b18 := b18.grown b68 b18.size (by rintro k ⟨⟩; omega)
  replace b9 := b9.grown b68 b9.size (by rintro k ⟨⟩; omega)
  replace b6 := b6.grown b68 b6.size (by rintro k ⟨⟩; omega)
  replace r4 := r4.gr b68 (by have := r4.lt; omega)
  replace b1 := b1.grown b68 b1.size (by rintro k ⟨⟩; omega)
  replace q := q.grown b68 q.size (by rintro k ⟨⟩; omega)
  replace r12 := r12.gr b68 (by have := r12.lt; omega)
  replace r29 := r29.gr b68 (by have := r29.lt; omega)
  replace r47 := r47.gr b68 (by have := r47.lt; omega)
  have r66 := r70
  clear r70
  refine LL.nilS ?_
  refine CC.seq ?_
  refine CC.grow (by kernel_rfl) (by kernel_rfl) ?_
  refine GG.val (fun w' b' => R.field rfl rfl (I.fld rfl)) rfl rfl ?_
  refine GG.val (fun w' b' => R.load rfl rfl (I.ld1 rfl (RowL.cell (r66.up b') rfl))) rfl rfl ?_
  refine GG.val (fun w' b' => R.move rfl rfl) rfl rfl ?_
  refine GG.val (fun w' b' => R.eqT rfl rfl rfl (by omega)) rfl rfl ?_
  refine GG.val (fun w' b' => R.move rfl rfl) rfl rfl ?_
  refine GG.val (fun w' b' => R.move rfl rfl) rfl rfl ?_
  refine GG.val (fun w' b' => R.field rfl rfl (I.fld rfl)) rfl rfl ?_
  refine GG.val (fun w' b' => R.load rfl rfl (I.ld1 rfl (RowL.cell (r66.up b') rfl))) rfl rfl ?_
  refine GG.val (fun w' b' => R.load rfl rfl (I.ldNc (vs := [Value.int IntKind.i64 b, Value.int IntKind.i64 i, Value.int IntKind.i64 r, Value.int IntKind.i64 t, Value.int IntKind.u64 ↑k1, Value.int IntKind.u64 ↑k2]) (RowL.cells (r12.up b') rfl) (by rfl) (by rfl))) rfl rfl ?_
  refine GG.call (fun w' => (R.callV rfl rfl rfl rfl)) rfl rfl (fun w' b' => (one_any _ _ _ _ _ _ w').mono fun e W' h => ⟨h.1, b'.trans (h.2.mono b'.size)⟩) ?_
  refine GG.val (fun w' b' => R.field rfl rfl (I.fld rfl)) rfl rfl ?_
  refine GG.val (fun w' b' => R.load rfl rfl (I.ld1 rfl (RowL.cell (r66.up b') rfl))) rfl rfl ?_
  refine GG.val (fun w' b' => R.load rfl rfl (I.ldNc (vs := [Value.int IntKind.i64 b, Value.int IntKind.i64 i, Value.int IntKind.i64 r, Value.int IntKind.i64 t, Value.int IntKind.u64 ↑k1, Value.int IntKind.u64 ↑k2]) (RowL.cells (r12.up b') rfl) (by rfl) (by rfl))) rfl rfl ?_
  refine GG.call (fun w' => (R.callV rfl rfl rfl rfl)) rfl rfl (fun w' b' => (one_any _ _ _ _ _ _ w').mono fun e W' h => ⟨h.1, b'.trans (h.2.mono b'.size)⟩) ?_
  refine GG.val (fun w' b' => R.field rfl rfl (I.fld rfl)) rfl rfl ?_
  refine GG.val (fun w' b' => R.load rfl rfl (I.ld1 rfl (RowL.cell (r66.up b') rfl))) rfl rfl ?_
  refine GG.val (fun w' b' => R.load rfl rfl (I.ldNc (vs := [Value.int IntKind.i64 b, Value.int IntKind.i64 i, Value.int IntKind.i64 r, Value.int IntKind.i64 t, Value.int IntKind.u64 ↑k1, Value.int IntKind.u64 ↑k2]) (RowL.cells (r12.up b') rfl) (by rfl) (by rfl))) rfl rfl ?_
  refine GG.call (fun w' => (R.callV rfl rfl rfl rfl)) rfl rfl (fun w' b' => (kinds3_any _ _ _ _ _ _ w').mono fun e W' h => ⟨h.1, b'.trans (h.2.mono b'.size)⟩) ?_
  refine GG.val (fun w' b' => R.addI rfl rfl rfl (by omega)) rfl rfl ?_
  refine GG.val (fun w' b' => R.subI rfl rfl rfl (by omega)) rfl rfl ?_
  refine GG.callDF (fun w' => (R.call rfl rfl rfl)) rfl rfl (fun w' b' => (within_any _ _ _ w').mono fun e W' h => ⟨h.1, h.2 ▸ b'⟩) (by first | assumption | omega) ?_
  refine GG.val (fun w' b' => R.pick rfl rfl rfl) rfl rfl ?_
  refine GG.nilQ (fun W76 b75 => ?_)
  have zb75 := b75.size
  replace b63 := b63.trans (b75.mono b63.size)
  replace b56 := b56.trans (b75.mono b56.size)
  replace b44 := b44.trans (b75.mono b44.size)
  replace b38 := b38.trans (b75.mono b38.size)
  replace b26 := b26.trans (b75.mono b26.size)
  replace r21 := r21.up b75
  replace b18 := b18.trans (b75.mono b18.size)
  replace b9 := b9.trans (b75.mono b9.size)
  replace b6 := b6.trans (b75.mono b6.size)
  replace r4 := r4.up b75
  replace b1 := b1.trans (b75.mono b1.size)
  replace q := q.trans (b75.mono q.size)
  replace r12 := r12.up b75
  replace r29 := r29.up b75
  replace r47 := r47.up b75
  replace r66 := r66.up b75
  refine EE.thenN ?_
  refine CC.no rfl ?_
  refine CC.skip ?_
  refine EE.inN ?_
  refine EE.thenN ?_
  refine CC.region ?_
  refine LL.val (R.addIz (z := 3) rfl rfl rfl (by decide) (by decide)) rfl rfl rfl ?_
  refine LL.val (R.move rfl rfl) rfl rfl rfl ?_
  refine LL.nil ?_
  refine EE.again ?_
  refine RN.step ?_
  refine CC.seq ?_
  refine CC.region ?_
  refine LL.val (R.ltT rfl rfl rfl (by omega)) rfl rfl rfl ?_
  refine LL.nilS ?_
  refine CC.seq ?_
  refine CC.yes rfl ?_
  refine CC.skip ?_
  refine EE.thenN ?_
  refine CC.seq ?_
  refine CC.block ?_
  refine CC.seq ?_
  refine CC.region ?_
  refine LL.val (R.index rfl rfl rfl (I.ixSc rfl rfl (by omega))) rfl rfl rfl ?_
  refine LL.val (R.load rfl rfl (I.ldNc (vs := [Value.int IntKind.i64 4, fnV 29, fnV 46, fnV 42, Value.int IntKind.i64 16]) (RowL.cells r21 rfl) (by rfl) (by rfl))) rfl rfl rfl ?_
  have l77 := r21.lt
  have l78 := r4.lt
  have l79 := r12.lt
  have l80 := r29.lt
  have l81 := r47.lt
  have l82 := r66.lt
  refine LL.alloc ([Value.int IntKind.i64 0, Value.nilFunc, Value.nilFunc, Value.nilFunc, Value.int IntKind.i64 0]) rfl rfl rfl rfl rfl ?_
  intro W84 g85 eg85 r86 z87 b83
  replace b75 := b75.trans (b83.mono b75.size)
  replace b63 := b63.trans (b83.mono b63.size)
  replace b56 := b56.trans (b83.mono b56.size)
  replace b44 := b44.trans (b83.mono b44.size)
  replace b38 := b38.trans (b83.mono b38.size)
  replace b26 := b26.trans (b83.mono b26.size)
  replace r21 := r21.up b83
  replace b18 := b18.trans (b83.mono b18.size)
  replace b9 := b9.trans (b83.mono b9.size)
  replace b6 := b6.trans (b83.mono b6.size)
  replace r4 := r4.up b83
  replace b1 := b1.trans (b83.mono b1.size)
  replace q := q.trans (b83.mono q.size)
  replace r12 := r12.up b83
  replace r29 := r29.up b83
  replace r47 := r47.up b83
  replace r66 := r66.up b83
  refine LL.storeN (vs := [Value.int IntKind.i64 4, fnV 29, fnV 46, fnV 42, Value.int IntKind.i64 16]) rfl rfl rfl rfl r86 (by exact Nat.le_of_ble_eq_true rfl) (ones_of rfl) rfl rfl ?_
  intro W89 r90 b88 z91
  have hlb88 := r86.lt
  replace r90 : RowL W89 _ 79 [Value.int IntKind.i64 4, fnV 29, fnV 46, fnV 42, Value.int IntKind.i64 16] := r90
  clear r86
  replace b83 := b83.grown b88 b83.size (by rintro k ⟨⟩; omega)
  replace b75 := b75.grown b88 b75.size (by rintro k ⟨⟩; omega)
  replace b63 := b63.grown b88 b63.size (by rintro k ⟨⟩; omega)
  replace b56 := b56.grown b88 b56.size (by rintro k ⟨⟩; omega)
  replace b44 := b44.grown b88 b44.size (by rintro k ⟨⟩; omega)
  replace b38 := b38.grown b88 b38.size (by rintro k ⟨⟩; omega)
  replace b26 := b26.grown b88 b26.size (by rintro k ⟨⟩; omega)
  replace r21 := r21.gr b88 (by have := r21.lt; omega)
  replace b18 := b18.grown b88 b18.size (by rintro k ⟨⟩; omega)
  replace b9 := b9.grown b88 b9.size (by rintro k ⟨⟩; omega)
  replace b6 := b6.grown b88 b6.size (by rintro k ⟨⟩; omega)
  replace r4 := r4.gr b88 (by have := r4.lt; omega)
  replace b1 := b1.grown b88 b1.size (by rintro k ⟨⟩; omega)
  replace q := q.grown b88 q.size (by rintro k ⟨⟩; omega)
  replace r12 := r12.gr b88 (by have := r12.lt; omega)
  replace r29 := r29.gr b88 (by have := r29.lt; omega)
  replace r47 := r47.gr b88 (by have := r47.lt; omega)
  replace r66 := r66.gr b88 (by have := r66.lt; omega)
  have r86 := r90
  clear r90
  refine LL.nilS ?_
  refine CC.seq ?_
  refine CC.grow (by kernel_rfl) (by kernel_rfl) ?_
  refine GG.val (fun w' b' => R.field rfl rfl (I.fld rfl)) rfl rfl ?_
  refine GG.val (fun w' b' => R.load rfl rfl (I.ld1 rfl (RowL.cell (r86.up b') rfl))) rfl rfl ?_
  refine GG.val (fun w' b' => R.move rfl rfl) rfl rfl ?_
  refine GG.val (fun w' b' => R.eqF rfl rfl rfl (by omega)) rfl rfl ?_
  refine GG.val (fun w' b' => R.move rfl rfl) rfl rfl ?_
  refine GG.skip rfl rfl ?_
  refine GG.skip rfl rfl ?_
  refine GG.skip rfl rfl ?_
  refine GG.skip rfl rfl ?_
  refine GG.skip rfl rfl ?_
  refine GG.skip rfl rfl ?_
  refine GG.skip rfl rfl ?_
  refine GG.skip rfl rfl ?_
  refine GG.skip rfl rfl ?_
  refine GG.skip rfl rfl ?_
  refine GG.skip rfl rfl ?_
  refine GG.skip rfl rfl ?_
  refine GG.skip rfl rfl ?_
  refine GG.skip rfl rfl ?_
  refine GG.skip rfl rfl ?_
  refine GG.skip rfl rfl ?_
  refine GG.val (fun w' b' => R.pick rfl rfl rfl) rfl rfl ?_
  refine GG.nilQ (fun W96 b95 => ?_)
  have zb95 := b95.size
  replace b83 := b83.trans (b95.mono b83.size)
  replace b75 := b75.trans (b95.mono b75.size)
  replace b63 := b63.trans (b95.mono b63.size)
  replace b56 := b56.trans (b95.mono b56.size)
  replace b44 := b44.trans (b95.mono b44.size)
  replace b38 := b38.trans (b95.mono b38.size)
  replace b26 := b26.trans (b95.mono b26.size)
  replace r21 := r21.up b95
  replace b18 := b18.trans (b95.mono b18.size)
  replace b9 := b9.trans (b95.mono b9.size)
  replace b6 := b6.trans (b95.mono b6.size)
  replace r4 := r4.up b95
  replace b1 := b1.trans (b95.mono b1.size)
  replace q := q.trans (b95.mono q.size)
  replace r12 := r12.up b95
  replace r29 := r29.up b95
  replace r47 := r47.up b95
  replace r66 := r66.up b95
  replace r86 := r86.up b95
  refine EE.thenN ?_
  refine CC.no rfl ?_
  refine CC.skip ?_
  refine EE.inN ?_
  refine EE.thenN ?_
  refine CC.region ?_
  refine LL.val (R.addIz (z := 4) rfl rfl rfl (by decide) (by decide)) rfl rfl rfl ?_
  refine LL.val (R.move rfl rfl) rfl rfl rfl ?_
  refine LL.nil ?_
  refine EE.again ?_
  refine RN.step ?_
  refine CC.seq ?_
  refine CC.region ?_
  refine LL.val (R.ltT rfl rfl rfl (by omega)) rfl rfl rfl ?_
  refine LL.nilS ?_
  refine CC.seq ?_
  refine CC.yes rfl ?_
  refine CC.skip ?_
  refine EE.thenN ?_
  refine CC.seq ?_
  refine CC.block ?_
  refine CC.seq ?_
  refine CC.region ?_
  refine LL.val (R.index rfl rfl rfl (I.ixSc rfl rfl (by omega))) rfl rfl rfl ?_
  refine LL.val (R.load rfl rfl (I.ldNc (vs := [Value.int IntKind.i64 5, fnV 30, fnV 42, fnV 41, Value.int IntKind.i64 64]) (RowL.cells r21 rfl) (by rfl) (by rfl))) rfl rfl rfl ?_
  have l97 := r21.lt
  have l98 := r4.lt
  have l99 := r12.lt
  have l100 := r29.lt
  have l101 := r47.lt
  have l102 := r66.lt
  have l103 := r86.lt
  refine LL.alloc ([Value.int IntKind.i64 0, Value.nilFunc, Value.nilFunc, Value.nilFunc, Value.int IntKind.i64 0]) rfl rfl rfl rfl rfl ?_
  intro W105 g106 eg106 r107 z108 b104
  replace b95 := b95.trans (b104.mono b95.size)
  replace b83 := b83.trans (b104.mono b83.size)
  replace b75 := b75.trans (b104.mono b75.size)
  replace b63 := b63.trans (b104.mono b63.size)
  replace b56 := b56.trans (b104.mono b56.size)
  replace b44 := b44.trans (b104.mono b44.size)
  replace b38 := b38.trans (b104.mono b38.size)
  replace b26 := b26.trans (b104.mono b26.size)
  replace r21 := r21.up b104
  replace b18 := b18.trans (b104.mono b18.size)
  replace b9 := b9.trans (b104.mono b9.size)
  replace b6 := b6.trans (b104.mono b6.size)
  replace r4 := r4.up b104
  replace b1 := b1.trans (b104.mono b1.size)
  replace q := q.trans (b104.mono q.size)
  replace r12 := r12.up b104
  replace r29 := r29.up b104
  replace r47 := r47.up b104
  replace r66 := r66.up b104
  replace r86 := r86.up b104
  refine LL.storeN (vs := [Value.int IntKind.i64 5, fnV 30, fnV 42, fnV 41, Value.int IntKind.i64 64]) rfl rfl rfl rfl r107 (by exact Nat.le_of_ble_eq_true rfl) (ones_of rfl) rfl rfl ?_
  intro W110 r111 b109 z112
  have hlb109 := r107.lt
  replace r111 : RowL W110 _ 79 [Value.int IntKind.i64 5, fnV 30, fnV 42, fnV 41, Value.int IntKind.i64 64] := r111
  clear r107
  replace b104 := b104.grown b109 b104.size (by rintro k ⟨⟩; omega)
  replace b95 := b95.grown b109 b95.size (by rintro k ⟨⟩; omega)
  replace b83 := b83.grown b109 b83.size (by rintro k ⟨⟩; omega)
  replace b75 := b75.grown b109 b75.size (by rintro k ⟨⟩; omega)
  replace b63 := b63.grown b109 b63.size (by rintro k ⟨⟩; omega)
  replace b56 := b56.grown b109 b56.size (by rintro k ⟨⟩; omega)
  replace b44 := b44.grown b109 b44.size (by rintro k ⟨⟩; omega)
  replace b38 := b38.grown b109 b38.size (by rintro k ⟨⟩; omega)
  replace b26 := b26.grown b109 b26.size (by rintro k ⟨⟩; omega)
  replace r21 := r21.gr b109 (by have := r21.lt; omega)
  replace b18 := b18.grown b109 b18.size (by rintro k ⟨⟩; omega)
  replace b9 := b9.grown b109 b9.size (by rintro k ⟨⟩; omega)
  replace b6 := b6.grown b109 b6.size (by rintro k ⟨⟩; omega)
  replace r4 := r4.gr b109 (by have := r4.lt; omega)
  replace b1 := b1.grown b109 b1.size (by rintro k ⟨⟩; omega)
  replace q := q.grown b109 q.size (by rintro k ⟨⟩; omega)
  replace r12 := r12.gr b109 (by have := r12.lt; omega)
  replace r29 := r29.gr b109 (by have := r29.lt; omega)
  replace r47 := r47.gr b109 (by have := r47.lt; omega)
  replace r66 := r66.gr b109 (by have := r66.lt; omega)
  replace r86 := r86.gr b109 (by have := r86.lt; omega)
  have r107 := r111
  clear r111
  refine LL.nilS ?_
  refine CC.seq ?_
  refine CC.grow (by kernel_rfl) (by kernel_rfl) ?_
  refine GG.val (fun w' b' => R.field rfl rfl (I.fld rfl)) rfl rfl ?_
  refine GG.val (fun w' b' => R.load rfl rfl (I.ld1 rfl (RowL.cell (r107.up b') rfl))) rfl rfl ?_
  refine GG.val (fun w' b' => R.move rfl rfl) rfl rfl ?_
  refine GG.val (fun w' b' => R.eqF rfl rfl rfl (by omega)) rfl rfl ?_
  refine GG.val (fun w' b' => R.move rfl rfl) rfl rfl ?_
  refine GG.skip rfl rfl ?_
  refine GG.skip rfl rfl ?_
  refine GG.skip rfl rfl ?_
  refine GG.skip rfl rfl ?_
  refine GG.skip rfl rfl ?_
  refine GG.skip rfl rfl ?_
  refine GG.skip rfl rfl ?_
  refine GG.skip rfl rfl ?_
  refine GG.skip rfl rfl ?_
  refine GG.skip rfl rfl ?_
  refine GG.skip rfl rfl ?_
  refine GG.skip rfl rfl ?_
  refine GG.skip rfl rfl ?_
  refine GG.skip rfl rfl ?_
  refine GG.skip rfl rfl ?_
  refine GG.skip rfl rfl ?_
  refine GG.val (fun w' b' => R.pick rfl rfl rfl) rfl rfl ?_
  refine GG.nilQ (fun W117 b116 => ?_)
  have zb116 := b116.size
  replace b104 := b104.trans (b116.mono b104.size)
  replace b95 := b95.trans (b116.mono b95.size)
  replace b83 := b83.trans (b116.mono b83.size)
  replace b75 := b75.trans (b116.mono b75.size)
  replace b63 := b63.trans (b116.mono b63.size)
  replace b56 := b56.trans (b116.mono b56.size)
  replace b44 := b44.trans (b116.mono b44.size)
  replace b38 := b38.trans (b116.mono b38.size)
  replace b26 := b26.trans (b116.mono b26.size)
  replace r21 := r21.up b116
  replace b18 := b18.trans (b116.mono b18.size)
  replace b9 := b9.trans (b116.mono b9.size)
  replace b6 := b6.trans (b116.mono b6.size)
  replace r4 := r4.up b116
  replace b1 := b1.trans (b116.mono b1.size)
  replace q := q.trans (b116.mono q.size)
  replace r12 := r12.up b116
  replace r29 := r29.up b116
  replace r47 := r47.up b116
  replace r66 := r66.up b116
  replace r86 := r86.up b116
  replace r107 := r107.up b116
  refine EE.thenN ?_
  refine CC.no rfl ?_
  refine CC.skip ?_
  refine EE.inN ?_
  refine EE.thenN ?_
  refine CC.region ?_
  refine LL.val (R.addIz (z := 5) rfl rfl rfl (by decide) (by decide)) rfl rfl rfl ?_
  refine LL.val (R.move rfl rfl) rfl rfl rfl ?_
  refine LL.nil ?_
  refine EE.again ?_
  refine RN.step ?_
  refine CC.seq ?_
  refine CC.region ?_
  refine LL.val (R.ltT rfl rfl rfl (by omega)) rfl rfl rfl ?_
  refine LL.nilS ?_
  refine CC.seq ?_
  refine CC.yes rfl ?_
  refine CC.skip ?_
  refine EE.thenN ?_
  refine CC.seq ?_
  refine CC.block ?_
  refine CC.seq ?_
  refine CC.region ?_
  refine LL.val (R.index rfl rfl rfl (I.ixSc rfl rfl (by omega))) rfl rfl rfl ?_
  refine LL.val (R.load rfl rfl (I.ldNc (vs := [Value.int IntKind.i64 6, fnV 28, fnV 47, fnV 28, Value.int IntKind.i64 64]) (RowL.cells r21 rfl) (by rfl) (by rfl))) rfl rfl rfl ?_
  have l118 := r21.lt
  have l119 := r4.lt
  have l120 := r12.lt
  have l121 := r29.lt
  have l122 := r47.lt
  have l123 := r66.lt
  have l124 := r86.lt
  have l125 := r107.lt
  refine LL.alloc ([Value.int IntKind.i64 0, Value.nilFunc, Value.nilFunc, Value.nilFunc, Value.int IntKind.i64 0]) rfl rfl rfl rfl rfl ?_
  intro W127 g128 eg128 r129 z130 b126
  replace b116 := b116.trans (b126.mono b116.size)
  replace b104 := b104.trans (b126.mono b104.size)
  replace b95 := b95.trans (b126.mono b95.size)
  replace b83 := b83.trans (b126.mono b83.size)
  replace b75 := b75.trans (b126.mono b75.size)
  replace b63 := b63.trans (b126.mono b63.size)
  replace b56 := b56.trans (b126.mono b56.size)
  replace b44 := b44.trans (b126.mono b44.size)
  replace b38 := b38.trans (b126.mono b38.size)
  replace b26 := b26.trans (b126.mono b26.size)
  replace r21 := r21.up b126
  replace b18 := b18.trans (b126.mono b18.size)
  replace b9 := b9.trans (b126.mono b9.size)
  replace b6 := b6.trans (b126.mono b6.size)
  replace r4 := r4.up b126
  replace b1 := b1.trans (b126.mono b1.size)
  replace q := q.trans (b126.mono q.size)
  replace r12 := r12.up b126
  replace r29 := r29.up b126
  replace r47 := r47.up b126
  replace r66 := r66.up b126
  replace r86 := r86.up b126
  replace r107 := r107.up b126
  refine LL.storeN (vs := [Value.int IntKind.i64 6, fnV 28, fnV 47, fnV 28, Value.int IntKind.i64 64]) rfl rfl rfl rfl r129 (by exact Nat.le_of_ble_eq_true rfl) (ones_of rfl) rfl rfl ?_
  intro W132 r133 b131 z134
  have hlb131 := r129.lt
  replace r133 : RowL W132 _ 79 [Value.int IntKind.i64 6, fnV 28, fnV 47, fnV 28, Value.int IntKind.i64 64] := r133
  clear r129
  replace b126 := b126.grown b131 b126.size (by rintro k ⟨⟩; omega)
  replace b116 := b116.grown b131 b116.size (by rintro k ⟨⟩; omega)
  replace b104 := b104.grown b131 b104.size (by rintro k ⟨⟩; omega)
  replace b95 := b95.grown b131 b95.size (by rintro k ⟨⟩; omega)
  replace b83 := b83.grown b131 b83.size (by rintro k ⟨⟩; omega)
  replace b75 := b75.grown b131 b75.size (by rintro k ⟨⟩; omega)
  replace b63 := b63.grown b131 b63.size (by rintro k ⟨⟩; omega)
  replace b56 := b56.grown b131 b56.size (by rintro k ⟨⟩; omega)
  replace b44 := b44.grown b131 b44.size (by rintro k ⟨⟩; omega)
  replace b38 := b38.grown b131 b38.size (by rintro k ⟨⟩; omega)
  replace b26 := b26.grown b131 b26.size (by rintro k ⟨⟩; omega)
  replace r21 := r21.gr b131 (by have := r21.lt; omega)
  replace b18 := b18.grown b131 b18.size (by rintro k ⟨⟩; omega)
  replace b9 := b9.grown b131 b9.size (by rintro k ⟨⟩; omega)
  replace b6 := b6.grown b131 b6.size (by rintro k ⟨⟩; omega)
  replace r4 := r4.gr b131 (by have := r4.lt; omega)
  replace b1 := b1.grown b131 b1.size (by rintro k ⟨⟩; omega)
  replace q := q.grown b131 q.size (by rintro k ⟨⟩; omega)
  replace r12 := r12.gr b131 (by have := r12.lt; omega)
  replace r29 := r29.gr b131 (by have := r29.lt; omega)
  replace r47 := r47.gr b131 (by have := r47.lt; omega)
  replace r66 := r66.gr b131 (by have := r66.lt; omega)
  replace r86 := r86.gr b131 (by have := r86.lt; omega)
  replace r107 := r107.gr b131 (by have := r107.lt; omega)
  have r129 := r133
  clear r133
  refine LL.nilS ?_
  refine CC.seq ?_
  refine CC.grow (by kernel_rfl) (by kernel_rfl) ?_
  refine GG.val (fun w' b' => R.field rfl rfl (I.fld rfl)) rfl rfl ?_
  refine GG.val (fun w' b' => R.load rfl rfl (I.ld1 rfl (RowL.cell (r129.up b') rfl))) rfl rfl ?_
  refine GG.val (fun w' b' => R.move rfl rfl) rfl rfl ?_
  refine GG.val (fun w' b' => R.eqF rfl rfl rfl (by omega)) rfl rfl ?_
  refine GG.val (fun w' b' => R.move rfl rfl) rfl rfl ?_
  refine GG.skip rfl rfl ?_
  refine GG.skip rfl rfl ?_
  refine GG.skip rfl rfl ?_
  refine GG.skip rfl rfl ?_
  refine GG.skip rfl rfl ?_
  refine GG.skip rfl rfl ?_
  refine GG.skip rfl rfl ?_
  refine GG.skip rfl rfl ?_
  refine GG.skip rfl rfl ?_
  refine GG.skip rfl rfl ?_
  refine GG.skip rfl rfl ?_
  refine GG.skip rfl rfl ?_
  refine GG.skip rfl rfl ?_
  refine GG.skip rfl rfl ?_
  refine GG.skip rfl rfl ?_
  refine GG.skip rfl rfl ?_
  refine GG.val (fun w' b' => R.pick rfl rfl rfl) rfl rfl ?_
  refine GG.nilQ (fun W139 b138 => ?_)
  have zb138 := b138.size
  replace b126 := b126.trans (b138.mono b126.size)
  replace b116 := b116.trans (b138.mono b116.size)
  replace b104 := b104.trans (b138.mono b104.size)
  replace b95 := b95.trans (b138.mono b95.size)
  replace b83 := b83.trans (b138.mono b83.size)
  replace b75 := b75.trans (b138.mono b75.size)
  replace b63 := b63.trans (b138.mono b63.size)
  replace b56 := b56.trans (b138.mono b56.size)
  replace b44 := b44.trans (b138.mono b44.size)
  replace b38 := b38.trans (b138.mono b38.size)
  replace b26 := b26.trans (b138.mono b26.size)
  replace r21 := r21.up b138
  replace b18 := b18.trans (b138.mono b18.size)
  replace b9 := b9.trans (b138.mono b9.size)
  replace b6 := b6.trans (b138.mono b6.size)
  replace r4 := r4.up b138
  replace b1 := b1.trans (b138.mono b1.size)
  replace q := q.trans (b138.mono q.size)
  replace r12 := r12.up b138
  replace r29 := r29.up b138
  replace r47 := r47.up b138
  replace r66 := r66.up b138
  replace r86 := r86.up b138
  replace r107 := r107.up b138
  replace r129 := r129.up b138
  refine EE.thenN ?_
  refine CC.no rfl ?_
  refine CC.skip ?_
  refine EE.inN ?_
  refine EE.thenN ?_
  refine CC.region ?_
  refine LL.val (R.addIz (z := 6) rfl rfl rfl (by decide) (by decide)) rfl rfl rfl ?_
  refine LL.val (R.move rfl rfl) rfl rfl rfl ?_
  refine LL.nil ?_
  refine EE.again ?_
  refine RN.step ?_
  refine CC.seq ?_
  refine CC.region ?_
  refine LL.val (R.ltF rfl rfl rfl (by omega)) rfl rfl rfl ?_
  refine LL.nilS ?_
  refine CC.seq ?_
  refine CC.no rfl ?_
  refine CC.exit ?_
  refine EE.thenX ?_
  refine EE.thenX ?_
  refine EE.inX ?_
  refine EE.thenN ?_
  refine CC.seq ?_
  refine CC.region ?_
  refine LL.val (R.assign rfl rfl) rfl rfl rfl ?_
  refine LL.val (R.assign rfl rfl) rfl rfl rfl ?_
  refine LL.nilS ?_
  refine CC.ret ?_
  refine EE.ret _ rfl rfl ?_
  exact ⟨rfl, q⟩
set_option maxRecDepth 100000 in
set_option maxHeartbeats 8000000 in
theorem first3_bad (b i r t : Int) (k1 k2 : Nat) (a c d e n : Int) (w : World) (hl : ¬isL b i r t a c d e) : Calls Try.prog 35 #[layV b i r t k1 k2 a c d e, .int .i64 3, .int .i64 n] w fun x w' => x = .returned (.tuple #[.int .i64 0, .int .i64 2]) ∧ Below w.heap.size w w' := by
  have q := Below.refl w.heap.size w
  refine X.fn Try.func35 rfl (n := 63) rfl rfl ?_
  refine CC.seq ?_
  refine CC.region ?_
  refine LL.box [Value.int IntKind.i64 b, Value.int IntKind.i64 i, Value.int IntKind.i64 r, Value.int IntKind.i64 t, Value.int IntKind.u64 ↑k1, Value.int IntKind.u64 ↑k2, Value.int IntKind.i64 a, Value.int IntKind.i64 c, Value.int IntKind.i64 d, Value.int IntKind.i64 e] rfl rfl rfl rfl rfl ?_
  intro W2 g3 eg3 r4 z5 b1
  replace q := q.trans (b1.mono q.size)
  refine LL.val (R.assign rfl rfl) rfl rfl rfl ?_
  refine LL.val (R.assign rfl rfl) rfl rfl rfl ?_
  refine LL.nilS ?_
  refine CC.seq ?_
  refine CC.seq ?_
  refine CC.region ?_
  refine LL.val (R.load rfl rfl (I.ldNc (vs := [Value.int IntKind.i64 b, Value.int IntKind.i64 i, Value.int IntKind.i64 r, Value.int IntKind.i64 t, Value.int IntKind.u64 ↑k1, Value.int IntKind.u64 ↑k2, Value.int IntKind.i64 a, Value.int IntKind.i64 c, Value.int IntKind.i64 d, Value.int IntKind.i64 e]) (RowL.cells r4 rfl) (by rfl) (by rfl))) rfl rfl rfl ?_
  refine LL.callBF (R.call rfl rfl rfl) rfl rfl rfl (is_any _ _ _ _ _ _ _ _ _ _ _) (by first | assumption | omega) (fun W7 b6 => ?_)
  have zb6 := b6.size
  replace r4 := r4.up b6
  replace b1 := b1.trans (b6.mono b1.size)
  replace q := q.trans (b6.mono q.size)
  refine LL.val (R.not rfl rfl) rfl rfl rfl ?_
  refine LL.nilS ?_
  refine CC.yes rfl ?_
  refine CC.seq ?_
  refine CC.region ?_
  refine LL.val (R.assign rfl rfl) rfl rfl rfl ?_
  refine LL.val (R.assign rfl rfl) rfl rfl rfl ?_
  refine LL.nilS ?_
  refine CC.ret ?_
  refine EE.thenR ?_
  refine EE.ret _ rfl rfl ?_
  exact ⟨rfl, q⟩
set_option maxRecDepth 100000 in
set_option maxHeartbeats 8000000 in
theorem first4_any (b i r t : Int) (k1 k2 : Nat) (a c d e n : Int) (w : World) (hl : isL b i r t a c d e) (hn : 1 ≤ n ∧ n ≤ r) : Calls Try.prog 35 #[layV b i r t k1 k2 a c d e, .int .i64 4, .int .i64 n] w fun x w' => x = .returned (.tuple #[.int .i64 (64 * c + 16 * (n - 1)), .int .i64 0]) ∧ Below w.heap.size w w' := by
  have q := Below.refl w.heap.size w
  refine X.fn Try.func35 rfl (n := 63) rfl rfl ?_
  refine CC.seq ?_
  refine CC.region ?_
  refine LL.box [Value.int IntKind.i64 b, Value.int IntKind.i64 i, Value.int IntKind.i64 r, Value.int IntKind.i64 t, Value.int IntKind.u64 ↑k1, Value.int IntKind.u64 ↑k2, Value.int IntKind.i64 a, Value.int IntKind.i64 c, Value.int IntKind.i64 d, Value.int IntKind.i64 e] rfl rfl rfl rfl rfl ?_
  intro W2 g3 eg3 r4 z5 b1
  replace q := q.trans (b1.mono q.size)
  refine LL.val (R.assign rfl rfl) rfl rfl rfl ?_
  refine LL.val (R.assign rfl rfl) rfl rfl rfl ?_
  refine LL.nilS ?_
  refine CC.seq ?_
  refine CC.seq ?_
  refine CC.region ?_
  refine LL.val (R.load rfl rfl (I.ldNc (vs := [Value.int IntKind.i64 b, Value.int IntKind.i64 i, Value.int IntKind.i64 r, Value.int IntKind.i64 t, Value.int IntKind.u64 ↑k1, Value.int IntKind.u64 ↑k2, Value.int IntKind.i64 a, Value.int IntKind.i64 c, Value.int IntKind.i64 d, Value.int IntKind.i64 e]) (RowL.cells r4 rfl) (by rfl) (by rfl))) rfl rfl rfl ?_
  refine LL.callBT (R.call rfl rfl rfl) rfl rfl rfl (is_any _ _ _ _ _ _ _ _ _ _ _) (by first | assumption | omega) (fun W7 b6 => ?_)
  have zb6 := b6.size
  replace r4 := r4.up b6
  replace b1 := b1.trans (b6.mono b1.size)
  replace q := q.trans (b6.mono q.size)
  refine LL.val (R.not rfl rfl) rfl rfl rfl ?_
  refine LL.nilS ?_
  refine CC.no rfl ?_
  refine CC.skip ?_
  refine EE.thenN ?_
  refine CC.seq ?_
  refine CC.region ?_
  refine LL.val (R.field rfl rfl (I.fld rfl)) rfl rfl rfl ?_
  refine LL.val (R.load rfl rfl (I.ldNc (vs := [Value.int IntKind.i64 b, Value.int IntKind.i64 i, Value.int IntKind.i64 r, Value.int IntKind.i64 t]) (RowL.cells r4 rfl) (by rfl) (by rfl))) rfl rfl rfl ?_
  refine LL.val (R.field rfl rfl (I.fld rfl)) rfl rfl rfl ?_
  refine LL.val (R.load rfl rfl (I.ldNc (vs := [Value.int IntKind.u64 ↑k1, Value.int IntKind.u64 ↑k2]) (RowL.cells r4 rfl) (by rfl) (by rfl))) rfl rfl rfl ?_
  refine LL.val (R.buildV rfl rfl (v := .agg #[Value.int IntKind.i64 b, Value.int IntKind.i64 i, Value.int IntKind.i64 r, Value.int IntKind.i64 t, Value.int IntKind.u64 ↑k1, Value.int IntKind.u64 ↑k2]) (fun _ => by kernel_rfl)) rfl rfl rfl ?_
  have l8 := r4.lt
  refine LL.alloc ([Value.int IntKind.i64 0, Value.int IntKind.i64 0, Value.int IntKind.i64 0, Value.int IntKind.i64 0, Value.int IntKind.u64 0, Value.int IntKind.u64 0]) rfl rfl rfl rfl rfl ?_
  intro W10 g11 eg11 r12 z13 b9
  replace b6 := b6.trans (b9.mono b6.size)
  replace r4 := r4.up b9
  replace b1 := b1.trans (b9.mono b1.size)
  replace q := q.trans (b9.mono q.size)
  refine LL.storeN (vs := [Value.int IntKind.i64 b, Value.int IntKind.i64 i, Value.int IntKind.i64 r, Value.int IntKind.i64 t, Value.int IntKind.u64 ↑k1, Value.int IntKind.u64 ↑k2]) rfl rfl rfl rfl r12 (by exact Nat.le_of_ble_eq_true rfl) (ones_of rfl) rfl rfl ?_
  intro W15 r16 b14 z17
  have hlb14 := r12.lt
  replace r16 : RowL W15 _ 68 [Value.int IntKind.i64 b, Value.int IntKind.i64 i, Value.int IntKind.i64 r, Value.int IntKind.i64 t, Value.int IntKind.u64 ↑k1, Value.int IntKind.u64 ↑k2] := r16
  clear r12
  replace b9 := b9.grown b14 b9.size (by rintro k ⟨⟩; omega)
  replace b6 := b6.grown b14 b6.size (by rintro k ⟨⟩; omega)
  replace r4 := r4.gr b14 (by have := r4.lt; omega)
  replace b1 := b1.grown b14 b1.size (by rintro k ⟨⟩; omega)
  replace q := q.grown b14 q.size (by rintro k ⟨⟩; omega)
  have r12 := r16
  clear r16
  refine LL.nilS ?_
  refine CC.seq ?_
  refine CC.seq ?_
  refine CC.region ?_
  refine LL.call (R.call rfl rfl rfl) rfl rfl rfl (kinds_any _) ?_
  rintro e W19 ⟨g20, rfl, r21, l22, b18⟩
  refine ⟨_, rfl, ?_⟩
  have zb18 := b18.size
  replace b9 := b9.trans (b18.mono b9.size)
  replace b6 := b6.trans (b18.mono b6.size)
  replace r4 := r4.up b18
  replace b1 := b1.trans (b18.mono b1.size)
  replace q := q.trans (b18.mono q.size)
  replace r12 := r12.up b18
  refine LL.val (R.len rfl rfl rfl rfl) rfl rfl rfl ?_
  refine LL.val (R.move rfl rfl) rfl rfl rfl ?_
  refine LL.nilS ?_
  refine CC.block ?_
  refine CC.loopN 7 ?_
  refine RN.step ?_
  refine CC.seq ?_
  refine CC.region ?_
  refine LL.val (R.ltT rfl rfl rfl (by omega)) rfl rfl rfl ?_
  refine LL.nilS ?_
  refine CC.seq ?_
  refine CC.yes rfl ?_
  refine CC.skip ?_
  refine EE.thenN ?_
  refine CC.seq ?_
  refine CC.block ?_
  refine CC.seq ?_
  refine CC.region ?_
  refine LL.val (R.index rfl rfl rfl (I.ixSc rfl rfl (by omega))) rfl rfl rfl ?_
  refine LL.val (R.load rfl rfl (I.ldNc (vs := [Value.int IntKind.i64 1, fnV 41, fnV 42, fnV 41, Value.int IntKind.i64 64]) (RowL.cells r21 rfl) (by rfl) (by rfl))) rfl rfl rfl ?_
  have l23 := r21.lt
  have l24 := r4.lt
  have l25 := r12.lt
  refine LL.alloc ([Value.int IntKind.i64 0, Value.nilFunc, Value.nilFunc, Value.nilFunc, Value.int IntKind.i64 0]) rfl rfl rfl rfl rfl ?_
  intro W27 g28 eg28 r29 z30 b26
  replace r21 := r21.up b26
  replace b18 := b18.trans (b26.mono b18.size)
  replace b9 := b9.trans (b26.mono b9.size)
  replace b6 := b6.trans (b26.mono b6.size)
  replace r4 := r4.up b26
  replace b1 := b1.trans (b26.mono b1.size)
  replace q := q.trans (b26.mono q.size)
  replace r12 := r12.up b26
  refine LL.storeN (vs := [Value.int IntKind.i64 1, fnV 41, fnV 42, fnV 41, Value.int IntKind.i64 64]) rfl rfl rfl rfl r29 (by exact Nat.le_of_ble_eq_true rfl) (ones_of rfl) rfl rfl ?_
  intro W32 r33 b31 z34
  have hlb31 := r29.lt
  replace r33 : RowL W32 _ 79 [Value.int IntKind.i64 1, fnV 41, fnV 42, fnV 41, Value.int IntKind.i64 64] := r33
  clear r29
  replace b26 := b26.grown b31 b26.size (by rintro k ⟨⟩; omega)
  replace r21 := r21.gr b31 (by have := r21.lt; omega)
  replace b18 := b18.grown b31 b18.size (by rintro k ⟨⟩; omega)
  replace b9 := b9.grown b31 b9.size (by rintro k ⟨⟩; omega)
  replace b6 := b6.grown b31 b6.size (by rintro k ⟨⟩; omega)
  replace r4 := r4.gr b31 (by have := r4.lt; omega)
  replace b1 := b1.grown b31 b1.size (by rintro k ⟨⟩; omega)
  replace q := q.grown b31 q.size (by rintro k ⟨⟩; omega)
  replace r12 := r12.gr b31 (by have := r12.lt; omega)
  have r29 := r33
  clear r33
  refine LL.nilS ?_
  refine CC.seq ?_
  refine CC.grow (by kernel_rfl) (by kernel_rfl) ?_
  refine GG.val (fun w' b' => R.field rfl rfl (I.fld rfl)) rfl rfl ?_
  refine GG.val (fun w' b' => R.load rfl rfl (I.ld1 rfl (RowL.cell (r29.up b') rfl))) rfl rfl ?_
  refine GG.val (fun w' b' => R.move rfl rfl) rfl rfl ?_
  refine GG.val (fun w' b' => R.eqF rfl rfl rfl (by omega)) rfl rfl ?_
  refine GG.val (fun w' b' => R.move rfl rfl) rfl rfl ?_
  refine GG.skip rfl rfl ?_
  refine GG.skip rfl rfl ?_
  refine GG.skip rfl rfl ?_
  refine GG.skip rfl rfl ?_
  refine GG.skip rfl rfl ?_
  refine GG.skip rfl rfl ?_
  refine GG.skip rfl rfl ?_
  refine GG.skip rfl rfl ?_
  refine GG.skip rfl rfl ?_
  refine GG.skip rfl rfl ?_
  refine GG.skip rfl rfl ?_
  refine GG.skip rfl rfl ?_
  refine GG.skip rfl rfl ?_
  refine GG.skip rfl rfl ?_
  refine GG.skip rfl rfl ?_
  refine GG.skip rfl rfl ?_
  refine GG.val (fun w' b' => R.pick rfl rfl rfl) rfl rfl ?_
  refine GG.nilQ (fun W39 b38 => ?_)
  have zb38 := b38.size
  replace b26 := b26.trans (b38.mono b26.size)
  replace r21 := r21.up b38
  replace b18 := b18.trans (b38.mono b18.size)
  replace b9 := b9.trans (b38.mono b9.size)
  replace b6 := b6.trans (b38.mono b6.size)
  replace r4 := r4.up b38
  replace b1 := b1.trans (b38.mono b1.size)
  replace q := q.trans (b38.mono q.size)
  replace r12 := r12.up b38
  replace r29 := r29.up b38
  refine EE.thenN ?_
  refine CC.no rfl ?_
  refine CC.skip ?_
  refine EE.inN ?_
  refine EE.thenN ?_
  refine CC.region ?_
  refine LL.val (R.addIz (z := 1) rfl rfl rfl (by decide) (by decide)) rfl rfl rfl ?_
  refine LL.val (R.move rfl rfl) rfl rfl rfl ?_
  refine LL.nil ?_
  refine EE.again ?_
  refine RN.step ?_
  refine CC.seq ?_
  refine CC.region ?_
  refine LL.val (R.ltT rfl rfl rfl (by omega)) rfl rfl rfl ?_
  refine LL.nilS ?_
  refine CC.seq ?_
  refine CC.yes rfl ?_
  refine CC.skip ?_
  refine EE.thenN ?_
  refine CC.seq ?_
  refine CC.block ?_
  refine CC.seq ?_
  refine CC.region ?_
  refine LL.val (R.index rfl rfl rfl (I.ixSc rfl rfl (by omega))) rfl rfl rfl ?_
  refine LL.val (R.load rfl rfl (I.ldNc (vs := [Value.int IntKind.i64 2, fnV 42, fnV 43, fnV 41, Value.int IntKind.i64 64]) (RowL.cells r21 rfl) (by rfl) (by rfl))) rfl rfl rfl ?_
  have l40 := r21.lt
  have l41 := r4.lt
  have l42 := r12.lt
  have l43 := r29.lt
  refine LL.alloc ([Value.int IntKind.i64 0, Value.nilFunc, Value.nilFunc, Value.nilFunc, Value.int IntKind.i64 0]) rfl rfl rfl rfl rfl ?_
  intro W45 g46 eg46 r47 z48 b44
  replace b38 := b38.trans (b44.mono b38.size)
  replace b26 := b26.trans (b44.mono b26.size)
  replace r21 := r21.up b44
  replace b18 := b18.trans (b44.mono b18.size)
  replace b9 := b9.trans (b44.mono b9.size)
  replace b6 := b6.trans (b44.mono b6.size)
  replace r4 := r4.up b44
  replace b1 := b1.trans (b44.mono b1.size)
  replace q := q.trans (b44.mono q.size)
  replace r12 := r12.up b44
  replace r29 := r29.up b44
  refine LL.storeN (vs := [Value.int IntKind.i64 2, fnV 42, fnV 43, fnV 41, Value.int IntKind.i64 64]) rfl rfl rfl rfl r47 (by exact Nat.le_of_ble_eq_true rfl) (ones_of rfl) rfl rfl ?_
  intro W50 r51 b49 z52
  have hlb49 := r47.lt
  replace r51 : RowL W50 _ 79 [Value.int IntKind.i64 2, fnV 42, fnV 43, fnV 41, Value.int IntKind.i64 64] := r51
  clear r47
  replace b44 := b44.grown b49 b44.size (by rintro k ⟨⟩; omega)
  replace b38 := b38.grown b49 b38.size (by rintro k ⟨⟩; omega)
  replace b26 := b26.grown b49 b26.size (by rintro k ⟨⟩; omega)
  replace r21 := r21.gr b49 (by have := r21.lt; omega)
  replace b18 := b18.grown b49 b18.size (by rintro k ⟨⟩; omega)
  replace b9 := b9.grown b49 b9.size (by rintro k ⟨⟩; omega)
  replace b6 := b6.grown b49 b6.size (by rintro k ⟨⟩; omega)
  replace r4 := r4.gr b49 (by have := r4.lt; omega)
  replace b1 := b1.grown b49 b1.size (by rintro k ⟨⟩; omega)
  replace q := q.grown b49 q.size (by rintro k ⟨⟩; omega)
  replace r12 := r12.gr b49 (by have := r12.lt; omega)
  replace r29 := r29.gr b49 (by have := r29.lt; omega)
  have r47 := r51
  clear r51
  refine LL.nilS ?_
  refine CC.seq ?_
  refine CC.grow (by kernel_rfl) (by kernel_rfl) ?_
  refine GG.val (fun w' b' => R.field rfl rfl (I.fld rfl)) rfl rfl ?_
  refine GG.val (fun w' b' => R.load rfl rfl (I.ld1 rfl (RowL.cell (r47.up b') rfl))) rfl rfl ?_
  refine GG.val (fun w' b' => R.move rfl rfl) rfl rfl ?_
  refine GG.val (fun w' b' => R.eqF rfl rfl rfl (by omega)) rfl rfl ?_
  refine GG.val (fun w' b' => R.move rfl rfl) rfl rfl ?_
  refine GG.skip rfl rfl ?_
  refine GG.skip rfl rfl ?_
  refine GG.skip rfl rfl ?_
  refine GG.skip rfl rfl ?_
  refine GG.skip rfl rfl ?_
  refine GG.skip rfl rfl ?_
  refine GG.skip rfl rfl ?_
  refine GG.skip rfl rfl ?_
  refine GG.skip rfl rfl ?_
  refine GG.skip rfl rfl ?_
  refine GG.skip rfl rfl ?_
  refine GG.skip rfl rfl ?_
  refine GG.skip rfl rfl ?_
  refine GG.skip rfl rfl ?_
  refine GG.skip rfl rfl ?_
  refine GG.skip rfl rfl ?_
  refine GG.val (fun w' b' => R.pick rfl rfl rfl) rfl rfl ?_
  refine GG.nilQ (fun W57 b56 => ?_)
  have zb56 := b56.size
  replace b44 := b44.trans (b56.mono b44.size)
  replace b38 := b38.trans (b56.mono b38.size)
  replace b26 := b26.trans (b56.mono b26.size)
  replace r21 := r21.up b56
  replace b18 := b18.trans (b56.mono b18.size)
  replace b9 := b9.trans (b56.mono b9.size)
  replace b6 := b6.trans (b56.mono b6.size)
  replace r4 := r4.up b56
  replace b1 := b1.trans (b56.mono b1.size)
  replace q := q.trans (b56.mono q.size)
  replace r12 := r12.up b56
  replace r29 := r29.up b56
  replace r47 := r47.up b56
  refine EE.thenN ?_
  refine CC.no rfl ?_
  refine CC.skip ?_
  refine EE.inN ?_
  refine EE.thenN ?_
  refine CC.region ?_
  refine LL.val (R.addIz (z := 2) rfl rfl rfl (by decide) (by decide)) rfl rfl rfl ?_
  refine LL.val (R.move rfl rfl) rfl rfl rfl ?_
  refine LL.nil ?_
  refine EE.again ?_
  refine RN.step ?_
  refine CC.seq ?_
  refine CC.region ?_
  refine LL.val (R.ltT rfl rfl rfl (by omega)) rfl rfl rfl ?_
  refine LL.nilS ?_
  refine CC.seq ?_
  refine CC.yes rfl ?_
  refine CC.skip ?_
  refine EE.thenN ?_
  refine CC.seq ?_
  refine CC.block ?_
  refine CC.seq ?_
  refine CC.region ?_
  refine LL.val (R.index rfl rfl rfl (I.ixSc rfl rfl (by omega))) rfl rfl rfl ?_
  refine LL.val (R.load rfl rfl (I.ldNc (vs := [Value.int IntKind.i64 3, fnV 44, fnV 45, fnV 42, Value.int IntKind.i64 16]) (RowL.cells r21 rfl) (by rfl) (by rfl))) rfl rfl rfl ?_
  have l58 := r21.lt
  have l59 := r4.lt
  have l60 := r12.lt
  have l61 := r29.lt
  have l62 := r47.lt
  refine LL.alloc ([Value.int IntKind.i64 0, Value.nilFunc, Value.nilFunc, Value.nilFunc, Value.int IntKind.i64 0]) rfl rfl rfl rfl rfl ?_
  intro W64 g65 eg65 r66 z67 b63
  replace b56 := b56.trans (b63.mono b56.size)
  replace b44 := b44.trans (b63.mono b44.size)
  replace b38 := b38.trans (b63.mono b38.size)
  replace b26 := b26.trans (b63.mono b26.size)
  replace r21 := r21.up b63
  replace b18 := b18.trans (b63.mono b18.size)
  replace b9 := b9.trans (b63.mono b9.size)
  replace b6 := b6.trans (b63.mono b6.size)
  replace r4 := r4.up b63
  replace b1 := b1.trans (b63.mono b1.size)
  replace q := q.trans (b63.mono q.size)
  replace r12 := r12.up b63
  replace r29 := r29.up b63
  replace r47 := r47.up b63
  refine LL.storeN (vs := [Value.int IntKind.i64 3, fnV 44, fnV 45, fnV 42, Value.int IntKind.i64 16]) rfl rfl rfl rfl r66 (by exact Nat.le_of_ble_eq_true rfl) (ones_of rfl) rfl rfl ?_
  intro W69 r70 b68 z71
  have hlb68 := r66.lt
  replace r70 : RowL W69 _ 79 [Value.int IntKind.i64 3, fnV 44, fnV 45, fnV 42, Value.int IntKind.i64 16] := r70
  clear r66
  replace b63 := b63.grown b68 b63.size (by rintro k ⟨⟩; omega)
  replace b56 := b56.grown b68 b56.size (by rintro k ⟨⟩; omega)
  replace b44 := b44.grown b68 b44.size (by rintro k ⟨⟩; omega)
  replace b38 := b38.grown b68 b38.size (by rintro k ⟨⟩; omega)
  replace b26 := b26.grown b68 b26.size (by rintro k ⟨⟩; omega)
  replace r21 := r21.gr b68 (by have := r21.lt; omega)
  replace b18 := b18.grown b68 b18.size (by rintro k ⟨⟩; omega)
  replace b9 := b9.grown b68 b9.size (by rintro k ⟨⟩; omega)
  replace b6 := b6.grown b68 b6.size (by rintro k ⟨⟩; omega)
  replace r4 := r4.gr b68 (by have := r4.lt; omega)
  replace b1 := b1.grown b68 b1.size (by rintro k ⟨⟩; omega)
  replace q := q.grown b68 q.size (by rintro k ⟨⟩; omega)
  replace r12 := r12.gr b68 (by have := r12.lt; omega)
  replace r29 := r29.gr b68 (by have := r29.lt; omega)
  replace r47 := r47.gr b68 (by have := r47.lt; omega)
  have r66 := r70
  clear r70
  refine LL.nilS ?_
  refine CC.seq ?_
  refine CC.grow (by kernel_rfl) (by kernel_rfl) ?_
  refine GG.val (fun w' b' => R.field rfl rfl (I.fld rfl)) rfl rfl ?_
  refine GG.val (fun w' b' => R.load rfl rfl (I.ld1 rfl (RowL.cell (r66.up b') rfl))) rfl rfl ?_
  refine GG.val (fun w' b' => R.move rfl rfl) rfl rfl ?_
  refine GG.val (fun w' b' => R.eqF rfl rfl rfl (by omega)) rfl rfl ?_
  refine GG.val (fun w' b' => R.move rfl rfl) rfl rfl ?_
  refine GG.skip rfl rfl ?_
  refine GG.skip rfl rfl ?_
  refine GG.skip rfl rfl ?_
  refine GG.skip rfl rfl ?_
  refine GG.skip rfl rfl ?_
  refine GG.skip rfl rfl ?_
  refine GG.skip rfl rfl ?_
  refine GG.skip rfl rfl ?_
  refine GG.skip rfl rfl ?_
  refine GG.skip rfl rfl ?_
  refine GG.skip rfl rfl ?_
  refine GG.skip rfl rfl ?_
  refine GG.skip rfl rfl ?_
  refine GG.skip rfl rfl ?_
  refine GG.skip rfl rfl ?_
  refine GG.skip rfl rfl ?_
  refine GG.val (fun w' b' => R.pick rfl rfl rfl) rfl rfl ?_
  refine GG.nilQ (fun W76 b75 => ?_)
  have zb75 := b75.size
  replace b63 := b63.trans (b75.mono b63.size)
  replace b56 := b56.trans (b75.mono b56.size)
  replace b44 := b44.trans (b75.mono b44.size)
  replace b38 := b38.trans (b75.mono b38.size)
  replace b26 := b26.trans (b75.mono b26.size)
  replace r21 := r21.up b75
  replace b18 := b18.trans (b75.mono b18.size)
  replace b9 := b9.trans (b75.mono b9.size)
  replace b6 := b6.trans (b75.mono b6.size)
  replace r4 := r4.up b75
  replace b1 := b1.trans (b75.mono b1.size)
  replace q := q.trans (b75.mono q.size)
  replace r12 := r12.up b75
  replace r29 := r29.up b75
  replace r47 := r47.up b75
  replace r66 := r66.up b75
  refine EE.thenN ?_
  refine CC.no rfl ?_
  refine CC.skip ?_
  refine EE.inN ?_
  refine EE.thenN ?_
  refine CC.region ?_
  refine LL.val (R.addIz (z := 3) rfl rfl rfl (by decide) (by decide)) rfl rfl rfl ?_
  refine LL.val (R.move rfl rfl) rfl rfl rfl ?_
  refine LL.nil ?_
  refine EE.again ?_
  refine RN.step ?_
  refine CC.seq ?_
  refine CC.region ?_
  refine LL.val (R.ltT rfl rfl rfl (by omega)) rfl rfl rfl ?_
  refine LL.nilS ?_
  refine CC.seq ?_
  refine CC.yes rfl ?_
  refine CC.skip ?_
  refine EE.thenN ?_
  refine CC.seq ?_
  refine CC.block ?_
  refine CC.seq ?_
  refine CC.region ?_
  refine LL.val (R.index rfl rfl rfl (I.ixSc rfl rfl (by omega))) rfl rfl rfl ?_
  refine LL.val (R.load rfl rfl (I.ldNc (vs := [Value.int IntKind.i64 4, fnV 29, fnV 46, fnV 42, Value.int IntKind.i64 16]) (RowL.cells r21 rfl) (by rfl) (by rfl))) rfl rfl rfl ?_
  have l77 := r21.lt
  have l78 := r4.lt
  have l79 := r12.lt
  have l80 := r29.lt
  have l81 := r47.lt
  have l82 := r66.lt
  refine LL.alloc ([Value.int IntKind.i64 0, Value.nilFunc, Value.nilFunc, Value.nilFunc, Value.int IntKind.i64 0]) rfl rfl rfl rfl rfl ?_
  intro W84 g85 eg85 r86 z87 b83
  replace b75 := b75.trans (b83.mono b75.size)
  replace b63 := b63.trans (b83.mono b63.size)
  replace b56 := b56.trans (b83.mono b56.size)
  replace b44 := b44.trans (b83.mono b44.size)
  replace b38 := b38.trans (b83.mono b38.size)
  replace b26 := b26.trans (b83.mono b26.size)
  replace r21 := r21.up b83
  replace b18 := b18.trans (b83.mono b18.size)
  replace b9 := b9.trans (b83.mono b9.size)
  replace b6 := b6.trans (b83.mono b6.size)
  replace r4 := r4.up b83
  replace b1 := b1.trans (b83.mono b1.size)
  replace q := q.trans (b83.mono q.size)
  replace r12 := r12.up b83
  replace r29 := r29.up b83
  replace r47 := r47.up b83
  replace r66 := r66.up b83
  refine LL.storeN (vs := [Value.int IntKind.i64 4, fnV 29, fnV 46, fnV 42, Value.int IntKind.i64 16]) rfl rfl rfl rfl r86 (by exact Nat.le_of_ble_eq_true rfl) (ones_of rfl) rfl rfl ?_
  intro W89 r90 b88 z91
  have hlb88 := r86.lt
  replace r90 : RowL W89 _ 79 [Value.int IntKind.i64 4, fnV 29, fnV 46, fnV 42, Value.int IntKind.i64 16] := r90
  clear r86
  replace b83 := b83.grown b88 b83.size (by rintro k ⟨⟩; omega)
  replace b75 := b75.grown b88 b75.size (by rintro k ⟨⟩; omega)
  replace b63 := b63.grown b88 b63.size (by rintro k ⟨⟩; omega)
  replace b56 := b56.grown b88 b56.size (by rintro k ⟨⟩; omega)
  replace b44 := b44.grown b88 b44.size (by rintro k ⟨⟩; omega)
  replace b38 := b38.grown b88 b38.size (by rintro k ⟨⟩; omega)
  replace b26 := b26.grown b88 b26.size (by rintro k ⟨⟩; omega)
  replace r21 := r21.gr b88 (by have := r21.lt; omega)
  replace b18 := b18.grown b88 b18.size (by rintro k ⟨⟩; omega)
  replace b9 := b9.grown b88 b9.size (by rintro k ⟨⟩; omega)
  replace b6 := b6.grown b88 b6.size (by rintro k ⟨⟩; omega)
  replace r4 := r4.gr b88 (by have := r4.lt; omega)
  replace b1 := b1.grown b88 b1.size (by rintro k ⟨⟩; omega)
  replace q := q.grown b88 q.size (by rintro k ⟨⟩; omega)
  replace r12 := r12.gr b88 (by have := r12.lt; omega)
  replace r29 := r29.gr b88 (by have := r29.lt; omega)
  replace r47 := r47.gr b88 (by have := r47.lt; omega)
  replace r66 := r66.gr b88 (by have := r66.lt; omega)
  have r86 := r90
  clear r90
  refine LL.nilS ?_
  refine CC.seq ?_
  refine CC.grow (by kernel_rfl) (by kernel_rfl) ?_
  refine GG.val (fun w' b' => R.field rfl rfl (I.fld rfl)) rfl rfl ?_
  refine GG.val (fun w' b' => R.load rfl rfl (I.ld1 rfl (RowL.cell (r86.up b') rfl))) rfl rfl ?_
  refine GG.val (fun w' b' => R.move rfl rfl) rfl rfl ?_
  refine GG.val (fun w' b' => R.eqT rfl rfl rfl (by omega)) rfl rfl ?_
  refine GG.val (fun w' b' => R.move rfl rfl) rfl rfl ?_
  refine GG.val (fun w' b' => R.move rfl rfl) rfl rfl ?_
  refine GG.val (fun w' b' => R.field rfl rfl (I.fld rfl)) rfl rfl ?_
  refine GG.val (fun w' b' => R.load rfl rfl (I.ld1 rfl (RowL.cell (r86.up b') rfl))) rfl rfl ?_
  refine GG.val (fun w' b' => R.load rfl rfl (I.ldNc (vs := [Value.int IntKind.i64 b, Value.int IntKind.i64 i, Value.int IntKind.i64 r, Value.int IntKind.i64 t, Value.int IntKind.u64 ↑k1, Value.int IntKind.u64 ↑k2]) (RowL.cells (r12.up b') rfl) (by rfl) (by rfl))) rfl rfl ?_
  refine GG.call (fun w' => (R.callV rfl rfl rfl rfl)) rfl rfl (fun w' b' => (one_any _ _ _ _ _ _ w').mono fun e W' h => ⟨h.1, b'.trans (h.2.mono b'.size)⟩) ?_
  refine GG.val (fun w' b' => R.field rfl rfl (I.fld rfl)) rfl rfl ?_
  refine GG.val (fun w' b' => R.load rfl rfl (I.ld1 rfl (RowL.cell (r86.up b') rfl))) rfl rfl ?_
  refine GG.val (fun w' b' => R.load rfl rfl (I.ldNc (vs := [Value.int IntKind.i64 b, Value.int IntKind.i64 i, Value.int IntKind.i64 r, Value.int IntKind.i64 t, Value.int IntKind.u64 ↑k1, Value.int IntKind.u64 ↑k2]) (RowL.cells (r12.up b') rfl) (by rfl) (by rfl))) rfl rfl ?_
  refine GG.call (fun w' => (R.callV rfl rfl rfl rfl)) rfl rfl (fun w' b' => (one_any _ _ _ _ _ _ w').mono fun e W' h => ⟨h.1, b'.trans (h.2.mono b'.size)⟩) ?_
  refine GG.val (fun w' b' => R.field rfl rfl (I.fld rfl)) rfl rfl ?_
  refine GG.val (fun w' b' => R.load rfl rfl (I.ld1 rfl (RowL.cell (r86.up b') rfl))) rfl rfl ?_
  refine GG.val (fun w' b' => R.load rfl rfl (I.ldNc (vs := [Value.int IntKind.i64 b, Value.int IntKind.i64 i, Value.int IntKind.i64 r, Value.int IntKind.i64 t, Value.int IntKind.u64 ↑k1, Value.int IntKind.u64 ↑k2]) (RowL.cells (r12.up b') rfl) (by rfl) (by rfl))) rfl rfl ?_
  refine GG.call (fun w' => (R.callV rfl rfl rfl rfl)) rfl rfl (fun w' b' => (kinds4_any _ _ _ _ _ _ w').mono fun e W' h => ⟨h.1, b'.trans (h.2.mono b'.size)⟩) ?_
  refine GG.val (fun w' b' => R.addI rfl rfl rfl (by omega)) rfl rfl ?_
  refine GG.val (fun w' b' => R.subI rfl rfl rfl (by omega)) rfl rfl ?_
  refine GG.callDT (fun w' => (R.call rfl rfl rfl)) rfl rfl (fun w' b' => (within_any _ _ _ w').mono fun e W' h => ⟨h.1, h.2 ▸ b'⟩) (by first | assumption | omega) ?_
  refine GG.val (fun w' b' => R.pick rfl rfl rfl) rfl rfl ?_
  refine GG.nilQ (fun W96 b95 => ?_)
  have zb95 := b95.size
  replace b83 := b83.trans (b95.mono b83.size)
  replace b75 := b75.trans (b95.mono b75.size)
  replace b63 := b63.trans (b95.mono b63.size)
  replace b56 := b56.trans (b95.mono b56.size)
  replace b44 := b44.trans (b95.mono b44.size)
  replace b38 := b38.trans (b95.mono b38.size)
  replace b26 := b26.trans (b95.mono b26.size)
  replace r21 := r21.up b95
  replace b18 := b18.trans (b95.mono b18.size)
  replace b9 := b9.trans (b95.mono b9.size)
  replace b6 := b6.trans (b95.mono b6.size)
  replace r4 := r4.up b95
  replace b1 := b1.trans (b95.mono b1.size)
  replace q := q.trans (b95.mono q.size)
  replace r12 := r12.up b95
  replace r29 := r29.up b95
  replace r47 := r47.up b95
  replace r66 := r66.up b95
  replace r86 := r86.up b95
  refine EE.thenN ?_
  refine CC.yes rfl ?_
  refine CC.seq ?_
  refine CC.grow (by kernel_rfl) (by kernel_rfl) ?_
  refine GG.val (fun w' b' => R.field rfl rfl (I.fld rfl)) rfl rfl ?_
  refine GG.val (fun w' b' => R.load rfl rfl (I.ld1 rfl (RowL.cell (r86.up b') rfl))) rfl rfl ?_
  refine GG.val (fun w' b' => R.load rfl rfl (I.ldNc (vs := [Value.int IntKind.i64 b, Value.int IntKind.i64 i, Value.int IntKind.i64 r, Value.int IntKind.i64 t, Value.int IntKind.u64 ↑k1, Value.int IntKind.u64 ↑k2]) (RowL.cells (r12.up b') rfl) (by rfl) (by rfl))) rfl rfl ?_
  refine GG.call (fun w' => (R.callV rfl rfl rfl rfl)) rfl rfl (fun w' b' => (records_any _ _ _ _ _ _ w' (by omega)).mono fun e W' h => ⟨h.1, b'.trans (h.2.mono b'.size)⟩) ?_
  refine GG.val (fun w' b' => R.mulI rfl rfl rfl (by omega)) rfl rfl ?_
  refine GG.val (fun w' b' => R.move rfl rfl) rfl rfl ?_
  refine GG.val (fun w' b' => R.field rfl rfl (I.fld rfl)) rfl rfl ?_
  refine GG.val (fun w' b' => R.load rfl rfl (I.ld1 rfl (RowL.cell (r86.up b') rfl))) rfl rfl ?_
  refine GG.val (fun w' b' => R.load rfl rfl (I.ldNc (vs := [Value.int IntKind.i64 b, Value.int IntKind.i64 i, Value.int IntKind.i64 r, Value.int IntKind.i64 t, Value.int IntKind.u64 ↑k1, Value.int IntKind.u64 ↑k2]) (RowL.cells (r12.up b') rfl) (by rfl) (by rfl))) rfl rfl ?_
  refine GG.call (fun w' => (R.callV rfl rfl rfl rfl)) rfl rfl (fun w' b' => (one_any _ _ _ _ _ _ w').mono fun e W' h => ⟨h.1, b'.trans (h.2.mono b'.size)⟩) ?_
  refine GG.val (fun w' b' => R.subI rfl rfl rfl (by omega)) rfl rfl ?_
  refine GG.val (fun w' b' => R.field rfl rfl (I.fld rfl)) rfl rfl ?_
  refine GG.val (fun w' b' => R.load rfl rfl (I.ld1 rfl (RowL.cell (r86.up b') rfl))) rfl rfl ?_
  refine GG.val (fun w' b' => R.mulI rfl rfl rfl (by omega)) rfl rfl ?_
  refine GG.val (fun w' b' => R.addI rfl rfl rfl (by omega)) rfl rfl ?_
  refine GG.val (fun w' b' => R.assign rfl rfl) rfl rfl ?_
  refine GG.val (fun w' b' => R.assign rfl rfl) rfl rfl ?_
  refine GG.nilQ (fun W101 b100 => ?_)
  have zb100 := b100.size
  replace b95 := b95.trans (b100.mono b95.size)
  replace b83 := b83.trans (b100.mono b83.size)
  replace b75 := b75.trans (b100.mono b75.size)
  replace b63 := b63.trans (b100.mono b63.size)
  replace b56 := b56.trans (b100.mono b56.size)
  replace b44 := b44.trans (b100.mono b44.size)
  replace b38 := b38.trans (b100.mono b38.size)
  replace b26 := b26.trans (b100.mono b26.size)
  replace r21 := r21.up b100
  replace b18 := b18.trans (b100.mono b18.size)
  replace b9 := b9.trans (b100.mono b9.size)
  replace b6 := b6.trans (b100.mono b6.size)
  replace r4 := r4.up b100
  replace b1 := b1.trans (b100.mono b1.size)
  replace q := q.trans (b100.mono q.size)
  replace r12 := r12.up b100
  replace r29 := r29.up b100
  replace r47 := r47.up b100
  replace r66 := r66.up b100
  replace r86 := r86.up b100
  refine EE.thenN ?_
  refine CC.ret ?_
  refine EE.inR ?_
  refine EE.thenR ?_
  refine EE.thenR ?_
  refine EE.inR ?_
  refine EE.thenR ?_
  refine EE.ret _ rfl rfl ?_
  exact ⟨by simp [resV]; omega, q⟩
set_option maxRecDepth 100000 in
set_option maxHeartbeats 8000000 in
theorem first4_out (b i r t : Int) (k1 k2 : Nat) (a c d e n : Int) (w : World) (hl : isL b i r t a c d e) (hn : ¬(1 ≤ n ∧ n ≤ r)) : Calls Try.prog 35 #[layV b i r t k1 k2 a c d e, .int .i64 4, .int .i64 n] w fun x w' => x = .returned (.tuple #[.int .i64 0, .int .i64 4]) ∧ Below w.heap.size w w' := by
  have q := Below.refl w.heap.size w
  refine X.fn Try.func35 rfl (n := 63) rfl rfl ?_
  refine CC.seq ?_
  refine CC.region ?_
  refine LL.box [Value.int IntKind.i64 b, Value.int IntKind.i64 i, Value.int IntKind.i64 r, Value.int IntKind.i64 t, Value.int IntKind.u64 ↑k1, Value.int IntKind.u64 ↑k2, Value.int IntKind.i64 a, Value.int IntKind.i64 c, Value.int IntKind.i64 d, Value.int IntKind.i64 e] rfl rfl rfl rfl rfl ?_
  intro W2 g3 eg3 r4 z5 b1
  replace q := q.trans (b1.mono q.size)
  refine LL.val (R.assign rfl rfl) rfl rfl rfl ?_
  refine LL.val (R.assign rfl rfl) rfl rfl rfl ?_
  refine LL.nilS ?_
  refine CC.seq ?_
  refine CC.seq ?_
  refine CC.region ?_
  refine LL.val (R.load rfl rfl (I.ldNc (vs := [Value.int IntKind.i64 b, Value.int IntKind.i64 i, Value.int IntKind.i64 r, Value.int IntKind.i64 t, Value.int IntKind.u64 ↑k1, Value.int IntKind.u64 ↑k2, Value.int IntKind.i64 a, Value.int IntKind.i64 c, Value.int IntKind.i64 d, Value.int IntKind.i64 e]) (RowL.cells r4 rfl) (by rfl) (by rfl))) rfl rfl rfl ?_
  refine LL.callBT (R.call rfl rfl rfl) rfl rfl rfl (is_any _ _ _ _ _ _ _ _ _ _ _) (by first | assumption | omega) (fun W7 b6 => ?_)
  have zb6 := b6.size
  replace r4 := r4.up b6
  replace b1 := b1.trans (b6.mono b1.size)
  replace q := q.trans (b6.mono q.size)
  refine LL.val (R.not rfl rfl) rfl rfl rfl ?_
  refine LL.nilS ?_
  refine CC.no rfl ?_
  refine CC.skip ?_
  refine EE.thenN ?_
  refine CC.seq ?_
  refine CC.region ?_
  refine LL.val (R.field rfl rfl (I.fld rfl)) rfl rfl rfl ?_
  refine LL.val (R.load rfl rfl (I.ldNc (vs := [Value.int IntKind.i64 b, Value.int IntKind.i64 i, Value.int IntKind.i64 r, Value.int IntKind.i64 t]) (RowL.cells r4 rfl) (by rfl) (by rfl))) rfl rfl rfl ?_
  refine LL.val (R.field rfl rfl (I.fld rfl)) rfl rfl rfl ?_
  refine LL.val (R.load rfl rfl (I.ldNc (vs := [Value.int IntKind.u64 ↑k1, Value.int IntKind.u64 ↑k2]) (RowL.cells r4 rfl) (by rfl) (by rfl))) rfl rfl rfl ?_
  refine LL.val (R.buildV rfl rfl (v := .agg #[Value.int IntKind.i64 b, Value.int IntKind.i64 i, Value.int IntKind.i64 r, Value.int IntKind.i64 t, Value.int IntKind.u64 ↑k1, Value.int IntKind.u64 ↑k2]) (fun _ => by kernel_rfl)) rfl rfl rfl ?_
  have l8 := r4.lt
  refine LL.alloc ([Value.int IntKind.i64 0, Value.int IntKind.i64 0, Value.int IntKind.i64 0, Value.int IntKind.i64 0, Value.int IntKind.u64 0, Value.int IntKind.u64 0]) rfl rfl rfl rfl rfl ?_
  intro W10 g11 eg11 r12 z13 b9
  replace b6 := b6.trans (b9.mono b6.size)
  replace r4 := r4.up b9
  replace b1 := b1.trans (b9.mono b1.size)
  replace q := q.trans (b9.mono q.size)
  refine LL.storeN (vs := [Value.int IntKind.i64 b, Value.int IntKind.i64 i, Value.int IntKind.i64 r, Value.int IntKind.i64 t, Value.int IntKind.u64 ↑k1, Value.int IntKind.u64 ↑k2]) rfl rfl rfl rfl r12 (by exact Nat.le_of_ble_eq_true rfl) (ones_of rfl) rfl rfl ?_
  intro W15 r16 b14 z17
  have hlb14 := r12.lt
  replace r16 : RowL W15 _ 68 [Value.int IntKind.i64 b, Value.int IntKind.i64 i, Value.int IntKind.i64 r, Value.int IntKind.i64 t, Value.int IntKind.u64 ↑k1, Value.int IntKind.u64 ↑k2] := r16
  clear r12
  replace b9 := b9.grown b14 b9.size (by rintro k ⟨⟩; omega)
  replace b6 := b6.grown b14 b6.size (by rintro k ⟨⟩; omega)
  replace r4 := r4.gr b14 (by have := r4.lt; omega)
  replace b1 := b1.grown b14 b1.size (by rintro k ⟨⟩; omega)
  replace q := q.grown b14 q.size (by rintro k ⟨⟩; omega)
  have r12 := r16
  clear r16
  refine LL.nilS ?_
  refine CC.seq ?_
  refine CC.seq ?_
  refine CC.region ?_
  refine LL.call (R.call rfl rfl rfl) rfl rfl rfl (kinds_any _) ?_
  rintro e W19 ⟨g20, rfl, r21, l22, b18⟩
  refine ⟨_, rfl, ?_⟩
  have zb18 := b18.size
  replace b9 := b9.trans (b18.mono b9.size)
  replace b6 := b6.trans (b18.mono b6.size)
  replace r4 := r4.up b18
  replace b1 := b1.trans (b18.mono b1.size)
  replace q := q.trans (b18.mono q.size)
  replace r12 := r12.up b18
  refine LL.val (R.len rfl rfl rfl rfl) rfl rfl rfl ?_
  refine LL.val (R.move rfl rfl) rfl rfl rfl ?_
  refine LL.nilS ?_
  refine CC.block ?_
  refine CC.loopN 7 ?_
  refine RN.step ?_
  refine CC.seq ?_
  refine CC.region ?_
  refine LL.val (R.ltT rfl rfl rfl (by omega)) rfl rfl rfl ?_
  refine LL.nilS ?_
  refine CC.seq ?_
  refine CC.yes rfl ?_
  refine CC.skip ?_
  refine EE.thenN ?_
  refine CC.seq ?_
  refine CC.block ?_
  refine CC.seq ?_
  refine CC.region ?_
  refine LL.val (R.index rfl rfl rfl (I.ixSc rfl rfl (by omega))) rfl rfl rfl ?_
  refine LL.val (R.load rfl rfl (I.ldNc (vs := [Value.int IntKind.i64 1, fnV 41, fnV 42, fnV 41, Value.int IntKind.i64 64]) (RowL.cells r21 rfl) (by rfl) (by rfl))) rfl rfl rfl ?_
  have l23 := r21.lt
  have l24 := r4.lt
  have l25 := r12.lt
  refine LL.alloc ([Value.int IntKind.i64 0, Value.nilFunc, Value.nilFunc, Value.nilFunc, Value.int IntKind.i64 0]) rfl rfl rfl rfl rfl ?_
  intro W27 g28 eg28 r29 z30 b26
  replace r21 := r21.up b26
  replace b18 := b18.trans (b26.mono b18.size)
  replace b9 := b9.trans (b26.mono b9.size)
  replace b6 := b6.trans (b26.mono b6.size)
  replace r4 := r4.up b26
  replace b1 := b1.trans (b26.mono b1.size)
  replace q := q.trans (b26.mono q.size)
  replace r12 := r12.up b26
  refine LL.storeN (vs := [Value.int IntKind.i64 1, fnV 41, fnV 42, fnV 41, Value.int IntKind.i64 64]) rfl rfl rfl rfl r29 (by exact Nat.le_of_ble_eq_true rfl) (ones_of rfl) rfl rfl ?_
  intro W32 r33 b31 z34
  have hlb31 := r29.lt
  replace r33 : RowL W32 _ 79 [Value.int IntKind.i64 1, fnV 41, fnV 42, fnV 41, Value.int IntKind.i64 64] := r33
  clear r29
  replace b26 := b26.grown b31 b26.size (by rintro k ⟨⟩; omega)
  replace r21 := r21.gr b31 (by have := r21.lt; omega)
  replace b18 := b18.grown b31 b18.size (by rintro k ⟨⟩; omega)
  replace b9 := b9.grown b31 b9.size (by rintro k ⟨⟩; omega)
  replace b6 := b6.grown b31 b6.size (by rintro k ⟨⟩; omega)
  replace r4 := r4.gr b31 (by have := r4.lt; omega)
  replace b1 := b1.grown b31 b1.size (by rintro k ⟨⟩; omega)
  replace q := q.grown b31 q.size (by rintro k ⟨⟩; omega)
  replace r12 := r12.gr b31 (by have := r12.lt; omega)
  have r29 := r33
  clear r33
  refine LL.nilS ?_
  refine CC.seq ?_
  refine CC.grow (by kernel_rfl) (by kernel_rfl) ?_
  refine GG.val (fun w' b' => R.field rfl rfl (I.fld rfl)) rfl rfl ?_
  refine GG.val (fun w' b' => R.load rfl rfl (I.ld1 rfl (RowL.cell (r29.up b') rfl))) rfl rfl ?_
  refine GG.val (fun w' b' => R.move rfl rfl) rfl rfl ?_
  refine GG.val (fun w' b' => R.eqF rfl rfl rfl (by omega)) rfl rfl ?_
  refine GG.val (fun w' b' => R.move rfl rfl) rfl rfl ?_
  refine GG.skip rfl rfl ?_
  refine GG.skip rfl rfl ?_
  refine GG.skip rfl rfl ?_
  refine GG.skip rfl rfl ?_
  refine GG.skip rfl rfl ?_
  refine GG.skip rfl rfl ?_
  refine GG.skip rfl rfl ?_
  refine GG.skip rfl rfl ?_
  refine GG.skip rfl rfl ?_
  refine GG.skip rfl rfl ?_
  refine GG.skip rfl rfl ?_
  refine GG.skip rfl rfl ?_
  refine GG.skip rfl rfl ?_
  refine GG.skip rfl rfl ?_
  refine GG.skip rfl rfl ?_
  refine GG.skip rfl rfl ?_
  refine GG.val (fun w' b' => R.pick rfl rfl rfl) rfl rfl ?_
  refine GG.nilQ (fun W39 b38 => ?_)
  have zb38 := b38.size
  replace b26 := b26.trans (b38.mono b26.size)
  replace r21 := r21.up b38
  replace b18 := b18.trans (b38.mono b18.size)
  replace b9 := b9.trans (b38.mono b9.size)
  replace b6 := b6.trans (b38.mono b6.size)
  replace r4 := r4.up b38
  replace b1 := b1.trans (b38.mono b1.size)
  replace q := q.trans (b38.mono q.size)
  replace r12 := r12.up b38
  replace r29 := r29.up b38
  refine EE.thenN ?_
  refine CC.no rfl ?_
  refine CC.skip ?_
  refine EE.inN ?_
  refine EE.thenN ?_
  refine CC.region ?_
  refine LL.val (R.addIz (z := 1) rfl rfl rfl (by decide) (by decide)) rfl rfl rfl ?_
  refine LL.val (R.move rfl rfl) rfl rfl rfl ?_
  refine LL.nil ?_
  refine EE.again ?_
  refine RN.step ?_
  refine CC.seq ?_
  refine CC.region ?_
  refine LL.val (R.ltT rfl rfl rfl (by omega)) rfl rfl rfl ?_
  refine LL.nilS ?_
  refine CC.seq ?_
  refine CC.yes rfl ?_
  refine CC.skip ?_
  refine EE.thenN ?_
  refine CC.seq ?_
  refine CC.block ?_
  refine CC.seq ?_
  refine CC.region ?_
  refine LL.val (R.index rfl rfl rfl (I.ixSc rfl rfl (by omega))) rfl rfl rfl ?_
  refine LL.val (R.load rfl rfl (I.ldNc (vs := [Value.int IntKind.i64 2, fnV 42, fnV 43, fnV 41, Value.int IntKind.i64 64]) (RowL.cells r21 rfl) (by rfl) (by rfl))) rfl rfl rfl ?_
  have l40 := r21.lt
  have l41 := r4.lt
  have l42 := r12.lt
  have l43 := r29.lt
  refine LL.alloc ([Value.int IntKind.i64 0, Value.nilFunc, Value.nilFunc, Value.nilFunc, Value.int IntKind.i64 0]) rfl rfl rfl rfl rfl ?_
  intro W45 g46 eg46 r47 z48 b44
  replace b38 := b38.trans (b44.mono b38.size)
  replace b26 := b26.trans (b44.mono b26.size)
  replace r21 := r21.up b44
  replace b18 := b18.trans (b44.mono b18.size)
  replace b9 := b9.trans (b44.mono b9.size)
  replace b6 := b6.trans (b44.mono b6.size)
  replace r4 := r4.up b44
  replace b1 := b1.trans (b44.mono b1.size)
  replace q := q.trans (b44.mono q.size)
  replace r12 := r12.up b44
  replace r29 := r29.up b44
  refine LL.storeN (vs := [Value.int IntKind.i64 2, fnV 42, fnV 43, fnV 41, Value.int IntKind.i64 64]) rfl rfl rfl rfl r47 (by exact Nat.le_of_ble_eq_true rfl) (ones_of rfl) rfl rfl ?_
  intro W50 r51 b49 z52
  have hlb49 := r47.lt
  replace r51 : RowL W50 _ 79 [Value.int IntKind.i64 2, fnV 42, fnV 43, fnV 41, Value.int IntKind.i64 64] := r51
  clear r47
  replace b44 := b44.grown b49 b44.size (by rintro k ⟨⟩; omega)
  replace b38 := b38.grown b49 b38.size (by rintro k ⟨⟩; omega)
  replace b26 := b26.grown b49 b26.size (by rintro k ⟨⟩; omega)
  replace r21 := r21.gr b49 (by have := r21.lt; omega)
  replace b18 := b18.grown b49 b18.size (by rintro k ⟨⟩; omega)
  replace b9 := b9.grown b49 b9.size (by rintro k ⟨⟩; omega)
  replace b6 := b6.grown b49 b6.size (by rintro k ⟨⟩; omega)
  replace r4 := r4.gr b49 (by have := r4.lt; omega)
  replace b1 := b1.grown b49 b1.size (by rintro k ⟨⟩; omega)
  replace q := q.grown b49 q.size (by rintro k ⟨⟩; omega)
  replace r12 := r12.gr b49 (by have := r12.lt; omega)
  replace r29 := r29.gr b49 (by have := r29.lt; omega)
  have r47 := r51
  clear r51
  refine LL.nilS ?_
  refine CC.seq ?_
  refine CC.grow (by kernel_rfl) (by kernel_rfl) ?_
  refine GG.val (fun w' b' => R.field rfl rfl (I.fld rfl)) rfl rfl ?_
  refine GG.val (fun w' b' => R.load rfl rfl (I.ld1 rfl (RowL.cell (r47.up b') rfl))) rfl rfl ?_
  refine GG.val (fun w' b' => R.move rfl rfl) rfl rfl ?_
  refine GG.val (fun w' b' => R.eqF rfl rfl rfl (by omega)) rfl rfl ?_
  refine GG.val (fun w' b' => R.move rfl rfl) rfl rfl ?_
  refine GG.skip rfl rfl ?_
  refine GG.skip rfl rfl ?_
  refine GG.skip rfl rfl ?_
  refine GG.skip rfl rfl ?_
  refine GG.skip rfl rfl ?_
  refine GG.skip rfl rfl ?_
  refine GG.skip rfl rfl ?_
  refine GG.skip rfl rfl ?_
  refine GG.skip rfl rfl ?_
  refine GG.skip rfl rfl ?_
  refine GG.skip rfl rfl ?_
  refine GG.skip rfl rfl ?_
  refine GG.skip rfl rfl ?_
  refine GG.skip rfl rfl ?_
  refine GG.skip rfl rfl ?_
  refine GG.skip rfl rfl ?_
  refine GG.val (fun w' b' => R.pick rfl rfl rfl) rfl rfl ?_
  refine GG.nilQ (fun W57 b56 => ?_)
  have zb56 := b56.size
  replace b44 := b44.trans (b56.mono b44.size)
  replace b38 := b38.trans (b56.mono b38.size)
  replace b26 := b26.trans (b56.mono b26.size)
  replace r21 := r21.up b56
  replace b18 := b18.trans (b56.mono b18.size)
  replace b9 := b9.trans (b56.mono b9.size)
  replace b6 := b6.trans (b56.mono b6.size)
  replace r4 := r4.up b56
  replace b1 := b1.trans (b56.mono b1.size)
  replace q := q.trans (b56.mono q.size)
  replace r12 := r12.up b56
  replace r29 := r29.up b56
  replace r47 := r47.up b56
  refine EE.thenN ?_
  refine CC.no rfl ?_
  refine CC.skip ?_
  refine EE.inN ?_
  refine EE.thenN ?_
  refine CC.region ?_
  refine LL.val (R.addIz (z := 2) rfl rfl rfl (by decide) (by decide)) rfl rfl rfl ?_
  refine LL.val (R.move rfl rfl) rfl rfl rfl ?_
  refine LL.nil ?_
  refine EE.again ?_
  refine RN.step ?_
  refine CC.seq ?_
  refine CC.region ?_
  refine LL.val (R.ltT rfl rfl rfl (by omega)) rfl rfl rfl ?_
  refine LL.nilS ?_
  refine CC.seq ?_
  refine CC.yes rfl ?_
  refine CC.skip ?_
  refine EE.thenN ?_
  refine CC.seq ?_
  refine CC.block ?_
  refine CC.seq ?_
  refine CC.region ?_
  refine LL.val (R.index rfl rfl rfl (I.ixSc rfl rfl (by omega))) rfl rfl rfl ?_
  refine LL.val (R.load rfl rfl (I.ldNc (vs := [Value.int IntKind.i64 3, fnV 44, fnV 45, fnV 42, Value.int IntKind.i64 16]) (RowL.cells r21 rfl) (by rfl) (by rfl))) rfl rfl rfl ?_
  have l58 := r21.lt
  have l59 := r4.lt
  have l60 := r12.lt
  have l61 := r29.lt
  have l62 := r47.lt
  refine LL.alloc ([Value.int IntKind.i64 0, Value.nilFunc, Value.nilFunc, Value.nilFunc, Value.int IntKind.i64 0]) rfl rfl rfl rfl rfl ?_
  intro W64 g65 eg65 r66 z67 b63
  replace b56 := b56.trans (b63.mono b56.size)
  replace b44 := b44.trans (b63.mono b44.size)
  replace b38 := b38.trans (b63.mono b38.size)
  replace b26 := b26.trans (b63.mono b26.size)
  replace r21 := r21.up b63
  replace b18 := b18.trans (b63.mono b18.size)
  replace b9 := b9.trans (b63.mono b9.size)
  replace b6 := b6.trans (b63.mono b6.size)
  replace r4 := r4.up b63
  replace b1 := b1.trans (b63.mono b1.size)
  replace q := q.trans (b63.mono q.size)
  replace r12 := r12.up b63
  replace r29 := r29.up b63
  replace r47 := r47.up b63
  refine LL.storeN (vs := [Value.int IntKind.i64 3, fnV 44, fnV 45, fnV 42, Value.int IntKind.i64 16]) rfl rfl rfl rfl r66 (by exact Nat.le_of_ble_eq_true rfl) (ones_of rfl) rfl rfl ?_
  intro W69 r70 b68 z71
  have hlb68 := r66.lt
  replace r70 : RowL W69 _ 79 [Value.int IntKind.i64 3, fnV 44, fnV 45, fnV 42, Value.int IntKind.i64 16] := r70
  clear r66
  replace b63 := b63.grown b68 b63.size (by rintro k ⟨⟩; omega)
  replace b56 := b56.grown b68 b56.size (by rintro k ⟨⟩; omega)
  replace b44 := b44.grown b68 b44.size (by rintro k ⟨⟩; omega)
  replace b38 := b38.grown b68 b38.size (by rintro k ⟨⟩; omega)
  replace b26 := b26.grown b68 b26.size (by rintro k ⟨⟩; omega)
  replace r21 := r21.gr b68 (by have := r21.lt; omega)
  replace b18 := b18.grown b68 b18.size (by rintro k ⟨⟩; omega)
  replace b9 := b9.grown b68 b9.size (by rintro k ⟨⟩; omega)
  replace b6 := b6.grown b68 b6.size (by rintro k ⟨⟩; omega)
  replace r4 := r4.gr b68 (by have := r4.lt; omega)
  replace b1 := b1.grown b68 b1.size (by rintro k ⟨⟩; omega)
  replace q := q.grown b68 q.size (by rintro k ⟨⟩; omega)
  replace r12 := r12.gr b68 (by have := r12.lt; omega)
  replace r29 := r29.gr b68 (by have := r29.lt; omega)
  replace r47 := r47.gr b68 (by have := r47.lt; omega)
  have r66 := r70
  clear r70
  refine LL.nilS ?_
  refine CC.seq ?_
  refine CC.grow (by kernel_rfl) (by kernel_rfl) ?_
  refine GG.val (fun w' b' => R.field rfl rfl (I.fld rfl)) rfl rfl ?_
  refine GG.val (fun w' b' => R.load rfl rfl (I.ld1 rfl (RowL.cell (r66.up b') rfl))) rfl rfl ?_
  refine GG.val (fun w' b' => R.move rfl rfl) rfl rfl ?_
  refine GG.val (fun w' b' => R.eqF rfl rfl rfl (by omega)) rfl rfl ?_
  refine GG.val (fun w' b' => R.move rfl rfl) rfl rfl ?_
  refine GG.skip rfl rfl ?_
  refine GG.skip rfl rfl ?_
  refine GG.skip rfl rfl ?_
  refine GG.skip rfl rfl ?_
  refine GG.skip rfl rfl ?_
  refine GG.skip rfl rfl ?_
  refine GG.skip rfl rfl ?_
  refine GG.skip rfl rfl ?_
  refine GG.skip rfl rfl ?_
  refine GG.skip rfl rfl ?_
  refine GG.skip rfl rfl ?_
  refine GG.skip rfl rfl ?_
  refine GG.skip rfl rfl ?_
  refine GG.skip rfl rfl ?_
  refine GG.skip rfl rfl ?_
  refine GG.skip rfl rfl ?_
  refine GG.val (fun w' b' => R.pick rfl rfl rfl) rfl rfl ?_
  refine GG.nilQ (fun W76 b75 => ?_)
  have zb75 := b75.size
  replace b63 := b63.trans (b75.mono b63.size)
  replace b56 := b56.trans (b75.mono b56.size)
  replace b44 := b44.trans (b75.mono b44.size)
  replace b38 := b38.trans (b75.mono b38.size)
  replace b26 := b26.trans (b75.mono b26.size)
  replace r21 := r21.up b75
  replace b18 := b18.trans (b75.mono b18.size)
  replace b9 := b9.trans (b75.mono b9.size)
  replace b6 := b6.trans (b75.mono b6.size)
  replace r4 := r4.up b75
  replace b1 := b1.trans (b75.mono b1.size)
  replace q := q.trans (b75.mono q.size)
  replace r12 := r12.up b75
  replace r29 := r29.up b75
  replace r47 := r47.up b75
  replace r66 := r66.up b75
  refine EE.thenN ?_
  refine CC.no rfl ?_
  refine CC.skip ?_
  refine EE.inN ?_
  refine EE.thenN ?_
  refine CC.region ?_
  refine LL.val (R.addIz (z := 3) rfl rfl rfl (by decide) (by decide)) rfl rfl rfl ?_
  refine LL.val (R.move rfl rfl) rfl rfl rfl ?_
  refine LL.nil ?_
  refine EE.again ?_
  refine RN.step ?_
  refine CC.seq ?_
  refine CC.region ?_
  refine LL.val (R.ltT rfl rfl rfl (by omega)) rfl rfl rfl ?_
  refine LL.nilS ?_
  refine CC.seq ?_
  refine CC.yes rfl ?_
  refine CC.skip ?_
  refine EE.thenN ?_
  refine CC.seq ?_
  refine CC.block ?_
  refine CC.seq ?_
  refine CC.region ?_
  refine LL.val (R.index rfl rfl rfl (I.ixSc rfl rfl (by omega))) rfl rfl rfl ?_
  refine LL.val (R.load rfl rfl (I.ldNc (vs := [Value.int IntKind.i64 4, fnV 29, fnV 46, fnV 42, Value.int IntKind.i64 16]) (RowL.cells r21 rfl) (by rfl) (by rfl))) rfl rfl rfl ?_
  have l77 := r21.lt
  have l78 := r4.lt
  have l79 := r12.lt
  have l80 := r29.lt
  have l81 := r47.lt
  have l82 := r66.lt
  refine LL.alloc ([Value.int IntKind.i64 0, Value.nilFunc, Value.nilFunc, Value.nilFunc, Value.int IntKind.i64 0]) rfl rfl rfl rfl rfl ?_
  intro W84 g85 eg85 r86 z87 b83
  replace b75 := b75.trans (b83.mono b75.size)
  replace b63 := b63.trans (b83.mono b63.size)
  replace b56 := b56.trans (b83.mono b56.size)
  replace b44 := b44.trans (b83.mono b44.size)
  replace b38 := b38.trans (b83.mono b38.size)
  replace b26 := b26.trans (b83.mono b26.size)
  replace r21 := r21.up b83
  replace b18 := b18.trans (b83.mono b18.size)
  replace b9 := b9.trans (b83.mono b9.size)
  replace b6 := b6.trans (b83.mono b6.size)
  replace r4 := r4.up b83
  replace b1 := b1.trans (b83.mono b1.size)
  replace q := q.trans (b83.mono q.size)
  replace r12 := r12.up b83
  replace r29 := r29.up b83
  replace r47 := r47.up b83
  replace r66 := r66.up b83
  refine LL.storeN (vs := [Value.int IntKind.i64 4, fnV 29, fnV 46, fnV 42, Value.int IntKind.i64 16]) rfl rfl rfl rfl r86 (by exact Nat.le_of_ble_eq_true rfl) (ones_of rfl) rfl rfl ?_
  intro W89 r90 b88 z91
  have hlb88 := r86.lt
  replace r90 : RowL W89 _ 79 [Value.int IntKind.i64 4, fnV 29, fnV 46, fnV 42, Value.int IntKind.i64 16] := r90
  clear r86
  replace b83 := b83.grown b88 b83.size (by rintro k ⟨⟩; omega)
  replace b75 := b75.grown b88 b75.size (by rintro k ⟨⟩; omega)
  replace b63 := b63.grown b88 b63.size (by rintro k ⟨⟩; omega)
  replace b56 := b56.grown b88 b56.size (by rintro k ⟨⟩; omega)
  replace b44 := b44.grown b88 b44.size (by rintro k ⟨⟩; omega)
  replace b38 := b38.grown b88 b38.size (by rintro k ⟨⟩; omega)
  replace b26 := b26.grown b88 b26.size (by rintro k ⟨⟩; omega)
  replace r21 := r21.gr b88 (by have := r21.lt; omega)
  replace b18 := b18.grown b88 b18.size (by rintro k ⟨⟩; omega)
  replace b9 := b9.grown b88 b9.size (by rintro k ⟨⟩; omega)
  replace b6 := b6.grown b88 b6.size (by rintro k ⟨⟩; omega)
  replace r4 := r4.gr b88 (by have := r4.lt; omega)
  replace b1 := b1.grown b88 b1.size (by rintro k ⟨⟩; omega)
  replace q := q.grown b88 q.size (by rintro k ⟨⟩; omega)
  replace r12 := r12.gr b88 (by have := r12.lt; omega)
  replace r29 := r29.gr b88 (by have := r29.lt; omega)
  replace r47 := r47.gr b88 (by have := r47.lt; omega)
  replace r66 := r66.gr b88 (by have := r66.lt; omega)
  have r86 := r90
  clear r90
  refine LL.nilS ?_
  refine CC.seq ?_
  refine CC.grow (by kernel_rfl) (by kernel_rfl) ?_
  refine GG.val (fun w' b' => R.field rfl rfl (I.fld rfl)) rfl rfl ?_
  refine GG.val (fun w' b' => R.load rfl rfl (I.ld1 rfl (RowL.cell (r86.up b') rfl))) rfl rfl ?_
  refine GG.val (fun w' b' => R.move rfl rfl) rfl rfl ?_
  refine GG.val (fun w' b' => R.eqT rfl rfl rfl (by omega)) rfl rfl ?_
  refine GG.val (fun w' b' => R.move rfl rfl) rfl rfl ?_
  refine GG.val (fun w' b' => R.move rfl rfl) rfl rfl ?_
  refine GG.val (fun w' b' => R.field rfl rfl (I.fld rfl)) rfl rfl ?_
  refine GG.val (fun w' b' => R.load rfl rfl (I.ld1 rfl (RowL.cell (r86.up b') rfl))) rfl rfl ?_
  refine GG.val (fun w' b' => R.load rfl rfl (I.ldNc (vs := [Value.int IntKind.i64 b, Value.int IntKind.i64 i, Value.int IntKind.i64 r, Value.int IntKind.i64 t, Value.int IntKind.u64 ↑k1, Value.int IntKind.u64 ↑k2]) (RowL.cells (r12.up b') rfl) (by rfl) (by rfl))) rfl rfl ?_
  refine GG.call (fun w' => (R.callV rfl rfl rfl rfl)) rfl rfl (fun w' b' => (one_any _ _ _ _ _ _ w').mono fun e W' h => ⟨h.1, b'.trans (h.2.mono b'.size)⟩) ?_
  refine GG.val (fun w' b' => R.field rfl rfl (I.fld rfl)) rfl rfl ?_
  refine GG.val (fun w' b' => R.load rfl rfl (I.ld1 rfl (RowL.cell (r86.up b') rfl))) rfl rfl ?_
  refine GG.val (fun w' b' => R.load rfl rfl (I.ldNc (vs := [Value.int IntKind.i64 b, Value.int IntKind.i64 i, Value.int IntKind.i64 r, Value.int IntKind.i64 t, Value.int IntKind.u64 ↑k1, Value.int IntKind.u64 ↑k2]) (RowL.cells (r12.up b') rfl) (by rfl) (by rfl))) rfl rfl ?_
  refine GG.call (fun w' => (R.callV rfl rfl rfl rfl)) rfl rfl (fun w' b' => (one_any _ _ _ _ _ _ w').mono fun e W' h => ⟨h.1, b'.trans (h.2.mono b'.size)⟩) ?_
  refine GG.val (fun w' b' => R.field rfl rfl (I.fld rfl)) rfl rfl ?_
  refine GG.val (fun w' b' => R.load rfl rfl (I.ld1 rfl (RowL.cell (r86.up b') rfl))) rfl rfl ?_
  refine GG.val (fun w' b' => R.load rfl rfl (I.ldNc (vs := [Value.int IntKind.i64 b, Value.int IntKind.i64 i, Value.int IntKind.i64 r, Value.int IntKind.i64 t, Value.int IntKind.u64 ↑k1, Value.int IntKind.u64 ↑k2]) (RowL.cells (r12.up b') rfl) (by rfl) (by rfl))) rfl rfl ?_
  refine GG.call (fun w' => (R.callV rfl rfl rfl rfl)) rfl rfl (fun w' b' => (kinds4_any _ _ _ _ _ _ w').mono fun e W' h => ⟨h.1, b'.trans (h.2.mono b'.size)⟩) ?_
  refine GG.val (fun w' b' => R.addI rfl rfl rfl (by omega)) rfl rfl ?_
  refine GG.val (fun w' b' => R.subI rfl rfl rfl (by omega)) rfl rfl ?_
  refine GG.callDF (fun w' => (R.call rfl rfl rfl)) rfl rfl (fun w' b' => (within_any _ _ _ w').mono fun e W' h => ⟨h.1, h.2 ▸ b'⟩) (by first | assumption | omega) ?_
  refine GG.val (fun w' b' => R.pick rfl rfl rfl) rfl rfl ?_
  refine GG.nilQ (fun W96 b95 => ?_)
  have zb95 := b95.size
  replace b83 := b83.trans (b95.mono b83.size)
  replace b75 := b75.trans (b95.mono b75.size)
  replace b63 := b63.trans (b95.mono b63.size)
  replace b56 := b56.trans (b95.mono b56.size)
  replace b44 := b44.trans (b95.mono b44.size)
  replace b38 := b38.trans (b95.mono b38.size)
  replace b26 := b26.trans (b95.mono b26.size)
  replace r21 := r21.up b95
  replace b18 := b18.trans (b95.mono b18.size)
  replace b9 := b9.trans (b95.mono b9.size)
  replace b6 := b6.trans (b95.mono b6.size)
  replace r4 := r4.up b95
  replace b1 := b1.trans (b95.mono b1.size)
  replace q := q.trans (b95.mono q.size)
  replace r12 := r12.up b95
  replace r29 := r29.up b95
  replace r47 := r47.up b95
  replace r66 := r66.up b95
  replace r86 := r86.up b95
  refine EE.thenN ?_
  refine CC.no rfl ?_
  refine CC.skip ?_
  refine EE.inN ?_
  refine EE.thenN ?_
  refine CC.region ?_
  refine LL.val (R.addIz (z := 4) rfl rfl rfl (by decide) (by decide)) rfl rfl rfl ?_
  refine LL.val (R.move rfl rfl) rfl rfl rfl ?_
  refine LL.nil ?_
  refine EE.again ?_
  refine RN.step ?_
  refine CC.seq ?_
  refine CC.region ?_
  refine LL.val (R.ltT rfl rfl rfl (by omega)) rfl rfl rfl ?_
  refine LL.nilS ?_
  refine CC.seq ?_
  refine CC.yes rfl ?_
  refine CC.skip ?_
  refine EE.thenN ?_
  refine CC.seq ?_
  refine CC.block ?_
  refine CC.seq ?_
  refine CC.region ?_
  refine LL.val (R.index rfl rfl rfl (I.ixSc rfl rfl (by omega))) rfl rfl rfl ?_
  refine LL.val (R.load rfl rfl (I.ldNc (vs := [Value.int IntKind.i64 5, fnV 30, fnV 42, fnV 41, Value.int IntKind.i64 64]) (RowL.cells r21 rfl) (by rfl) (by rfl))) rfl rfl rfl ?_
  have l97 := r21.lt
  have l98 := r4.lt
  have l99 := r12.lt
  have l100 := r29.lt
  have l101 := r47.lt
  have l102 := r66.lt
  have l103 := r86.lt
  refine LL.alloc ([Value.int IntKind.i64 0, Value.nilFunc, Value.nilFunc, Value.nilFunc, Value.int IntKind.i64 0]) rfl rfl rfl rfl rfl ?_
  intro W105 g106 eg106 r107 z108 b104
  replace b95 := b95.trans (b104.mono b95.size)
  replace b83 := b83.trans (b104.mono b83.size)
  replace b75 := b75.trans (b104.mono b75.size)
  replace b63 := b63.trans (b104.mono b63.size)
  replace b56 := b56.trans (b104.mono b56.size)
  replace b44 := b44.trans (b104.mono b44.size)
  replace b38 := b38.trans (b104.mono b38.size)
  replace b26 := b26.trans (b104.mono b26.size)
  replace r21 := r21.up b104
  replace b18 := b18.trans (b104.mono b18.size)
  replace b9 := b9.trans (b104.mono b9.size)
  replace b6 := b6.trans (b104.mono b6.size)
  replace r4 := r4.up b104
  replace b1 := b1.trans (b104.mono b1.size)
  replace q := q.trans (b104.mono q.size)
  replace r12 := r12.up b104
  replace r29 := r29.up b104
  replace r47 := r47.up b104
  replace r66 := r66.up b104
  replace r86 := r86.up b104
  refine LL.storeN (vs := [Value.int IntKind.i64 5, fnV 30, fnV 42, fnV 41, Value.int IntKind.i64 64]) rfl rfl rfl rfl r107 (by exact Nat.le_of_ble_eq_true rfl) (ones_of rfl) rfl rfl ?_
  intro W110 r111 b109 z112
  have hlb109 := r107.lt
  replace r111 : RowL W110 _ 79 [Value.int IntKind.i64 5, fnV 30, fnV 42, fnV 41, Value.int IntKind.i64 64] := r111
  clear r107
  replace b104 := b104.grown b109 b104.size (by rintro k ⟨⟩; omega)
  replace b95 := b95.grown b109 b95.size (by rintro k ⟨⟩; omega)
  replace b83 := b83.grown b109 b83.size (by rintro k ⟨⟩; omega)
  replace b75 := b75.grown b109 b75.size (by rintro k ⟨⟩; omega)
  replace b63 := b63.grown b109 b63.size (by rintro k ⟨⟩; omega)
  replace b56 := b56.grown b109 b56.size (by rintro k ⟨⟩; omega)
  replace b44 := b44.grown b109 b44.size (by rintro k ⟨⟩; omega)
  replace b38 := b38.grown b109 b38.size (by rintro k ⟨⟩; omega)
  replace b26 := b26.grown b109 b26.size (by rintro k ⟨⟩; omega)
  replace r21 := r21.gr b109 (by have := r21.lt; omega)
  replace b18 := b18.grown b109 b18.size (by rintro k ⟨⟩; omega)
  replace b9 := b9.grown b109 b9.size (by rintro k ⟨⟩; omega)
  replace b6 := b6.grown b109 b6.size (by rintro k ⟨⟩; omega)
  replace r4 := r4.gr b109 (by have := r4.lt; omega)
  replace b1 := b1.grown b109 b1.size (by rintro k ⟨⟩; omega)
  replace q := q.grown b109 q.size (by rintro k ⟨⟩; omega)
  replace r12 := r12.gr b109 (by have := r12.lt; omega)
  replace r29 := r29.gr b109 (by have := r29.lt; omega)
  replace r47 := r47.gr b109 (by have := r47.lt; omega)
  replace r66 := r66.gr b109 (by have := r66.lt; omega)
  replace r86 := r86.gr b109 (by have := r86.lt; omega)
  have r107 := r111
  clear r111
  refine LL.nilS ?_
  refine CC.seq ?_
  refine CC.grow (by kernel_rfl) (by kernel_rfl) ?_
  refine GG.val (fun w' b' => R.field rfl rfl (I.fld rfl)) rfl rfl ?_
  refine GG.val (fun w' b' => R.load rfl rfl (I.ld1 rfl (RowL.cell (r107.up b') rfl))) rfl rfl ?_
  refine GG.val (fun w' b' => R.move rfl rfl) rfl rfl ?_
  refine GG.val (fun w' b' => R.eqF rfl rfl rfl (by omega)) rfl rfl ?_
  refine GG.val (fun w' b' => R.move rfl rfl) rfl rfl ?_
  refine GG.skip rfl rfl ?_
  refine GG.skip rfl rfl ?_
  refine GG.skip rfl rfl ?_
  refine GG.skip rfl rfl ?_
  refine GG.skip rfl rfl ?_
  refine GG.skip rfl rfl ?_
  refine GG.skip rfl rfl ?_
  refine GG.skip rfl rfl ?_
  refine GG.skip rfl rfl ?_
  refine GG.skip rfl rfl ?_
  refine GG.skip rfl rfl ?_
  refine GG.skip rfl rfl ?_
  refine GG.skip rfl rfl ?_
  refine GG.skip rfl rfl ?_
  refine GG.skip rfl rfl ?_
  refine GG.skip rfl rfl ?_
  refine GG.val (fun w' b' => R.pick rfl rfl rfl) rfl rfl ?_
  refine GG.nilQ (fun W117 b116 => ?_)
  have zb116 := b116.size
  replace b104 := b104.trans (b116.mono b104.size)
  replace b95 := b95.trans (b116.mono b95.size)
  replace b83 := b83.trans (b116.mono b83.size)
  replace b75 := b75.trans (b116.mono b75.size)
  replace b63 := b63.trans (b116.mono b63.size)
  replace b56 := b56.trans (b116.mono b56.size)
  replace b44 := b44.trans (b116.mono b44.size)
  replace b38 := b38.trans (b116.mono b38.size)
  replace b26 := b26.trans (b116.mono b26.size)
  replace r21 := r21.up b116
  replace b18 := b18.trans (b116.mono b18.size)
  replace b9 := b9.trans (b116.mono b9.size)
  replace b6 := b6.trans (b116.mono b6.size)
  replace r4 := r4.up b116
  replace b1 := b1.trans (b116.mono b1.size)
  replace q := q.trans (b116.mono q.size)
  replace r12 := r12.up b116
  replace r29 := r29.up b116
  replace r47 := r47.up b116
  replace r66 := r66.up b116
  replace r86 := r86.up b116
  replace r107 := r107.up b116
  refine EE.thenN ?_
  refine CC.no rfl ?_
  refine CC.skip ?_
  refine EE.inN ?_
  refine EE.thenN ?_
  refine CC.region ?_
  refine LL.val (R.addIz (z := 5) rfl rfl rfl (by decide) (by decide)) rfl rfl rfl ?_
  refine LL.val (R.move rfl rfl) rfl rfl rfl ?_
  refine LL.nil ?_
  refine EE.again ?_
  refine RN.step ?_
  refine CC.seq ?_
  refine CC.region ?_
  refine LL.val (R.ltT rfl rfl rfl (by omega)) rfl rfl rfl ?_
  refine LL.nilS ?_
  refine CC.seq ?_
  refine CC.yes rfl ?_
  refine CC.skip ?_
  refine EE.thenN ?_
  refine CC.seq ?_
  refine CC.block ?_
  refine CC.seq ?_
  refine CC.region ?_
  refine LL.val (R.index rfl rfl rfl (I.ixSc rfl rfl (by omega))) rfl rfl rfl ?_
  refine LL.val (R.load rfl rfl (I.ldNc (vs := [Value.int IntKind.i64 6, fnV 28, fnV 47, fnV 28, Value.int IntKind.i64 64]) (RowL.cells r21 rfl) (by rfl) (by rfl))) rfl rfl rfl ?_
  have l118 := r21.lt
  have l119 := r4.lt
  have l120 := r12.lt
  have l121 := r29.lt
  have l122 := r47.lt
  have l123 := r66.lt
  have l124 := r86.lt
  have l125 := r107.lt
  refine LL.alloc ([Value.int IntKind.i64 0, Value.nilFunc, Value.nilFunc, Value.nilFunc, Value.int IntKind.i64 0]) rfl rfl rfl rfl rfl ?_
  intro W127 g128 eg128 r129 z130 b126
  replace b116 := b116.trans (b126.mono b116.size)
  replace b104 := b104.trans (b126.mono b104.size)
  replace b95 := b95.trans (b126.mono b95.size)
  replace b83 := b83.trans (b126.mono b83.size)
  replace b75 := b75.trans (b126.mono b75.size)
  replace b63 := b63.trans (b126.mono b63.size)
  replace b56 := b56.trans (b126.mono b56.size)
  replace b44 := b44.trans (b126.mono b44.size)
  replace b38 := b38.trans (b126.mono b38.size)
  replace b26 := b26.trans (b126.mono b26.size)
  replace r21 := r21.up b126
  replace b18 := b18.trans (b126.mono b18.size)
  replace b9 := b9.trans (b126.mono b9.size)
  replace b6 := b6.trans (b126.mono b6.size)
  replace r4 := r4.up b126
  replace b1 := b1.trans (b126.mono b1.size)
  replace q := q.trans (b126.mono q.size)
  replace r12 := r12.up b126
  replace r29 := r29.up b126
  replace r47 := r47.up b126
  replace r66 := r66.up b126
  replace r86 := r86.up b126
  replace r107 := r107.up b126
  refine LL.storeN (vs := [Value.int IntKind.i64 6, fnV 28, fnV 47, fnV 28, Value.int IntKind.i64 64]) rfl rfl rfl rfl r129 (by exact Nat.le_of_ble_eq_true rfl) (ones_of rfl) rfl rfl ?_
  intro W132 r133 b131 z134
  have hlb131 := r129.lt
  replace r133 : RowL W132 _ 79 [Value.int IntKind.i64 6, fnV 28, fnV 47, fnV 28, Value.int IntKind.i64 64] := r133
  clear r129
  replace b126 := b126.grown b131 b126.size (by rintro k ⟨⟩; omega)
  replace b116 := b116.grown b131 b116.size (by rintro k ⟨⟩; omega)
  replace b104 := b104.grown b131 b104.size (by rintro k ⟨⟩; omega)
  replace b95 := b95.grown b131 b95.size (by rintro k ⟨⟩; omega)
  replace b83 := b83.grown b131 b83.size (by rintro k ⟨⟩; omega)
  replace b75 := b75.grown b131 b75.size (by rintro k ⟨⟩; omega)
  replace b63 := b63.grown b131 b63.size (by rintro k ⟨⟩; omega)
  replace b56 := b56.grown b131 b56.size (by rintro k ⟨⟩; omega)
  replace b44 := b44.grown b131 b44.size (by rintro k ⟨⟩; omega)
  replace b38 := b38.grown b131 b38.size (by rintro k ⟨⟩; omega)
  replace b26 := b26.grown b131 b26.size (by rintro k ⟨⟩; omega)
  replace r21 := r21.gr b131 (by have := r21.lt; omega)
  replace b18 := b18.grown b131 b18.size (by rintro k ⟨⟩; omega)
  replace b9 := b9.grown b131 b9.size (by rintro k ⟨⟩; omega)
  replace b6 := b6.grown b131 b6.size (by rintro k ⟨⟩; omega)
  replace r4 := r4.gr b131 (by have := r4.lt; omega)
  replace b1 := b1.grown b131 b1.size (by rintro k ⟨⟩; omega)
  replace q := q.grown b131 q.size (by rintro k ⟨⟩; omega)
  replace r12 := r12.gr b131 (by have := r12.lt; omega)
  replace r29 := r29.gr b131 (by have := r29.lt; omega)
  replace r47 := r47.gr b131 (by have := r47.lt; omega)
  replace r66 := r66.gr b131 (by have := r66.lt; omega)
  replace r86 := r86.gr b131 (by have := r86.lt; omega)
  replace r107 := r107.gr b131 (by have := r107.lt; omega)
  have r129 := r133
  clear r133
  refine LL.nilS ?_
  refine CC.seq ?_
  refine CC.grow (by kernel_rfl) (by kernel_rfl) ?_
  refine GG.val (fun w' b' => R.field rfl rfl (I.fld rfl)) rfl rfl ?_
  refine GG.val (fun w' b' => R.load rfl rfl (I.ld1 rfl (RowL.cell (r129.up b') rfl))) rfl rfl ?_
  refine GG.val (fun w' b' => R.move rfl rfl) rfl rfl ?_
  refine GG.val (fun w' b' => R.eqF rfl rfl rfl (by omega)) rfl rfl ?_
  refine GG.val (fun w' b' => R.move rfl rfl) rfl rfl ?_
  refine GG.skip rfl rfl ?_
  refine GG.skip rfl rfl ?_
  refine GG.skip rfl rfl ?_
  refine GG.skip rfl rfl ?_
  refine GG.skip rfl rfl ?_
  refine GG.skip rfl rfl ?_
  refine GG.skip rfl rfl ?_
  refine GG.skip rfl rfl ?_
  refine GG.skip rfl rfl ?_
  refine GG.skip rfl rfl ?_
  refine GG.skip rfl rfl ?_
  refine GG.skip rfl rfl ?_
  refine GG.skip rfl rfl ?_
  refine GG.skip rfl rfl ?_
  refine GG.skip rfl rfl ?_
  refine GG.skip rfl rfl ?_
  refine GG.val (fun w' b' => R.pick rfl rfl rfl) rfl rfl ?_
  refine GG.nilQ (fun W139 b138 => ?_)
  have zb138 := b138.size
  replace b126 := b126.trans (b138.mono b126.size)
  replace b116 := b116.trans (b138.mono b116.size)
  replace b104 := b104.trans (b138.mono b104.size)
  replace b95 := b95.trans (b138.mono b95.size)
  replace b83 := b83.trans (b138.mono b83.size)
  replace b75 := b75.trans (b138.mono b75.size)
  replace b63 := b63.trans (b138.mono b63.size)
  replace b56 := b56.trans (b138.mono b56.size)
  replace b44 := b44.trans (b138.mono b44.size)
  replace b38 := b38.trans (b138.mono b38.size)
  replace b26 := b26.trans (b138.mono b26.size)
  replace r21 := r21.up b138
  replace b18 := b18.trans (b138.mono b18.size)
  replace b9 := b9.trans (b138.mono b9.size)
  replace b6 := b6.trans (b138.mono b6.size)
  replace r4 := r4.up b138
  replace b1 := b1.trans (b138.mono b1.size)
  replace q := q.trans (b138.mono q.size)
  replace r12 := r12.up b138
  replace r29 := r29.up b138
  replace r47 := r47.up b138
  replace r66 := r66.up b138
  replace r86 := r86.up b138
  replace r107 := r107.up b138
  replace r129 := r129.up b138
  refine EE.thenN ?_
  refine CC.no rfl ?_
  refine CC.skip ?_
  refine EE.inN ?_
  refine EE.thenN ?_
  refine CC.region ?_
  refine LL.val (R.addIz (z := 6) rfl rfl rfl (by decide) (by decide)) rfl rfl rfl ?_
  refine LL.val (R.move rfl rfl) rfl rfl rfl ?_
  refine LL.nil ?_
  refine EE.again ?_
  refine RN.step ?_
  refine CC.seq ?_
  refine CC.region ?_
  refine LL.val (R.ltF rfl rfl rfl (by omega)) rfl rfl rfl ?_
  refine LL.nilS ?_
  refine CC.seq ?_
  refine CC.no rfl ?_
  refine CC.exit ?_
  refine EE.thenX ?_
  refine EE.thenX ?_
  refine EE.inX ?_
  refine EE.thenN ?_
  refine CC.seq ?_
  refine CC.region ?_
  refine LL.val (R.assign rfl rfl) rfl rfl rfl ?_
  refine LL.val (R.assign rfl rfl) rfl rfl rfl ?_
  refine LL.nilS ?_
  refine CC.ret ?_
  refine EE.ret _ rfl rfl ?_
  exact ⟨rfl, q⟩
set_option maxRecDepth 100000 in
set_option maxHeartbeats 8000000 in
theorem first4_bad (b i r t : Int) (k1 k2 : Nat) (a c d e n : Int) (w : World) (hl : ¬isL b i r t a c d e) : Calls Try.prog 35 #[layV b i r t k1 k2 a c d e, .int .i64 4, .int .i64 n] w fun x w' => x = .returned (.tuple #[.int .i64 0, .int .i64 2]) ∧ Below w.heap.size w w' := by
  have q := Below.refl w.heap.size w
  refine X.fn Try.func35 rfl (n := 63) rfl rfl ?_
  refine CC.seq ?_
  refine CC.region ?_
  refine LL.box [Value.int IntKind.i64 b, Value.int IntKind.i64 i, Value.int IntKind.i64 r, Value.int IntKind.i64 t, Value.int IntKind.u64 ↑k1, Value.int IntKind.u64 ↑k2, Value.int IntKind.i64 a, Value.int IntKind.i64 c, Value.int IntKind.i64 d, Value.int IntKind.i64 e] rfl rfl rfl rfl rfl ?_
  intro W2 g3 eg3 r4 z5 b1
  replace q := q.trans (b1.mono q.size)
  refine LL.val (R.assign rfl rfl) rfl rfl rfl ?_
  refine LL.val (R.assign rfl rfl) rfl rfl rfl ?_
  refine LL.nilS ?_
  refine CC.seq ?_
  refine CC.seq ?_
  refine CC.region ?_
  refine LL.val (R.load rfl rfl (I.ldNc (vs := [Value.int IntKind.i64 b, Value.int IntKind.i64 i, Value.int IntKind.i64 r, Value.int IntKind.i64 t, Value.int IntKind.u64 ↑k1, Value.int IntKind.u64 ↑k2, Value.int IntKind.i64 a, Value.int IntKind.i64 c, Value.int IntKind.i64 d, Value.int IntKind.i64 e]) (RowL.cells r4 rfl) (by rfl) (by rfl))) rfl rfl rfl ?_
  refine LL.callBF (R.call rfl rfl rfl) rfl rfl rfl (is_any _ _ _ _ _ _ _ _ _ _ _) (by first | assumption | omega) (fun W7 b6 => ?_)
  have zb6 := b6.size
  replace r4 := r4.up b6
  replace b1 := b1.trans (b6.mono b1.size)
  replace q := q.trans (b6.mono q.size)
  refine LL.val (R.not rfl rfl) rfl rfl rfl ?_
  refine LL.nilS ?_
  refine CC.yes rfl ?_
  refine CC.seq ?_
  refine CC.region ?_
  refine LL.val (R.assign rfl rfl) rfl rfl rfl ?_
  refine LL.val (R.assign rfl rfl) rfl rfl rfl ?_
  refine LL.nilS ?_
  refine CC.ret ?_
  refine EE.thenR ?_
  refine EE.ret _ rfl rfl ?_
  exact ⟨rfl, q⟩
set_option maxRecDepth 100000 in
set_option maxHeartbeats 8000000 in
theorem pJournal_any (b i r t : Int) (k1 k2 : Nat) (a c d e n : Int) (w : World) (hl : isL b i r t a c d e) (hn : 0 ≤ n ∧ n ≤ 7) : Calls Try.prog 17 #[layV b i r t k1 k2 a c d e, .int .i64 n] w fun x w' => x = .returned (.tuple #[.int .i64 (64 + 64 * n), .int .i64 0]) ∧ Below w.heap.size w w' := by
  have q := Below.refl w.heap.size w
  refine X.fn Try.func17 rfl (n := 11) rfl rfl ?_
  refine CC.seq ?_
  refine CC.region ?_
  refine LL.box [Value.int IntKind.i64 b, Value.int IntKind.i64 i, Value.int IntKind.i64 r, Value.int IntKind.i64 t, Value.int IntKind.u64 ↑k1, Value.int IntKind.u64 ↑k2, Value.int IntKind.i64 a, Value.int IntKind.i64 c, Value.int IntKind.i64 d, Value.int IntKind.i64 e] rfl rfl rfl rfl rfl ?_
  intro W2 g3 eg3 r4 z5 b1
  replace q := q.trans (b1.mono q.size)
  refine LL.val (R.assign rfl rfl) rfl rfl rfl ?_
  refine LL.val (R.assign rfl rfl) rfl rfl rfl ?_
  refine LL.nilS ?_
  refine CC.seq ?_
  refine CC.region ?_
  refine LL.val (R.load rfl rfl (I.ldNc (vs := [Value.int IntKind.i64 b, Value.int IntKind.i64 i, Value.int IntKind.i64 r, Value.int IntKind.i64 t, Value.int IntKind.u64 ↑k1, Value.int IntKind.u64 ↑k2, Value.int IntKind.i64 a, Value.int IntKind.i64 c, Value.int IntKind.i64 d, Value.int IntKind.i64 e]) (RowL.cells r4 rfl) (by rfl) (by rfl))) rfl rfl rfl ?_
  refine LL.val (R.move rfl rfl) rfl rfl rfl ?_
  refine LL.call (R.call rfl rfl rfl) rfl rfl rfl (first2_any _ _ _ _ _ _ _ _ _ _ _ _ (by first | assumption | omega) (by first | assumption | omega)) ?_
  rintro e W7 ⟨rfl, b6⟩
  refine ⟨_, rfl, ?_⟩
  have zb6 := b6.size
  replace r4 := r4.up b6
  replace b1 := b1.trans (b6.mono b1.size)
  replace q := q.trans (b6.mono q.size)
  refine LL.val (R.extract rfl rfl rfl) rfl rfl rfl ?_
  refine LL.val (R.extract rfl rfl rfl) rfl rfl rfl ?_
  refine LL.val (R.assign rfl rfl) rfl rfl rfl ?_
  refine LL.val (R.assign rfl rfl) rfl rfl rfl ?_
  refine LL.nilS ?_
  refine CC.ret ?_
  refine EE.ret _ rfl rfl ?_
  exact ⟨rfl, q⟩
set_option maxRecDepth 100000 in
set_option maxHeartbeats 8000000 in
theorem pJournal_out (b i r t : Int) (k1 k2 : Nat) (a c d e n : Int) (w : World) (hl : isL b i r t a c d e) (hn : ¬(0 ≤ n ∧ n ≤ 7)) : Calls Try.prog 17 #[layV b i r t k1 k2 a c d e, .int .i64 n] w fun x w' => x = .returned (.tuple #[.int .i64 0, .int .i64 4]) ∧ Below w.heap.size w w' := by
  have q := Below.refl w.heap.size w
  refine X.fn Try.func17 rfl (n := 11) rfl rfl ?_
  refine CC.seq ?_
  refine CC.region ?_
  refine LL.box [Value.int IntKind.i64 b, Value.int IntKind.i64 i, Value.int IntKind.i64 r, Value.int IntKind.i64 t, Value.int IntKind.u64 ↑k1, Value.int IntKind.u64 ↑k2, Value.int IntKind.i64 a, Value.int IntKind.i64 c, Value.int IntKind.i64 d, Value.int IntKind.i64 e] rfl rfl rfl rfl rfl ?_
  intro W2 g3 eg3 r4 z5 b1
  replace q := q.trans (b1.mono q.size)
  refine LL.val (R.assign rfl rfl) rfl rfl rfl ?_
  refine LL.val (R.assign rfl rfl) rfl rfl rfl ?_
  refine LL.nilS ?_
  refine CC.seq ?_
  refine CC.region ?_
  refine LL.val (R.load rfl rfl (I.ldNc (vs := [Value.int IntKind.i64 b, Value.int IntKind.i64 i, Value.int IntKind.i64 r, Value.int IntKind.i64 t, Value.int IntKind.u64 ↑k1, Value.int IntKind.u64 ↑k2, Value.int IntKind.i64 a, Value.int IntKind.i64 c, Value.int IntKind.i64 d, Value.int IntKind.i64 e]) (RowL.cells r4 rfl) (by rfl) (by rfl))) rfl rfl rfl ?_
  refine LL.val (R.move rfl rfl) rfl rfl rfl ?_
  refine LL.call (R.call rfl rfl rfl) rfl rfl rfl (first2_out _ _ _ _ _ _ _ _ _ _ _ _ (by first | assumption | omega) (by first | assumption | omega)) ?_
  rintro e W7 ⟨rfl, b6⟩
  refine ⟨_, rfl, ?_⟩
  have zb6 := b6.size
  replace r4 := r4.up b6
  replace b1 := b1.trans (b6.mono b1.size)
  replace q := q.trans (b6.mono q.size)
  refine LL.val (R.extract rfl rfl rfl) rfl rfl rfl ?_
  refine LL.val (R.extract rfl rfl rfl) rfl rfl rfl ?_
  refine LL.val (R.assign rfl rfl) rfl rfl rfl ?_
  refine LL.val (R.assign rfl rfl) rfl rfl rfl ?_
  refine LL.nilS ?_
  refine CC.ret ?_
  refine EE.ret _ rfl rfl ?_
  exact ⟨rfl, q⟩
set_option maxRecDepth 100000 in
set_option maxHeartbeats 8000000 in
theorem pJournal_bad (b i r t : Int) (k1 k2 : Nat) (a c d e n : Int) (w : World) (hl : ¬isL b i r t a c d e) : Calls Try.prog 17 #[layV b i r t k1 k2 a c d e, .int .i64 n] w fun x w' => x = .returned (.tuple #[.int .i64 0, .int .i64 2]) ∧ Below w.heap.size w w' := by
  have q := Below.refl w.heap.size w
  refine X.fn Try.func17 rfl (n := 11) rfl rfl ?_
  refine CC.seq ?_
  refine CC.region ?_
  refine LL.box [Value.int IntKind.i64 b, Value.int IntKind.i64 i, Value.int IntKind.i64 r, Value.int IntKind.i64 t, Value.int IntKind.u64 ↑k1, Value.int IntKind.u64 ↑k2, Value.int IntKind.i64 a, Value.int IntKind.i64 c, Value.int IntKind.i64 d, Value.int IntKind.i64 e] rfl rfl rfl rfl rfl ?_
  intro W2 g3 eg3 r4 z5 b1
  replace q := q.trans (b1.mono q.size)
  refine LL.val (R.assign rfl rfl) rfl rfl rfl ?_
  refine LL.val (R.assign rfl rfl) rfl rfl rfl ?_
  refine LL.nilS ?_
  refine CC.seq ?_
  refine CC.region ?_
  refine LL.val (R.load rfl rfl (I.ldNc (vs := [Value.int IntKind.i64 b, Value.int IntKind.i64 i, Value.int IntKind.i64 r, Value.int IntKind.i64 t, Value.int IntKind.u64 ↑k1, Value.int IntKind.u64 ↑k2, Value.int IntKind.i64 a, Value.int IntKind.i64 c, Value.int IntKind.i64 d, Value.int IntKind.i64 e]) (RowL.cells r4 rfl) (by rfl) (by rfl))) rfl rfl rfl ?_
  refine LL.val (R.move rfl rfl) rfl rfl rfl ?_
  refine LL.call (R.call rfl rfl rfl) rfl rfl rfl (first2_bad _ _ _ _ _ _ _ _ _ _ _ _ (by first | assumption | omega)) ?_
  rintro e W7 ⟨rfl, b6⟩
  refine ⟨_, rfl, ?_⟩
  have zb6 := b6.size
  replace r4 := r4.up b6
  replace b1 := b1.trans (b6.mono b1.size)
  replace q := q.trans (b6.mono q.size)
  refine LL.val (R.extract rfl rfl rfl) rfl rfl rfl ?_
  refine LL.val (R.extract rfl rfl rfl) rfl rfl rfl ?_
  refine LL.val (R.assign rfl rfl) rfl rfl rfl ?_
  refine LL.val (R.assign rfl rfl) rfl rfl rfl ?_
  refine LL.nilS ?_
  refine CC.ret ?_
  refine EE.ret _ rfl rfl ?_
  exact ⟨rfl, q⟩
set_option maxRecDepth 100000 in
set_option maxHeartbeats 8000000 in
theorem pInode_any (b i r t : Int) (k1 k2 : Nat) (a c d e n : Int) (w : World) (hl : isL b i r t a c d e) (hn : 1 ≤ n ∧ n ≤ i) : Calls Try.prog 18 #[layV b i r t k1 k2 a c d e, .int .i64 n] w fun x w' => x = .returned (.tuple #[.int .i64 (64 * a + 16 * (n - 1)), .int .i64 0]) ∧ Below w.heap.size w w' := by
  have q := Below.refl w.heap.size w
  refine X.fn Try.func18 rfl (n := 11) rfl rfl ?_
  refine CC.seq ?_
  refine CC.region ?_
  refine LL.box [Value.int IntKind.i64 b, Value.int IntKind.i64 i, Value.int IntKind.i64 r, Value.int IntKind.i64 t, Value.int IntKind.u64 ↑k1, Value.int IntKind.u64 ↑k2, Value.int IntKind.i64 a, Value.int IntKind.i64 c, Value.int IntKind.i64 d, Value.int IntKind.i64 e] rfl rfl rfl rfl rfl ?_
  intro W2 g3 eg3 r4 z5 b1
  replace q := q.trans (b1.mono q.size)
  refine LL.val (R.assign rfl rfl) rfl rfl rfl ?_
  refine LL.val (R.assign rfl rfl) rfl rfl rfl ?_
  refine LL.nilS ?_
  refine CC.seq ?_
  refine CC.region ?_
  refine LL.val (R.load rfl rfl (I.ldNc (vs := [Value.int IntKind.i64 b, Value.int IntKind.i64 i, Value.int IntKind.i64 r, Value.int IntKind.i64 t, Value.int IntKind.u64 ↑k1, Value.int IntKind.u64 ↑k2, Value.int IntKind.i64 a, Value.int IntKind.i64 c, Value.int IntKind.i64 d, Value.int IntKind.i64 e]) (RowL.cells r4 rfl) (by rfl) (by rfl))) rfl rfl rfl ?_
  refine LL.val (R.move rfl rfl) rfl rfl rfl ?_
  refine LL.call (R.call rfl rfl rfl) rfl rfl rfl (first3_any _ _ _ _ _ _ _ _ _ _ _ _ (by first | assumption | omega) (by first | assumption | omega)) ?_
  rintro e W7 ⟨rfl, b6⟩
  refine ⟨_, rfl, ?_⟩
  have zb6 := b6.size
  replace r4 := r4.up b6
  replace b1 := b1.trans (b6.mono b1.size)
  replace q := q.trans (b6.mono q.size)
  refine LL.val (R.extract rfl rfl rfl) rfl rfl rfl ?_
  refine LL.val (R.extract rfl rfl rfl) rfl rfl rfl ?_
  refine LL.val (R.assign rfl rfl) rfl rfl rfl ?_
  refine LL.val (R.assign rfl rfl) rfl rfl rfl ?_
  refine LL.nilS ?_
  refine CC.ret ?_
  refine EE.ret _ rfl rfl ?_
  exact ⟨rfl, q⟩
set_option maxRecDepth 100000 in
set_option maxHeartbeats 8000000 in
theorem pInode_out (b i r t : Int) (k1 k2 : Nat) (a c d e n : Int) (w : World) (hl : isL b i r t a c d e) (hn : ¬(1 ≤ n ∧ n ≤ i)) : Calls Try.prog 18 #[layV b i r t k1 k2 a c d e, .int .i64 n] w fun x w' => x = .returned (.tuple #[.int .i64 0, .int .i64 4]) ∧ Below w.heap.size w w' := by
  have q := Below.refl w.heap.size w
  refine X.fn Try.func18 rfl (n := 11) rfl rfl ?_
  refine CC.seq ?_
  refine CC.region ?_
  refine LL.box [Value.int IntKind.i64 b, Value.int IntKind.i64 i, Value.int IntKind.i64 r, Value.int IntKind.i64 t, Value.int IntKind.u64 ↑k1, Value.int IntKind.u64 ↑k2, Value.int IntKind.i64 a, Value.int IntKind.i64 c, Value.int IntKind.i64 d, Value.int IntKind.i64 e] rfl rfl rfl rfl rfl ?_
  intro W2 g3 eg3 r4 z5 b1
  replace q := q.trans (b1.mono q.size)
  refine LL.val (R.assign rfl rfl) rfl rfl rfl ?_
  refine LL.val (R.assign rfl rfl) rfl rfl rfl ?_
  refine LL.nilS ?_
  refine CC.seq ?_
  refine CC.region ?_
  refine LL.val (R.load rfl rfl (I.ldNc (vs := [Value.int IntKind.i64 b, Value.int IntKind.i64 i, Value.int IntKind.i64 r, Value.int IntKind.i64 t, Value.int IntKind.u64 ↑k1, Value.int IntKind.u64 ↑k2, Value.int IntKind.i64 a, Value.int IntKind.i64 c, Value.int IntKind.i64 d, Value.int IntKind.i64 e]) (RowL.cells r4 rfl) (by rfl) (by rfl))) rfl rfl rfl ?_
  refine LL.val (R.move rfl rfl) rfl rfl rfl ?_
  refine LL.call (R.call rfl rfl rfl) rfl rfl rfl (first3_out _ _ _ _ _ _ _ _ _ _ _ _ (by first | assumption | omega) (by first | assumption | omega)) ?_
  rintro e W7 ⟨rfl, b6⟩
  refine ⟨_, rfl, ?_⟩
  have zb6 := b6.size
  replace r4 := r4.up b6
  replace b1 := b1.trans (b6.mono b1.size)
  replace q := q.trans (b6.mono q.size)
  refine LL.val (R.extract rfl rfl rfl) rfl rfl rfl ?_
  refine LL.val (R.extract rfl rfl rfl) rfl rfl rfl ?_
  refine LL.val (R.assign rfl rfl) rfl rfl rfl ?_
  refine LL.val (R.assign rfl rfl) rfl rfl rfl ?_
  refine LL.nilS ?_
  refine CC.ret ?_
  refine EE.ret _ rfl rfl ?_
  exact ⟨rfl, q⟩
set_option maxRecDepth 100000 in
set_option maxHeartbeats 8000000 in
theorem pInode_bad (b i r t : Int) (k1 k2 : Nat) (a c d e n : Int) (w : World) (hl : ¬isL b i r t a c d e) : Calls Try.prog 18 #[layV b i r t k1 k2 a c d e, .int .i64 n] w fun x w' => x = .returned (.tuple #[.int .i64 0, .int .i64 2]) ∧ Below w.heap.size w w' := by
  have q := Below.refl w.heap.size w
  refine X.fn Try.func18 rfl (n := 11) rfl rfl ?_
  refine CC.seq ?_
  refine CC.region ?_
  refine LL.box [Value.int IntKind.i64 b, Value.int IntKind.i64 i, Value.int IntKind.i64 r, Value.int IntKind.i64 t, Value.int IntKind.u64 ↑k1, Value.int IntKind.u64 ↑k2, Value.int IntKind.i64 a, Value.int IntKind.i64 c, Value.int IntKind.i64 d, Value.int IntKind.i64 e] rfl rfl rfl rfl rfl ?_
  intro W2 g3 eg3 r4 z5 b1
  replace q := q.trans (b1.mono q.size)
  refine LL.val (R.assign rfl rfl) rfl rfl rfl ?_
  refine LL.val (R.assign rfl rfl) rfl rfl rfl ?_
  refine LL.nilS ?_
  refine CC.seq ?_
  refine CC.region ?_
  refine LL.val (R.load rfl rfl (I.ldNc (vs := [Value.int IntKind.i64 b, Value.int IntKind.i64 i, Value.int IntKind.i64 r, Value.int IntKind.i64 t, Value.int IntKind.u64 ↑k1, Value.int IntKind.u64 ↑k2, Value.int IntKind.i64 a, Value.int IntKind.i64 c, Value.int IntKind.i64 d, Value.int IntKind.i64 e]) (RowL.cells r4 rfl) (by rfl) (by rfl))) rfl rfl rfl ?_
  refine LL.val (R.move rfl rfl) rfl rfl rfl ?_
  refine LL.call (R.call rfl rfl rfl) rfl rfl rfl (first3_bad _ _ _ _ _ _ _ _ _ _ _ _ (by first | assumption | omega)) ?_
  rintro e W7 ⟨rfl, b6⟩
  refine ⟨_, rfl, ?_⟩
  have zb6 := b6.size
  replace r4 := r4.up b6
  replace b1 := b1.trans (b6.mono b1.size)
  replace q := q.trans (b6.mono q.size)
  refine LL.val (R.extract rfl rfl rfl) rfl rfl rfl ?_
  refine LL.val (R.extract rfl rfl rfl) rfl rfl rfl ?_
  refine LL.val (R.assign rfl rfl) rfl rfl rfl ?_
  refine LL.val (R.assign rfl rfl) rfl rfl rfl ?_
  refine LL.nilS ?_
  refine CC.ret ?_
  refine EE.ret _ rfl rfl ?_
  exact ⟨rfl, q⟩
set_option maxRecDepth 100000 in
set_option maxHeartbeats 8000000 in
theorem pRecord_any (b i r t : Int) (k1 k2 : Nat) (a c d e n : Int) (w : World) (hl : isL b i r t a c d e) (hn : 1 ≤ n ∧ n ≤ r) : Calls Try.prog 19 #[layV b i r t k1 k2 a c d e, .int .i64 n] w fun x w' => x = .returned (.tuple #[.int .i64 (64 * c + 16 * (n - 1)), .int .i64 0]) ∧ Below w.heap.size w w' := by
  have q := Below.refl w.heap.size w
  refine X.fn Try.func19 rfl (n := 11) rfl rfl ?_
  refine CC.seq ?_
  refine CC.region ?_
  refine LL.box [Value.int IntKind.i64 b, Value.int IntKind.i64 i, Value.int IntKind.i64 r, Value.int IntKind.i64 t, Value.int IntKind.u64 ↑k1, Value.int IntKind.u64 ↑k2, Value.int IntKind.i64 a, Value.int IntKind.i64 c, Value.int IntKind.i64 d, Value.int IntKind.i64 e] rfl rfl rfl rfl rfl ?_
  intro W2 g3 eg3 r4 z5 b1
  replace q := q.trans (b1.mono q.size)
  refine LL.val (R.assign rfl rfl) rfl rfl rfl ?_
  refine LL.val (R.assign rfl rfl) rfl rfl rfl ?_
  refine LL.nilS ?_
  refine CC.seq ?_
  refine CC.region ?_
  refine LL.val (R.load rfl rfl (I.ldNc (vs := [Value.int IntKind.i64 b, Value.int IntKind.i64 i, Value.int IntKind.i64 r, Value.int IntKind.i64 t, Value.int IntKind.u64 ↑k1, Value.int IntKind.u64 ↑k2, Value.int IntKind.i64 a, Value.int IntKind.i64 c, Value.int IntKind.i64 d, Value.int IntKind.i64 e]) (RowL.cells r4 rfl) (by rfl) (by rfl))) rfl rfl rfl ?_
  refine LL.val (R.move rfl rfl) rfl rfl rfl ?_
  refine LL.call (R.call rfl rfl rfl) rfl rfl rfl (first4_any _ _ _ _ _ _ _ _ _ _ _ _ (by first | assumption | omega) (by first | assumption | omega)) ?_
  rintro e W7 ⟨rfl, b6⟩
  refine ⟨_, rfl, ?_⟩
  have zb6 := b6.size
  replace r4 := r4.up b6
  replace b1 := b1.trans (b6.mono b1.size)
  replace q := q.trans (b6.mono q.size)
  refine LL.val (R.extract rfl rfl rfl) rfl rfl rfl ?_
  refine LL.val (R.extract rfl rfl rfl) rfl rfl rfl ?_
  refine LL.val (R.assign rfl rfl) rfl rfl rfl ?_
  refine LL.val (R.assign rfl rfl) rfl rfl rfl ?_
  refine LL.nilS ?_
  refine CC.ret ?_
  refine EE.ret _ rfl rfl ?_
  exact ⟨rfl, q⟩
set_option maxRecDepth 100000 in
set_option maxHeartbeats 8000000 in
theorem pRecord_out (b i r t : Int) (k1 k2 : Nat) (a c d e n : Int) (w : World) (hl : isL b i r t a c d e) (hn : ¬(1 ≤ n ∧ n ≤ r)) : Calls Try.prog 19 #[layV b i r t k1 k2 a c d e, .int .i64 n] w fun x w' => x = .returned (.tuple #[.int .i64 0, .int .i64 4]) ∧ Below w.heap.size w w' := by
  have q := Below.refl w.heap.size w
  refine X.fn Try.func19 rfl (n := 11) rfl rfl ?_
  refine CC.seq ?_
  refine CC.region ?_
  refine LL.box [Value.int IntKind.i64 b, Value.int IntKind.i64 i, Value.int IntKind.i64 r, Value.int IntKind.i64 t, Value.int IntKind.u64 ↑k1, Value.int IntKind.u64 ↑k2, Value.int IntKind.i64 a, Value.int IntKind.i64 c, Value.int IntKind.i64 d, Value.int IntKind.i64 e] rfl rfl rfl rfl rfl ?_
  intro W2 g3 eg3 r4 z5 b1
  replace q := q.trans (b1.mono q.size)
  refine LL.val (R.assign rfl rfl) rfl rfl rfl ?_
  refine LL.val (R.assign rfl rfl) rfl rfl rfl ?_
  refine LL.nilS ?_
  refine CC.seq ?_
  refine CC.region ?_
  refine LL.val (R.load rfl rfl (I.ldNc (vs := [Value.int IntKind.i64 b, Value.int IntKind.i64 i, Value.int IntKind.i64 r, Value.int IntKind.i64 t, Value.int IntKind.u64 ↑k1, Value.int IntKind.u64 ↑k2, Value.int IntKind.i64 a, Value.int IntKind.i64 c, Value.int IntKind.i64 d, Value.int IntKind.i64 e]) (RowL.cells r4 rfl) (by rfl) (by rfl))) rfl rfl rfl ?_
  refine LL.val (R.move rfl rfl) rfl rfl rfl ?_
  refine LL.call (R.call rfl rfl rfl) rfl rfl rfl (first4_out _ _ _ _ _ _ _ _ _ _ _ _ (by first | assumption | omega) (by first | assumption | omega)) ?_
  rintro e W7 ⟨rfl, b6⟩
  refine ⟨_, rfl, ?_⟩
  have zb6 := b6.size
  replace r4 := r4.up b6
  replace b1 := b1.trans (b6.mono b1.size)
  replace q := q.trans (b6.mono q.size)
  refine LL.val (R.extract rfl rfl rfl) rfl rfl rfl ?_
  refine LL.val (R.extract rfl rfl rfl) rfl rfl rfl ?_
  refine LL.val (R.assign rfl rfl) rfl rfl rfl ?_
  refine LL.val (R.assign rfl rfl) rfl rfl rfl ?_
  refine LL.nilS ?_
  refine CC.ret ?_
  refine EE.ret _ rfl rfl ?_
  exact ⟨rfl, q⟩
set_option maxRecDepth 100000 in
set_option maxHeartbeats 8000000 in
theorem pRecord_bad (b i r t : Int) (k1 k2 : Nat) (a c d e n : Int) (w : World) (hl : ¬isL b i r t a c d e) : Calls Try.prog 19 #[layV b i r t k1 k2 a c d e, .int .i64 n] w fun x w' => x = .returned (.tuple #[.int .i64 0, .int .i64 2]) ∧ Below w.heap.size w w' := by
  have q := Below.refl w.heap.size w
  refine X.fn Try.func19 rfl (n := 11) rfl rfl ?_
  refine CC.seq ?_
  refine CC.region ?_
  refine LL.box [Value.int IntKind.i64 b, Value.int IntKind.i64 i, Value.int IntKind.i64 r, Value.int IntKind.i64 t, Value.int IntKind.u64 ↑k1, Value.int IntKind.u64 ↑k2, Value.int IntKind.i64 a, Value.int IntKind.i64 c, Value.int IntKind.i64 d, Value.int IntKind.i64 e] rfl rfl rfl rfl rfl ?_
  intro W2 g3 eg3 r4 z5 b1
  replace q := q.trans (b1.mono q.size)
  refine LL.val (R.assign rfl rfl) rfl rfl rfl ?_
  refine LL.val (R.assign rfl rfl) rfl rfl rfl ?_
  refine LL.nilS ?_
  refine CC.seq ?_
  refine CC.region ?_
  refine LL.val (R.load rfl rfl (I.ldNc (vs := [Value.int IntKind.i64 b, Value.int IntKind.i64 i, Value.int IntKind.i64 r, Value.int IntKind.i64 t, Value.int IntKind.u64 ↑k1, Value.int IntKind.u64 ↑k2, Value.int IntKind.i64 a, Value.int IntKind.i64 c, Value.int IntKind.i64 d, Value.int IntKind.i64 e]) (RowL.cells r4 rfl) (by rfl) (by rfl))) rfl rfl rfl ?_
  refine LL.val (R.move rfl rfl) rfl rfl rfl ?_
  refine LL.call (R.call rfl rfl rfl) rfl rfl rfl (first4_bad _ _ _ _ _ _ _ _ _ _ _ _ (by first | assumption | omega)) ?_
  rintro e W7 ⟨rfl, b6⟩
  refine ⟨_, rfl, ?_⟩
  have zb6 := b6.size
  replace r4 := r4.up b6
  replace b1 := b1.trans (b6.mono b1.size)
  replace q := q.trans (b6.mono q.size)
  refine LL.val (R.extract rfl rfl rfl) rfl rfl rfl ?_
  refine LL.val (R.extract rfl rfl rfl) rfl rfl rfl ?_
  refine LL.val (R.assign rfl rfl) rfl rfl rfl ?_
  refine LL.val (R.assign rfl rfl) rfl rfl rfl ?_
  refine LL.nilS ?_
  refine CC.ret ?_
  refine EE.ret _ rfl rfl ?_
  exact ⟨rfl, q⟩
end Go.Proofs.Ythdgnogpjpoklaa
