/- layout: the statements' rows; super blocks of the document. -/
import Derived.Test.YthdgnogpjpoklaaLay7
namespace Go.Proofs.Ythdgnogpjpoklaa
set_option linter.unusedVariables false
set_option linter.unusedSimpArgs false
open Go.RowKit Go.Shelf

set_option maxRecDepth 100000 in
theorem num_any (a : Int) (w : World) : Calls Try.prog 11 #[.int .i64 a] w fun e w' => e = .returned (.int .i64 a) ∧ w = w' := by
  refine X.fn Try.func11 rfl (n := 4) rfl rfl ?_
  refine CC.seq ?_
  refine CC.region ?_
  refine LL.val (R.assign rfl rfl) rfl rfl rfl ?_
  refine LL.nilS ?_
  refine CC.seq ?_
  refine CC.region ?_
  refine LL.val (R.move rfl rfl) rfl rfl rfl ?_
  refine LL.val (R.assign rfl rfl) rfl rfl rfl ?_
  refine LL.nilS ?_
  refine CC.ret ?_
  refine EE.ret _ rfl rfl ?_
  exact ⟨rfl, rfl⟩
set_option maxRecDepth 100000 in
set_option maxHeartbeats 8000000 in
theorem read_nil (w : World) : Calls Try.prog 22 #[.slice none 0 0] w fun x w' => x = .returned (.tuple #[layV 0 0 0 0 0 0 0 0 0 0, .int .i64 230]) ∧ Below w.heap.size w w' := by
  have q := Below.refl w.heap.size w
  refine X.fn Try.func22 rfl (n := 76) rfl rfl ?_
  refine CC.seq ?_
  refine CC.region ?_
  refine LL.alloc ([Value.int IntKind.i64 0, Value.int IntKind.i64 0, Value.int IntKind.i64 0, Value.int IntKind.i64 0, Value.int IntKind.u64 0, Value.int IntKind.u64 0, Value.int IntKind.i64 0, Value.int IntKind.i64 0, Value.int IntKind.i64 0, Value.int IntKind.i64 0]) rfl rfl rfl rfl rfl ?_
  intro W2 g3 eg3 r4 z5 b1
  replace q := q.trans (b1.mono q.size)
  refine LL.val (R.assign rfl rfl) rfl rfl rfl ?_
  refine LL.nilS ?_
  refine CC.fwd (l := 0) (α := Unit) (fun _ => []) (fun _ => [(2, .pointer (some ⟨g3, 0, none⟩))]) (fun _ W => Below w.heap.size w W ∧ RowL W g3 27 [.int .i64 0, .int .i64 0, .int .i64 0, .int .i64 0, .int .u64 0, .int .u64 0, .int .i64 0, .int .i64 0, .int .i64 0, .int .i64 0]) rfl ?first ?pass
  case pass =>
    rintro _ W ⟨q, r4⟩
    refine CC.seq ?_
    refine CC.skip ?_
    refine EE.thenN ?_
    refine CC.seq ?_
    refine CC.region ?_
    refine LL.val (R.buildV rfl rfl (v := .agg #[Value.int IntKind.i64 0, Value.int IntKind.i64 0, Value.int IntKind.i64 0, Value.int IntKind.i64 0, Value.int IntKind.u64 0, Value.int IntKind.u64 0, Value.int IntKind.i64 0, Value.int IntKind.i64 0, Value.int IntKind.i64 0, Value.int IntKind.i64 0]) (fun _ => by kernel_rfl)) rfl rfl rfl ?_
    refine LL.storeN (vs := [Value.int IntKind.i64 0, Value.int IntKind.i64 0, Value.int IntKind.i64 0, Value.int IntKind.i64 0, Value.int IntKind.u64 0, Value.int IntKind.u64 0, Value.int IntKind.i64 0, Value.int IntKind.i64 0, Value.int IntKind.i64 0, Value.int IntKind.i64 0]) rfl rfl rfl rfl r4 (by exact Nat.le_of_ble_eq_true rfl) (ones_of rfl) rfl rfl ?_
    intro Wa2 ra3 ba1 za4
    have hlba1 := r4.lt
    replace ra3 : RowL Wa2 _ 27 [Value.int IntKind.i64 0, Value.int IntKind.i64 0, Value.int IntKind.i64 0, Value.int IntKind.i64 0, Value.int IntKind.u64 0, Value.int IntKind.u64 0, Value.int IntKind.i64 0, Value.int IntKind.i64 0, Value.int IntKind.i64 0, Value.int IntKind.i64 0] := ra3
    clear r4
    replace q := q.grown ba1 q.size (by rintro k ⟨⟩; omega)
    have r4 := ra3
    clear ra3
    refine LL.val (R.assign rfl rfl) rfl rfl rfl ?_
    refine LL.nilS ?_
    refine CC.ret ?_
    refine EE.jumpR ?_
    refine EE.ret2 rfl ⟨_, rfl, lvNc (RowL.cells0 (by assumption)) (by rfl) (by rfl)⟩ rfl ?_
    exact ⟨rfl, q⟩
  case first =>
    refine CC.seq ?_
    refine CC.region ?_
    have lb1 := r4.lt
    refine LL.alloc ([Value.int IntKind.i64 0, Value.int IntKind.i64 0, Value.int IntKind.i64 0, Value.int IntKind.i64 0, Value.int IntKind.u64 0, Value.int IntKind.u64 0, Value.int IntKind.i64 0, Value.int IntKind.i64 0, Value.int IntKind.i64 0, Value.int IntKind.i64 0]) rfl rfl rfl rfl rfl ?_
    intro Wb3 gb4 egb4 rb5 zb6 bb2
    replace r4 := r4.up bb2
    replace b1 := b1.trans (bb2.mono b1.size)
    replace q := q.trans (bb2.mono q.size)
    refine LL.nilS ?_
    refine CC.seq ?_
    refine CC.region ?_
    refine LL.val (R.assign rfl rfl) rfl rfl rfl ?_
    refine LL.nilS ?_
    refine CC.seq ?_
    refine CC.region ?_
    refine LL.val (R.assign rfl rfl) rfl rfl rfl ?_
    refine LL.nilS ?_
    refine CC.seq ?_
    refine CC.seq ?_
    refine CC.region ?_
    refine LL.val (R.move rfl rfl) rfl rfl rfl ?_
    refine LL.val (R.len rfl rfl rfl rfl) rfl rfl rfl ?_
    refine LL.val (R.ltT rfl rfl rfl (by omega)) rfl rfl rfl ?_
    refine LL.nilS ?_
    refine CC.yes rfl ?_
    refine CC.goto ?_
    refine EE.thenG ?_
    (refine EE.jumpTo () rfl ?_ ⟨q, r4⟩; exact ⟨rfl, trivial⟩)
--C layout_Part | {1=1000} part_w _ _ _ _ _ _ @w @p | ⟨rfl, @b⟩
theorem part_w (k1 k2 : Nat) (a c d e : Int) (w : World) (hl : isL 32 8 16 8 a c d e) : Calls Try.prog 20 #[layV 32 8 16 8 k1 k2 a c d e, .int .i64 1000] w fun x w' => x = .returned (.tuple #[.agg #[.int .i64 5, .int .i64 0], .int .i64 0]) ∧ Below w.heap.size w w' := by
  have h := part_any 32 8 16 8 k1 k2 a c d e 1000 w hl (by decide)
  rw [show scanP 1000 (allP 32 8 16) (0, 0) = (5, 0) by decide +kernel] at h
  exact h
set_option maxRecDepth 100000 in
set_option maxHeartbeats 8000000 in
theorem works_any (w : World) : Calls Try.prog 13 #[] w fun x w' => x = .returned (.bool true) ∧ Below w.heap.size w w' := by
  have q := Below.refl w.heap.size w
  refine X.fn Try.func13 rfl (n := 113) rfl rfl ?_
  refine CC.seq ?_
  refine CC.region ?_
  refine LL.val (R.assign rfl rfl) rfl rfl rfl ?_
  refine LL.nilS ?_
  refine CC.seq ?_
  refine CC.region ?_
  refine LL.val (R.buildV rfl rfl (v := .agg #[Value.int IntKind.i64 32, Value.int IntKind.i64 8, Value.int IntKind.i64 16, Value.int IntKind.i64 8]) (fun _ => by kernel_rfl)) rfl rfl rfl ?_
  refine LL.val (R.buildV rfl rfl (v := .agg #[Value.int IntKind.u64 0, Value.int IntKind.u64 0]) (fun _ => by kernel_rfl)) rfl rfl rfl ?_
  refine LL.call (R.call rfl rfl rfl) rfl rfl rfl (of_T _ _ _ _ _ _ _ (by first | assumption | omega)) ?_
  rintro e W2 ⟨rfl, b1⟩
  refine ⟨_, rfl, ?_⟩
  have zb1 := b1.size
  replace q := q.trans (b1.mono q.size)
  refine LL.val (R.move rfl rfl) rfl rfl rfl ?_
  refine LL.val (R.extract rfl rfl rfl) rfl rfl rfl ?_
  refine LL.val (R.extract rfl rfl rfl) rfl rfl rfl ?_
  refine LL.alloc ([Value.int IntKind.i64 0, Value.int IntKind.i64 0, Value.int IntKind.i64 0, Value.int IntKind.i64 0, Value.int IntKind.u64 0, Value.int IntKind.u64 0, Value.int IntKind.i64 0, Value.int IntKind.i64 0, Value.int IntKind.i64 0, Value.int IntKind.i64 0]) rfl rfl rfl rfl rfl ?_
  intro W4 g5 eg5 r6 z7 b3
  replace b1 := b1.trans (b3.mono b1.size)
  replace q := q.trans (b3.mono q.size)
  refine LL.storeN (vs := [Value.int IntKind.i64 32, Value.int IntKind.i64 8, Value.int IntKind.i64 16, Value.int IntKind.i64 8, Value.int IntKind.u64 ↑0, Value.int IntKind.u64 ↑0, Value.int IntKind.i64 9, Value.int IntKind.i64 (9 + 8 / 4), Value.int IntKind.i64 (9 + 8 / 4 + 16 / 4), Value.int IntKind.i64 (10 + 8 / 4 + 16 / 4)]) rfl rfl rfl rfl r6 (by exact Nat.le_of_ble_eq_true rfl) (ones_of rfl) rfl rfl ?_
  intro W9 r10 b8 z11
  have hlb8 := r6.lt
  replace r10 : RowL W9 _ 27 [Value.int IntKind.i64 32, Value.int IntKind.i64 8, Value.int IntKind.i64 16, Value.int IntKind.i64 8, Value.int IntKind.u64 ↑0, Value.int IntKind.u64 ↑0, Value.int IntKind.i64 9, Value.int IntKind.i64 (9 + 8 / 4), Value.int IntKind.i64 (9 + 8 / 4 + 16 / 4), Value.int IntKind.i64 (10 + 8 / 4 + 16 / 4)] := r10
  clear r6
  replace b3 := b3.grown b8 b3.size (by rintro k ⟨⟩; omega)
  replace b1 := b1.grown b8 b1.size (by rintro k ⟨⟩; omega)
  replace q := q.grown b8 q.size (by rintro k ⟨⟩; omega)
  have r6 := r10
  clear r10
  refine LL.val (R.assign rfl rfl) rfl rfl rfl ?_
  refine LL.nilS ?_
  refine CC.seq ?_
  refine CC.region ?_
  refine LL.val (R.load rfl rfl (I.ldNc (vs := [Value.int IntKind.i64 32, Value.int IntKind.i64 8, Value.int IntKind.i64 16, Value.int IntKind.i64 8, Value.int IntKind.u64 0, Value.int IntKind.u64 0, Value.int IntKind.i64 9, Value.int IntKind.i64 (9 + 8 / 4), Value.int IntKind.i64 (9 + 8 / 4 + 16 / 4), Value.int IntKind.i64 (10 + 8 / 4 + 16 / 4)]) (RowL.cells r6 rfl) (by rfl) (by rfl))) rfl rfl rfl ?_
  refine LL.call (R.call rfl rfl rfl) rfl rfl rfl (pJournal_any _ _ _ _ _ _ _ _ _ _ _ _ (by first | assumption | omega) (by first | assumption | omega)) ?_
  rintro e W13 ⟨rfl, b12⟩
  refine ⟨_, rfl, ?_⟩
  have zb12 := b12.size
  replace b3 := b3.trans (b12.mono b3.size)
  replace b1 := b1.trans (b12.mono b1.size)
  replace q := q.trans (b12.mono q.size)
  replace r6 := r6.up b12
  refine LL.val (R.move rfl rfl) rfl rfl rfl ?_
  refine LL.val (R.extract rfl rfl rfl) rfl rfl rfl ?_
  refine LL.val (R.extract rfl rfl rfl) rfl rfl rfl ?_
  refine LL.val (R.assign rfl rfl) rfl rfl rfl ?_
  refine LL.val (R.assign rfl rfl) rfl rfl rfl ?_
  refine LL.nilS ?_
  refine CC.seq ?_
  refine CC.region ?_
  refine LL.val (R.load rfl rfl (I.ldNc (vs := [Value.int IntKind.i64 32, Value.int IntKind.i64 8, Value.int IntKind.i64 16, Value.int IntKind.i64 8, Value.int IntKind.u64 0, Value.int IntKind.u64 0, Value.int IntKind.i64 9, Value.int IntKind.i64 (9 + 8 / 4), Value.int IntKind.i64 (9 + 8 / 4 + 16 / 4), Value.int IntKind.i64 (10 + 8 / 4 + 16 / 4)]) (RowL.cells r6 rfl) (by rfl) (by rfl))) rfl rfl rfl ?_
  refine LL.call (R.call rfl rfl rfl) rfl rfl rfl (pInode_any _ _ _ _ _ _ _ _ _ _ _ _ (by first | assumption | omega) (by first | assumption | omega)) ?_
  rintro e W15 ⟨rfl, b14⟩
  refine ⟨_, rfl, ?_⟩
  have zb14 := b14.size
  replace b12 := b12.trans (b14.mono b12.size)
  replace b3 := b3.trans (b14.mono b3.size)
  replace b1 := b1.trans (b14.mono b1.size)
  replace q := q.trans (b14.mono q.size)
  replace r6 := r6.up b14
  refine LL.val (R.move rfl rfl) rfl rfl rfl ?_
  refine LL.val (R.extract rfl rfl rfl) rfl rfl rfl ?_
  refine LL.val (R.extract rfl rfl rfl) rfl rfl rfl ?_
  refine LL.val (R.assign rfl rfl) rfl rfl rfl ?_
  refine LL.val (R.assign rfl rfl) rfl rfl rfl ?_
  refine LL.nilS ?_
  refine CC.seq ?_
  refine CC.region ?_
  refine LL.val (R.load rfl rfl (I.ldNc (vs := [Value.int IntKind.i64 32, Value.int IntKind.i64 8, Value.int IntKind.i64 16, Value.int IntKind.i64 8, Value.int IntKind.u64 0, Value.int IntKind.u64 0, Value.int IntKind.i64 9, Value.int IntKind.i64 (9 + 8 / 4), Value.int IntKind.i64 (9 + 8 / 4 + 16 / 4), Value.int IntKind.i64 (10 + 8 / 4 + 16 / 4)]) (RowL.cells r6 rfl) (by rfl) (by rfl))) rfl rfl rfl ?_
  refine LL.call (R.call rfl rfl rfl) rfl rfl rfl (pRecord_any _ _ _ _ _ _ _ _ _ _ _ _ (by first | assumption | omega) (by first | assumption | omega)) ?_
  rintro e W17 ⟨rfl, b16⟩
  refine ⟨_, rfl, ?_⟩
  have zb16 := b16.size
  replace b14 := b14.trans (b16.mono b14.size)
  replace b12 := b12.trans (b16.mono b12.size)
  replace b3 := b3.trans (b16.mono b3.size)
  replace b1 := b1.trans (b16.mono b1.size)
  replace q := q.trans (b16.mono q.size)
  replace r6 := r6.up b16
  refine LL.val (R.move rfl rfl) rfl rfl rfl ?_
  refine LL.val (R.extract rfl rfl rfl) rfl rfl rfl ?_
  refine LL.val (R.extract rfl rfl rfl) rfl rfl rfl ?_
  refine LL.val (R.assign rfl rfl) rfl rfl rfl ?_
  refine LL.val (R.assign rfl rfl) rfl rfl rfl ?_
  refine LL.nilS ?_
  refine CC.seq ?_
  refine CC.region ?_
  refine LL.val (R.load rfl rfl (I.ldNc (vs := [Value.int IntKind.i64 32, Value.int IntKind.i64 8, Value.int IntKind.i64 16, Value.int IntKind.i64 8, Value.int IntKind.u64 0, Value.int IntKind.u64 0, Value.int IntKind.i64 9, Value.int IntKind.i64 (9 + 8 / 4), Value.int IntKind.i64 (9 + 8 / 4 + 16 / 4), Value.int IntKind.i64 (10 + 8 / 4 + 16 / 4)]) (RowL.cells r6 rfl) (by rfl) (by rfl))) rfl rfl rfl ?_
  refine LL.call (R.call rfl rfl rfl) rfl rfl rfl (part_w _ _ _ _ _ _ _ (by first | assumption | omega)) ?_
  rintro e W19 ⟨rfl, b18⟩
  refine ⟨_, rfl, ?_⟩
  have zb18 := b18.size
  replace b16 := b16.trans (b18.mono b16.size)
  replace b14 := b14.trans (b18.mono b14.size)
  replace b12 := b12.trans (b18.mono b12.size)
  replace b3 := b3.trans (b18.mono b3.size)
  replace b1 := b1.trans (b18.mono b1.size)
  replace q := q.trans (b18.mono q.size)
  replace r6 := r6.up b18
  refine LL.val (R.move rfl rfl) rfl rfl rfl ?_
  refine LL.val (R.extract rfl rfl rfl) rfl rfl rfl ?_
  refine LL.val (R.extract rfl rfl rfl) rfl rfl rfl ?_
  have l20 := r6.lt
  refine LL.alloc ([Value.int IntKind.i64 0, Value.int IntKind.i64 0]) rfl rfl rfl rfl rfl ?_
  intro W22 g23 eg23 r24 z25 b21
  replace b18 := b18.trans (b21.mono b18.size)
  replace b16 := b16.trans (b21.mono b16.size)
  replace b14 := b14.trans (b21.mono b14.size)
  replace b12 := b12.trans (b21.mono b12.size)
  replace b3 := b3.trans (b21.mono b3.size)
  replace b1 := b1.trans (b21.mono b1.size)
  replace q := q.trans (b21.mono q.size)
  replace r6 := r6.up b21
  refine LL.storeN (vs := [Value.int IntKind.i64 5, Value.int IntKind.i64 0]) rfl rfl rfl rfl r24 (by exact Nat.le_of_ble_eq_true rfl) (ones_of rfl) rfl rfl ?_
  intro W27 r28 b26 z29
  have hlb26 := r24.lt
  replace r28 : RowL W27 _ 46 [Value.int IntKind.i64 5, Value.int IntKind.i64 0] := r28
  clear r24
  replace b21 := b21.grown b26 b21.size (by rintro k ⟨⟩; omega)
  replace b18 := b18.grown b26 b18.size (by rintro k ⟨⟩; omega)
  replace b16 := b16.grown b26 b16.size (by rintro k ⟨⟩; omega)
  replace b14 := b14.grown b26 b14.size (by rintro k ⟨⟩; omega)
  replace b12 := b12.grown b26 b12.size (by rintro k ⟨⟩; omega)
  replace b3 := b3.grown b26 b3.size (by rintro k ⟨⟩; omega)
  replace b1 := b1.grown b26 b1.size (by rintro k ⟨⟩; omega)
  replace q := q.grown b26 q.size (by rintro k ⟨⟩; omega)
  replace r6 := r6.gr b26 (by have := r6.lt; omega)
  have r24 := r28
  clear r28
  refine LL.val (R.assign rfl rfl) rfl rfl rfl ?_
  refine LL.nilS ?_
  refine CC.seq ?_
  refine CC.region ?_
  refine LL.val (R.buildV rfl rfl (v := .agg #[Value.int IntKind.i64 32, Value.int IntKind.i64 64, Value.int IntKind.i64 16, Value.int IntKind.i64 8]) (fun _ => by kernel_rfl)) rfl rfl rfl ?_
  refine LL.val (R.buildV rfl rfl (v := .agg #[Value.int IntKind.u64 0, Value.int IntKind.u64 0]) (fun _ => by kernel_rfl)) rfl rfl rfl ?_
  refine LL.call (R.call rfl rfl rfl) rfl rfl rfl (of_F _ _ _ _ _ _ _ (by first | assumption | omega)) ?_
  rintro e W31 ⟨rfl, b30⟩
  refine ⟨_, rfl, ?_⟩
  have zb30 := b30.size
  replace b21 := b21.trans (b30.mono b21.size)
  replace b18 := b18.trans (b30.mono b18.size)
  replace b16 := b16.trans (b30.mono b16.size)
  replace b14 := b14.trans (b30.mono b14.size)
  replace b12 := b12.trans (b30.mono b12.size)
  replace b3 := b3.trans (b30.mono b3.size)
  replace b1 := b1.trans (b30.mono b1.size)
  replace q := q.trans (b30.mono q.size)
  replace r6 := r6.up b30
  replace r24 := r24.up b30
  refine LL.val (R.move rfl rfl) rfl rfl rfl ?_
  refine LL.val (R.extract rfl rfl rfl) rfl rfl rfl ?_
  refine LL.val (R.extract rfl rfl rfl) rfl rfl rfl ?_
  have l32 := r6.lt
  have l33 := r24.lt
  refine LL.alloc ([Value.int IntKind.i64 0, Value.int IntKind.i64 0, Value.int IntKind.i64 0, Value.int IntKind.i64 0, Value.int IntKind.u64 0, Value.int IntKind.u64 0, Value.int IntKind.i64 0, Value.int IntKind.i64 0, Value.int IntKind.i64 0, Value.int IntKind.i64 0]) rfl rfl rfl rfl rfl ?_
  intro W35 g36 eg36 r37 z38 b34
  replace b30 := b30.trans (b34.mono b30.size)
  replace b21 := b21.trans (b34.mono b21.size)
  replace b18 := b18.trans (b34.mono b18.size)
  replace b16 := b16.trans (b34.mono b16.size)
  replace b14 := b14.trans (b34.mono b14.size)
  replace b12 := b12.trans (b34.mono b12.size)
  replace b3 := b3.trans (b34.mono b3.size)
  replace b1 := b1.trans (b34.mono b1.size)
  replace q := q.trans (b34.mono q.size)
  replace r6 := r6.up b34
  replace r24 := r24.up b34
  refine LL.storeN (vs := [Value.int IntKind.i64 0, Value.int IntKind.i64 0, Value.int IntKind.i64 0, Value.int IntKind.i64 0, Value.int IntKind.u64 ↑0, Value.int IntKind.u64 ↑0, Value.int IntKind.i64 0, Value.int IntKind.i64 0, Value.int IntKind.i64 0, Value.int IntKind.i64 0]) rfl rfl rfl rfl r37 (by exact Nat.le_of_ble_eq_true rfl) (ones_of rfl) rfl rfl ?_
  intro W40 r41 b39 z42
  have hlb39 := r37.lt
  replace r41 : RowL W40 _ 27 [Value.int IntKind.i64 0, Value.int IntKind.i64 0, Value.int IntKind.i64 0, Value.int IntKind.i64 0, Value.int IntKind.u64 ↑0, Value.int IntKind.u64 ↑0, Value.int IntKind.i64 0, Value.int IntKind.i64 0, Value.int IntKind.i64 0, Value.int IntKind.i64 0] := r41
  clear r37
  replace b34 := b34.grown b39 b34.size (by rintro k ⟨⟩; omega)
  replace b30 := b30.grown b39 b30.size (by rintro k ⟨⟩; omega)
  replace b21 := b21.grown b39 b21.size (by rintro k ⟨⟩; omega)
  replace b18 := b18.grown b39 b18.size (by rintro k ⟨⟩; omega)
  replace b16 := b16.grown b39 b16.size (by rintro k ⟨⟩; omega)
  replace b14 := b14.grown b39 b14.size (by rintro k ⟨⟩; omega)
  replace b12 := b12.grown b39 b12.size (by rintro k ⟨⟩; omega)
  replace b3 := b3.grown b39 b3.size (by rintro k ⟨⟩; omega)
  replace b1 := b1.grown b39 b1.size (by rintro k ⟨⟩; omega)
  replace q := q.grown b39 q.size (by rintro k ⟨⟩; omega)
  replace r6 := r6.gr b39 (by have := r6.lt; omega)
  replace r24 := r24.gr b39 (by have := r24.lt; omega)
  have r37 := r41
  clear r41
  refine LL.val (R.assign rfl rfl) rfl rfl rfl ?_
  refine LL.nilS ?_
  refine CC.seq ?_
  refine CC.region ?_
  refine LL.call (R.call rfl rfl rfl) rfl rfl rfl (read_nil _) ?_
  rintro e W44 ⟨rfl, b43⟩
  refine ⟨_, rfl, ?_⟩
  have zb43 := b43.size
  replace b34 := b34.trans (b43.mono b34.size)
  replace b30 := b30.trans (b43.mono b30.size)
  replace b21 := b21.trans (b43.mono b21.size)
  replace b18 := b18.trans (b43.mono b18.size)
  replace b16 := b16.trans (b43.mono b16.size)
  replace b14 := b14.trans (b43.mono b14.size)
  replace b12 := b12.trans (b43.mono b12.size)
  replace b3 := b3.trans (b43.mono b3.size)
  replace b1 := b1.trans (b43.mono b1.size)
  replace q := q.trans (b43.mono q.size)
  replace r6 := r6.up b43
  replace r24 := r24.up b43
  replace r37 := r37.up b43
  refine LL.val (R.move rfl rfl) rfl rfl rfl ?_
  refine LL.val (R.extract rfl rfl rfl) rfl rfl rfl ?_
  refine LL.val (R.extract rfl rfl rfl) rfl rfl rfl ?_
  have l45 := r6.lt
  have l46 := r24.lt
  have l47 := r37.lt
  refine LL.alloc ([Value.int IntKind.i64 0, Value.int IntKind.i64 0, Value.int IntKind.i64 0, Value.int IntKind.i64 0, Value.int IntKind.u64 0, Value.int IntKind.u64 0, Value.int IntKind.i64 0, Value.int IntKind.i64 0, Value.int IntKind.i64 0, Value.int IntKind.i64 0]) rfl rfl rfl rfl rfl ?_
  intro W49 g50 eg50 r51 z52 b48
  replace b43 := b43.trans (b48.mono b43.size)
  replace b34 := b34.trans (b48.mono b34.size)
  replace b30 := b30.trans (b48.mono b30.size)
  replace b21 := b21.trans (b48.mono b21.size)
  replace b18 := b18.trans (b48.mono b18.size)
  replace b16 := b16.trans (b48.mono b16.size)
  replace b14 := b14.trans (b48.mono b14.size)
  replace b12 := b12.trans (b48.mono b12.size)
  replace b3 := b3.trans (b48.mono b3.size)
  replace b1 := b1.trans (b48.mono b1.size)
  replace q := q.trans (b48.mono q.size)
  replace r6 := r6.up b48
  replace r24 := r24.up b48
  replace r37 := r37.up b48
  refine LL.storeN (vs := [Value.int IntKind.i64 0, Value.int IntKind.i64 0, Value.int IntKind.i64 0, Value.int IntKind.i64 0, Value.int IntKind.u64 ↑0, Value.int IntKind.u64 ↑0, Value.int IntKind.i64 0, Value.int IntKind.i64 0, Value.int IntKind.i64 0, Value.int IntKind.i64 0]) rfl rfl rfl rfl r51 (by exact Nat.le_of_ble_eq_true rfl) (ones_of rfl) rfl rfl ?_
  intro W54 r55 b53 z56
  have hlb53 := r51.lt
  replace r55 : RowL W54 _ 27 [Value.int IntKind.i64 0, Value.int IntKind.i64 0, Value.int IntKind.i64 0, Value.int IntKind.i64 0, Value.int IntKind.u64 ↑0, Value.int IntKind.u64 ↑0, Value.int IntKind.i64 0, Value.int IntKind.i64 0, Value.int IntKind.i64 0, Value.int IntKind.i64 0] := r55
  clear r51
  replace b48 := b48.grown b53 b48.size (by rintro k ⟨⟩; omega)
  replace b43 := b43.grown b53 b43.size (by rintro k ⟨⟩; omega)
  replace b34 := b34.grown b53 b34.size (by rintro k ⟨⟩; omega)
  replace b30 := b30.grown b53 b30.size (by rintro k ⟨⟩; omega)
  replace b21 := b21.grown b53 b21.size (by rintro k ⟨⟩; omega)
  replace b18 := b18.grown b53 b18.size (by rintro k ⟨⟩; omega)
  replace b16 := b16.grown b53 b16.size (by rintro k ⟨⟩; omega)
  replace b14 := b14.grown b53 b14.size (by rintro k ⟨⟩; omega)
  replace b12 := b12.grown b53 b12.size (by rintro k ⟨⟩; omega)
  replace b3 := b3.grown b53 b3.size (by rintro k ⟨⟩; omega)
  replace b1 := b1.grown b53 b1.size (by rintro k ⟨⟩; omega)
  replace q := q.grown b53 q.size (by rintro k ⟨⟩; omega)
  replace r6 := r6.gr b53 (by have := r6.lt; omega)
  replace r24 := r24.gr b53 (by have := r24.lt; omega)
  replace r37 := r37.gr b53 (by have := r37.lt; omega)
  have r51 := r55
  clear r55
  refine LL.val (R.assign rfl rfl) rfl rfl rfl ?_
  refine LL.nilS ?_
  refine CC.seq ?_
  refine CC.region ?_
  refine LL.val (R.move rfl rfl) rfl rfl rfl ?_
  refine LL.call (R.call rfl rfl rfl) rfl rfl rfl (num_any _ _) ?_
  rintro e W' ⟨rfl, rfl⟩
  refine ⟨_, rfl, ?_⟩
  refine LL.val (R.move rfl rfl) rfl rfl rfl ?_
  refine LL.call (R.call rfl rfl rfl) rfl rfl rfl (num_any _ _) ?_
  rintro e W' ⟨rfl, rfl⟩
  refine ⟨_, rfl, ?_⟩
  refine LL.val (R.addIz (z := 0) rfl rfl rfl (by decide) (by decide)) rfl rfl rfl ?_
  refine LL.val (R.move rfl rfl) rfl rfl rfl ?_
  refine LL.call (R.call rfl rfl rfl) rfl rfl rfl (num_any _ _) ?_
  rintro e W' ⟨rfl, rfl⟩
  refine ⟨_, rfl, ?_⟩
  refine LL.val (R.addIz (z := 0) rfl rfl rfl (by decide) (by decide)) rfl rfl rfl ?_
  refine LL.val (R.move rfl rfl) rfl rfl rfl ?_
  refine LL.call (R.call rfl rfl rfl) rfl rfl rfl (num_any _ _) ?_
  rintro e W' ⟨rfl, rfl⟩
  refine ⟨_, rfl, ?_⟩
  refine LL.val (R.addIz (z := 0) rfl rfl rfl (by decide) (by decide)) rfl rfl rfl ?_
  refine LL.val (R.move rfl rfl) rfl rfl rfl ?_
  refine LL.call (R.call rfl rfl rfl) rfl rfl rfl (num_any _ _) ?_
  rintro e W' ⟨rfl, rfl⟩
  refine ⟨_, rfl, ?_⟩
  refine LL.val (R.addIz (z := 0) rfl rfl rfl (by decide) (by decide)) rfl rfl rfl ?_
  refine LL.val (R.eqT rfl rfl rfl (by omega)) rfl rfl rfl ?_
  refine LL.val (R.move rfl rfl) rfl rfl rfl ?_
  refine LL.val (R.field rfl rfl (I.fld rfl)) rfl rfl rfl ?_
  refine LL.val (R.load rfl rfl (I.ld1 rfl (RowL.cell r6 rfl))) rfl rfl rfl ?_
  refine LL.val (R.eqT rfl rfl rfl (by omega)) rfl rfl rfl ?_
  refine LL.val (R.pick rfl rfl rfl) rfl rfl rfl ?_
  refine LL.val (R.move rfl rfl) rfl rfl rfl ?_
  refine LL.val (R.field rfl rfl (I.fld rfl)) rfl rfl rfl ?_
  refine LL.val (R.load rfl rfl (I.ld1 rfl (RowL.cell r6 rfl))) rfl rfl rfl ?_
  refine LL.val (R.eqT rfl rfl rfl (by omega)) rfl rfl rfl ?_
  refine LL.val (R.pick rfl rfl rfl) rfl rfl rfl ?_
  refine LL.val (R.move rfl rfl) rfl rfl rfl ?_
  refine LL.val (R.field rfl rfl (I.fld rfl)) rfl rfl rfl ?_
  refine LL.val (R.load rfl rfl (I.ld1 rfl (RowL.cell r6 rfl))) rfl rfl rfl ?_
  refine LL.val (R.eqT rfl rfl rfl (by omega)) rfl rfl rfl ?_
  refine LL.val (R.pick rfl rfl rfl) rfl rfl rfl ?_
  refine LL.val (R.move rfl rfl) rfl rfl rfl ?_
  refine LL.val (R.field rfl rfl (I.fld rfl)) rfl rfl rfl ?_
  refine LL.val (R.load rfl rfl (I.ld1 rfl (RowL.cell r6 rfl))) rfl rfl rfl ?_
  refine LL.val (R.eqT rfl rfl rfl (by omega)) rfl rfl rfl ?_
  refine LL.val (R.pick rfl rfl rfl) rfl rfl rfl ?_
  refine LL.val (R.move rfl rfl) rfl rfl rfl ?_
  refine LL.val (R.move rfl rfl) rfl rfl rfl ?_
  refine LL.val (R.eqT rfl rfl rfl (by omega)) rfl rfl rfl ?_
  refine LL.val (R.pick rfl rfl rfl) rfl rfl rfl ?_
  refine LL.val (R.move rfl rfl) rfl rfl rfl ?_
  refine LL.val (R.move rfl rfl) rfl rfl rfl ?_
  refine LL.val (R.eqT rfl rfl rfl (by omega)) rfl rfl rfl ?_
  refine LL.val (R.pick rfl rfl rfl) rfl rfl rfl ?_
  refine LL.val (R.move rfl rfl) rfl rfl rfl ?_
  refine LL.val (R.move rfl rfl) rfl rfl rfl ?_
  refine LL.val (R.eqT rfl rfl rfl (by omega)) rfl rfl rfl ?_
  refine LL.val (R.pick rfl rfl rfl) rfl rfl rfl ?_
  refine LL.val (R.move rfl rfl) rfl rfl rfl ?_
  refine LL.val (R.load rfl rfl (I.ldNc (vs := [Value.int IntKind.i64 5, Value.int IntKind.i64 0]) (RowL.cells r24 rfl) (by rfl) (by rfl))) rfl rfl rfl ?_
  refine LL.val (R.buildV rfl rfl (v := .agg #[Value.int IntKind.i64 5, Value.int IntKind.i64 0]) (fun _ => by kernel_rfl)) rfl rfl rfl ?_
  refine LL.val (R.eqST (p := (5 : Int) = 5 ∧ (0 : Int) = 0) (bs := [decide ((5 : Int) = 5), decide ((0 : Int) = 0)]) rfl rfl rfl rfl (by kernel_rfl) (by kernel_rfl) (by simp) (by first | assumption | omega)) rfl rfl rfl ?_
  refine LL.val (R.pick rfl rfl rfl) rfl rfl rfl ?_
  refine LL.val (R.move rfl rfl) rfl rfl rfl ?_
  refine LL.val (R.move rfl rfl) rfl rfl rfl ?_
  refine LL.call (R.call rfl rfl rfl) rfl rfl rfl (num_any _ _) ?_
  rintro e W' ⟨rfl, rfl⟩
  refine ⟨_, rfl, ?_⟩
  refine LL.val (R.eqT rfl rfl rfl (by omega)) rfl rfl rfl ?_
  refine LL.val (R.pick rfl rfl rfl) rfl rfl rfl ?_
  refine LL.val (R.move rfl rfl) rfl rfl rfl ?_
  refine LL.val (R.move rfl rfl) rfl rfl rfl ?_
  refine LL.call (R.call rfl rfl rfl) rfl rfl rfl (num_any _ _) ?_
  rintro e W' ⟨rfl, rfl⟩
  refine ⟨_, rfl, ?_⟩
  refine LL.val (R.eqT rfl rfl rfl (by omega)) rfl rfl rfl ?_
  refine LL.val (R.pick rfl rfl rfl) rfl rfl rfl ?_
  refine LL.val (R.assign rfl rfl) rfl rfl rfl ?_
  refine LL.nilS ?_
  refine CC.ret ?_
  refine EE.ret _ rfl rfl ?_
  exact ⟨rfl, q⟩
end Go.Proofs.Ythdgnogpjpoklaa
