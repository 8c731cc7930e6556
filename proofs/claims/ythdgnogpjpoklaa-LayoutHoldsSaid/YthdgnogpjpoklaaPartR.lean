/- layout: the document's part of a word. -/
import Derived.Test.YthdgnogpjpoklaaPartM
namespace Go.Proofs.Ythdgnogpjpoklaa
set_option linter.unusedVariables false
set_option linter.unusedSimpArgs false
open Go.RowKit Go.Shelf
set_option maxRecDepth 100000 in
set_option maxHeartbeats 8000000 in
theorem part_out (b i r t : Int) (k1 k2 : Nat) (a c d e n : Int) (w : World) (hl : isL b i r t a c d e) (hn : ¬(0 ≤ n ∧ n ≤ b * 64 - 1)) : Calls Try.prog 20 #[layV b i r t k1 k2 a c d e, .int .i64 n] w fun x w' => x = .returned (.tuple #[.agg #[.int .i64 0, .int .i64 0], .int .i64 4]) ∧ Below w.heap.size w w' := by
  have q := Below.refl w.heap.size w
  refine X.fnM Try.func20 rfl (n := 31) rfl rfl ?_
  refine CC.seq ?_
  refine CC.region ?_
  refine LL.box [Value.int IntKind.i64 b, Value.int IntKind.i64 i, Value.int IntKind.i64 r, Value.int IntKind.i64 t, Value.int IntKind.u64 ↑k1, Value.int IntKind.u64 ↑k2, Value.int IntKind.i64 a, Value.int IntKind.i64 c, Value.int IntKind.i64 d, Value.int IntKind.i64 e] rfl rfl rfl rfl rfl ?_
  intro W2 g3 eg3 r4 z5 b1
  replace q := q.trans (b1.mono q.size)
  have l6 := r4.lt
  refine LL.box [Value.int IntKind.i64 n] rfl rfl rfl rfl rfl ?_
  intro W8 g9 eg9 r10 z11 b7
  replace r4 := r4.up b7
  replace b1 := b1.trans (b7.mono b1.size)
  replace q := q.trans (b7.mono q.size)
  have l12 := r10.lt
  have l13 := r4.lt
  refine LL.alloc ([Value.int IntKind.i64 0, Value.int IntKind.i64 0]) rfl rfl rfl rfl rfl ?_
  intro W15 g16 eg16 r17 z18 b14
  replace r10 := r10.up b14
  replace b7 := b7.trans (b14.mono b7.size)
  replace r4 := r4.up b14
  replace b1 := b1.trans (b14.mono b1.size)
  replace q := q.trans (b14.mono q.size)
  refine LL.val (R.assign rfl rfl) rfl rfl rfl ?_
  refine LL.nilS ?_
  refine CC.straight ?_
  refine CC.seq ?_
  refine CC.seq ?_
  refine CC.region ?_
  refine LL.val (R.load rfl rfl (I.ldNc (vs := [Value.int IntKind.i64 b, Value.int IntKind.i64 i, Value.int IntKind.i64 r, Value.int IntKind.i64 t, Value.int IntKind.u64 ↑k1, Value.int IntKind.u64 ↑k2, Value.int IntKind.i64 a, Value.int IntKind.i64 c, Value.int IntKind.i64 d, Value.int IntKind.i64 e]) (RowL.cells r4 rfl) (by rfl) (by rfl))) rfl rfl rfl ?_
  refine LL.callBT (R.call rfl rfl rfl) rfl rfl rfl (is_any _ _ _ _ _ _ _ _ _ _ _) (by first | assumption | omega) (fun W20 b19 => ?_)
  have zb19 := b19.size
  replace r17 := r17.up b19
  replace b14 := b14.trans (b19.mono b14.size)
  replace r10 := r10.up b19
  replace b7 := b7.trans (b19.mono b7.size)
  replace r4 := r4.up b19
  replace b1 := b1.trans (b19.mono b1.size)
  replace q := q.trans (b19.mono q.size)
  refine LL.val (R.not rfl rfl) rfl rfl rfl ?_
  refine LL.nilS ?_
  refine CC.no rfl ?_
  refine CC.skip ?_
  refine EE.thenN ?_
  refine CC.seq ?_
  refine CC.seq ?_
  refine CC.region ?_
  refine LL.val (R.load rfl rfl (I.ld1 rfl (RowL.cell r10 rfl))) rfl rfl rfl ?_
  refine LL.val (R.field rfl rfl (I.fld rfl)) rfl rfl rfl ?_
  refine LL.val (R.field rfl rfl (I.fld rfl)) rfl rfl rfl ?_
  refine LL.val (R.load rfl rfl (I.ld1 rfl (RowL.cell r4 rfl))) rfl rfl rfl ?_
  refine LL.val (R.mulI rfl rfl rfl (by omega)) rfl rfl rfl ?_
  refine LL.val (R.subI rfl rfl rfl (by omega)) rfl rfl rfl ?_
  refine LL.callDF (R.call rfl rfl rfl) rfl rfl rfl (within_any _ _ _ _) (by first | assumption | omega) ?_
  refine LL.val (R.not rfl rfl) rfl rfl rfl ?_
  refine LL.nilS ?_
  refine CC.yes rfl ?_
  refine CC.seq ?_
  refine CC.region ?_
  refine LL.val (R.buildV rfl rfl (v := .agg #[Value.int IntKind.i64 0, Value.int IntKind.i64 0]) (fun _ => by kernel_rfl)) rfl rfl rfl ?_
  refine LL.storeN (vs := [Value.int IntKind.i64 0, Value.int IntKind.i64 0]) rfl rfl rfl rfl r17 (by exact Nat.le_of_ble_eq_true rfl) (ones_of rfl) rfl rfl ?_
  intro W22 r23 b21 z24
  have hlb21 := r17.lt
  replace r23 : RowL W22 _ 46 [Value.int IntKind.i64 0, Value.int IntKind.i64 0] := r23
  clear r17
  replace b14 := b14.grown b21 b14.size (by rintro k ⟨⟩; omega)
  replace r10 := r10.gr b21 (by have := r10.lt; omega)
  replace b7 := b7.grown b21 b7.size (by rintro k ⟨⟩; omega)
  replace r4 := r4.gr b21 (by have := r4.lt; omega)
  replace b1 := b1.grown b21 b1.size (by rintro k ⟨⟩; omega)
  replace q := q.grown b21 q.size (by rintro k ⟨⟩; omega)
  have r17 := r23
  clear r23
  refine LL.val (R.assign rfl rfl) rfl rfl rfl ?_
  refine LL.nilS ?_
  refine CC.ret ?_
  refine EE.thenR ?_
  refine EE.noR ?_
  refine EE.retM2 rfl ⟨_, rfl, lvNc (RowL.cells0 (by assumption)) (by rfl) (by rfl)⟩ rfl ?_
  exact ⟨rfl, q⟩
set_option maxRecDepth 100000 in
set_option maxHeartbeats 8000000 in
theorem rpart_any (b i r t k1 k2 : Nat) (a c d e : Int) (word : Nat) (w : World) (hl : isL b i r t a c d e) (hw : word < 64 * b) : Calls Try.prog 25 #[layV b i r t k1 k2 a c d e, .int .i64 (word : Int)] w fun x w' => x = .returned (.agg #[.int .i64 ((partF i r word).1 : Int), .int .i64 ((partF i r word).2 : Int)]) ∧ Below w.heap.size w w' := by
  have q := Below.refl w.heap.size w
  refine X.fn Try.func25 rfl (n := 52) rfl rfl ?_
  refine CC.seq ?_
  refine CC.region ?_
  refine LL.box [Value.int IntKind.i64 ↑b, Value.int IntKind.i64 ↑i, Value.int IntKind.i64 ↑r, Value.int IntKind.i64 ↑t, Value.int IntKind.u64 ↑k1, Value.int IntKind.u64 ↑k2, Value.int IntKind.i64 a, Value.int IntKind.i64 c, Value.int IntKind.i64 d, Value.int IntKind.i64 e] rfl rfl rfl rfl rfl ?_
  intro W2 g3 eg3 r4 z5 b1
  replace q := q.trans (b1.mono q.size)
  have l6 := r4.lt
  refine LL.alloc ([Value.int IntKind.i64 0, Value.int IntKind.i64 0]) rfl rfl rfl rfl rfl ?_
  intro W8 g9 eg9 r10 z11 b7
  replace r4 := r4.up b7
  replace b1 := b1.trans (b7.mono b1.size)
  replace q := q.trans (b7.mono q.size)
  refine LL.nilS ?_
  refine CC.seq ?_
  refine CC.region ?_
  refine LL.val (R.move rfl rfl) rfl rfl rfl ?_
  refine LL.val (R.quoNc rfl rfl rfl rfl (by omega) (by omega)) rfl rfl rfl ?_
  refine LL.val (R.assign rfl rfl) rfl rfl rfl ?_
  refine LL.nilS ?_
  refine CC.seq ?_
  refine CC.block ?_
  refine CC.seq ?_
  refine CC.region ?_
  refine LL.val (R.move rfl rfl) rfl rfl rfl ?_
  refine LL.vsplit (fun h => R.eqT rfl rfl rfl h) (fun h => R.eqF rfl rfl rfl h) rfl rfl rfl (fun c12 => ?_) (fun c12 => ?_)
  refine LL.val (R.assign rfl rfl) rfl rfl rfl ?_
  refine LL.nilS ?_
  refine CC.yes rfl ?_
  refine CC.seq ?_
  refine CC.region ?_
  refine LL.val (R.buildV rfl rfl (v := .agg #[Value.int IntKind.i64 1, Value.int IntKind.i64 0]) (fun _ => by kernel_rfl)) rfl rfl rfl ?_
  refine LL.storeN (vs := [Value.int IntKind.i64 1, Value.int IntKind.i64 0]) rfl rfl rfl rfl r10 (by exact Nat.le_of_ble_eq_true rfl) (ones_of rfl) rfl rfl ?_
  intro W14 r15 b13 z16
  have hlb13 := r10.lt
  replace r15 : RowL W14 _ 46 [Value.int IntKind.i64 1, Value.int IntKind.i64 0] := r15
  clear r10
  replace b7 := b7.grown b13 b7.size (by rintro k ⟨⟩; omega)
  replace r4 := r4.gr b13 (by have := r4.lt; omega)
  replace b1 := b1.grown b13 b1.size (by rintro k ⟨⟩; omega)
  replace q := q.grown b13 q.size (by rintro k ⟨⟩; omega)
  have r10 := r15
  clear r15
  refine LL.nilS ?_
  refine CC.ret ?_
  refine EE.inR ?_
  refine EE.thenR ?_
  refine EE.retC rfl rfl (lvNc (RowL.cells0 (by assumption)) (by rfl) (by rfl)) ?_
  exact ⟨by unfold partF; (repeat' split) <;> first | (exfalso; omega) | (simp; omega) | simp, q⟩
  refine LL.val (R.assign rfl rfl) rfl rfl rfl ?_
  refine LL.nilS ?_
  refine CC.no rfl ?_
  refine CC.seq ?_
  refine CC.region ?_
  refine LL.val (R.move rfl rfl) rfl rfl rfl ?_
  refine LL.vsplit (fun h => R.ltT rfl rfl rfl h) (fun h => R.ltF rfl rfl rfl (Int.not_lt.1 h)) rfl rfl rfl (fun c17 => ?_) (fun c17 => ?_)
  refine LL.val (R.assign rfl rfl) rfl rfl rfl ?_
  refine LL.nilS ?_
  refine CC.yes rfl ?_
  refine CC.seq ?_
  refine CC.region ?_
  refine LL.val (R.move rfl rfl) rfl rfl rfl ?_
  refine LL.val (R.subNc rfl rfl rfl rfl (by omega) (by omega)) rfl rfl rfl ?_
  refine LL.val (R.buildV rfl rfl (v := .agg #[Value.int IntKind.i64 2, Value.int IntKind.i64 ↑(word / 64 - 1)]) (fun _ => by kernel_rfl)) rfl rfl rfl ?_
  refine LL.storeN (vs := [Value.int IntKind.i64 2, Value.int IntKind.i64 ↑(word / 64 - 1)]) rfl rfl rfl rfl r10 (by exact Nat.le_of_ble_eq_true rfl) (ones_of rfl) rfl rfl ?_
  intro W19 r20 b18 z21
  have hlb18 := r10.lt
  replace r20 : RowL W19 _ 46 [Value.int IntKind.i64 2, Value.int IntKind.i64 ↑(word / 64 - 1)] := r20
  clear r10
  replace b7 := b7.grown b18 b7.size (by rintro k ⟨⟩; omega)
  replace r4 := r4.gr b18 (by have := r4.lt; omega)
  replace b1 := b1.grown b18 b1.size (by rintro k ⟨⟩; omega)
  replace q := q.grown b18 q.size (by rintro k ⟨⟩; omega)
  have r10 := r20
  clear r20
  refine LL.nilS ?_
  refine CC.ret ?_
  refine EE.inR ?_
  refine EE.thenR ?_
  refine EE.retC rfl rfl (lvNc (RowL.cells0 (by assumption)) (by rfl) (by rfl)) ?_
  exact ⟨by unfold partF; (repeat' split) <;> first | (exfalso; omega) | (simp; omega) | simp, q⟩
  refine LL.val (R.assign rfl rfl) rfl rfl rfl ?_
  refine LL.nilS ?_
  refine CC.no rfl ?_
  refine CC.seq ?_
  refine CC.region ?_
  refine LL.val (R.move rfl rfl) rfl rfl rfl ?_
  refine LL.val (R.field rfl rfl (I.fld rfl)) rfl rfl rfl ?_
  refine LL.val (R.load rfl rfl (I.ld1 rfl (RowL.cell r4 rfl))) rfl rfl rfl ?_
  refine LL.vsplit (fun h => R.ltT rfl rfl rfl h) (fun h => R.ltF rfl rfl rfl (Int.not_lt.1 h)) rfl rfl rfl (fun c22 => ?_) (fun c22 => ?_)
  refine LL.val (R.assign rfl rfl) rfl rfl rfl ?_
  refine LL.nilS ?_
  refine CC.yes rfl ?_
  refine CC.seq ?_
  refine CC.region ?_
  refine LL.val (R.move rfl rfl) rfl rfl rfl ?_
  refine LL.val (R.field rfl rfl (I.fld rfl)) rfl rfl rfl ?_
  refine LL.val (R.load rfl rfl (I.ld1 rfl (RowL.cell r4 rfl))) rfl rfl rfl ?_
  refine LL.val (R.mulI rfl rfl rfl (by omega)) rfl rfl rfl ?_
  refine LL.val (R.subI rfl rfl rfl (by omega)) rfl rfl rfl ?_
  refine LL.val (R.quoIc rfl rfl rfl rfl (by omega) (by omega) (by omega)) rfl rfl rfl ?_
  refine LL.val (R.addI rfl rfl rfl (by omega)) rfl rfl rfl ?_
  refine LL.val (R.buildV rfl rfl (v := .agg #[Value.int IntKind.i64 3, Value.int IntKind.i64 ((↑word - 64 * a) / 16 + 1)]) (fun _ => by kernel_rfl)) rfl rfl rfl ?_
  refine LL.storeN (vs := [Value.int IntKind.i64 3, Value.int IntKind.i64 ((↑word - 64 * a) / 16 + 1)]) rfl rfl rfl rfl r10 (by exact Nat.le_of_ble_eq_true rfl) (ones_of rfl) rfl rfl ?_
  intro W24 r25 b23 z26
  have hlb23 := r10.lt
  replace r25 : RowL W24 _ 46 [Value.int IntKind.i64 3, Value.int IntKind.i64 ((↑word - 64 * a) / 16 + 1)] := r25
  clear r10
  replace b7 := b7.grown b23 b7.size (by rintro k ⟨⟩; omega)
  replace r4 := r4.gr b23 (by have := r4.lt; omega)
  replace b1 := b1.grown b23 b1.size (by rintro k ⟨⟩; omega)
  replace q := q.grown b23 q.size (by rintro k ⟨⟩; omega)
  have r10 := r25
  clear r25
  refine LL.nilS ?_
  refine CC.ret ?_
  refine EE.inR ?_
  refine EE.thenR ?_
  refine EE.retC rfl rfl (lvNc (RowL.cells0 (by assumption)) (by rfl) (by rfl)) ?_
  exact ⟨by unfold partF; (repeat' split) <;> first | (exfalso; omega) | (simp; omega) | simp, q⟩
  refine LL.val (R.assign rfl rfl) rfl rfl rfl ?_
  refine LL.nilS ?_
  refine CC.no rfl ?_
  refine CC.seq ?_
  refine CC.region ?_
  refine LL.val (R.move rfl rfl) rfl rfl rfl ?_
  refine LL.val (R.field rfl rfl (I.fld rfl)) rfl rfl rfl ?_
  refine LL.val (R.load rfl rfl (I.ld1 rfl (RowL.cell r4 rfl))) rfl rfl rfl ?_
  refine LL.vsplit (fun h => R.ltT rfl rfl rfl h) (fun h => R.ltF rfl rfl rfl (Int.not_lt.1 h)) rfl rfl rfl (fun c27 => ?_) (fun c27 => ?_)
  refine LL.val (R.assign rfl rfl) rfl rfl rfl ?_
  refine LL.nilS ?_
  refine CC.yes rfl ?_
  refine CC.seq ?_
  refine CC.region ?_
  refine LL.val (R.move rfl rfl) rfl rfl rfl ?_
  refine LL.val (R.field rfl rfl (I.fld rfl)) rfl rfl rfl ?_
  refine LL.val (R.load rfl rfl (I.ld1 rfl (RowL.cell r4 rfl))) rfl rfl rfl ?_
  refine LL.val (R.mulI rfl rfl rfl (by omega)) rfl rfl rfl ?_
  refine LL.val (R.subI rfl rfl rfl (by omega)) rfl rfl rfl ?_
  refine LL.val (R.quoIc rfl rfl rfl rfl (by omega) (by omega) (by omega)) rfl rfl rfl ?_
  refine LL.val (R.addI rfl rfl rfl (by omega)) rfl rfl rfl ?_
  refine LL.val (R.buildV rfl rfl (v := .agg #[Value.int IntKind.i64 4, Value.int IntKind.i64 ((↑word - 64 * c) / 16 + 1)]) (fun _ => by kernel_rfl)) rfl rfl rfl ?_
  refine LL.storeN (vs := [Value.int IntKind.i64 4, Value.int IntKind.i64 ((↑word - 64 * c) / 16 + 1)]) rfl rfl rfl rfl r10 (by exact Nat.le_of_ble_eq_true rfl) (ones_of rfl) rfl rfl ?_
  intro W29 r30 b28 z31
  have hlb28 := r10.lt
  replace r30 : RowL W29 _ 46 [Value.int IntKind.i64 4, Value.int IntKind.i64 ((↑word - 64 * c) / 16 + 1)] := r30
  clear r10
  replace b7 := b7.grown b28 b7.size (by rintro k ⟨⟩; omega)
  replace r4 := r4.gr b28 (by have := r4.lt; omega)
  replace b1 := b1.grown b28 b1.size (by rintro k ⟨⟩; omega)
  replace q := q.grown b28 q.size (by rintro k ⟨⟩; omega)
  have r10 := r30
  clear r30
  refine LL.nilS ?_
  refine CC.ret ?_
  refine EE.inR ?_
  refine EE.thenR ?_
  refine EE.retC rfl rfl (lvNc (RowL.cells0 (by assumption)) (by rfl) (by rfl)) ?_
  exact ⟨by unfold partF; (repeat' split) <;> first | (exfalso; omega) | (simp; omega) | simp, q⟩
  refine LL.val (R.assign rfl rfl) rfl rfl rfl ?_
  refine LL.nilS ?_
  refine CC.no rfl ?_
  refine CC.seq ?_
  refine CC.region ?_
  refine LL.val (R.move rfl rfl) rfl rfl rfl ?_
  refine LL.val (R.field rfl rfl (I.fld rfl)) rfl rfl rfl ?_
  refine LL.val (R.load rfl rfl (I.ld1 rfl (RowL.cell r4 rfl))) rfl rfl rfl ?_
  refine LL.vsplit (fun h => R.eqT rfl rfl rfl h) (fun h => R.eqF rfl rfl rfl h) rfl rfl rfl (fun c32 => ?_) (fun c32 => ?_)
  refine LL.val (R.assign rfl rfl) rfl rfl rfl ?_
  refine LL.nilS ?_
  refine CC.yes rfl ?_
  refine CC.seq ?_
  refine CC.region ?_
  refine LL.val (R.buildV rfl rfl (v := .agg #[Value.int IntKind.i64 5, Value.int IntKind.i64 0]) (fun _ => by kernel_rfl)) rfl rfl rfl ?_
  refine LL.storeN (vs := [Value.int IntKind.i64 5, Value.int IntKind.i64 0]) rfl rfl rfl rfl r10 (by exact Nat.le_of_ble_eq_true rfl) (ones_of rfl) rfl rfl ?_
  intro W34 r35 b33 z36
  have hlb33 := r10.lt
  replace r35 : RowL W34 _ 46 [Value.int IntKind.i64 5, Value.int IntKind.i64 0] := r35
  clear r10
  replace b7 := b7.grown b33 b7.size (by rintro k ⟨⟩; omega)
  replace r4 := r4.gr b33 (by have := r4.lt; omega)
  replace b1 := b1.grown b33 b1.size (by rintro k ⟨⟩; omega)
  replace q := q.grown b33 q.size (by rintro k ⟨⟩; omega)
  have r10 := r35
  clear r35
  refine LL.nilS ?_
  refine CC.ret ?_
  refine EE.inR ?_
  refine EE.thenR ?_
  refine EE.retC rfl rfl (lvNc (RowL.cells0 (by assumption)) (by rfl) (by rfl)) ?_
  exact ⟨by unfold partF; (repeat' split) <;> first | (exfalso; omega) | (simp; omega) | simp, q⟩
  refine LL.val (R.assign rfl rfl) rfl rfl rfl ?_
  refine LL.nilS ?_
  refine CC.no rfl ?_
  refine CC.skip ?_
  refine EE.inN ?_
  refine EE.thenN ?_
  refine CC.seq ?_
  refine CC.region ?_
  refine LL.val (R.move rfl rfl) rfl rfl rfl ?_
  refine LL.val (R.buildV rfl rfl (v := .agg #[Value.int IntKind.i64 6, Value.int IntKind.i64 ↑(word / 64)]) (fun _ => by kernel_rfl)) rfl rfl rfl ?_
  refine LL.storeN (vs := [Value.int IntKind.i64 6, Value.int IntKind.i64 ↑(word / 64)]) rfl rfl rfl rfl r10 (by exact Nat.le_of_ble_eq_true rfl) (ones_of rfl) rfl rfl ?_
  intro W38 r39 b37 z40
  have hlb37 := r10.lt
  replace r39 : RowL W38 _ 46 [Value.int IntKind.i64 6, Value.int IntKind.i64 ↑(word / 64)] := r39
  clear r10
  replace b7 := b7.grown b37 b7.size (by rintro k ⟨⟩; omega)
  replace r4 := r4.gr b37 (by have := r4.lt; omega)
  replace b1 := b1.grown b37 b1.size (by rintro k ⟨⟩; omega)
  replace q := q.grown b37 q.size (by rintro k ⟨⟩; omega)
  have r10 := r39
  clear r39
  refine LL.nilS ?_
  refine CC.ret ?_
  refine EE.retC rfl rfl (lvNc (RowL.cells0 (by assumption)) (by rfl) (by rfl)) ?_
  exact ⟨by unfold partF; (repeat' split) <;> first | (exfalso; omega) | (simp; omega) | simp, q⟩
end Go.Proofs.Ythdgnogpjpoklaa
