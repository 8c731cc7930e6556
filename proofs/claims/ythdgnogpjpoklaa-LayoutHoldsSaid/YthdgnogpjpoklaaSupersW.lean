/- LayoutSupers: the walk. -/
import Derived.Test.YthdgnogpjpoklaaLay8
import Derived.Test.YthdgnogpjpoklaaOpenI
namespace Go.Proofs.Ythdgnogpjpoklaa
set_option linter.unusedVariables false
set_option linter.unusedSimpArgs false
open Go.RowKit Go.Shelf
set_option maxRecDepth 100000 in
set_option maxHeartbeats 8000000 in
theorem rsuper_any (b i r t k1 k2 : Nat) (a c d e : Int) (w : World) (hb : b < 18446744073709551616 ∧ i < 18446744073709551616 ∧ r < 18446744073709551616 ∧ t < 18446744073709551616 ∧ k1 < 18446744073709551616 ∧ k2 < 18446744073709551616) : Calls Try.prog 15 #[layV b i r t k1 k2 a c d e] w fun x w' => ∃ v, x = .returned v ∧ w'.ownsRow w.heap.size 24 1 v 64 (ints .u64 (supL b i r t k1 k2)) ∧ Below w.heap.size w w' := by
  have q := Below.refl w.heap.size w
  refine X.fn Try.func15 rfl (n := 30) rfl rfl ?_
  refine CC.seq ?_
  refine CC.region ?_
  refine LL.box [Value.int IntKind.i64 ↑b, Value.int IntKind.i64 ↑i, Value.int IntKind.i64 ↑r, Value.int IntKind.i64 ↑t, Value.int IntKind.u64 ↑k1, Value.int IntKind.u64 ↑k2, Value.int IntKind.i64 a, Value.int IntKind.i64 c, Value.int IntKind.i64 d, Value.int IntKind.i64 e] rfl rfl rfl rfl rfl ?_
  intro W2 g3 eg3 r4 z5 b1
  replace q := q.trans (b1.mono q.size)
  refine LL.val (R.assign rfl rfl) rfl rfl rfl ?_
  refine LL.nilS ?_
  refine CC.seq ?_
  refine CC.region ?_
  refine LL.val (R.field rfl rfl (I.fld rfl)) rfl rfl rfl ?_
  refine LL.val (R.field rfl rfl (I.fld rfl)) rfl rfl rfl ?_
  refine LL.val (R.load rfl rfl (I.ld1 rfl (RowL.cell r4 rfl))) rfl rfl rfl ?_
  refine LL.val (R.convI rfl rfl rfl rfl (wrapU (by omega) (by omega))) rfl rfl rfl ?_
  refine LL.val (R.field rfl rfl (I.fld rfl)) rfl rfl rfl ?_
  refine LL.val (R.field rfl rfl (I.fld rfl)) rfl rfl rfl ?_
  refine LL.val (R.load rfl rfl (I.ld1 rfl (RowL.cell r4 rfl))) rfl rfl rfl ?_
  refine LL.val (R.convI rfl rfl rfl rfl (wrapU (by omega) (by omega))) rfl rfl rfl ?_
  refine LL.val (R.field rfl rfl (I.fld rfl)) rfl rfl rfl ?_
  refine LL.val (R.field rfl rfl (I.fld rfl)) rfl rfl rfl ?_
  refine LL.val (R.load rfl rfl (I.ld1 rfl (RowL.cell r4 rfl))) rfl rfl rfl ?_
  refine LL.val (R.convI rfl rfl rfl rfl (wrapU (by omega) (by omega))) rfl rfl rfl ?_
  refine LL.val (R.field rfl rfl (I.fld rfl)) rfl rfl rfl ?_
  refine LL.val (R.field rfl rfl (I.fld rfl)) rfl rfl rfl ?_
  refine LL.val (R.load rfl rfl (I.ld1 rfl (RowL.cell r4 rfl))) rfl rfl rfl ?_
  refine LL.val (R.convI rfl rfl rfl rfl (wrapU (by omega) (by omega))) rfl rfl rfl ?_
  refine LL.val (R.field rfl rfl (I.fld rfl)) rfl rfl rfl ?_
  refine LL.val (R.index rfl rfl rfl (I.ixA1c rfl rfl (by first | omega | decide))) rfl rfl rfl ?_
  refine LL.val (R.load rfl rfl (I.ld1 rfl (RowL.cell r4 rfl))) rfl rfl rfl ?_
  refine LL.val (R.field rfl rfl (I.fld rfl)) rfl rfl rfl ?_
  refine LL.val (R.index rfl rfl rfl (I.ixA1c rfl rfl (by first | omega | decide))) rfl rfl rfl ?_
  refine LL.val (R.load rfl rfl (I.ld1 rfl (RowL.cell r4 rfl))) rfl rfl rfl ?_
  have l6 := r4.lt
  refine LL.lit (e := 24) [Value.int IntKind.u64 3555397645633865032, Value.int IntKind.u64 ↑b, Value.int IntKind.u64 ↑i, Value.int IntKind.u64 ↑r, Value.int IntKind.u64 ↑t, Value.int IntKind.u64 ↑k1, Value.int IntKind.u64 ↑k2] 7 rfl rfl (fun _ => by kernel_rfl) rfl rfl ?_
  intro W8 g9 eg9 r10 z11 b7
  replace r4 := r4.up b7
  replace b1 := b1.trans (b7.mono b1.size)
  replace q := q.trans (b7.mono q.size)
  refine LL.call (R.call rfl rfl rfl) rfl rfl rfl (rseal_own _ (headL b i r t k1 k2) _ (RowL.asInts (by assumption) .u64 (headL b i r t k1 k2) rfl rfl) (by intro x hx; simp only [headL, List.mem_cons, List.not_mem_nil, or_false] at hx; rcases hx with rfl | rfl | rfl | rfl | rfl | rfl | rfl <;> omega) (by simp [headL])) ?_
  rintro e2 W ⟨v, rfl, o, b1⟩
  refine ⟨_, rfl, ?_⟩
  refine LL.val (R.assign rfl rfl) rfl rfl rfl ?_
  refine LL.nilS ?_
  refine CC.seq ?_
  refine CC.region ?_
  refine LL.val (R.move rfl rfl) rfl rfl rfl ?_
  refine LL.zeros (m := 56) rfl rfl El64 Try.underlying3 rfl o (by omega) (by simp [maxLen, headL]) (by simp [headL]) b1.size rfl rfl ?_
  intro v' w' o1 g1 l1
  refine LL.val (R.assign rfl rfl) rfl rfl rfl ?_
  refine LL.nilS ?_
  refine CC.ret ?_
  refine EE.ret _ rfl rfl ?_
  have hq := q.size
  refine ⟨v', rfl, ?_, q.trans ((b1.trans (owns_bel o g1 b1.size)).mono hq)⟩
  rw [show ints .u64 (supL b i r t k1 k2) = ints .u64 (headL b i r t k1 k2 ++ [wsum (headL b i r t k1 k2)]) ++ List.replicate 56 (.int .u64 0) by simp [ints, supL, headL]]
  exact owns_low o1 hq
theorem wsame_any (v1 v2 : Value) (xs ys : List Nat) (w : World) (h1 : Reads w v1 (ints .u64 xs)) (h2 : Reads w v2 (ints .u64 ys)) (hx : xs.length ≤ 1048576) (hy : ys.length ≤ 1048576) :
    Calls Try.prog 14 #[v1, v2] w fun e w' => e = .returned (.bool (decide (xs = ys))) ∧ Below w.heap.size w w' := by
  refine (same_any v1 v2 xs ys w h1 h2 hx hy).mono ?_
  rintro e w' ⟨rfl, n, rfl⟩
  exact ⟨rfl, Below.drewN (Below.refl _ _) n⟩
set_option maxRecDepth 100000 in
set_option maxHeartbeats 8000000 in
theorem part_bad (b i r t : Int) (k1 k2 : Nat) (a c d e n : Int) (w : World) (hl : ¬isL b i r t a c d e) : Calls Try.prog 20 #[layV b i r t k1 k2 a c d e, .int .i64 n] w fun x w' => x = .returned (.tuple #[.agg #[.int .i64 0, .int .i64 0], .int .i64 2]) ∧ Below w.heap.size w w' := by
  have q := Below.refl w.heap.size w
  refine X.fnM Try.func20 rfl (n := 31) rfl rfl ?_
  refine CC.seq ?_
  refine CC.region ?_
  refine LL.box [Value.int IntKind.i64 b, Value.int IntKind.i64 i, Value.int IntKind.i64 r, Value.int IntKind.i64 t, Value.int IntKind.u64 ↑k1, Value.int IntKind.u64 ↑k2, Value.int IntKind.i64 a, Value.int IntKind.i64 c, Value.int IntKind.i64 d, Value.int IntKind.i64 e] rfl rfl rfl rfl rfl ?_
  intro W2 g3 eg3 r4 z5 b1
  replace q := q.trans (b1.mono q.size)
  have l6 := r4.lt
  refine LL.box [Value.int IntKind.i64 n] rfl rfl rfl rfl rfl ?_
  intro W8 g9 eg9 r10 z11 b7
  replace r4 := r4.up b7
  replace b1 := b1.trans (b7.mono b1.size)
  replace q := q.trans (b7.mono q.size)
  have l12 := r10.lt
  have l13 := r4.lt
  refine LL.alloc ([Value.int IntKind.i64 0, Value.int IntKind.i64 0]) rfl rfl rfl rfl rfl ?_
  intro W15 g16 eg16 r17 z18 b14
  replace r10 := r10.up b14
  replace b7 := b7.trans (b14.mono b7.size)
  replace r4 := r4.up b14
  replace b1 := b1.trans (b14.mono b1.size)
  replace q := q.trans (b14.mono q.size)
  refine LL.val (R.assign rfl rfl) rfl rfl rfl ?_
  refine LL.nilS ?_
  refine CC.straight ?_
  refine CC.seq ?_
  refine CC.seq ?_
  refine CC.region ?_
  refine LL.val (R.load rfl rfl (I.ldNc (vs := [Value.int IntKind.i64 b, Value.int IntKind.i64 i, Value.int IntKind.i64 r, Value.int IntKind.i64 t, Value.int IntKind.u64 ↑k1, Value.int IntKind.u64 ↑k2, Value.int IntKind.i64 a, Value.int IntKind.i64 c, Value.int IntKind.i64 d, Value.int IntKind.i64 e]) (RowL.cells r4 rfl) (by rfl) (by rfl))) rfl rfl rfl ?_
  refine LL.callBF (R.call rfl rfl rfl) rfl rfl rfl (is_any _ _ _ _ _ _ _ _ _ _ _) (by first | assumption | omega) (fun W20 b19 => ?_)
  have zb19 := b19.size
  replace r17 := r17.up b19
  replace b14 := b14.trans (b19.mono b14.size)
  replace r10 := r10.up b19
  replace b7 := b7.trans (b19.mono b7.size)
  replace r4 := r4.up b19
  replace b1 := b1.trans (b19.mono b1.size)
  replace q := q.trans (b19.mono q.size)
  refine LL.val (R.not rfl rfl) rfl rfl rfl ?_
  refine LL.nilS ?_
  refine CC.yes rfl ?_
  refine CC.seq ?_
  refine CC.region ?_
  refine LL.val (R.buildV rfl rfl (v := .agg #[Value.int IntKind.i64 0, Value.int IntKind.i64 0]) (fun _ => by kernel_rfl)) rfl rfl rfl ?_
  refine LL.storeN (vs := [Value.int IntKind.i64 0, Value.int IntKind.i64 0]) rfl rfl rfl rfl r17 (by exact Nat.le_of_ble_eq_true rfl) (ones_of rfl) rfl rfl ?_
  intro W22 r23 b21 z24
  have hlb21 := r17.lt
  replace r23 : RowL W22 _ 46 [Value.int IntKind.i64 0, Value.int IntKind.i64 0] := r23
  clear r17
  replace b14 := b14.grown b21 b14.size (by rintro k ⟨⟩; omega)
  replace r10 := r10.gr b21 (by have := r10.lt; omega)
  replace b7 := b7.grown b21 b7.size (by rintro k ⟨⟩; omega)
  replace r4 := r4.gr b21 (by have := r4.lt; omega)
  replace b1 := b1.grown b21 b1.size (by rintro k ⟨⟩; omega)
  replace q := q.grown b21 q.size (by rintro k ⟨⟩; omega)
  have r17 := r23
  clear r23
  refine LL.val (R.assign rfl rfl) rfl rfl rfl ?_
  refine LL.nilS ?_
  refine CC.ret ?_
  refine EE.thenR ?_
  refine EE.noR ?_
  refine EE.retM2 rfl ⟨_, rfl, lvNc (RowL.cells0 (by assumption)) (by rfl) (by rfl)⟩ rfl ?_
  exact ⟨rfl, q⟩
theorem wfu {k : Int} (h : (Lit.int .u64 k).wf = true) : 0 ≤ k ∧ k < 18446744073709551616 := wf_u64 h
/-- No layout: told so that no arithmetic looks into it. -/
def notL (b i r t a c d e : Int) : Prop := ¬isL b i r t a c d e
theorem nSuper (b i r t : Int) (k1 k2 : Nat) (a c d e : Int) (w : World) (hl : notL b i r t a c d e) : Calls Try.prog 12 #[layV b i r t k1 k2 a c d e] w fun x w' => x = .returned (.tuple #[.slice none 0 0, .int .i64 2]) ∧ Below w.heap.size w w' := super_bad b i r t k1 k2 a c d e w hl
theorem nJournal (b i r t : Int) (k1 k2 : Nat) (a c d e n : Int) (w : World) (hl : notL b i r t a c d e) : Calls Try.prog 17 #[layV b i r t k1 k2 a c d e, .int .i64 n] w fun x w' => x = .returned (.tuple #[.int .i64 0, .int .i64 2]) ∧ Below w.heap.size w w' := pJournal_bad b i r t k1 k2 a c d e n w hl
theorem nInode (b i r t : Int) (k1 k2 : Nat) (a c d e n : Int) (w : World) (hl : notL b i r t a c d e) : Calls Try.prog 18 #[layV b i r t k1 k2 a c d e, .int .i64 n] w fun x w' => x = .returned (.tuple #[.int .i64 0, .int .i64 2]) ∧ Below w.heap.size w w' := pInode_bad b i r t k1 k2 a c d e n w hl
theorem nRecord (b i r t : Int) (k1 k2 : Nat) (a c d e n : Int) (w : World) (hl : notL b i r t a c d e) : Calls Try.prog 19 #[layV b i r t k1 k2 a c d e, .int .i64 n] w fun x w' => x = .returned (.tuple #[.int .i64 0, .int .i64 2]) ∧ Below w.heap.size w w' := pRecord_bad b i r t k1 k2 a c d e n w hl
theorem nPart (b i r t : Int) (k1 k2 : Nat) (a c d e n : Int) (w : World) (hl : notL b i r t a c d e) : Calls Try.prog 20 #[layV b i r t k1 k2 a c d e, .int .i64 n] w fun x w' => x = .returned (.tuple #[.agg #[.int .i64 0, .int .i64 0], .int .i64 2]) ∧ Below w.heap.size w w' := part_bad b i r t k1 k2 a c d e n w hl
theorem nRight (b i r t : Int) (k1 k2 : Nat) (a c d e : Int) (w : World) (hl : notL b i r t a c d e) : Calls Try.prog 16 #[layV b i r t k1 k2 a c d e] w fun x w' => x = .returned (.bool false) ∧ Below w.heap.size w w' := by
  have := right_any b i r t k1 k2 a c d e w
  rwa [decide_eq_false hl] at this
set_option maxRecDepth 100000 in
set_option maxHeartbeats 8000000 in
theorem supers_T (b i r t k1 k2 : Nat) (a c d e n : Int) (w : World) (hk : k1 < 18446744073709551616 ∧ k2 < 18446744073709551616) (hl : isL b i r t a c d e) : Calls Try.prog 4 #[layV b i r t k1 k2 a c d e, .int .i64 n] w fun x w' => x = .returned (.bool true) ∧ Below w.heap.size w w' := by
  have q := Below.refl w.heap.size w
  have hlen := supL_len b i r t k1 k2
  refine X.fnM Try.func4 rfl (n := 97) rfl rfl ?_
  refine CC.seq ?_
  refine CC.region ?_
  refine LL.box [Value.int IntKind.i64 ↑b, Value.int IntKind.i64 ↑i, Value.int IntKind.i64 ↑r, Value.int IntKind.i64 ↑t, Value.int IntKind.u64 ↑k1, Value.int IntKind.u64 ↑k2, Value.int IntKind.i64 a, Value.int IntKind.i64 c, Value.int IntKind.i64 d, Value.int IntKind.i64 e] rfl rfl rfl rfl rfl ?_
  intro W2 g3 eg3 r4 z5 b1
  replace q := q.trans (b1.mono q.size)
  have l6 := r4.lt
  refine LL.alloc ([Value.bool false]) rfl rfl rfl rfl rfl ?_
  intro W8 g9 eg9 r10 z11 b7
  replace r4 := r4.up b7
  replace b1 := b1.trans (b7.mono b1.size)
  replace q := q.trans (b7.mono q.size)
  refine LL.nilS ?_
  refine CC.seq ?_
  refine CC.region ?_
  refine LL.val (R.load rfl rfl (I.ldNc (vs := [Value.int IntKind.i64 ↑b, Value.int IntKind.i64 ↑i, Value.int IntKind.i64 ↑r, Value.int IntKind.i64 ↑t, Value.int IntKind.u64 ↑k1, Value.int IntKind.u64 ↑k2, Value.int IntKind.i64 a, Value.int IntKind.i64 c, Value.int IntKind.i64 d, Value.int IntKind.i64 e]) (RowL.cells r4 rfl) (by rfl) (by rfl))) rfl rfl rfl ?_
  refine LL.call (R.call rfl rfl rfl) rfl rfl rfl (super_any b i r t k1 k2 a c d e _ hl) ?_
  rintro e2 W1 ⟨v, rfl, o, b1⟩
  refine ⟨_, rfl, ?_⟩
  have q1 := q.trans (b1.mono q.size)
  replace r4 := r4.up b1
  replace r10 := r10.up b1
  have h1 := reads_of_owns o
  clear o
  refine LL.val (R.move rfl rfl) rfl rfl rfl ?_
  refine LL.val (R.extract rfl rfl rfl) rfl rfl rfl ?_
  refine LL.val (R.extract rfl rfl rfl) rfl rfl rfl ?_
  refine LL.val (R.assign rfl rfl) rfl rfl rfl ?_
  refine LL.val (R.assign rfl rfl) rfl rfl rfl ?_
  refine LL.nilS ?_
  refine CC.seq ?_
  refine CC.seq ?_
  refine CC.region ?_
  refine LL.val (R.load rfl rfl (I.ldNc (vs := [Value.int IntKind.i64 ↑b, Value.int IntKind.i64 ↑i, Value.int IntKind.i64 ↑r, Value.int IntKind.i64 ↑t, Value.int IntKind.u64 ↑k1, Value.int IntKind.u64 ↑k2, Value.int IntKind.i64 a, Value.int IntKind.i64 c, Value.int IntKind.i64 d, Value.int IntKind.i64 e]) (RowL.cells r4 rfl) (by rfl) (by rfl))) rfl rfl rfl ?_
  refine LL.callBT (R.call rfl rfl rfl) rfl rfl rfl (right_any _ _ _ _ _ _ _ _ _ _ _) (by first | assumption | omega) (fun Wa2 ba1 => ?_)
  have zba1 := ba1.size
  replace b1 := b1.trans (ba1.mono b1.size)
  replace q1 := q1.trans (ba1.mono q1.size)
  replace r4 := r4.up ba1
  replace r10 := r10.up ba1
  replace h1 := h1.up ba1
  refine LL.nilS ?_
  refine CC.yes rfl ?_
  refine CC.seq ?_
  refine CC.region ?_
  refine LL.val (R.move rfl rfl) rfl rfl rfl ?_
  refine LL.call (R.call rfl rfl rfl) rfl rfl rfl (num_any _ _) ?_
  rintro e W' ⟨rfl, rfl⟩
  refine ⟨_, rfl, ?_⟩
  refine LL.val (R.eqT rfl rfl rfl (by omega)) rfl rfl rfl ?_
  refine LL.val (R.move rfl rfl) rfl rfl rfl ?_
  refine LL.val (R.move rfl rfl) rfl rfl rfl ?_
  refine LL.val (R.load rfl rfl (I.ldNc (vs := [Value.int IntKind.i64 ↑b, Value.int IntKind.i64 ↑i, Value.int IntKind.i64 ↑r, Value.int IntKind.i64 ↑t, Value.int IntKind.u64 ↑k1, Value.int IntKind.u64 ↑k2, Value.int IntKind.i64 a, Value.int IntKind.i64 c, Value.int IntKind.i64 d, Value.int IntKind.i64 e]) (RowL.cells r4 rfl) (by rfl) (by rfl))) rfl rfl rfl ?_
  refine LL.call (R.call rfl rfl rfl) rfl rfl rfl (rsuper_any b i r t k1 k2 a c d e _ (by omega)) ?_
  rintro e2 W2' ⟨v2, rfl, o2, b2⟩
  refine ⟨_, rfl, ?_⟩
  replace q1 := q1.trans (b2.mono q1.size)
  replace r4 := r4.up b2
  replace r10 := r10.up b2
  replace h1 := h1.up b2
  have h2 := reads_of_owns o2
  clear o2
  refine LL.callBT (R.call rfl rfl rfl) rfl rfl rfl (wsame_any _ _ _ _ _ h1 h2 (by omega) (by omega)) rfl (fun W3' b3 => ?_)
  replace q1 := q1.trans (b3.mono q1.size)
  replace r4 := r4.up b3
  replace r10 := r10.up b3
  refine LL.val (R.pick rfl rfl rfl) rfl rfl rfl ?_
  refine LL.val (R.move rfl rfl) rfl rfl rfl ?_
  refine LL.call (R.call rfl rfl rfl) rfl rfl rfl (works_any _) ?_
  rintro e Wb2 ⟨rfl, bb1⟩
  refine ⟨_, rfl, ?_⟩
  have zbb1 := bb1.size
  replace b3 := b3.trans (bb1.mono b3.size)
  replace q1 := q1.trans (bb1.mono q1.size)
  replace r4 := r4.up bb1
  replace r10 := r10.up bb1
  refine LL.val (R.pick rfl rfl rfl) rfl rfl rfl ?_
  refine LL.store rfl rfl rfl rfl r10 (by exact Nat.le_of_ble_eq_true rfl) rfl rfl rfl rfl ?_
  intro Wb4 rb5 bb3 zb6
  have hlbb3 := r10.lt
  replace rb5 : RowL Wb4 _ 4 [Value.bool true] := rb5
  clear r10
  replace q1 := q1.grown bb3 q1.size (by rintro k ⟨⟩; omega)
  replace r4 := r4.gr bb3 (by have := r4.lt; omega)
  have r10 := rb5
  clear rb5
  refine LL.nilS ?_
  refine CC.ret ?_
  refine EE.thenR ?_
  refine EE.retM1 rfl ⟨_, rfl, lv1 rfl (RowL.cell (by assumption) rfl)⟩ ?_
  exact ⟨rfl, by assumption⟩
end Go.Proofs.Ythdgnogpjpoklaa
