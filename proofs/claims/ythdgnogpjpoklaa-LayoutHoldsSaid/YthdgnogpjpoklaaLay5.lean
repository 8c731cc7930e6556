/- layout: super blocks. -/
import Derived.Test.YthdgnogpjpoklaaLay4
import Derived.Test.YthdgnogpjpoklaaSeal
import Derived.Test.YthdgnogpjpoklaaZeros
namespace Go.Proofs.Ythdgnogpjpoklaa
set_option linter.unusedVariables false
set_option linter.unusedSimpArgs false
open Go.RowKit Go.Shelf

set_option maxRecDepth 100000 in
set_option maxHeartbeats 4000000 in
theorem block_any (v : Value) (ws : List Nat) (n base : Nat) (w : World) (h : w.ownsRow base 24 1 v n (ints .u64 ws)) (hn : n < 64) (hb : base ≤ w.heap.size) : Calls Try.prog 32 #[v] w fun e w' => ∃ v', e = .returned v' ∧ w'.ownsRow base 24 1 v' 64 (ints .u64 (ws ++ List.replicate (64 - n) 0)) ∧ Below base w w' := by
  obtain ⟨a, cap, rfl, hc, _⟩ := (reads_of_owns h).form
  have hl := h.1
  simp only [List.length_map, Nat.mul_one] at hl
  simp only [List.length_map] at *
  subst hl
  refine X.fn Try.func32 rfl (n := 8) rfl rfl ?_
  refine CC.seq ?_
  refine CC.region ?_
  refine LL.val (R.assign rfl rfl) rfl rfl rfl ?_
  refine LL.nilS ?_
  refine CC.seq ?_
  refine CC.region ?_
  refine LL.val (R.move rfl rfl) rfl rfl rfl ?_
  refine LL.val (R.move rfl rfl) rfl rfl rfl ?_
  refine LL.val (R.len rfl rfl rfl rfl) rfl rfl rfl ?_
  refine LL.val (R.subcN rfl rfl rfl rfl (by omega) (by omega)) rfl rfl rfl ?_
  refine LL.zeros rfl rfl El64 Try.underlying3 rfl h (by omega) (by simp [maxLen]; omega) (by omega) hb rfl rfl ?_
  intro v' w' o1 g1 l1
  refine LL.val (R.assign rfl rfl) rfl rfl rfl ?_
  refine LL.nilS ?_
  refine CC.ret ?_
  refine EE.ret _ rfl rfl ?_
  rw [show ws.length + (64 - ws.length) = 64 by omega] at o1
  refine ⟨v', rfl, ?_, owns_bel h g1 hb⟩
  rw [show ints .u64 (ws ++ List.replicate (64 - ws.length) 0) = ints .u64 ws ++ List.replicate (64 - ws.length) (.int .u64 0) by simp [ints]]
  exact o1
def headL (b i r t k1 k2 : Nat) : List Nat := [3555397645633865032, b, i, r, t, k1, k2]
def supL (b i r t k1 k2 : Nat) : List Nat := headL b i r t k1 k2 ++ [wsum (headL b i r t k1 k2)] ++ List.replicate 56 0
theorem supL_len (b i r t k1 k2 : Nat) : (supL b i r t k1 k2).length = 64 := by simp [supL, headL]

set_option maxRecDepth 100000 in
set_option maxHeartbeats 4000000 in
theorem super_any (b i r t k1 k2 : Nat) (a c d e : Int) (w : World) (hl : isL b i r t a c d e) : Calls Try.prog 12 #[layV b i r t k1 k2 a c d e] w fun x w' => ∃ v, x = .returned (.tuple #[v, .int .i64 0]) ∧ w'.ownsRow w.heap.size 24 1 v 64 (ints .u64 (supL b i r t k1 k2)) ∧ Below w.heap.size w w' := by
  have q := Below.refl w.heap.size w
  refine X.fn Try.func12 rfl (n := 31) rfl rfl ?_
  refine CC.seq ?_
  refine CC.region ?_
  refine LL.box [Value.int IntKind.i64 ↑b, Value.int IntKind.i64 ↑i, Value.int IntKind.i64 ↑r, Value.int IntKind.i64 ↑t, Value.int IntKind.u64 ↑k1, Value.int IntKind.u64 ↑k2, Value.int IntKind.i64 a, Value.int IntKind.i64 c, Value.int IntKind.i64 d, Value.int IntKind.i64 e] rfl rfl rfl rfl rfl ?_
  intro W2 g3 eg3 r4 z5 b1
  replace q := q.trans (b1.mono q.size)
  refine LL.val (R.assign rfl rfl) rfl rfl rfl ?_
  refine LL.val (R.assign rfl rfl) rfl rfl rfl ?_
  refine LL.nilS ?_
  refine CC.seq ?_
  refine CC.seq ?_
  refine CC.region ?_
  refine LL.val (R.load rfl rfl (I.ldNc (vs := [Value.int IntKind.i64 ↑b, Value.int IntKind.i64 ↑i, Value.int IntKind.i64 ↑r, Value.int IntKind.i64 ↑t, Value.int IntKind.u64 ↑k1, Value.int IntKind.u64 ↑k2, Value.int IntKind.i64 a, Value.int IntKind.i64 c, Value.int IntKind.i64 d, Value.int IntKind.i64 e]) (RowL.cells r4 rfl) (by rfl) (by rfl))) rfl rfl rfl ?_
  refine LL.callBT (R.call rfl rfl rfl) rfl rfl rfl (is_any _ _ _ _ _ _ _ _ _ _ _) (by first | assumption | omega) (fun W7 b6 => ?_)
  have zb6 := b6.size
  replace r4 := r4.up b6
  replace b1 := b1.trans (b6.mono b1.size)
  replace q := q.trans (b6.mono q.size)
  refine LL.val (R.not rfl rfl) rfl rfl rfl ?_
  refine LL.nilS ?_
  refine CC.no rfl ?_
  refine CC.skip ?_
  refine EE.thenN ?_
  refine CC.seq ?_
  refine CC.region ?_
  refine LL.val (R.field rfl rfl (I.fld rfl)) rfl rfl rfl ?_
  refine LL.val (R.load rfl rfl (I.ldNc (vs := [Value.int IntKind.i64 ↑b, Value.int IntKind.i64 ↑i, Value.int IntKind.i64 ↑r, Value.int IntKind.i64 ↑t]) (RowL.cells r4 rfl) (by rfl) (by rfl))) rfl rfl rfl ?_
  have l8 := r4.lt
  refine LL.alloc ([Value.int IntKind.i64 0, Value.int IntKind.i64 0, Value.int IntKind.i64 0, Value.int IntKind.i64 0]) rfl rfl rfl rfl rfl ?_
  intro W10 g11 eg11 r12 z13 b9
  replace b6 := b6.trans (b9.mono b6.size)
  replace r4 := r4.up b9
  replace b1 := b1.trans (b9.mono b1.size)
  replace q := q.trans (b9.mono q.size)
  refine LL.storeN (vs := [Value.int IntKind.i64 ↑b, Value.int IntKind.i64 ↑i, Value.int IntKind.i64 ↑r, Value.int IntKind.i64 ↑t]) rfl rfl rfl rfl r12 (by exact Nat.le_of_ble_eq_true rfl) (ones_of rfl) rfl rfl ?_
  intro W15 r16 b14 z17
  have hlb14 := r12.lt
  replace r16 : RowL W15 _ 23 [Value.int IntKind.i64 ↑b, Value.int IntKind.i64 ↑i, Value.int IntKind.i64 ↑r, Value.int IntKind.i64 ↑t] := r16
  clear r12
  replace b9 := b9.grown b14 b9.size (by rintro k ⟨⟩; omega)
  replace b6 := b6.grown b14 b6.size (by rintro k ⟨⟩; omega)
  replace r4 := r4.gr b14 (by have := r4.lt; omega)
  replace b1 := b1.grown b14 b1.size (by rintro k ⟨⟩; omega)
  replace q := q.grown b14 q.size (by rintro k ⟨⟩; omega)
  have r12 := r16
  clear r16
  refine LL.nilS ?_
  refine CC.seq ?_
  refine CC.region ?_
  refine LL.val (R.field rfl rfl (I.fld rfl)) rfl rfl rfl ?_
  refine LL.val (R.load rfl rfl (I.ld1 rfl (RowL.cell r12 rfl))) rfl rfl rfl ?_
  refine LL.val (R.convI rfl rfl rfl rfl (wrapU (by omega) (by omega))) rfl rfl rfl ?_
  refine LL.val (R.field rfl rfl (I.fld rfl)) rfl rfl rfl ?_
  refine LL.val (R.load rfl rfl (I.ld1 rfl (RowL.cell r12 rfl))) rfl rfl rfl ?_
  refine LL.val (R.convI rfl rfl rfl rfl (wrapU (by omega) (by omega))) rfl rfl rfl ?_
  refine LL.val (R.field rfl rfl (I.fld rfl)) rfl rfl rfl ?_
  refine LL.val (R.load rfl rfl (I.ld1 rfl (RowL.cell r12 rfl))) rfl rfl rfl ?_
  refine LL.val (R.convI rfl rfl rfl rfl (wrapU (by omega) (by omega))) rfl rfl rfl ?_
  refine LL.val (R.field rfl rfl (I.fld rfl)) rfl rfl rfl ?_
  refine LL.val (R.load rfl rfl (I.ld1 rfl (RowL.cell r12 rfl))) rfl rfl rfl ?_
  refine LL.val (R.convI rfl rfl rfl rfl (wrapU (by omega) (by omega))) rfl rfl rfl ?_
  refine LL.val (R.field rfl rfl (I.fld rfl)) rfl rfl rfl ?_
  refine LL.val (R.index rfl rfl rfl (I.ixA1c rfl rfl (by first | omega | decide))) rfl rfl rfl ?_
  refine LL.val (R.load rfl rfl (I.ld1 rfl (RowL.cell r4 rfl))) rfl rfl rfl ?_
  refine LL.val (R.field rfl rfl (I.fld rfl)) rfl rfl rfl ?_
  refine LL.val (R.index rfl rfl rfl (I.ixA1c rfl rfl (by first | omega | decide))) rfl rfl rfl ?_
  refine LL.val (R.load rfl rfl (I.ld1 rfl (RowL.cell r4 rfl))) rfl rfl rfl ?_
  have l18 := r4.lt
  have l19 := r12.lt
  refine LL.lit (e := 24) [Value.int IntKind.u64 3555397645633865032, Value.int IntKind.u64 ↑b, Value.int IntKind.u64 ↑i, Value.int IntKind.u64 ↑r, Value.int IntKind.u64 ↑t, Value.int IntKind.u64 ↑k1, Value.int IntKind.u64 ↑k2] 7 rfl rfl (fun _ => by kernel_rfl) rfl rfl ?_
  intro W21 g22 eg22 r23 z24 b20
  replace b9 := b9.trans (b20.mono b9.size)
  replace b6 := b6.trans (b20.mono b6.size)
  replace r4 := r4.up b20
  replace b1 := b1.trans (b20.mono b1.size)
  replace q := q.trans (b20.mono q.size)
  replace r12 := r12.up b20
  refine LL.call (R.call rfl rfl rfl) rfl rfl rfl (pseal_own _ (headL b i r t k1 k2) _ (RowL.asInts (by assumption) .u64 (headL b i r t k1 k2) rfl rfl) (by simp [headL])) ?_
  rintro e2 W ⟨v, rfl, o, b1⟩
  refine ⟨_, rfl, ?_⟩
  refine LL.call (R.call rfl rfl rfl) rfl rfl rfl (block_any v _ _ _ W o (by simp [headL]) b1.size) ?_
  rintro e2 W ⟨v', rfl, o2, b2⟩
  refine ⟨_, rfl, ?_⟩
  refine LL.val (R.assign rfl rfl) rfl rfl rfl ?_
  refine LL.val (R.assign rfl rfl) rfl rfl rfl ?_
  refine LL.nilS ?_
  refine CC.ret ?_
  refine EE.ret _ rfl rfl ?_
  have hq := q.size
  exact ⟨_, rfl, owns_low o2 hq, q.trans ((b1.trans b2).mono hq)⟩
set_option maxRecDepth 100000 in
set_option maxHeartbeats 4000000 in
theorem super_bad (b i r t : Int) (k1 k2 : Nat) (a c d e : Int) (w : World) (hl : ¬isL b i r t a c d e) : Calls Try.prog 12 #[layV b i r t k1 k2 a c d e] w fun x w' => x = .returned (.tuple #[.slice none 0 0, .int .i64 2]) ∧ Below w.heap.size w w' := by
  have q := Below.refl w.heap.size w
  refine X.fn Try.func12 rfl (n := 31) rfl rfl ?_
  refine CC.seq ?_
  refine CC.region ?_
  refine LL.box [Value.int IntKind.i64 b, Value.int IntKind.i64 i, Value.int IntKind.i64 r, Value.int IntKind.i64 t, Value.int IntKind.u64 ↑k1, Value.int IntKind.u64 ↑k2, Value.int IntKind.i64 a, Value.int IntKind.i64 c, Value.int IntKind.i64 d, Value.int IntKind.i64 e] rfl rfl rfl rfl rfl ?_
  intro W2 g3 eg3 r4 z5 b1
  replace q := q.trans (b1.mono q.size)
  refine LL.val (R.assign rfl rfl) rfl rfl rfl ?_
  refine LL.val (R.assign rfl rfl) rfl rfl rfl ?_
  refine LL.nilS ?_
  refine CC.seq ?_
  refine CC.seq ?_
  refine CC.region ?_
  refine LL.val (R.load rfl rfl (I.ldNc (vs := [Value.int IntKind.i64 b, Value.int IntKind.i64 i, Value.int IntKind.i64 r, Value.int IntKind.i64 t, Value.int IntKind.u64 ↑k1, Value.int IntKind.u64 ↑k2, Value.int IntKind.i64 a, Value.int IntKind.i64 c, Value.int IntKind.i64 d, Value.int IntKind.i64 e]) (RowL.cells r4 rfl) (by rfl) (by rfl))) rfl rfl rfl ?_
  refine LL.callBF (R.call rfl rfl rfl) rfl rfl rfl (is_any _ _ _ _ _ _ _ _ _ _ _) (by first | assumption | omega) (fun W7 b6 => ?_)
  have zb6 := b6.size
  replace r4 := r4.up b6
  replace b1 := b1.trans (b6.mono b1.size)
  replace q := q.trans (b6.mono q.size)
  refine LL.val (R.not rfl rfl) rfl rfl rfl ?_
  refine LL.nilS ?_
  refine CC.yes rfl ?_
  refine CC.seq ?_
  refine CC.region ?_
  refine LL.val (R.assign rfl rfl) rfl rfl rfl ?_
  refine LL.val (R.assign rfl rfl) rfl rfl rfl ?_
  refine LL.nilS ?_
  refine CC.ret ?_
  refine EE.thenR ?_
  refine EE.ret _ rfl rfl ?_
  exact ⟨rfl, q⟩
end Go.Proofs.Ythdgnogpjpoklaa
