/- extents: a map's words. extents: Words. extents: Of. -/
import Derived.Test.YtklfopclaonggaaDoorEe
import Derived.Test.YtklfopclaonggaaDoorWd6
import Derived.Test.YtklfopclaonggaaDoorEqA
namespace Go.Proofs.YtklfopclaonggaaDoor
set_option linter.unusedVariables false
set_option linter.unusedSimpArgs false
open Go.RowKit Go.Shelf
theorem Below.drewN {B : Nat} {a w : World} (h : Below B a w) (n : Nat) : Below B a (w.drewN n) := ⟨h.os, h.tape, h.output, h.size, h.block⟩

/-- What the package's variable holds: the widths of an extent's fields. -/
structure Start (W : World) : Prop where
  c0 : W.cell? ⟨0, 0, none⟩ = some (.int .i64 16)
  c1 : W.cell? ⟨0, 1, none⟩ = some (.int .i64 24)
  c2 : W.cell? ⟨0, 2, none⟩ = some (.int .i64 16)
  pos : 0 < W.heap.size
theorem Start.up {w w' : World} (h : Start w) (b : Below w.heap.size w w') : Start w' := ⟨cell_up h.c0 b, cell_up h.c1 b, cell_up h.c2 b, Nat.lt_of_lt_of_le h.pos b.size⟩
theorem Start.gr {w w' : World} {g : Nat} (h : Start w) (b : w.grownBy w' (some g)) (hne : 0 < g) : Start w' := ⟨cell_gr h.c0 b (by omega), cell_gr h.c1 b (by omega), cell_gr h.c2 b (by omega), Nat.lt_of_lt_of_le h.pos b.size⟩
theorem Start.cells {w : World} (h : Start w) : Cells w ⟨0, 0, none⟩ [.int .i64 16, .int .i64 24, .int .i64 16] := fun j u hu => by
  rw [Addr.add_lit]
  match j, hu with
  | 0, hu => cases hu; exact h.c0
  | 1, hu => cases hu; exact h.c1
  | 2, hu => cases hu; exact h.c2
theorem with_a (f : Nat) (w : World) (hf : f < 65536) : Calls Tryd.prog 50 #[.int .u64 0, .int .i64 0, .int .i64 16, .int .u64 (f : Int)] w fun e w' => e = .returned (.tuple #[.int .u64 (f : Int), .int .i64 0]) ∧ Below w.heap.size w w' :=
  (with_ok 0 0 16 f (by omega) (by omega) (by omega) (by omega) w).mono fun e w' ⟨h, n, hw⟩ => by
    subst hw
    refine ⟨?_, Below.drewN (Below.refl _ _) n⟩
    rw [h]
    simp
theorem with_b (x d : Nat) (w : World) (hx : x < 65536) (hd : d < 16777216) : Calls Tryd.prog 50 #[.int .u64 (x : Int), .int .i64 16, .int .i64 24, .int .u64 (d : Int)] w fun e w' => e = .returned (.tuple #[.int .u64 ((x + d * 65536 : Nat) : Int), .int .i64 0]) ∧ Below w.heap.size w w' :=
  (with_ok x 16 24 d (by omega) (by omega) (by omega) (by omega) w).mono fun e w' ⟨h, n, hw⟩ => by
    subst hw
    refine ⟨?_, Below.drewN (Below.refl _ _) n⟩
    rw [h, show x / 2 ^ 16 % 2 ^ 24 = 0 by omega]
    simp
theorem with_c (x k : Nat) (w : World) (hx : x < 1099511627776) (hk : k < 65536) : Calls Tryd.prog 50 #[.int .u64 (x : Int), .int .i64 40, .int .i64 16, .int .u64 (k : Int)] w fun e w' => e = .returned (.tuple #[.int .u64 ((x + k * 1099511627776 : Nat) : Int), .int .i64 0]) ∧ Below w.heap.size w w' :=
  (with_ok x 40 16 k (by omega) (by omega) (by omega) (by omega) w).mono fun e w' ⟨h, n, hw⟩ => by
    subst hw
    refine ⟨?_, Below.drewN (Below.refl _ _) n⟩
    rw [h, show x / 2 ^ 40 % 2 ^ 16 = 0 by omega]
    simp
/-- An extent's word. -/
def packN (f d k : Nat) : Nat := f + d * 65536 + k * 1099511627776
set_option maxRecDepth 100000 in
set_option maxHeartbeats 8000000 in
theorem pack_any (f d k g : Nat) (w : World) (hs : Start w) (hr : RowL w g 3 [.int .i64 (f : Int), .int .i64 (d : Int), .int .i64 (k : Int)]) (hb : f < 65536 ∧ d < 16777216 ∧ k < 65536) : Calls Tryd.prog 40 #[.slice (some ⟨g, 0, none⟩) 3 3] w fun e w' => e = .returned (.int .u64 (packN f d k : Int)) ∧ Below w.heap.size w w' := by
  have q := Below.refl w.heap.size w
  obtain ⟨c0, c1, c2, hp⟩ := hs
  refine X.fn Tryd.func40 rfl (n := 32) rfl rfl ?_
  refine CC.seq ?_
  refine CC.region ?_
  refine LL.val (R.assign rfl rfl) rfl rfl rfl ?_
  refine LL.nilS ?_
  refine CC.seq ?_
  refine CC.region ?_
  refine LL.val (R.assign rfl rfl) rfl rfl rfl ?_
  refine LL.val (R.assign rfl rfl) rfl rfl rfl ?_
  refine LL.nilS ?_
  refine CC.seq ?_
  refine CC.seq ?_
  refine CC.region ?_
  refine LL.val (R.move rfl rfl) rfl rfl rfl ?_
  refine LL.val (R.len rfl rfl rfl rfl) rfl rfl rfl ?_
  refine LL.val (R.move rfl rfl) rfl rfl rfl ?_
  refine LL.nilS ?_
  refine CC.block ?_
  refine CC.loopN 6 ?_
  refine RN.step ?_
  refine CC.seq ?_
  refine CC.region ?_
  refine LL.val (R.ltT rfl rfl rfl (by omega)) rfl rfl rfl ?_
  refine LL.nilS ?_
  refine CC.seq ?_
  refine CC.yes rfl ?_
  refine CC.skip ?_
  refine EE.thenN ?_
  refine CC.seq ?_
  refine CC.block ?_
  refine CC.seq ?_
  refine CC.region ?_
  refine LL.val (R.move rfl rfl) rfl rfl rfl ?_
  refine LL.val (R.index rfl rfl rfl (I.ixS1c rfl rfl (by omega))) rfl rfl rfl ?_
  refine LL.val (R.load rfl rfl (I.ld1 rfl (RowL.cell hr rfl))) rfl rfl rfl ?_
  refine LL.val (R.assign rfl rfl) rfl rfl rfl ?_
  refine LL.val (R.assign rfl rfl) rfl rfl rfl ?_
  refine LL.nilS ?_
  refine CC.seq ?_
  refine CC.region ?_
  refine LL.val (R.move rfl rfl) rfl rfl rfl ?_
  refine LL.val (R.move rfl rfl) rfl rfl rfl ?_
  refine LL.val (R.move rfl rfl) rfl rfl rfl ?_
  refine LL.val (R.index rfl rfl rfl (I.ixA1c rfl rfl (by first | omega | decide))) rfl rfl rfl ?_
  refine LL.val (R.load rfl rfl (I.ld1 rfl (by assumption))) rfl rfl rfl ?_
  refine LL.val (R.move rfl rfl) rfl rfl rfl ?_
  refine LL.val (R.convI rfl rfl rfl rfl (wrapU (by omega) (by omega))) rfl rfl rfl ?_
  refine LL.call (R.call rfl rfl rfl) rfl rfl rfl (with_a _ _ (by first | assumption | omega)) ?_
  rintro e W2 ⟨rfl, b1⟩
  refine ⟨_, rfl, ?_⟩
  have zb1 := b1.size
  replace hr := hr.up b1
  replace q := q.trans (b1.mono q.size)
  replace c0 := cell_up c0 b1
  replace c1 := cell_up c1 b1
  replace c2 := cell_up c2 b1
  refine LL.val (R.move rfl rfl) rfl rfl rfl ?_
  refine LL.val (R.extract rfl rfl rfl) rfl rfl rfl ?_
  refine LL.val (R.extract rfl rfl rfl) rfl rfl rfl ?_
  refine LL.val (R.assign rfl rfl) rfl rfl rfl ?_
  refine LL.nilS ?_
  refine CC.region ?_
  refine LL.val (R.move rfl rfl) rfl rfl rfl ?_
  refine LL.val (R.move rfl rfl) rfl rfl rfl ?_
  refine LL.val (R.index rfl rfl rfl (I.ixA1c rfl rfl (by first | omega | decide))) rfl rfl rfl ?_
  refine LL.val (R.load rfl rfl (I.ld1 rfl (by assumption))) rfl rfl rfl ?_
  refine LL.val (R.addIz (z := 16) rfl rfl rfl (by decide) (by decide)) rfl rfl rfl ?_
  refine LL.val (R.assign rfl rfl) rfl rfl rfl ?_
  refine LL.nil ?_
  refine EE.inN ?_
  refine EE.thenN ?_
  refine CC.region ?_
  refine LL.val (R.addIz (z := 1) rfl rfl rfl (by decide) (by decide)) rfl rfl rfl ?_
  refine LL.val (R.move rfl rfl) rfl rfl rfl ?_
  refine LL.nil ?_
  refine EE.again ?_
  refine RN.step ?_
  refine CC.seq ?_
  refine CC.region ?_
  refine LL.val (R.ltT rfl rfl rfl (by omega)) rfl rfl rfl ?_
  refine LL.nilS ?_
  refine CC.seq ?_
  refine CC.yes rfl ?_
  refine CC.skip ?_
  refine EE.thenN ?_
  refine CC.seq ?_
  refine CC.block ?_
  refine CC.seq ?_
  refine CC.region ?_
  refine LL.val (R.move rfl rfl) rfl rfl rfl ?_
  refine LL.val (R.index rfl rfl rfl (I.ixS1c rfl rfl (by omega))) rfl rfl rfl ?_
  refine LL.val (R.load rfl rfl (I.ld1 rfl (RowL.cell hr rfl))) rfl rfl rfl ?_
  refine LL.val (R.assign rfl rfl) rfl rfl rfl ?_
  refine LL.val (R.assign rfl rfl) rfl rfl rfl ?_
  refine LL.nilS ?_
  refine CC.seq ?_
  refine CC.region ?_
  refine LL.val (R.move rfl rfl) rfl rfl rfl ?_
  refine LL.val (R.move rfl rfl) rfl rfl rfl ?_
  refine LL.val (R.move rfl rfl) rfl rfl rfl ?_
  refine LL.val (R.index rfl rfl rfl (I.ixA1c rfl rfl (by first | omega | decide))) rfl rfl rfl ?_
  refine LL.val (R.load rfl rfl (I.ld1 rfl (by assumption))) rfl rfl rfl ?_
  refine LL.val (R.move rfl rfl) rfl rfl rfl ?_
  refine LL.val (R.convI rfl rfl rfl rfl (wrapU (by omega) (by omega))) rfl rfl rfl ?_
  refine LL.call (R.call rfl rfl rfl) rfl rfl rfl (with_b _ _ _ (by first | assumption | omega) (by first | assumption | omega)) ?_
  rintro e W5 ⟨rfl, b4⟩
  refine ⟨_, rfl, ?_⟩
  have zb4 := b4.size
  replace b1 := b1.trans (b4.mono b1.size)
  replace hr := hr.up b4
  replace q := q.trans (b4.mono q.size)
  replace c0 := cell_up c0 b4
  replace c1 := cell_up c1 b4
  replace c2 := cell_up c2 b4
  refine LL.val (R.move rfl rfl) rfl rfl rfl ?_
  refine LL.val (R.extract rfl rfl rfl) rfl rfl rfl ?_
  refine LL.val (R.extract rfl rfl rfl) rfl rfl rfl ?_
  refine LL.val (R.assign rfl rfl) rfl rfl rfl ?_
  refine LL.nilS ?_
  refine CC.region ?_
  refine LL.val (R.move rfl rfl) rfl rfl rfl ?_
  refine LL.val (R.move rfl rfl) rfl rfl rfl ?_
  refine LL.val (R.index rfl rfl rfl (I.ixA1c rfl rfl (by first | omega | decide))) rfl rfl rfl ?_
  refine LL.val (R.load rfl rfl (I.ld1 rfl (by assumption))) rfl rfl rfl ?_
  refine LL.val (R.addIz (z := 40) rfl rfl rfl (by decide) (by decide)) rfl rfl rfl ?_
  refine LL.val (R.assign rfl rfl) rfl rfl rfl ?_
  refine LL.nil ?_
  refine EE.inN ?_
  refine EE.thenN ?_
  refine CC.region ?_
  refine LL.val (R.addIz (z := 2) rfl rfl rfl (by decide) (by decide)) rfl rfl rfl ?_
  refine LL.val (R.move rfl rfl) rfl rfl rfl ?_
  refine LL.nil ?_
  refine EE.again ?_
  refine RN.step ?_
  refine CC.seq ?_
  refine CC.region ?_
  refine LL.val (R.ltT rfl rfl rfl (by omega)) rfl rfl rfl ?_
  refine LL.nilS ?_
  refine CC.seq ?_
  refine CC.yes rfl ?_
  refine CC.skip ?_
  refine EE.thenN ?_
  refine CC.seq ?_
  refine CC.block ?_
  refine CC.seq ?_
  refine CC.region ?_
  refine LL.val (R.move rfl rfl) rfl rfl rfl ?_
  refine LL.val (R.index rfl rfl rfl (I.ixS1c rfl rfl (by omega))) rfl rfl rfl ?_
  refine LL.val (R.load rfl rfl (I.ld1 rfl (RowL.cell hr rfl))) rfl rfl rfl ?_
  refine LL.val (R.assign rfl rfl) rfl rfl rfl ?_
  refine LL.val (R.assign rfl rfl) rfl rfl rfl ?_
  refine LL.nilS ?_
  refine CC.seq ?_
  refine CC.region ?_
  refine LL.val (R.move rfl rfl) rfl rfl rfl ?_
  refine LL.val (R.move rfl rfl) rfl rfl rfl ?_
  refine LL.val (R.move rfl rfl) rfl rfl rfl ?_
  refine LL.val (R.index rfl rfl rfl (I.ixA1c rfl rfl (by first | omega | decide))) rfl rfl rfl ?_
  refine LL.val (R.load rfl rfl (I.ld1 rfl (by assumption))) rfl rfl rfl ?_
  refine LL.val (R.move rfl rfl) rfl rfl rfl ?_
  refine LL.val (R.convI rfl rfl rfl rfl (wrapU (by omega) (by omega))) rfl rfl rfl ?_
  refine LL.call (R.call rfl rfl rfl) rfl rfl rfl (with_c _ _ _ (by first | assumption | omega) (by first | assumption | omega)) ?_
  rintro e W8 ⟨rfl, b7⟩
  refine ⟨_, rfl, ?_⟩
  have zb7 := b7.size
  replace b4 := b4.trans (b7.mono b4.size)
  replace b1 := b1.trans (b7.mono b1.size)
  replace hr := hr.up b7
  replace q := q.trans (b7.mono q.size)
  replace c0 := cell_up c0 b7
  replace c1 := cell_up c1 b7
  replace c2 := cell_up c2 b7
  refine LL.val (R.move rfl rfl) rfl rfl rfl ?_
  refine LL.val (R.extract rfl rfl rfl) rfl rfl rfl ?_
  refine LL.val (R.extract rfl rfl rfl) rfl rfl rfl ?_
  refine LL.val (R.assign rfl rfl) rfl rfl rfl ?_
  refine LL.nilS ?_
  refine CC.region ?_
  refine LL.val (R.move rfl rfl) rfl rfl rfl ?_
  refine LL.val (R.move rfl rfl) rfl rfl rfl ?_
  refine LL.val (R.index rfl rfl rfl (I.ixA1c rfl rfl (by first | omega | decide))) rfl rfl rfl ?_
  refine LL.val (R.load rfl rfl (I.ld1 rfl (by assumption))) rfl rfl rfl ?_
  refine LL.val (R.addIz (z := 56) rfl rfl rfl (by decide) (by decide)) rfl rfl rfl ?_
  refine LL.val (R.assign rfl rfl) rfl rfl rfl ?_
  refine LL.nil ?_
  refine EE.inN ?_
  refine EE.thenN ?_
  refine CC.region ?_
  refine LL.val (R.addIz (z := 3) rfl rfl rfl (by decide) (by decide)) rfl rfl rfl ?_
  refine LL.val (R.move rfl rfl) rfl rfl rfl ?_
  refine LL.nil ?_
  refine EE.again ?_
  refine RN.step ?_
  refine CC.seq ?_
  refine CC.region ?_
  refine LL.val (R.ltF rfl rfl rfl (by omega)) rfl rfl rfl ?_
  refine LL.nilS ?_
  refine CC.seq ?_
  refine CC.no rfl ?_
  refine CC.exit ?_
  refine EE.thenX ?_
  refine EE.thenX ?_
  refine EE.inX ?_
  refine EE.thenN ?_
  refine CC.seq ?_
  refine CC.region ?_
  refine LL.val (R.move rfl rfl) rfl rfl rfl ?_
  refine LL.val (R.assign rfl rfl) rfl rfl rfl ?_
  refine LL.nilS ?_
  refine CC.ret ?_
  refine EE.ret _ rfl rfl ?_
  exact ⟨rfl, q⟩
--C words_Field | {1=0} fld_a _ @w @p | S
theorem fld_a (x : Nat) (w : World) (hx : x < 18446744073709551616) : Calls Tryd.prog 51 #[.int .u64 (x : Int), .int .i64 0, .int .i64 16] w fun e w' => e = .returned (.tuple #[.int .u64 ((x % 65536 : Nat) : Int), .int .i64 0]) ∧ w = w' := by
  have h := field_ok x 0 16 hx (by omega) (by omega) w
  rw [show x / 2 ^ 0 % 2 ^ 16 = x % 65536 by simp] at h
  exact h
theorem fld_b (x : Nat) (w : World) (hx : x < 18446744073709551616) : Calls Tryd.prog 51 #[.int .u64 (x : Int), .int .i64 16, .int .i64 24] w fun e w' => e = .returned (.tuple #[.int .u64 ((x / 65536 % 16777216 : Nat) : Int), .int .i64 0]) ∧ w = w' := by
  have h := field_ok x 16 24 hx (by omega) (by omega) w
  rw [show x / 2 ^ 16 % 2 ^ 24 = x / 65536 % 16777216 by simp] at h
  exact h
theorem fld_c (x : Nat) (w : World) (hx : x < 18446744073709551616) : Calls Tryd.prog 51 #[.int .u64 (x : Int), .int .i64 40, .int .i64 16] w fun e w' => e = .returned (.tuple #[.int .u64 ((x / 1099511627776 % 65536 : Nat) : Int), .int .i64 0]) ∧ w = w' := by
  have h := field_ok x 40 16 hx (by omega) (by omega) w
  rw [show x / 2 ^ 40 % 2 ^ 16 = x / 1099511627776 % 65536 by simp] at h
  exact h
/-- The extent that a word tells. -/
def unpE (x : Nat) : Ex := (((x % 65536 : Nat) : Int), ((x / 65536 % 16777216 : Nat) : Int), ((x / 1099511627776 % 65536 : Nat) : Int))
set_option maxRecDepth 100000 in
set_option maxHeartbeats 8000000 in
theorem unpack_any (x : Nat) (w : World) (hs : Start w) (hx : x < 18446744073709551616) : Calls Tryd.prog 42 #[.int .u64 (x : Int)] w fun e w' => e = .returned (exV (unpE x)) ∧ Below w.heap.size w w' := by
  have q := Below.refl w.heap.size w
  have hG := hs.cells
  obtain ⟨c0, c1, c2, hp⟩ := hs
  refine X.fn Tryd.func42 rfl (n := 36) rfl rfl ?_
  refine CC.seq ?_
  refine CC.region ?_
  refine LL.alloc ([Value.int IntKind.i64 0, Value.int IntKind.i64 0, Value.int IntKind.i64 0]) rfl rfl rfl rfl rfl ?_
  intro W2 g3 eg3 r4 z5 b1
  replace q := q.trans (b1.mono q.size)
  replace hG := hG.up b1
  replace c0 := cell_up c0 b1
  replace c1 := cell_up c1 b1
  replace c2 := cell_up c2 b1
  refine LL.nilS ?_
  refine CC.seq ?_
  refine CC.region ?_
  have l6 := r4.lt
  refine LL.alloc ([Value.int IntKind.i64 0, Value.int IntKind.i64 0, Value.int IntKind.i64 0]) rfl rfl rfl rfl rfl ?_
  intro W8 g9 eg9 r10 z11 b7
  replace r4 := r4.up b7
  replace b1 := b1.trans (b7.mono b1.size)
  replace q := q.trans (b7.mono q.size)
  replace hG := hG.up b7
  replace c0 := cell_up c0 b7
  replace c1 := cell_up c1 b7
  replace c2 := cell_up c2 b7
  refine LL.nilS ?_
  refine CC.seq ?_
  refine CC.region ?_
  refine LL.val (R.assign rfl rfl) rfl rfl rfl ?_
  refine LL.nilS ?_
  refine CC.seq ?_
  refine CC.seq ?_
  refine CC.region ?_
  refine LL.val (R.load rfl rfl (I.ldNc (by assumption) rfl rfl)) rfl rfl rfl ?_
  refine LL.val (R.move rfl rfl) rfl rfl rfl ?_
  refine LL.nilS ?_
  refine CC.block ?_
  refine CC.loopN 6 ?_
  refine RN.step ?_
  refine CC.seq ?_
  refine CC.region ?_
  refine LL.val (R.ltT rfl rfl rfl (by omega)) rfl rfl rfl ?_
  refine LL.nilS ?_
  refine CC.seq ?_
  refine CC.yes rfl ?_
  refine CC.skip ?_
  refine EE.thenN ?_
  refine CC.seq ?_
  refine CC.block ?_
  refine CC.seq ?_
  refine CC.region ?_
  refine LL.val (R.move rfl rfl) rfl rfl rfl ?_
  refine LL.val (R.ixVc rfl rfl rfl rfl rfl rfl rfl rfl) rfl rfl rfl ?_
  refine LL.val (R.assign rfl rfl) rfl rfl rfl ?_
  refine LL.val (R.assign rfl rfl) rfl rfl rfl ?_
  refine LL.nilS ?_
  refine CC.seq ?_
  refine CC.region ?_
  refine LL.val (R.move rfl rfl) rfl rfl rfl ?_
  refine LL.val (R.move rfl rfl) rfl rfl rfl ?_
  refine LL.val (R.move rfl rfl) rfl rfl rfl ?_
  refine LL.call (R.call rfl rfl rfl) rfl rfl rfl (fld_a _ _ (by first | assumption | omega)) ?_
  rintro e W' ⟨rfl, rfl⟩
  refine ⟨_, rfl, ?_⟩
  refine LL.val (R.move rfl rfl) rfl rfl rfl ?_
  refine LL.val (R.extract rfl rfl rfl) rfl rfl rfl ?_
  refine LL.val (R.extract rfl rfl rfl) rfl rfl rfl ?_
  refine LL.val (R.assign rfl rfl) rfl rfl rfl ?_
  refine LL.val (R.assign rfl rfl) rfl rfl rfl ?_
  refine LL.nilS ?_
  refine CC.seq ?_
  refine CC.region ?_
  refine LL.val (R.move rfl rfl) rfl rfl rfl ?_
  refine LL.val (R.move rfl rfl) rfl rfl rfl ?_
  refine LL.val (R.convI rfl rfl rfl rfl (wrapI (by omega) (by omega))) rfl rfl rfl ?_
  refine LL.val (R.index rfl rfl rfl (I.ixA1c rfl rfl (by first | omega | decide))) rfl rfl rfl ?_
  refine LL.store rfl rfl rfl rfl r10 (by exact Nat.le_of_ble_eq_true rfl) rfl rfl rfl rfl ?_
  intro W13 r14 b12 z15
  have hlb12 := r10.lt
  replace r14 : RowL W13 _ 88 [Value.int IntKind.i64 ↑(x % 65536), Value.int IntKind.i64 0, Value.int IntKind.i64 0] := r14
  clear r10
  replace b7 := b7.grown b12 b7.size (by rintro k ⟨⟩; omega)
  replace r4 := r4.gr b12 (by have := r4.lt; omega)
  replace b1 := b1.grown b12 b1.size (by rintro k ⟨⟩; omega)
  replace q := q.grown b12 q.size (by rintro k ⟨⟩; omega)
  replace hG := hG.gr b12 (by omega)
  replace c0 := cell_gr c0 b12 (by omega)
  replace c1 := cell_gr c1 b12 (by omega)
  replace c2 := cell_gr c2 b12 (by omega)
  have r10 := r14
  clear r14
  refine LL.nilS ?_
  refine CC.region ?_
  refine LL.val (R.move rfl rfl) rfl rfl rfl ?_
  refine LL.val (R.move rfl rfl) rfl rfl rfl ?_
  refine LL.val (R.addIz (z := 16) rfl rfl rfl (by decide) (by decide)) rfl rfl rfl ?_
  refine LL.val (R.assign rfl rfl) rfl rfl rfl ?_
  refine LL.nil ?_
  refine EE.inN ?_
  refine EE.thenN ?_
  refine CC.region ?_
  refine LL.val (R.addIz (z := 1) rfl rfl rfl (by decide) (by decide)) rfl rfl rfl ?_
  refine LL.val (R.move rfl rfl) rfl rfl rfl ?_
  refine LL.nil ?_
  refine EE.again ?_
  refine RN.step ?_
  refine CC.seq ?_
  refine CC.region ?_
  refine LL.val (R.ltT rfl rfl rfl (by omega)) rfl rfl rfl ?_
  refine LL.nilS ?_
  refine CC.seq ?_
  refine CC.yes rfl ?_
  refine CC.skip ?_
  refine EE.thenN ?_
  refine CC.seq ?_
  refine CC.block ?_
  refine CC.seq ?_
  refine CC.region ?_
  refine LL.val (R.move rfl rfl) rfl rfl rfl ?_
  refine LL.val (R.ixVc rfl rfl rfl rfl rfl rfl rfl rfl) rfl rfl rfl ?_
  refine LL.val (R.assign rfl rfl) rfl rfl rfl ?_
  refine LL.val (R.assign rfl rfl) rfl rfl rfl ?_
  refine LL.nilS ?_
  refine CC.seq ?_
  refine CC.region ?_
  refine LL.val (R.move rfl rfl) rfl rfl rfl ?_
  refine LL.val (R.move rfl rfl) rfl rfl rfl ?_
  refine LL.val (R.move rfl rfl) rfl rfl rfl ?_
  refine LL.call (R.call rfl rfl rfl) rfl rfl rfl (fld_b _ _ (by first | assumption | omega)) ?_
  rintro e W' ⟨rfl, rfl⟩
  refine ⟨_, rfl, ?_⟩
  refine LL.val (R.move rfl rfl) rfl rfl rfl ?_
  refine LL.val (R.extract rfl rfl rfl) rfl rfl rfl ?_
  refine LL.val (R.extract rfl rfl rfl) rfl rfl rfl ?_
  refine LL.val (R.assign rfl rfl) rfl rfl rfl ?_
  refine LL.val (R.assign rfl rfl) rfl rfl rfl ?_
  refine LL.nilS ?_
  refine CC.seq ?_
  refine CC.region ?_
  refine LL.val (R.move rfl rfl) rfl rfl rfl ?_
  refine LL.val (R.move rfl rfl) rfl rfl rfl ?_
  refine LL.val (R.convI rfl rfl rfl rfl (wrapI (by omega) (by omega))) rfl rfl rfl ?_
  refine LL.val (R.index rfl rfl rfl (I.ixA1c rfl rfl (by first | omega | decide))) rfl rfl rfl ?_
  refine LL.store rfl rfl rfl rfl r10 (by exact Nat.le_of_ble_eq_true rfl) rfl rfl rfl rfl ?_
  intro W17 r18 b16 z19
  have hlb16 := r10.lt
  replace r18 : RowL W17 _ 88 [Value.int IntKind.i64 ↑(x % 65536), Value.int IntKind.i64 ↑(x / 65536 % 16777216), Value.int IntKind.i64 0] := r18
  clear r10
  replace b7 := b7.grown b16 b7.size (by rintro k ⟨⟩; omega)
  replace r4 := r4.gr b16 (by have := r4.lt; omega)
  replace b1 := b1.grown b16 b1.size (by rintro k ⟨⟩; omega)
  replace q := q.grown b16 q.size (by rintro k ⟨⟩; omega)
  replace hG := hG.gr b16 (by omega)
  replace c0 := cell_gr c0 b16 (by omega)
  replace c1 := cell_gr c1 b16 (by omega)
  replace c2 := cell_gr c2 b16 (by omega)
  have r10 := r18
  clear r18
  refine LL.nilS ?_
  refine CC.region ?_
  refine LL.val (R.move rfl rfl) rfl rfl rfl ?_
  refine LL.val (R.move rfl rfl) rfl rfl rfl ?_
  refine LL.val (R.addIz (z := 40) rfl rfl rfl (by decide) (by decide)) rfl rfl rfl ?_
  refine LL.val (R.assign rfl rfl) rfl rfl rfl ?_
  refine LL.nil ?_
  refine EE.inN ?_
  refine EE.thenN ?_
  refine CC.region ?_
  refine LL.val (R.addIz (z := 2) rfl rfl rfl (by decide) (by decide)) rfl rfl rfl ?_
  refine LL.val (R.move rfl rfl) rfl rfl rfl ?_
  refine LL.nil ?_
  refine EE.again ?_
  refine RN.step ?_
  refine CC.seq ?_
  refine CC.region ?_
  refine LL.val (R.ltT rfl rfl rfl (by omega)) rfl rfl rfl ?_
  refine LL.nilS ?_
  refine CC.seq ?_
  refine CC.yes rfl ?_
  refine CC.skip ?_
  refine EE.thenN ?_
  refine CC.seq ?_
  refine CC.block ?_
  refine CC.seq ?_
  refine CC.region ?_
  refine LL.val (R.move rfl rfl) rfl rfl rfl ?_
  refine LL.val (R.ixVc rfl rfl rfl rfl rfl rfl rfl rfl) rfl rfl rfl ?_
  refine LL.val (R.assign rfl rfl) rfl rfl rfl ?_
  refine LL.val (R.assign rfl rfl) rfl rfl rfl ?_
  refine LL.nilS ?_
  refine CC.seq ?_
  refine CC.region ?_
  refine LL.val (R.move rfl rfl) rfl rfl rfl ?_
  refine LL.val (R.move rfl rfl) rfl rfl rfl ?_
  refine LL.val (R.move rfl rfl) rfl rfl rfl ?_
  refine LL.call (R.call rfl rfl rfl) rfl rfl rfl (fld_c _ _ (by first | assumption | omega)) ?_
  rintro e W' ⟨rfl, rfl⟩
  refine ⟨_, rfl, ?_⟩
  refine LL.val (R.move rfl rfl) rfl rfl rfl ?_
  refine LL.val (R.extract rfl rfl rfl) rfl rfl rfl ?_
  refine LL.val (R.extract rfl rfl rfl) rfl rfl rfl ?_
  refine LL.val (R.assign rfl rfl) rfl rfl rfl ?_
  refine LL.val (R.assign rfl rfl) rfl rfl rfl ?_
  refine LL.nilS ?_
  refine CC.seq ?_
  refine CC.region ?_
  refine LL.val (R.move rfl rfl) rfl rfl rfl ?_
  refine LL.val (R.move rfl rfl) rfl rfl rfl ?_
  refine LL.val (R.convI rfl rfl rfl rfl (wrapI (by omega) (by omega))) rfl rfl rfl ?_
  refine LL.val (R.index rfl rfl rfl (I.ixA1c rfl rfl (by first | omega | decide))) rfl rfl rfl ?_
  refine LL.store rfl rfl rfl rfl r10 (by exact Nat.le_of_ble_eq_true rfl) rfl rfl rfl rfl ?_
  intro W21 r22 b20 z23
  have hlb20 := r10.lt
  replace r22 : RowL W21 _ 88 [Value.int IntKind.i64 ↑(x % 65536), Value.int IntKind.i64 ↑(x / 65536 % 16777216), Value.int IntKind.i64 ↑(x / 1099511627776 % 65536)] := r22
  clear r10
  replace b7 := b7.grown b20 b7.size (by rintro k ⟨⟩; omega)
  replace r4 := r4.gr b20 (by have := r4.lt; omega)
  replace b1 := b1.grown b20 b1.size (by rintro k ⟨⟩; omega)
  replace q := q.grown b20 q.size (by rintro k ⟨⟩; omega)
  replace hG := hG.gr b20 (by omega)
  replace c0 := cell_gr c0 b20 (by omega)
  replace c1 := cell_gr c1 b20 (by omega)
  replace c2 := cell_gr c2 b20 (by omega)
  have r10 := r22
  clear r22
  refine LL.nilS ?_
  refine CC.region ?_
  refine LL.val (R.move rfl rfl) rfl rfl rfl ?_
  refine LL.val (R.move rfl rfl) rfl rfl rfl ?_
  refine LL.val (R.addIz (z := 56) rfl rfl rfl (by decide) (by decide)) rfl rfl rfl ?_
  refine LL.val (R.assign rfl rfl) rfl rfl rfl ?_
  refine LL.nil ?_
  refine EE.inN ?_
  refine EE.thenN ?_
  refine CC.region ?_
  refine LL.val (R.addIz (z := 3) rfl rfl rfl (by decide) (by decide)) rfl rfl rfl ?_
  refine LL.val (R.move rfl rfl) rfl rfl rfl ?_
  refine LL.nil ?_
  refine EE.again ?_
  refine RN.step ?_
  refine CC.seq ?_
  refine CC.region ?_
  refine LL.val (R.ltF rfl rfl rfl (by omega)) rfl rfl rfl ?_
  refine LL.nilS ?_
  refine CC.seq ?_
  refine CC.no rfl ?_
  refine CC.exit ?_
  refine EE.thenX ?_
  refine EE.thenX ?_
  refine EE.inX ?_
  refine EE.thenN ?_
  refine CC.seq ?_
  refine CC.region ?_
  refine LL.val (R.index rfl rfl rfl (I.ixA1c rfl rfl (by first | omega | decide))) rfl rfl rfl ?_
  refine LL.val (R.load rfl rfl (I.ld1 rfl (RowL.cell r10 rfl))) rfl rfl rfl ?_
  refine LL.val (R.index rfl rfl rfl (I.ixA1c rfl rfl (by first | omega | decide))) rfl rfl rfl ?_
  refine LL.val (R.load rfl rfl (I.ld1 rfl (RowL.cell r10 rfl))) rfl rfl rfl ?_
  refine LL.val (R.index rfl rfl rfl (I.ixA1c rfl rfl (by first | omega | decide))) rfl rfl rfl ?_
  refine LL.val (R.load rfl rfl (I.ld1 rfl (RowL.cell r10 rfl))) rfl rfl rfl ?_
  refine LL.val (R.buildV rfl rfl (v := .agg #[Value.int IntKind.i64 ↑(x % 65536), Value.int IntKind.i64 ↑(x / 65536 % 16777216), Value.int IntKind.i64 ↑(x / 1099511627776 % 65536)]) (fun _ => by kernel_rfl)) rfl rfl rfl ?_
  refine LL.storeN (vs := [Value.int IntKind.i64 ↑(x % 65536), Value.int IntKind.i64 ↑(x / 65536 % 16777216), Value.int IntKind.i64 ↑(x / 1099511627776 % 65536)]) rfl rfl rfl rfl r4 (by exact Nat.le_of_ble_eq_true rfl) (ones_of rfl) rfl rfl ?_
  intro W25 r26 b24 z27
  have hlb24 := r4.lt
  replace r26 : RowL W25 _ 41 [Value.int IntKind.i64 ↑(x % 65536), Value.int IntKind.i64 ↑(x / 65536 % 16777216), Value.int IntKind.i64 ↑(x / 1099511627776 % 65536)] := r26
  clear r4
  replace b1 := b1.grown b24 b1.size (by rintro k ⟨⟩; omega)
  replace q := q.grown b24 q.size (by rintro k ⟨⟩; omega)
  replace hG := hG.gr b24 (by omega)
  replace c0 := cell_gr c0 b24 (by omega)
  replace c1 := cell_gr c1 b24 (by omega)
  replace c2 := cell_gr c2 b24 (by omega)
  replace r10 := r10.gr b24 (by have := r10.lt; omega)
  have r4 := r26
  clear r26
  refine LL.nilS ?_
  refine CC.ret ?_
  refine EE.retC rfl rfl (lvNc (RowL.cells0 (by assumption)) (by rfl) (by rfl)) ?_
  exact ⟨rfl, q⟩
/-- A map's words. -/
def pkZ (x : Ex) : Int := x.1 + x.2.1 * 65536 + x.2.2 * 1099511627776
def wrdZ (l : List Ex) : List Int := l.map pkZ ++ List.replicate (10 - l.length) 0
theorem wrdZ_len {l : List Ex} (h : l.length ≤ 10) : (wrdZ l).length = 10 := by simp [wrdZ]; omega
theorem wrdZ_set {l : List Ex} {i : Nat} {x : Ex} (hl : l.length ≤ 10) (hx : l[i]? = some x) : (wrdZ (l.take i)).set i (pkZ x) = wrdZ (l.take (i + 1)) := by
  have hi := (List.getElem?_eq_some_iff.1 hx).1
  unfold wrdZ
  have e1 : (l.take i).length = i := by simp; omega
  have e2 : (l.take (i + 1)).length = i + 1 := by simp; omega
  rw [e1, e2, List.set_append_right _ _ (by simp; omega), List.length_map, e1, Nat.sub_self, show 10 - i = (10 - (i + 1)) + 1 by omega, List.replicate_succ, List.set_cons_zero, List.take_add_one, hx]
  simp
theorem pkZ_nat {x : Ex} (h : mayE x) : ∃ f d k : Nat, x = ((f : Int), (d : Int), (k : Int)) ∧ f < 65536 ∧ d < 16777216 ∧ k < 65536 := by
  unfold mayE at h
  refine ⟨x.1.toNat, x.2.1.toNat, x.2.2.toNat, ?_, by omega, by omega, by omega⟩
  obtain ⟨a, b, c⟩ := x
  simp only at h
  refine Prod.ext ?_ (Prod.ext ?_ ?_) <;> simp only <;> omega
abbrev wdV (ws : List Int) : Value := .agg (intsZ .u64 ws).toArray
set_option maxRecDepth 100000 in
set_option maxHeartbeats 8000000 in
theorem words_F (l : List Ex) (v : Value) (w : World) (hv : ReadsT eE 3 w v l) (hlen : l.length ≤ 1048576) (h : ¬vL l) : Calls Tryd.prog 24 #[v] w fun e w' => e = .returned (.tuple #[wdV (List.replicate 10 0), .int .i64 2]) ∧ Below w.heap.size w w' := by
  have q := Below.refl w.heap.size w
  refine X.fn Tryd.func24 rfl (n := 30) rfl rfl ?_
  refine CC.seq ?_
  refine CC.region ?_
  refine LL.alloc (intsZ .u64 (List.replicate 10 0)) rfl rfl rfl rfl rfl ?_
  intro W2 g3 eg3 r4 z5 b1
  replace hv := hv.up b1
  replace q := q.trans (b1.mono q.size)
  refine LL.val (R.assign rfl rfl) rfl rfl rfl ?_
  refine LL.nilS ?_
  refine CC.seq ?_
  refine CC.region ?_
  have l6 := r4.lt
  refine LL.alloc (intsZ .u64 (List.replicate 10 0)) rfl rfl rfl rfl rfl ?_
  intro W8 g9 eg9 r10 z11 b7
  replace r4 := r4.up b7
  replace b1 := b1.trans (b7.mono b1.size)
  replace hv := hv.up b7
  replace q := q.trans (b7.mono q.size)
  refine LL.nilS ?_
  refine CC.seq ?_
  refine CC.seq ?_
  refine CC.region ?_
  refine LL.val (R.move rfl rfl) rfl rfl rfl ?_
  refine LL.call (R.call rfl rfl rfl) rfl rfl rfl (check_F _ _ _ (by first | assumption | omega) (by first | assumption | omega) (by first | assumption | omega)) ?_
  rintro e W13 ⟨rfl, b12⟩
  refine ⟨_, rfl, ?_⟩
  have zb12 := b12.size
  replace r10 := r10.up b12
  replace b7 := b7.trans (b12.mono b7.size)
  replace r4 := r4.up b12
  replace b1 := b1.trans (b12.mono b1.size)
  replace hv := hv.up b12
  replace q := q.trans (b12.mono q.size)
  refine LL.val (R.neT rfl rfl rfl (by omega)) rfl rfl rfl ?_
  refine LL.nilS ?_
  refine CC.yes rfl ?_
  refine CC.seq ?_
  refine CC.region ?_
  refine LL.val (R.loadZ rfl rfl r10 rfl rfl (by first | assumption | exact List.length_replicate | exact plL_len _ | exact plOf_len _ | simp)) rfl rfl rfl ?_
  refine LL.storeAZ rfl rfl rfl rfl (by first | assumption | exact List.length_replicate | exact plL_len _ | exact plOf_len _ | simp) r4 (by first | (rw [List.length_map]; exact (by first | assumption | exact List.length_replicate | exact plL_len _ | exact plOf_len _ | simp)) | simp) rfl rfl ?_
  intro W16 r17 b15 z18
  have hlb15 := r4.lt
  replace r17 : RowL W16 _ 53 [(fun z => Value.int IntKind.u64 z) 0, (fun z => Value.int IntKind.u64 z) 0, (fun z => Value.int IntKind.u64 z) 0, (fun z => Value.int IntKind.u64 z) 0, (fun z => Value.int IntKind.u64 z) 0, (fun z => Value.int IntKind.u64 z) 0, (fun z => Value.int IntKind.u64 z) 0, (fun z => Value.int IntKind.u64 z) 0, (fun z => Value.int IntKind.u64 z) 0, (fun z => Value.int IntKind.u64 z) 0] := r17
  clear r4
  replace r10 := r10.gr b15 (by have := r10.lt; omega)
  replace b1 := b1.grown b15 b1.size (by rintro k ⟨⟩; omega)
  replace q := q.grown b15 q.size (by rintro k ⟨⟩; omega)
  have r4 := r17
  clear r17
  refine LL.val (R.assign rfl rfl) rfl rfl rfl ?_
  refine LL.nilS ?_
  refine CC.ret ?_
  refine EE.thenR ?_
  refine EE.ret2 rfl ⟨_, rfl, lvNc (RowL.cells0 (by assumption)) (by rfl) (by rfl)⟩ rfl ?_
  exact ⟨rfl, q⟩
set_option maxRecDepth 100000 in
set_option maxHeartbeats 8000000 in
theorem words_T (l : List Ex) (v : Value) (w : World) (hs : Start w) (hv : ReadsT eE 3 w v l) (h : vL l) : Calls Tryd.prog 24 #[v] w fun e w' => e = .returned (.tuple #[wdV (wrdZ l), .int .i64 0]) ∧ Below w.heap.size w w' := by
  have q := Below.refl w.heap.size w
  have hlen : l.length ≤ 1048576 := by have := h.1; omega
  obtain ⟨N, hN⟩ : ∃ N, l.length = N := ⟨_, rfl⟩
  have hN10 : N ≤ 10 := by have := h.1; omega
  obtain ⟨a, cap, rfl, hcap⟩ := hv.form hN
  have hvF : ∀ W, Below w.heap.size w W → ReadsT eE 3 W (.slice a N cap) l := fun W hb => hv.up hb
  have hp := hs.pos
  have hsF : ∀ W, Below w.heap.size w W → Start W := fun W hb => hs.up hb
  clear hs
  refine X.fn Tryd.func24 rfl (n := 30) rfl rfl ?_
  refine CC.seq ?_
  refine CC.region ?_
  refine LL.alloc (intsZ .u64 (List.replicate 10 0)) rfl rfl rfl rfl rfl ?_
  intro W2 g3 eg3 r4 z5 b1
  replace q := q.trans (b1.mono q.size)
  replace hv := hv.up b1
  refine LL.val (R.assign rfl rfl) rfl rfl rfl ?_
  refine LL.nilS ?_
  refine CC.seq ?_
  refine CC.region ?_
  have l6 := r4.lt
  refine LL.alloc (intsZ .u64 (List.replicate 10 0)) rfl rfl rfl rfl rfl ?_
  intro W8 g9 eg9 r10 z11 b7
  replace r4 := r4.up b7
  replace b1 := b1.trans (b7.mono b1.size)
  replace q := q.trans (b7.mono q.size)
  replace hv := hv.up b7
  refine LL.nilS ?_
  refine CC.seq ?_
  refine CC.seq ?_
  refine CC.region ?_
  refine LL.val (R.move rfl rfl) rfl rfl rfl ?_
  refine LL.call (R.call rfl rfl rfl) rfl rfl rfl (check_T _ _ _ (by first | assumption | omega) (by first | assumption | omega) (by first | assumption | omega)) ?_
  rintro e W13 ⟨rfl, b12⟩
  refine ⟨_, rfl, ?_⟩
  have zb12 := b12.size
  replace r10 := r10.up b12
  replace b7 := b7.trans (b12.mono b7.size)
  replace r4 := r4.up b12
  replace b1 := b1.trans (b12.mono b1.size)
  replace q := q.trans (b12.mono q.size)
  replace hv := hv.up b12
  refine LL.val (R.neF rfl rfl rfl (by omega)) rfl rfl rfl ?_
  refine LL.nilS ?_
  refine CC.no rfl ?_
  refine CC.skip ?_
  refine EE.thenN ?_
  refine CC.seq ?_
  refine CC.seq ?_
  refine CC.region ?_
  refine LL.val (R.move rfl rfl) rfl rfl rfl ?_
  refine LL.val (R.len rfl rfl rfl rfl) rfl rfl rfl ?_
  refine LL.val (R.move rfl rfl) rfl rfl rfl ?_
  refine LL.nilS ?_
  refine CC.block ?_
  have yq := q.size
  have rc : RowL W13 g9 53 (intsZ .u64 (wrdZ (l.take 0))) := r10
  refine CC.loop (α := Nat) (fun i => [(2, .pointer (some ⟨g3, 0, none⟩)), (4, .pointer (some ⟨g9, 0, none⟩)), (11, .slice a N cap), (12, .int .i64 (N : Int)), (13, .int .i64 (i : Int))]) (fun i W => i ≤ N ∧ Below w.heap.size w W ∧ g9 < W.heap.size ∧ RowL W g3 53 (intsZ .u64 (List.replicate 10 0)) ∧ RowL W g9 53 (intsZ .u64 (wrdZ (l.take i)))) (fun i => N - i) 0 ⟨rfl, rfl, rfl, rfl, rfl, trivial⟩ ⟨by omega, q, rc.lt, r4, rc⟩ ?_
  clear q r4 r10 rc hv
  rintro i W ⟨hi, q, l9, r4, r10⟩
  show CC none Tryd.prog _ 30 [] (sl [(2, .pointer (some ⟨g3, 0, none⟩)), (4, .pointer (some ⟨g9, 0, none⟩)), (11, .slice a N cap), (12, .int .i64 (N : Int)), (13, .int .i64 (i : Int))]) _ W
  have yq := q.size
  have hwl : (wrdZ (l.take i)).length = 10 := wrdZ_len (by simp; omega)
  by_cases hlt : i < N
  case neg =>
    obtain rfl : i = N := by omega
    rw [show l.take i = l from List.take_of_length_le (by omega)] at r10 hwl
    refine CC.seq ?_
    refine CC.region ?_
    refine LL.val (R.ltF rfl rfl rfl (by omega)) rfl rfl rfl ?_
    refine LL.nilS ?_
    refine CC.seq ?_
    refine CC.no rfl ?_
    refine CC.exit ?_
    refine EE.thenX ?_
    refine EE.thenX ?_
    refine EE.inX ?_
    refine EE.thenN ?_
    refine CC.seq ?_
    refine CC.region ?_
    refine LL.val (R.loadZ rfl rfl r10 rfl rfl (by first | assumption | exact List.length_replicate | exact plL_len _ | exact plOf_len _ | simp)) rfl rfl rfl ?_
    refine LL.storeAZ rfl rfl rfl rfl (by first | assumption | exact List.length_replicate | exact plL_len _ | exact plOf_len _ | simp) r4 (by first | (rw [List.length_map]; exact (by first | assumption | exact List.length_replicate | exact plL_len _ | exact plOf_len _ | simp)) | simp) rfl rfl ?_
    intro Wa2 ra3 ba1 za4
    have hlba1 := r4.lt
    clear r4
    replace q := q.grown ba1 q.size (by rintro k ⟨⟩; omega)
    replace r10 := r10.gr ba1 (by have := r10.lt; omega)
    have r4 := ra3
    clear ra3
    refine LL.val (R.assign rfl rfl) rfl rfl rfl ?_
    refine LL.nilS ?_
    refine CC.ret ?_
    refine EE.ret2 rfl ⟨_, rfl, lvZ (by assumption) rfl rfl (by first | assumption | exact List.length_replicate | exact plL_len _ | exact plOf_len _ | simp)⟩ rfl ?_
    exact ⟨rfl, q⟩
  obtain ⟨x, hx⟩ : ∃ x, l[i]? = some x := ⟨_, List.getElem?_eq_getElem (by omega)⟩
  have hmx := h.2.1 x (List.mem_of_getElem? hx)
  obtain ⟨bk, off, rfl, hbk, hcs⟩ := (hvF W q).get eEnc hx
  have hset := wrdZ_set h.1 hx
  obtain ⟨f, d, k, rfl, hf, hd, hk⟩ := pkZ_nat hmx
  have hpk : pkZ ((f : Int), (d : Int), (k : Int)) = ((packN f d k : Nat) : Int) := by unfold pkZ packN; simp only; omega
  rw [hpk] at hset
  have hcs : Cells W ⟨bk, off + i * 3, none⟩ [.int .i64 (f : Int), .int .i64 (d : Int), .int .i64 (k : Int)] := hcs
  have hs := hsF W q
  have hb3 : f < 65536 ∧ d < 16777216 ∧ k < 65536 := ⟨hf, hd, hk⟩
  have hp2 := hs.pos
  refine CC.seq ?_
  refine CC.region ?_
  refine LL.val (R.ltT rfl rfl rfl (by omega)) rfl rfl rfl ?_
  refine LL.nilS ?_
  refine CC.seq ?_
  refine CC.yes rfl ?_
  refine CC.skip ?_
  refine EE.thenN ?_
  refine CC.seq ?_
  refine CC.block ?_
  refine CC.seq ?_
  refine CC.region ?_
  refine LL.val (R.move rfl rfl) rfl rfl rfl ?_
  refine LL.val (R.index rfl rfl rfl (I.ixS rfl (by omega))) rfl rfl rfl ?_
  refine LL.val (R.load rfl rfl (I.ldNc (by assumption) rfl rfl)) rfl rfl rfl ?_
  have lb1 := r4.lt
  have lb2 := r10.lt
  refine LL.alloc ([Value.int IntKind.i64 0, Value.int IntKind.i64 0, Value.int IntKind.i64 0]) rfl rfl rfl rfl rfl ?_
  intro Wb4 gb5 egb5 rb6 zb7 bb3
  replace q := q.trans (bb3.mono q.size)
  replace r4 := r4.up bb3
  replace r10 := r10.up bb3
  replace hcs := hcs.up bb3
  replace hs := hs.up bb3
  refine LL.val (R.assign rfl rfl) rfl rfl rfl ?_
  refine LL.storeN (vs := [Value.int IntKind.i64 ↑f, Value.int IntKind.i64 ↑d, Value.int IntKind.i64 ↑k]) rfl rfl rfl rfl rb6 (by exact Nat.le_of_ble_eq_true rfl) (ones_of rfl) rfl rfl ?_
  intro Wb9 rb10 bb8 zb11
  have hlbb8 := rb6.lt
  replace rb10 : RowL Wb9 _ 41 [Value.int IntKind.i64 ↑f, Value.int IntKind.i64 ↑d, Value.int IntKind.i64 ↑k] := rb10
  clear rb6
  replace bb3 := bb3.grown bb8 bb3.size (by rintro k ⟨⟩; omega)
  replace q := q.grown bb8 q.size (by rintro k ⟨⟩; omega)
  replace r4 := r4.gr bb8 (by have := r4.lt; omega)
  replace r10 := r10.gr bb8 (by have := r10.lt; omega)
  replace hcs := hcs.gr bb8 (by omega)
  replace hs := hs.gr bb8 (by omega)
  have rb6 := rb10
  clear rb10
  refine LL.nilS ?_
  refine CC.region ?_
  refine LL.val (R.move rfl rfl) rfl rfl rfl ?_
  refine LL.val (R.field rfl rfl (I.fld rfl)) rfl rfl rfl ?_
  refine LL.val (R.load rfl rfl (I.ld1 rfl (RowL.cell rb6 rfl))) rfl rfl rfl ?_
  refine LL.val (R.field rfl rfl (I.fld rfl)) rfl rfl rfl ?_
  refine LL.val (R.load rfl rfl (I.ld1 rfl (RowL.cell rb6 rfl))) rfl rfl rfl ?_
  refine LL.val (R.field rfl rfl (I.fld rfl)) rfl rfl rfl ?_
  refine LL.val (R.load rfl rfl (I.ld1 rfl (RowL.cell rb6 rfl))) rfl rfl rfl ?_
  have lb12 := r4.lt
  have lb13 := r10.lt
  have lb14 := rb6.lt
  refine LL.lit (e := 3) [Value.int IntKind.i64 ↑f, Value.int IntKind.i64 ↑d, Value.int IntKind.i64 ↑k] 3 rfl rfl (fun _ => by kernel_rfl) rfl rfl ?_
  intro Wb16 gb17 egb17 rb18 zb19 bb15
  replace bb3 := bb3.trans (bb15.mono bb3.size)
  replace q := q.trans (bb15.mono q.size)
  replace r4 := r4.up bb15
  replace r10 := r10.up bb15
  replace hcs := hcs.up bb15
  replace hs := hs.up bb15
  replace rb6 := rb6.up bb15
  refine LL.call (R.call rfl rfl rfl) rfl rfl rfl (pack_any _ _ _ _ _ (by first | assumption | omega) (by first | assumption | omega) (by first | assumption | omega)) ?_
  rintro e Wb21 ⟨rfl, bb20⟩
  refine ⟨_, rfl, ?_⟩
  have zbb20 := bb20.size
  replace rb18 := rb18.up bb20
  replace bb15 := bb15.trans (bb20.mono bb15.size)
  replace bb3 := bb3.trans (bb20.mono bb3.size)
  replace q := q.trans (bb20.mono q.size)
  replace r4 := r4.up bb20
  replace r10 := r10.up bb20
  replace hcs := hcs.up bb20
  replace hs := hs.up bb20
  replace rb6 := rb6.up bb20
  refine LL.val (R.index rfl rfl rfl (I.ixA1 rfl (by omega))) rfl rfl rfl ?_
  refine LL.storeZ rfl rfl (Nat.zero_add _) rfl rfl r10 (by first | omega | (simp only [List.length_set, List.length_replicate]; omega) | (rw [plOf_len]; omega)) rfl rfl ?_
  intro Wb24 rb25 bb23 zb26
  have hlbb23 := r10.lt
  clear r10
  replace rb18 := rb18.gr bb23 (by have := rb18.lt; omega)
  replace q := q.grown bb23 q.size (by rintro k ⟨⟩; omega)
  replace r4 := r4.gr bb23 (by have := r4.lt; omega)
  replace hs := hs.gr bb23 (by omega)
  replace rb6 := rb6.gr bb23 (by have := rb6.lt; omega)
  have r10 := rb25
  clear rb25
  refine LL.nil ?_
  refine EE.inN ?_
  refine EE.thenN ?_
  refine CC.region ?_
  refine LL.val (R.addNc rfl rfl rfl rfl (by omega)) rfl rfl rfl ?_
  refine LL.val (R.move rfl rfl) rfl rfl rfl ?_
  refine LL.nil ?_
  exact EE.round (i + 1) ⟨rfl, rfl, rfl, rfl, rfl, trivial⟩ ⟨by omega, q, by omega, r4, by rw [← hset]; exact r10⟩ (by omega)
/-- The extents that words tell. -/
def outZ (ws : List Int) : List Ex := (ws.filter fun z => decide (z ≠ 0)).map fun z => unpE z.toNat
theorem outZ_succ {ws : List Int} {i : Nat} {z : Int} (h : ws[i]? = some z) : outZ (ws.take (i + 1)) = outZ (ws.take i) ++ if z = 0 then [] else [unpE z.toNat] := by
  unfold outZ
  rw [List.take_add_one, h, List.filter_append, List.map_append]
  by_cases hz : z = 0 <;> simp [hz, List.filter]
theorem outZ_len (ws : List Int) : (outZ ws).length ≤ ws.length := by unfold outZ; rw [List.length_map]; exact List.length_filter_le _ _
/-- Words that are a map's. -/
def mapW (ws : List Int) : Prop := vL (outZ ws) ∧ wrdZ (outZ ws) = ws
set_option maxRecDepth 100000 in
set_option maxHeartbeats 8000000 in
theorem ofx_any (ws : List Int) (w : World) (hs : Start w) (hl : ws.length = 10) (hw : ∀ (i : Nat) (z : Int), ws[i]? = some z → 0 ≤ z ∧ z < 18446744073709551616) : Calls Tryd.prog 26 #[wdV ws] w fun e w' => ((mapW ws ∧ ∃ v, e = .returned (.tuple #[v, .int .i64 0]) ∧ ReadsT eE 3 w' v (outZ ws)) ∨ (¬mapW ws ∧ e = .returned (.tuple #[.slice none 0 0, .int .i64 2]))) ∧ Below w.heap.size w w' := by
  have q := Below.refl w.heap.size w
  have hp := hs.pos
  have hsF : ∀ W, Below w.heap.size w W → Start W := fun W hb => hs.up hb
  clear hs
  refine X.fn Tryd.func26 rfl (n := 34) rfl rfl ?_
  refine CC.seq ?_
  refine CC.region ?_
  refine LL.box _ rfl rfl rfl rfl rfl ?_
  intro W2 g3 eg3 r4 z5 b1
  replace q := q.trans (b1.mono q.size)
  refine LL.val (R.assign rfl rfl) rfl rfl rfl ?_
  refine LL.val (R.assign rfl rfl) rfl rfl rfl ?_
  refine LL.nilS ?_
  refine CC.seq ?_
  refine CC.region ?_
  refine LL.val (R.assign rfl rfl) rfl rfl rfl ?_
  refine LL.nilS ?_
  refine CC.seq ?_
  refine CC.seq ?_
  refine CC.region ?_
  refine LL.val (R.loadZ rfl rfl r4 rfl rfl (by first | assumption | exact List.length_replicate | exact plL_len _ | exact plOf_len _ | simp)) rfl rfl rfl ?_
  refine LL.val (R.move rfl rfl) rfl rfl rfl ?_
  refine LL.nilS ?_
  refine CC.block ?_
  have yw := q.size
  have l3 := r4.lt
  have hB : ∃ B, W2.heap.size = B := ⟨_, rfl⟩
  obtain ⟨B, hB⟩ := hB
  rw [hB] at l3 yw
  refine CC.loop (α := Nat × Value) (fun s => [(1, .pointer (some ⟨g3, 0, none⟩)), (4, s.2), (9, wdV ws), (10, .int .i64 (s.1 : Int))]) (fun s W => s.1 ≤ 10 ∧ Below w.heap.size w W ∧ B ≤ W.heap.size ∧ RowL W g3 53 (intsZ .u64 ws) ∧ OwnsT eE 3 W B 41 s.2 (outZ (ws.take s.1))) (fun s => 10 - s.1) (0, .slice none 0 0) ⟨rfl, rfl, rfl, rfl, trivial⟩ ⟨by show 0 ≤ 10; omega, q, by omega, r4, OwnsT.none _ _ _⟩ ?_
  clear q r4
  rintro ⟨i, v⟩ W ⟨hi, q, yB, r4, o⟩
  simp only at hi o
  show CC none Tryd.prog _ 34 [] (sl [(1, .pointer (some ⟨g3, 0, none⟩)), (4, v), (9, wdV ws), (10, .int .i64 (i : Int))]) _ W
  have yq := q.size
  by_cases hlt : i < 10
  case pos =>
    obtain ⟨z, hz⟩ : ∃ z, ws[i]? = some z := ⟨_, List.getElem?_eq_getElem (by omega)⟩
    have hzb := hw i z hz
    obtain ⟨x, rfl⟩ : ∃ x : Nat, z = (x : Int) := ⟨z.toNat, by omega⟩
    have hst := outZ_succ hz
    have hol := outZ_len (ws.take i)
    rw [List.length_take] at hol
    by_cases h0 : x = 0
    · rw [if_pos (by omega), List.append_nil] at hst
      refine CC.seq ?_
      refine CC.region ?_
      refine LL.val (R.ltT rfl rfl rfl (by omega)) rfl rfl rfl ?_
      refine LL.nilS ?_
      refine CC.seq ?_
      refine CC.yes rfl ?_
      refine CC.skip ?_
      refine EE.thenN ?_
      refine CC.seq ?_
      refine CC.block ?_
      refine CC.seq ?_
      refine CC.region ?_
      refine LL.val (R.ixZ rfl rfl rfl rfl (by assumption) (by assumption)) rfl rfl rfl ?_
      refine LL.val (R.assign rfl rfl) rfl rfl rfl ?_
      refine LL.nilS ?_
      refine CC.seq ?_
      refine CC.region ?_
      refine LL.val (R.move rfl rfl) rfl rfl rfl ?_
      refine LL.val (R.neF rfl rfl rfl (by omega)) rfl rfl rfl ?_
      refine LL.nilS ?_
      refine CC.no rfl ?_
      refine CC.skip ?_
      refine EE.inN ?_
      refine EE.thenN ?_
      refine CC.region ?_
      refine LL.val (R.addNc rfl rfl rfl rfl (by omega)) rfl rfl rfl ?_
      refine LL.val (R.move rfl rfl) rfl rfl rfl ?_
      refine LL.nil ?_
      exact EE.round (i + 1, v) ⟨rfl, rfl, rfl, rfl, trivial⟩ ⟨by show i + 1 ≤ 10; omega, q, yB, r4, by show OwnsT eE 3 _ _ _ v (outZ (ws.take (i + 1))); rw [hst]; exact o⟩ (by show 10 - (i + 1) < 10 - i; omega)
    rw [if_neg (by omega)] at hst
    have hs := hsF W q
    have hxb : x < 18446744073709551616 := by omega
    rw [Int.toNat_natCast] at hst
    refine CC.seq ?_
    refine CC.region ?_
    refine LL.val (R.ltT rfl rfl rfl (by omega)) rfl rfl rfl ?_
    refine LL.nilS ?_
    refine CC.seq ?_
    refine CC.yes rfl ?_
    refine CC.skip ?_
    refine EE.thenN ?_
    refine CC.seq ?_
    refine CC.block ?_
    refine CC.seq ?_
    refine CC.region ?_
    refine LL.val (R.ixZ rfl rfl rfl rfl (by assumption) (by assumption)) rfl rfl rfl ?_
    refine LL.val (R.assign rfl rfl) rfl rfl rfl ?_
    refine LL.nilS ?_
    refine CC.seq ?_
    refine CC.region ?_
    refine LL.val (R.move rfl rfl) rfl rfl rfl ?_
    refine LL.val (R.neT rfl rfl rfl (by omega)) rfl rfl rfl ?_
    refine LL.nilS ?_
    refine CC.yes rfl ?_
    refine CC.region ?_
    refine LL.val (R.move rfl rfl) rfl rfl rfl ?_
    refine LL.val (R.move rfl rfl) rfl rfl rfl ?_
    refine LL.call (R.call rfl rfl rfl) rfl rfl rfl (unpack_any _ _ (by first | assumption | omega) (by first | assumption | omega)) ?_
    rintro e Wb2 ⟨rfl, bb1⟩
    refine ⟨_, rfl, ?_⟩
    have zbb1 := bb1.size
    replace q := q.trans (bb1.mono q.size)
    replace r4 := r4.up bb1
    replace o := o.up bb1
    replace hs := hs.up bb1
    have lb4 := r4.lt
    refine LL.lit (e := 41) [Value.int IntKind.i64 (unpE x).1, Value.int IntKind.i64 (unpE x).2.1, Value.int IntKind.i64 (unpE x).2.2] 1 rfl rfl (fun _ => by kernel_rfl) rfl rfl ?_
    intro Wb6 gb7 egb7 rb8 zb9 bb5
    replace bb1 := bb1.trans (bb5.mono bb1.size)
    replace q := q.trans (bb5.mono q.size)
    replace r4 := r4.up bb5
    replace o := o.up bb5
    replace hs := hs.up bb5
    refine LL.appendT2 rfl rfl eEnc ElEx o (RowL.readsT (ts := [unpE x]) eEnc (by assumption) 1 (by simp)) (by simp [maxLen]; omega) (by simp; omega) (by have := q.size; omega) rfl rfl ?_
    intro v' Wa oa gra hva
    replace q := q.grown gra (by have := q.size; omega) (fun g hg => by have := own_ge o g hg; omega)
    replace r4 := r4.grO gra (own_ne o l3)
    have hsz := gra.size
    rw [← hst] at oa
    refine LL.val (R.assign rfl rfl) rfl rfl rfl ?_
    refine LL.nil ?_
    refine EE.inN ?_
    refine EE.thenN ?_
    refine CC.region ?_
    refine LL.val (R.addNc rfl rfl rfl rfl (by omega)) rfl rfl rfl ?_
    refine LL.val (R.move rfl rfl) rfl rfl rfl ?_
    refine LL.nil ?_
    exact EE.round (i + 1, v') ⟨rfl, rfl, rfl, rfl, trivial⟩ ⟨by show i + 1 ≤ 10; omega, q, by omega, r4, oa⟩ (by show 10 - (i + 1) < 10 - i; omega)
  case neg =>
    obtain rfl : i = 10 := by omega
    rw [show ws.take 10 = ws from List.take_of_length_le (by omega)] at o
    have hr := o.reads eEnc
    have hol := outZ_len ws
    have hlo : (outZ ws).length ≤ 1048576 := by omega
    obtain ⟨n, hn⟩ : ∃ n, (outZ ws).length = n := ⟨_, rfl⟩
    obtain ⟨a, c, rfl, hc⟩ := hr.form hn
    have hrF := fun W' (hb : Below W.heap.size W W') => hr.up hb
    have qW := Below.refl W.heap.size W
    clear o
    by_cases hv : vL (outZ ws)
    case neg =>
      have hno : ¬mapW ws := fun h => hv h.1
      refine CC.seq ?_
      refine CC.region ?_
      refine LL.val (R.ltF rfl rfl rfl (by omega)) rfl rfl rfl ?_
      refine LL.nilS ?_
      refine CC.seq ?_
      refine CC.no rfl ?_
      refine CC.exit ?_
      refine EE.thenX ?_
      refine EE.thenX ?_
      refine EE.inX ?_
      refine EE.thenN ?_
      refine CC.seq ?_
      refine CC.seq ?_
      refine CC.region ?_
      refine LL.val (R.move rfl rfl) rfl rfl rfl ?_
      refine LL.call (R.call rfl rfl rfl) rfl rfl rfl (words_F _ _ _ (by first | assumption | omega) (by first | assumption | omega) (by first | assumption | omega)) ?_
      rintro e Wd2 ⟨rfl, bd1⟩
      refine ⟨_, rfl, ?_⟩
      have zbd1 := bd1.size
      replace q := q.trans (bd1.mono q.size)
      replace r4 := r4.up bd1
      replace hr := hr.up bd1
      replace qW := qW.trans (bd1.mono qW.size)
      refine LL.val (R.move rfl rfl) rfl rfl rfl ?_
      refine LL.val (R.extract rfl rfl rfl) rfl rfl rfl ?_
      refine LL.val (R.extract rfl rfl rfl) rfl rfl rfl ?_
      have ld4 := r4.lt
      refine LL.alloc (intsZ .u64 (List.replicate 10 0)) rfl rfl rfl rfl rfl ?_
      intro Wd6 gd7 egd7 rd8 zd9 bd5
      replace bd1 := bd1.trans (bd5.mono bd1.size)
      replace q := q.trans (bd5.mono q.size)
      replace r4 := r4.up bd5
      replace hr := hr.up bd5
      replace qW := qW.trans (bd5.mono qW.size)
      refine LL.storeAZ rfl rfl rfl rfl (by first | assumption | exact List.length_replicate | exact plL_len _ | exact plOf_len _ | simp) rd8 (by first | (rw [List.length_map]; exact (by first | assumption | exact List.length_replicate | exact plL_len _ | exact plOf_len _ | simp)) | simp) rfl rfl ?_
      intro Wd11 rd12 bd10 zd13
      have hlbd10 := rd8.lt
      replace rd12 : RowL Wd11 _ 53 [(fun z => Value.int IntKind.u64 z) 0, (fun z => Value.int IntKind.u64 z) 0, (fun z => Value.int IntKind.u64 z) 0, (fun z => Value.int IntKind.u64 z) 0, (fun z => Value.int IntKind.u64 z) 0, (fun z => Value.int IntKind.u64 z) 0, (fun z => Value.int IntKind.u64 z) 0, (fun z => Value.int IntKind.u64 z) 0, (fun z => Value.int IntKind.u64 z) 0, (fun z => Value.int IntKind.u64 z) 0] := rd12
      clear rd8
      replace bd5 := bd5.grown bd10 bd5.size (by rintro k ⟨⟩; omega)
      replace bd1 := bd1.grown bd10 bd1.size (by rintro k ⟨⟩; omega)
      replace q := q.grown bd10 q.size (by rintro k ⟨⟩; omega)
      replace r4 := r4.gr bd10 (by have := r4.lt; omega)
      replace qW := qW.grown bd10 qW.size (by rintro k ⟨⟩; omega)
      have rd8 := rd12
      clear rd12
      refine LL.val (R.assign rfl rfl) rfl rfl rfl ?_
      refine LL.nilS ?_
      refine CC.seq ?_
      refine CC.region ?_
      refine LL.val (R.move rfl rfl) rfl rfl rfl ?_
      refine LL.val (R.neT rfl rfl rfl (by omega)) rfl rfl rfl ?_
      refine LL.val (R.move rfl rfl) rfl rfl rfl ?_
      refine LL.skip rfl rfl ?_
      refine LL.skip rfl rfl ?_
      refine LL.skip rfl rfl ?_
      refine LL.val (R.pick rfl rfl rfl) rfl rfl rfl ?_
      refine LL.nilS ?_
      refine CC.yes rfl ?_
      refine CC.seq ?_
      refine CC.region ?_
      refine LL.val (R.assign rfl rfl) rfl rfl rfl ?_
      refine LL.val (R.assign rfl rfl) rfl rfl rfl ?_
      refine LL.nilS ?_
      refine CC.ret ?_
      refine EE.thenR ?_
      refine EE.ret _ rfl rfl ?_
      exact ⟨.inr ⟨hno, rfl⟩, q⟩
    refine CC.seq ?_
    refine CC.region ?_
    refine LL.val (R.ltF rfl rfl rfl (by omega)) rfl rfl rfl ?_
    refine LL.nilS ?_
    refine CC.seq ?_
    refine CC.no rfl ?_
    refine CC.exit ?_
    refine EE.thenX ?_
    refine EE.thenX ?_
    refine EE.inX ?_
    refine EE.thenN ?_
    refine CC.seq ?_
    refine CC.seq ?_
    refine CC.region ?_
    refine LL.val (R.move rfl rfl) rfl rfl rfl ?_
    refine LL.call (R.call rfl rfl rfl) rfl rfl rfl (words_T (outZ ws) _ _ (hsF W q) hr hv) ?_
    rintro e W5 ⟨rfl, b5⟩
    refine ⟨_, rfl, ?_⟩
    replace q := q.trans (b5.mono q.size)
    replace qW := qW.trans b5
    replace r4 := r4.up b5
    clear hr
    have y5 := b5.size
    clear b5
    have hwl := wrdZ_len (l := outZ ws) (by omega)
    by_cases he : wrdZ (outZ ws) = ws
    · refine LL.val (R.move rfl rfl) rfl rfl rfl ?_
      refine LL.val (R.extract rfl rfl rfl) rfl rfl rfl ?_
      refine LL.val (R.extract rfl rfl rfl) rfl rfl rfl ?_
      have lf1 := r4.lt
      refine LL.alloc (intsZ .u64 (List.replicate 10 0)) rfl rfl rfl rfl rfl ?_
      intro Wf3 gf4 egf4 rf5 zf6 bf2
      replace q := q.trans (bf2.mono q.size)
      replace qW := qW.trans (bf2.mono qW.size)
      replace r4 := r4.up bf2
      refine LL.storeAZ rfl rfl rfl rfl (by first | assumption | exact List.length_replicate | exact plL_len _ | exact plOf_len _ | simp) rf5 (by first | (rw [List.length_map]; exact (by first | assumption | exact List.length_replicate | exact plL_len _ | exact plOf_len _ | simp)) | simp) rfl rfl ?_
      intro Wf8 rf9 bf7 zf10
      have hlbf7 := rf5.lt
      clear rf5
      replace bf2 := bf2.grown bf7 bf2.size (by rintro k ⟨⟩; omega)
      replace q := q.grown bf7 q.size (by rintro k ⟨⟩; omega)
      replace qW := qW.grown bf7 qW.size (by rintro k ⟨⟩; omega)
      replace r4 := r4.gr bf7 (by have := r4.lt; omega)
      have rf5 := rf9
      clear rf9
      refine LL.val (R.assign rfl rfl) rfl rfl rfl ?_
      refine LL.nilS ?_
      refine CC.seq ?_
      refine CC.region ?_
      refine LL.val (R.move rfl rfl) rfl rfl rfl ?_
      refine LL.val (R.neF rfl rfl rfl (by omega)) rfl rfl rfl ?_
      refine LL.val (R.move rfl rfl) rfl rfl rfl ?_
      refine LL.val (R.loadZ rfl rfl rf5 rfl rfl (by first | assumption | exact List.length_replicate | exact plL_len _ | exact plOf_len _ | simp)) rfl rfl rfl ?_
      refine LL.val (R.loadZ rfl rfl r4 rfl rfl (by first | assumption | exact List.length_replicate | exact plL_len _ | exact plOf_len _ | simp)) rfl rfl rfl ?_
      refine LL.val (R.neZT rfl rfl rfl Tryd.underlying53 Tryd.underlying52 rfl (by decide) rfl (by kernel_rfl) (by assumption) (by assumption) (by assumption)) rfl rfl rfl ?_
      refine LL.val (R.pick rfl rfl rfl) rfl rfl rfl ?_
      refine LL.nilS ?_
      refine CC.no rfl ?_
      refine CC.skip ?_
      refine EE.thenN ?_
      refine CC.seq ?_
      refine CC.region ?_
      refine LL.val (R.move rfl rfl) rfl rfl rfl ?_
      refine LL.val (R.assign rfl rfl) rfl rfl rfl ?_
      refine LL.val (R.assign rfl rfl) rfl rfl rfl ?_
      refine LL.nilS ?_
      refine CC.ret ?_
      refine EE.ret _ rfl rfl ?_
      exact ⟨.inl ⟨⟨hv, he⟩, _, rfl, hrF _ qW⟩, q⟩
    · have hno : ¬mapW ws := fun h => he h.2
      refine LL.val (R.move rfl rfl) rfl rfl rfl ?_
      refine LL.val (R.extract rfl rfl rfl) rfl rfl rfl ?_
      refine LL.val (R.extract rfl rfl rfl) rfl rfl rfl ?_
      have lg1 := r4.lt
      refine LL.alloc (intsZ .u64 (List.replicate 10 0)) rfl rfl rfl rfl rfl ?_
      intro Wg3 gg4 egg4 rg5 zg6 bg2
      replace q := q.trans (bg2.mono q.size)
      replace qW := qW.trans (bg2.mono qW.size)
      replace r4 := r4.up bg2
      refine LL.storeAZ rfl rfl rfl rfl (by first | assumption | exact List.length_replicate | exact plL_len _ | exact plOf_len _ | simp) rg5 (by first | (rw [List.length_map]; exact (by first | assumption | exact List.length_replicate | exact plL_len _ | exact plOf_len _ | simp)) | simp) rfl rfl ?_
      intro Wg8 rg9 bg7 zg10
      have hlbg7 := rg5.lt
      clear rg5
      replace bg2 := bg2.grown bg7 bg2.size (by rintro k ⟨⟩; omega)
      replace q := q.grown bg7 q.size (by rintro k ⟨⟩; omega)
      replace qW := qW.grown bg7 qW.size (by rintro k ⟨⟩; omega)
      replace r4 := r4.gr bg7 (by have := r4.lt; omega)
      have rg5 := rg9
      clear rg9
      refine LL.val (R.assign rfl rfl) rfl rfl rfl ?_
      refine LL.nilS ?_
      refine CC.seq ?_
      refine CC.region ?_
      refine LL.val (R.move rfl rfl) rfl rfl rfl ?_
      refine LL.val (R.neF rfl rfl rfl (by omega)) rfl rfl rfl ?_
      refine LL.val (R.move rfl rfl) rfl rfl rfl ?_
      refine LL.val (R.loadZ rfl rfl rg5 rfl rfl (by first | assumption | exact List.length_replicate | exact plL_len _ | exact plOf_len _ | simp)) rfl rfl rfl ?_
      refine LL.val (R.loadZ rfl rfl r4 rfl rfl (by first | assumption | exact List.length_replicate | exact plL_len _ | exact plOf_len _ | simp)) rfl rfl rfl ?_
      refine LL.val (R.neZF rfl rfl rfl Tryd.underlying53 Tryd.underlying52 rfl (by decide) rfl (by kernel_rfl) (by assumption) (by assumption) (by assumption)) rfl rfl rfl ?_
      refine LL.val (R.pick rfl rfl rfl) rfl rfl rfl ?_
      refine LL.nilS ?_
      refine CC.yes rfl ?_
      refine CC.seq ?_
      refine CC.region ?_
      refine LL.val (R.assign rfl rfl) rfl rfl rfl ?_
      refine LL.val (R.assign rfl rfl) rfl rfl rfl ?_
      refine LL.nilS ?_
      refine CC.ret ?_
      refine EE.thenR ?_
      refine EE.ret _ rfl rfl ?_
      exact ⟨.inr ⟨hno, rfl⟩, q⟩
end Go.Proofs.YtklfopclaonggaaDoor
