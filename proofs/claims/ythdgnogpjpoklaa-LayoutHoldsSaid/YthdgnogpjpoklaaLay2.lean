/- layout: is; and of the document. -/
import Derived.Test.YthdgnogpjpoklaaLay1
import Derived.Test.YthdgnogpjpoklaaEqS
namespace Go.Proofs.Ythdgnogpjpoklaa
set_option linter.unusedVariables false
set_option linter.unusedSimpArgs false
open Go.RowKit Go.Shelf

/-- The layout of its form and key. -/
abbrev isL (b i r t a c d e : Int) : Prop := okF b i r t ∧ a = 9 ∧ c = 9 + i / 4 ∧ d = 9 + i / 4 + r / 4 ∧ e = 10 + i / 4 + r / 4

set_option maxRecDepth 100000 in
set_option maxHeartbeats 4000000 in
theorem is_any (b i r t : Int) (k1 k2 : Nat) (a c d e : Int) (w : World) : Calls Try.prog 31 #[layV b i r t k1 k2 a c d e] w fun x w' => x = .returned (.bool (decide (isL b i r t a c d e))) ∧ Below w.heap.size w w' := by
  have q := Below.refl w.heap.size w
  refine X.fn Try.func31 rfl (n := 20) rfl rfl ?_
  by_cases hok : okF b i r t
  · refine CC.seq ?_
    refine CC.region ?_
    refine LL.box [Value.int IntKind.i64 b, Value.int IntKind.i64 i, Value.int IntKind.i64 r, Value.int IntKind.i64 t, Value.int IntKind.u64 ↑k1, Value.int IntKind.u64 ↑k2, Value.int IntKind.i64 a, Value.int IntKind.i64 c, Value.int IntKind.i64 d, Value.int IntKind.i64 e] rfl rfl rfl rfl rfl ?_
    intro W2 g3 eg3 r4 z5 b1
    replace q := q.trans (b1.mono q.size)
    refine LL.val (R.assign rfl rfl) rfl rfl rfl ?_
    refine LL.nilS ?_
    refine CC.seq ?_
    refine CC.region ?_
    refine LL.val (R.field rfl rfl (I.fld rfl)) rfl rfl rfl ?_
    refine LL.val (R.load rfl rfl (I.ldNc (vs := [Value.int IntKind.i64 b, Value.int IntKind.i64 i, Value.int IntKind.i64 r, Value.int IntKind.i64 t]) (RowL.cells r4 rfl) (by rfl) (by rfl))) rfl rfl rfl ?_
    refine LL.val (R.field rfl rfl (I.fld rfl)) rfl rfl rfl ?_
    refine LL.val (R.load rfl rfl (I.ldNc (vs := [Value.int IntKind.u64 ↑k1, Value.int IntKind.u64 ↑k2]) (RowL.cells r4 rfl) (by rfl) (by rfl))) rfl rfl rfl ?_
    refine LL.call (R.call rfl rfl rfl) rfl rfl rfl (of_T _ _ _ _ _ _ _ (by first | assumption | omega)) ?_
    rintro e W7 ⟨rfl, b6⟩
    refine ⟨_, rfl, ?_⟩
    have zb6 := b6.size
    replace r4 := r4.up b6
    replace b1 := b1.trans (b6.mono b1.size)
    replace q := q.trans (b6.mono q.size)
    refine LL.val (R.move rfl rfl) rfl rfl rfl ?_
    refine LL.val (R.extract rfl rfl rfl) rfl rfl rfl ?_
    refine LL.val (R.extract rfl rfl rfl) rfl rfl rfl ?_
    refine LL.alloc ([Value.int IntKind.i64 0, Value.int IntKind.i64 0, Value.int IntKind.i64 0, Value.int IntKind.i64 0, Value.int IntKind.u64 0, Value.int IntKind.u64 0, Value.int IntKind.i64 0, Value.int IntKind.i64 0, Value.int IntKind.i64 0, Value.int IntKind.i64 0]) rfl rfl rfl rfl rfl ?_
    intro W10 g11 eg11 r12 z13 b9
    replace b6 := b6.trans (b9.mono b6.size)
    replace r4 := r4.up b9
    replace b1 := b1.trans (b9.mono b1.size)
    replace q := q.trans (b9.mono q.size)
    refine LL.storeN (vs := [Value.int IntKind.i64 b, Value.int IntKind.i64 i, Value.int IntKind.i64 r, Value.int IntKind.i64 t, Value.int IntKind.u64 ↑k1, Value.int IntKind.u64 ↑k2, Value.int IntKind.i64 9, Value.int IntKind.i64 (9 + i / 4), Value.int IntKind.i64 (9 + i / 4 + r / 4), Value.int IntKind.i64 (10 + i / 4 + r / 4)]) rfl rfl rfl rfl r12 (by exact Nat.le_of_ble_eq_true rfl) (ones_of rfl) rfl rfl ?_
    intro W15 r16 b14 z17
    have hlb14 := r12.lt
    replace r16 : RowL W15 _ 27 [Value.int IntKind.i64 b, Value.int IntKind.i64 i, Value.int IntKind.i64 r, Value.int IntKind.i64 t, Value.int IntKind.u64 ↑k1, Value.int IntKind.u64 ↑k2, Value.int IntKind.i64 9, Value.int IntKind.i64 (9 + i / 4), Value.int IntKind.i64 (9 + i / 4 + r / 4), Value.int IntKind.i64 (10 + i / 4 + r / 4)] := r16
    clear r12
    replace b9 := b9.grown b14 b9.size (by rintro k ⟨⟩; omega)
    replace b6 := b6.grown b14 b6.size (by rintro k ⟨⟩; omega)
    replace r4 := r4.gr b14 (by have := r4.lt; omega)
    replace b1 := b1.grown b14 b1.size (by rintro k ⟨⟩; omega)
    replace q := q.grown b14 q.size (by rintro k ⟨⟩; omega)
    have r12 := r16
    clear r16
    refine LL.val (R.assign rfl rfl) rfl rfl rfl ?_
    refine LL.nilS ?_
    refine CC.seq ?_
    refine CC.region ?_
    refine LL.val (R.move rfl rfl) rfl rfl rfl ?_
    refine LL.val (R.eqT rfl rfl rfl (by omega)) rfl rfl rfl ?_
    refine LL.val (R.move rfl rfl) rfl rfl rfl ?_
    refine LL.val (R.load rfl rfl (I.ldNc (vs := [Value.int IntKind.i64 b, Value.int IntKind.i64 i, Value.int IntKind.i64 r, Value.int IntKind.i64 t, Value.int IntKind.u64 ↑k1, Value.int IntKind.u64 ↑k2, Value.int IntKind.i64 9, Value.int IntKind.i64 (9 + i / 4), Value.int IntKind.i64 (9 + i / 4 + r / 4), Value.int IntKind.i64 (10 + i / 4 + r / 4)]) (RowL.cells r12 rfl) (by rfl) (by rfl))) rfl rfl rfl ?_
    refine LL.val (R.load rfl rfl (I.ldNc (vs := [Value.int IntKind.i64 b, Value.int IntKind.i64 i, Value.int IntKind.i64 r, Value.int IntKind.i64 t, Value.int IntKind.u64 ↑k1, Value.int IntKind.u64 ↑k2, Value.int IntKind.i64 a, Value.int IntKind.i64 c, Value.int IntKind.i64 d, Value.int IntKind.i64 e]) (RowL.cells r4 rfl) (by rfl) (by rfl))) rfl rfl rfl ?_
    refine LL.vsplit (fun h => R.eqST (p := (b : Int) = b ∧ (i : Int) = i ∧ (r : Int) = r ∧ (t : Int) = t ∧ (↑k1 : Int) = ↑k1 ∧ (↑k2 : Int) = ↑k2 ∧ (9 : Int) = a ∧ (9 + i / 4 : Int) = c ∧ (9 + i / 4 + r / 4 : Int) = d ∧ (10 + i / 4 + r / 4 : Int) = e) (bs := [decide ((b : Int) = b), decide ((i : Int) = i), decide ((r : Int) = r), decide ((t : Int) = t), decide ((↑k1 : Int) = ↑k1), decide ((↑k2 : Int) = ↑k2), decide ((9 : Int) = a), decide ((9 + i / 4 : Int) = c), decide ((9 + i / 4 + r / 4 : Int) = d), decide ((10 + i / 4 + r / 4 : Int) = e)]) rfl rfl rfl rfl (by kernel_rfl) (by kernel_rfl) (by simp) h) (fun h => R.eqSF (p := (b : Int) = b ∧ (i : Int) = i ∧ (r : Int) = r ∧ (t : Int) = t ∧ (↑k1 : Int) = ↑k1 ∧ (↑k2 : Int) = ↑k2 ∧ (9 : Int) = a ∧ (9 + i / 4 : Int) = c ∧ (9 + i / 4 + r / 4 : Int) = d ∧ (10 + i / 4 + r / 4 : Int) = e) (bs := [decide ((b : Int) = b), decide ((i : Int) = i), decide ((r : Int) = r), decide ((t : Int) = t), decide ((↑k1 : Int) = ↑k1), decide ((↑k2 : Int) = ↑k2), decide ((9 : Int) = a), decide ((9 + i / 4 : Int) = c), decide ((9 + i / 4 + r / 4 : Int) = d), decide ((10 + i / 4 + r / 4 : Int) = e)]) rfl rfl rfl rfl (by kernel_rfl) (by kernel_rfl) (by simp) h) rfl rfl rfl (fun c18 => ?_) (fun c18 => ?_)
    refine LL.val (R.pick rfl rfl rfl) rfl rfl rfl ?_
    refine LL.val (R.assign rfl rfl) rfl rfl rfl ?_
    refine LL.nilS ?_
    refine CC.ret ?_
    refine EE.ret _ rfl rfl ?_
    exact ⟨by simp [resV]; omega, q⟩
    refine LL.val (R.pick rfl rfl rfl) rfl rfl rfl ?_
    refine LL.val (R.assign rfl rfl) rfl rfl rfl ?_
    refine LL.nilS ?_
    refine CC.ret ?_
    refine EE.ret _ rfl rfl ?_
    exact ⟨by simp [resV]; omega, q⟩
  · refine CC.seq ?_
    refine CC.region ?_
    refine LL.box [Value.int IntKind.i64 b, Value.int IntKind.i64 i, Value.int IntKind.i64 r, Value.int IntKind.i64 t, Value.int IntKind.u64 ↑k1, Value.int IntKind.u64 ↑k2, Value.int IntKind.i64 a, Value.int IntKind.i64 c, Value.int IntKind.i64 d, Value.int IntKind.i64 e] rfl rfl rfl rfl rfl ?_
    intro Wa2 ga3 ega3 ra4 za5 ba1
    replace q := q.trans (ba1.mono q.size)
    refine LL.val (R.assign rfl rfl) rfl rfl rfl ?_
    refine LL.nilS ?_
    refine CC.seq ?_
    refine CC.region ?_
    refine LL.val (R.field rfl rfl (I.fld rfl)) rfl rfl rfl ?_
    refine LL.val (R.load rfl rfl (I.ldNc (vs := [Value.int IntKind.i64 b, Value.int IntKind.i64 i, Value.int IntKind.i64 r, Value.int IntKind.i64 t]) (RowL.cells ra4 rfl) (by rfl) (by rfl))) rfl rfl rfl ?_
    refine LL.val (R.field rfl rfl (I.fld rfl)) rfl rfl rfl ?_
    refine LL.val (R.load rfl rfl (I.ldNc (vs := [Value.int IntKind.u64 ↑k1, Value.int IntKind.u64 ↑k2]) (RowL.cells ra4 rfl) (by rfl) (by rfl))) rfl rfl rfl ?_
    refine LL.call (R.call rfl rfl rfl) rfl rfl rfl (of_F _ _ _ _ _ _ _ (by first | assumption | omega)) ?_
    rintro e Wa7 ⟨rfl, ba6⟩
    refine ⟨_, rfl, ?_⟩
    have zba6 := ba6.size
    replace ra4 := ra4.up ba6
    replace ba1 := ba1.trans (ba6.mono ba1.size)
    replace q := q.trans (ba6.mono q.size)
    refine LL.val (R.move rfl rfl) rfl rfl rfl ?_
    refine LL.val (R.extract rfl rfl rfl) rfl rfl rfl ?_
    refine LL.val (R.extract rfl rfl rfl) rfl rfl rfl ?_
    refine LL.alloc ([Value.int IntKind.i64 0, Value.int IntKind.i64 0, Value.int IntKind.i64 0, Value.int IntKind.i64 0, Value.int IntKind.u64 0, Value.int IntKind.u64 0, Value.int IntKind.i64 0, Value.int IntKind.i64 0, Value.int IntKind.i64 0, Value.int IntKind.i64 0]) rfl rfl rfl rfl rfl ?_
    intro Wa10 ga11 ega11 ra12 za13 ba9
    replace ba6 := ba6.trans (ba9.mono ba6.size)
    replace ra4 := ra4.up ba9
    replace ba1 := ba1.trans (ba9.mono ba1.size)
    replace q := q.trans (ba9.mono q.size)
    refine LL.storeN (vs := [Value.int IntKind.i64 0, Value.int IntKind.i64 0, Value.int IntKind.i64 0, Value.int IntKind.i64 0, Value.int IntKind.u64 ↑0, Value.int IntKind.u64 ↑0, Value.int IntKind.i64 0, Value.int IntKind.i64 0, Value.int IntKind.i64 0, Value.int IntKind.i64 0]) rfl rfl rfl rfl ra12 (by exact Nat.le_of_ble_eq_true rfl) (ones_of rfl) rfl rfl ?_
    intro Wa15 ra16 ba14 za17
    have hlba14 := ra12.lt
    replace ra16 : RowL Wa15 _ 27 [Value.int IntKind.i64 0, Value.int IntKind.i64 0, Value.int IntKind.i64 0, Value.int IntKind.i64 0, Value.int IntKind.u64 ↑0, Value.int IntKind.u64 ↑0, Value.int IntKind.i64 0, Value.int IntKind.i64 0, Value.int IntKind.i64 0, Value.int IntKind.i64 0] := ra16
    clear ra12
    replace ba9 := ba9.grown ba14 ba9.size (by rintro k ⟨⟩; omega)
    replace ba6 := ba6.grown ba14 ba6.size (by rintro k ⟨⟩; omega)
    replace ra4 := ra4.gr ba14 (by have := ra4.lt; omega)
    replace ba1 := ba1.grown ba14 ba1.size (by rintro k ⟨⟩; omega)
    replace q := q.grown ba14 q.size (by rintro k ⟨⟩; omega)
    have ra12 := ra16
    clear ra16
    refine LL.val (R.assign rfl rfl) rfl rfl rfl ?_
    refine LL.nilS ?_
    refine CC.seq ?_
    refine CC.region ?_
    refine LL.val (R.move rfl rfl) rfl rfl rfl ?_
    refine LL.val (R.eqF rfl rfl rfl (by omega)) rfl rfl rfl ?_
    refine LL.val (R.move rfl rfl) rfl rfl rfl ?_
    refine LL.skip rfl rfl ?_
    refine LL.skip rfl rfl ?_
    refine LL.skip rfl rfl ?_
    refine LL.val (R.pick rfl rfl rfl) rfl rfl rfl ?_
    refine LL.val (R.assign rfl rfl) rfl rfl rfl ?_
    refine LL.nilS ?_
    refine CC.ret ?_
    refine EE.ret _ rfl rfl ?_
    exact ⟨by simp [resV]; omega, q⟩

set_option maxRecDepth 100000 in
set_option maxHeartbeats 4000000 in
theorem right_any (b i r t : Int) (k1 k2 : Nat) (a c d e : Int) (w : World) : Calls Try.prog 16 #[layV b i r t k1 k2 a c d e] w fun x w' => x = .returned (.bool (decide (isL b i r t a c d e))) ∧ Below w.heap.size w w' := by
  have q := Below.refl w.heap.size w
  refine X.fn Try.func16 rfl (n := 20) rfl rfl ?_
  by_cases hok : okF b i r t
  · refine CC.seq ?_
    refine CC.region ?_
    refine LL.box [Value.int IntKind.i64 b, Value.int IntKind.i64 i, Value.int IntKind.i64 r, Value.int IntKind.i64 t, Value.int IntKind.u64 ↑k1, Value.int IntKind.u64 ↑k2, Value.int IntKind.i64 a, Value.int IntKind.i64 c, Value.int IntKind.i64 d, Value.int IntKind.i64 e] rfl rfl rfl rfl rfl ?_
    intro W2 g3 eg3 r4 z5 b1
    replace q := q.trans (b1.mono q.size)
    refine LL.val (R.assign rfl rfl) rfl rfl rfl ?_
    refine LL.nilS ?_
    refine CC.seq ?_
    refine CC.region ?_
    refine LL.val (R.field rfl rfl (I.fld rfl)) rfl rfl rfl ?_
    refine LL.val (R.load rfl rfl (I.ldNc (vs := [Value.int IntKind.i64 b, Value.int IntKind.i64 i, Value.int IntKind.i64 r, Value.int IntKind.i64 t]) (RowL.cells r4 rfl) (by rfl) (by rfl))) rfl rfl rfl ?_
    refine LL.val (R.field rfl rfl (I.fld rfl)) rfl rfl rfl ?_
    refine LL.val (R.load rfl rfl (I.ldNc (vs := [Value.int IntKind.u64 ↑k1, Value.int IntKind.u64 ↑k2]) (RowL.cells r4 rfl) (by rfl) (by rfl))) rfl rfl rfl ?_
    refine LL.call (R.call rfl rfl rfl) rfl rfl rfl (rof_T _ _ _ _ _ _ _ (by first | assumption | omega)) ?_
    rintro e W7 ⟨rfl, b6⟩
    refine ⟨_, rfl, ?_⟩
    have zb6 := b6.size
    replace r4 := r4.up b6
    replace b1 := b1.trans (b6.mono b1.size)
    replace q := q.trans (b6.mono q.size)
    refine LL.val (R.move rfl rfl) rfl rfl rfl ?_
    refine LL.val (R.extract rfl rfl rfl) rfl rfl rfl ?_
    refine LL.val (R.extract rfl rfl rfl) rfl rfl rfl ?_
    refine LL.alloc ([Value.int IntKind.i64 0, Value.int IntKind.i64 0, Value.int IntKind.i64 0, Value.int IntKind.i64 0, Value.int IntKind.u64 0, Value.int IntKind.u64 0, Value.int IntKind.i64 0, Value.int IntKind.i64 0, Value.int IntKind.i64 0, Value.int IntKind.i64 0]) rfl rfl rfl rfl rfl ?_
    intro W10 g11 eg11 r12 z13 b9
    replace b6 := b6.trans (b9.mono b6.size)
    replace r4 := r4.up b9
    replace b1 := b1.trans (b9.mono b1.size)
    replace q := q.trans (b9.mono q.size)
    refine LL.storeN (vs := [Value.int IntKind.i64 b, Value.int IntKind.i64 i, Value.int IntKind.i64 r, Value.int IntKind.i64 t, Value.int IntKind.u64 ↑k1, Value.int IntKind.u64 ↑k2, Value.int IntKind.i64 9, Value.int IntKind.i64 (9 + i / 4), Value.int IntKind.i64 (9 + i / 4 + r / 4), Value.int IntKind.i64 (10 + i / 4 + r / 4)]) rfl rfl rfl rfl r12 (by exact Nat.le_of_ble_eq_true rfl) (ones_of rfl) rfl rfl ?_
    intro W15 r16 b14 z17
    have hlb14 := r12.lt
    replace r16 : RowL W15 _ 27 [Value.int IntKind.i64 b, Value.int IntKind.i64 i, Value.int IntKind.i64 r, Value.int IntKind.i64 t, Value.int IntKind.u64 ↑k1, Value.int IntKind.u64 ↑k2, Value.int IntKind.i64 9, Value.int IntKind.i64 (9 + i / 4), Value.int IntKind.i64 (9 + i / 4 + r / 4), Value.int IntKind.i64 (10 + i / 4 + r / 4)] := r16
    clear r12
    replace b9 := b9.grown b14 b9.size (by rintro k ⟨⟩; omega)
    replace b6 := b6.grown b14 b6.size (by rintro k ⟨⟩; omega)
    replace r4 := r4.gr b14 (by have := r4.lt; omega)
    replace b1 := b1.grown b14 b1.size (by rintro k ⟨⟩; omega)
    replace q := q.grown b14 q.size (by rintro k ⟨⟩; omega)
    have r12 := r16
    clear r16
    refine LL.val (R.assign rfl rfl) rfl rfl rfl ?_
    refine LL.nilS ?_
    refine CC.seq ?_
    refine CC.region ?_
    refine LL.val (R.move rfl rfl) rfl rfl rfl ?_
    refine LL.val (R.eqT rfl rfl rfl (by omega)) rfl rfl rfl ?_
    refine LL.val (R.move rfl rfl) rfl rfl rfl ?_
    refine LL.val (R.load rfl rfl (I.ldNc (vs := [Value.int IntKind.i64 b, Value.int IntKind.i64 i, Value.int IntKind.i64 r, Value.int IntKind.i64 t, Value.int IntKind.u64 ↑k1, Value.int IntKind.u64 ↑k2, Value.int IntKind.i64 9, Value.int IntKind.i64 (9 + i / 4), Value.int IntKind.i64 (9 + i / 4 + r / 4), Value.int IntKind.i64 (10 + i / 4 + r / 4)]) (RowL.cells r12 rfl) (by rfl) (by rfl))) rfl rfl rfl ?_
    refine LL.val (R.load rfl rfl (I.ldNc (vs := [Value.int IntKind.i64 b, Value.int IntKind.i64 i, Value.int IntKind.i64 r, Value.int IntKind.i64 t, Value.int IntKind.u64 ↑k1, Value.int IntKind.u64 ↑k2, Value.int IntKind.i64 a, Value.int IntKind.i64 c, Value.int IntKind.i64 d, Value.int IntKind.i64 e]) (RowL.cells r4 rfl) (by rfl) (by rfl))) rfl rfl rfl ?_
    refine LL.vsplit (fun h => R.eqST (p := (b : Int) = b ∧ (i : Int) = i ∧ (r : Int) = r ∧ (t : Int) = t ∧ (↑k1 : Int) = ↑k1 ∧ (↑k2 : Int) = ↑k2 ∧ (9 : Int) = a ∧ (9 + i / 4 : Int) = c ∧ (9 + i / 4 + r / 4 : Int) = d ∧ (10 + i / 4 + r / 4 : Int) = e) (bs := [decide ((b : Int) = b), decide ((i : Int) = i), decide ((r : Int) = r), decide ((t : Int) = t), decide ((↑k1 : Int) = ↑k1), decide ((↑k2 : Int) = ↑k2), decide ((9 : Int) = a), decide ((9 + i / 4 : Int) = c), decide ((9 + i / 4 + r / 4 : Int) = d), decide ((10 + i / 4 + r / 4 : Int) = e)]) rfl rfl rfl rfl (by kernel_rfl) (by kernel_rfl) (by simp) h) (fun h => R.eqSF (p := (b : Int) = b ∧ (i : Int) = i ∧ (r : Int) = r ∧ (t : Int) = t ∧ (↑k1 : Int) = ↑k1 ∧ (↑k2 : Int) = ↑k2 ∧ (9 : Int) = a ∧ (9 + i / 4 : Int) = c ∧ (9 + i / 4 + r / 4 : Int) = d ∧ (10 + i / 4 + r / 4 : Int) = e) (bs := [decide ((b : Int) = b), decide ((i : Int) = i), decide ((r : Int) = r), decide ((t : Int) = t), decide ((↑k1 : Int) = ↑k1), decide ((↑k2 : Int) = ↑k2), decide ((9 : Int) = a), decide ((9 + i / 4 : Int) = c), decide ((9 + i / 4 + r / 4 : Int) = d), decide ((10 + i / 4 + r / 4 : Int) = e)]) rfl rfl rfl rfl (by kernel_rfl) (by kernel_rfl) (by simp) h) rfl rfl rfl (fun c18 => ?_) (fun c18 => ?_)
    refine LL.val (R.pick rfl rfl rfl) rfl rfl rfl ?_
    refine LL.val (R.assign rfl rfl) rfl rfl rfl ?_
    refine LL.nilS ?_
    refine CC.ret ?_
    refine EE.ret _ rfl rfl ?_
    exact ⟨by simp [resV]; omega, q⟩
    refine LL.val (R.pick rfl rfl rfl) rfl rfl rfl ?_
    refine LL.val (R.assign rfl rfl) rfl rfl rfl ?_
    refine LL.nilS ?_
    refine CC.ret ?_
    refine EE.ret _ rfl rfl ?_
    exact ⟨by simp [resV]; omega, q⟩
  · refine CC.seq ?_
    refine CC.region ?_
    refine LL.box [Value.int IntKind.i64 b, Value.int IntKind.i64 i, Value.int IntKind.i64 r, Value.int IntKind.i64 t, Value.int IntKind.u64 ↑k1, Value.int IntKind.u64 ↑k2, Value.int IntKind.i64 a, Value.int IntKind.i64 c, Value.int IntKind.i64 d, Value.int IntKind.i64 e] rfl rfl rfl rfl rfl ?_
    intro Wa2 ga3 ega3 ra4 za5 ba1
    replace q := q.trans (ba1.mono q.size)
    refine LL.val (R.assign rfl rfl) rfl rfl rfl ?_
    refine LL.nilS ?_
    refine CC.seq ?_
    refine CC.region ?_
    refine LL.val (R.field rfl rfl (I.fld rfl)) rfl rfl rfl ?_
    refine LL.val (R.load rfl rfl (I.ldNc (vs := [Value.int IntKind.i64 b, Value.int IntKind.i64 i, Value.int IntKind.i64 r, Value.int IntKind.i64 t]) (RowL.cells ra4 rfl) (by rfl) (by rfl))) rfl rfl rfl ?_
    refine LL.val (R.field rfl rfl (I.fld rfl)) rfl rfl rfl ?_
    refine LL.val (R.load rfl rfl (I.ldNc (vs := [Value.int IntKind.u64 ↑k1, Value.int IntKind.u64 ↑k2]) (RowL.cells ra4 rfl) (by rfl) (by rfl))) rfl rfl rfl ?_
    refine LL.call (R.call rfl rfl rfl) rfl rfl rfl (rof_F _ _ _ _ _ _ _ (by first | assumption | omega)) ?_
    rintro e Wa7 ⟨rfl, ba6⟩
    refine ⟨_, rfl, ?_⟩
    have zba6 := ba6.size
    replace ra4 := ra4.up ba6
    replace ba1 := ba1.trans (ba6.mono ba1.size)
    replace q := q.trans (ba6.mono q.size)
    refine LL.val (R.move rfl rfl) rfl rfl rfl ?_
    refine LL.val (R.extract rfl rfl rfl) rfl rfl rfl ?_
    refine LL.val (R.extract rfl rfl rfl) rfl rfl rfl ?_
    refine LL.alloc ([Value.int IntKind.i64 0, Value.int IntKind.i64 0, Value.int IntKind.i64 0, Value.int IntKind.i64 0, Value.int IntKind.u64 0, Value.int IntKind.u64 0, Value.int IntKind.i64 0, Value.int IntKind.i64 0, Value.int IntKind.i64 0, Value.int IntKind.i64 0]) rfl rfl rfl rfl rfl ?_
    intro Wa10 ga11 ega11 ra12 za13 ba9
    replace ba6 := ba6.trans (ba9.mono ba6.size)
    replace ra4 := ra4.up ba9
    replace ba1 := ba1.trans (ba9.mono ba1.size)
    replace q := q.trans (ba9.mono q.size)
    refine LL.storeN (vs := [Value.int IntKind.i64 0, Value.int IntKind.i64 0, Value.int IntKind.i64 0, Value.int IntKind.i64 0, Value.int IntKind.u64 ↑0, Value.int IntKind.u64 ↑0, Value.int IntKind.i64 0, Value.int IntKind.i64 0, Value.int IntKind.i64 0, Value.int IntKind.i64 0]) rfl rfl rfl rfl ra12 (by exact Nat.le_of_ble_eq_true rfl) (ones_of rfl) rfl rfl ?_
    intro Wa15 ra16 ba14 za17
    have hlba14 := ra12.lt
    replace ra16 : RowL Wa15 _ 27 [Value.int IntKind.i64 0, Value.int IntKind.i64 0, Value.int IntKind.i64 0, Value.int IntKind.i64 0, Value.int IntKind.u64 ↑0, Value.int IntKind.u64 ↑0, Value.int IntKind.i64 0, Value.int IntKind.i64 0, Value.int IntKind.i64 0, Value.int IntKind.i64 0] := ra16
    clear ra12
    replace ba9 := ba9.grown ba14 ba9.size (by rintro k ⟨⟩; omega)
    replace ba6 := ba6.grown ba14 ba6.size (by rintro k ⟨⟩; omega)
    replace ra4 := ra4.gr ba14 (by have := ra4.lt; omega)
    replace ba1 := ba1.grown ba14 ba1.size (by rintro k ⟨⟩; omega)
    replace q := q.grown ba14 q.size (by rintro k ⟨⟩; omega)
    have ra12 := ra16
    clear ra16
    refine LL.val (R.assign rfl rfl) rfl rfl rfl ?_
    refine LL.nilS ?_
    refine CC.seq ?_
    refine CC.region ?_
    refine LL.val (R.move rfl rfl) rfl rfl rfl ?_
    refine LL.val (R.eqF rfl rfl rfl (by omega)) rfl rfl rfl ?_
    refine LL.val (R.move rfl rfl) rfl rfl rfl ?_
    refine LL.skip rfl rfl ?_
    refine LL.skip rfl rfl ?_
    refine LL.skip rfl rfl ?_
    refine LL.val (R.pick rfl rfl rfl) rfl rfl rfl ?_
    refine LL.val (R.assign rfl rfl) rfl rfl rfl ?_
    refine LL.nilS ?_
    refine CC.ret ?_
    refine EE.ret _ rfl rfl ?_
    exact ⟨by simp [resV]; omega, q⟩
end Go.Proofs.Ythdgnogpjpoklaa
