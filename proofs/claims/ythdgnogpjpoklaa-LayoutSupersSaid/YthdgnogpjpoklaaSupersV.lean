/- LayoutSupers: the walk, of none. -/
import Derived.Test.YthdgnogpjpoklaaSupersW
namespace Go.Proofs.Ythdgnogpjpoklaa
set_option linter.unusedVariables false
set_option linter.unusedSimpArgs false
open Go.RowKit Go.Shelf
set_option maxRecDepth 100000 in
set_option maxHeartbeats 8000000 in
theorem supers_F (b i r t : Int) (k1 k2 : Nat) (a c d e n : Int) (w : World) (hl : notL b i r t a c d e) : Calls Try.prog 4 #[layV b i r t k1 k2 a c d e, .int .i64 n] w fun x w' => x = .returned (.bool true) ∧ Below w.heap.size w w' := by
  have q := Below.refl w.heap.size w
  refine X.fnM Try.func4 rfl (n := 97) rfl rfl ?_
  refine CC.seq ?_
  refine CC.region ?_
  refine LL.box [Value.int IntKind.i64 b, Value.int IntKind.i64 i, Value.int IntKind.i64 r, Value.int IntKind.i64 t, Value.int IntKind.u64 ↑k1, Value.int IntKind.u64 ↑k2, Value.int IntKind.i64 a, Value.int IntKind.i64 c, Value.int IntKind.i64 d, Value.int IntKind.i64 e] rfl rfl rfl rfl rfl ?_
  intro W2 g3 eg3 r4 z5 b1
  replace q := q.trans (b1.mono q.size)
  have l6 := r4.lt
  refine LL.alloc ([Value.bool false]) rfl rfl rfl rfl rfl ?_
  intro W8 g9 eg9 r10 z11 b7
  replace r4 := r4.up b7
  replace b1 := b1.trans (b7.mono b1.size)
  replace q := q.trans (b7.mono q.size)
  refine LL.nilS ?_
  refine CC.seq ?_
  refine CC.region ?_
  refine LL.val (R.load rfl rfl (I.ldNc (vs := [Value.int IntKind.i64 b, Value.int IntKind.i64 i, Value.int IntKind.i64 r, Value.int IntKind.i64 t, Value.int IntKind.u64 ↑k1, Value.int IntKind.u64 ↑k2, Value.int IntKind.i64 a, Value.int IntKind.i64 c, Value.int IntKind.i64 d, Value.int IntKind.i64 e]) (RowL.cells r4 rfl) (by rfl) (by rfl))) rfl rfl rfl ?_
  refine LL.call (R.call rfl rfl rfl) rfl rfl rfl (super_bad _ _ _ _ _ _ _ _ _ _ _ (by first | assumption | omega)) ?_
  rintro e W13 ⟨rfl, b12⟩
  refine ⟨_, rfl, ?_⟩
  have zb12 := b12.size
  replace r10 := r10.up b12
  replace b7 := b7.trans (b12.mono b7.size)
  replace r4 := r4.up b12
  replace b1 := b1.trans (b12.mono b1.size)
  replace q := q.trans (b12.mono q.size)
  refine LL.val (R.move rfl rfl) rfl rfl rfl ?_
  refine LL.val (R.extract rfl rfl rfl) rfl rfl rfl ?_
  refine LL.val (R.extract rfl rfl rfl) rfl rfl rfl ?_
  refine LL.val (R.assign rfl rfl) rfl rfl rfl ?_
  refine LL.val (R.assign rfl rfl) rfl rfl rfl ?_
  refine LL.nilS ?_
  refine CC.seq ?_
  refine CC.seq ?_
  refine CC.region ?_
  refine LL.val (R.load rfl rfl (I.ldNc (vs := [Value.int IntKind.i64 b, Value.int IntKind.i64 i, Value.int IntKind.i64 r, Value.int IntKind.i64 t, Value.int IntKind.u64 ↑k1, Value.int IntKind.u64 ↑k2, Value.int IntKind.i64 a, Value.int IntKind.i64 c, Value.int IntKind.i64 d, Value.int IntKind.i64 e]) (RowL.cells r4 rfl) (by rfl) (by rfl))) rfl rfl rfl ?_
  refine LL.callBF (R.call rfl rfl rfl) rfl rfl rfl (right_any _ _ _ _ _ _ _ _ _ _ _) (by first | assumption | omega) (fun W15 b14 => ?_)
  have zb14 := b14.size
  replace b12 := b12.trans (b14.mono b12.size)
  replace r10 := r10.up b14
  replace b7 := b7.trans (b14.mono b7.size)
  replace r4 := r4.up b14
  replace b1 := b1.trans (b14.mono b1.size)
  replace q := q.trans (b14.mono q.size)
  refine LL.nilS ?_
  refine CC.no rfl ?_
  refine CC.skip ?_
  refine EE.thenN ?_
  refine CC.seq ?_
  refine CC.region ?_
  refine LL.val (R.load rfl rfl (I.ldNc (vs := [Value.int IntKind.i64 b, Value.int IntKind.i64 i, Value.int IntKind.i64 r, Value.int IntKind.i64 t, Value.int IntKind.u64 ↑k1, Value.int IntKind.u64 ↑k2, Value.int IntKind.i64 a, Value.int IntKind.i64 c, Value.int IntKind.i64 d, Value.int IntKind.i64 e]) (RowL.cells r4 rfl) (by rfl) (by rfl))) rfl rfl rfl ?_
  refine LL.val (R.move rfl rfl) rfl rfl rfl ?_
  refine LL.call (R.call rfl rfl rfl) rfl rfl rfl (pJournal_bad _ _ _ _ _ _ _ _ _ _ _ _ (by first | assumption | omega)) ?_
  rintro e W17 ⟨rfl, b16⟩
  refine ⟨_, rfl, ?_⟩
  have zb16 := b16.size
  replace b14 := b14.trans (b16.mono b14.size)
  replace b12 := b12.trans (b16.mono b12.size)
  replace r10 := r10.up b16
  replace b7 := b7.trans (b16.mono b7.size)
  replace r4 := r4.up b16
  replace b1 := b1.trans (b16.mono b1.size)
  replace q := q.trans (b16.mono q.size)
  refine LL.val (R.move rfl rfl) rfl rfl rfl ?_
  refine LL.val (R.extract rfl rfl rfl) rfl rfl rfl ?_
  refine LL.val (R.extract rfl rfl rfl) rfl rfl rfl ?_
  refine LL.val (R.assign rfl rfl) rfl rfl rfl ?_
  refine LL.val (R.assign rfl rfl) rfl rfl rfl ?_
  refine LL.nilS ?_
  refine CC.seq ?_
  refine CC.region ?_
  refine LL.val (R.load rfl rfl (I.ldNc (vs := [Value.int IntKind.i64 b, Value.int IntKind.i64 i, Value.int IntKind.i64 r, Value.int IntKind.i64 t, Value.int IntKind.u64 ↑k1, Value.int IntKind.u64 ↑k2, Value.int IntKind.i64 a, Value.int IntKind.i64 c, Value.int IntKind.i64 d, Value.int IntKind.i64 e]) (RowL.cells r4 rfl) (by rfl) (by rfl))) rfl rfl rfl ?_
  refine LL.val (R.move rfl rfl) rfl rfl rfl ?_
  refine LL.call (R.call rfl rfl rfl) rfl rfl rfl (pInode_bad _ _ _ _ _ _ _ _ _ _ _ _ (by first | assumption | omega)) ?_
  rintro e W19 ⟨rfl, b18⟩
  refine ⟨_, rfl, ?_⟩
  have zb18 := b18.size
  replace b16 := b16.trans (b18.mono b16.size)
  replace b14 := b14.trans (b18.mono b14.size)
  replace b12 := b12.trans (b18.mono b12.size)
  replace r10 := r10.up b18
  replace b7 := b7.trans (b18.mono b7.size)
  replace r4 := r4.up b18
  replace b1 := b1.trans (b18.mono b1.size)
  replace q := q.trans (b18.mono q.size)
  refine LL.val (R.move rfl rfl) rfl rfl rfl ?_
  refine LL.val (R.extract rfl rfl rfl) rfl rfl rfl ?_
  refine LL.val (R.extract rfl rfl rfl) rfl rfl rfl ?_
  refine LL.val (R.assign rfl rfl) rfl rfl rfl ?_
  refine LL.val (R.assign rfl rfl) rfl rfl rfl ?_
  refine LL.nilS ?_
  refine CC.seq ?_
  refine CC.region ?_
  refine LL.val (R.load rfl rfl (I.ldNc (vs := [Value.int IntKind.i64 b, Value.int IntKind.i64 i, Value.int IntKind.i64 r, Value.int IntKind.i64 t, Value.int IntKind.u64 ↑k1, Value.int IntKind.u64 ↑k2, Value.int IntKind.i64 a, Value.int IntKind.i64 c, Value.int IntKind.i64 d, Value.int IntKind.i64 e]) (RowL.cells r4 rfl) (by rfl) (by rfl))) rfl rfl rfl ?_
  refine LL.val (R.move rfl rfl) rfl rfl rfl ?_
  refine LL.call (R.call rfl rfl rfl) rfl rfl rfl (pRecord_bad _ _ _ _ _ _ _ _ _ _ _ _ (by first | assumption | omega)) ?_
  rintro e W21 ⟨rfl, b20⟩
  refine ⟨_, rfl, ?_⟩
  have zb20 := b20.size
  replace b18 := b18.trans (b20.mono b18.size)
  replace b16 := b16.trans (b20.mono b16.size)
  replace b14 := b14.trans (b20.mono b14.size)
  replace b12 := b12.trans (b20.mono b12.size)
  replace r10 := r10.up b20
  replace b7 := b7.trans (b20.mono b7.size)
  replace r4 := r4.up b20
  replace b1 := b1.trans (b20.mono b1.size)
  replace q := q.trans (b20.mono q.size)
  refine LL.val (R.move rfl rfl) rfl rfl rfl ?_
  refine LL.val (R.extract rfl rfl rfl) rfl rfl rfl ?_
  refine LL.val (R.extract rfl rfl rfl) rfl rfl rfl ?_
  refine LL.val (R.assign rfl rfl) rfl rfl rfl ?_
  refine LL.val (R.assign rfl rfl) rfl rfl rfl ?_
  refine LL.nilS ?_
  refine CC.seq ?_
  refine CC.region ?_
  refine LL.val (R.load rfl rfl (I.ldNc (vs := [Value.int IntKind.i64 b, Value.int IntKind.i64 i, Value.int IntKind.i64 r, Value.int IntKind.i64 t, Value.int IntKind.u64 ↑k1, Value.int IntKind.u64 ↑k2, Value.int IntKind.i64 a, Value.int IntKind.i64 c, Value.int IntKind.i64 d, Value.int IntKind.i64 e]) (RowL.cells r4 rfl) (by rfl) (by rfl))) rfl rfl rfl ?_
  refine LL.val (R.move rfl rfl) rfl rfl rfl ?_
  refine LL.call (R.call rfl rfl rfl) rfl rfl rfl (part_bad _ _ _ _ _ _ _ _ _ _ _ _ (by first | assumption | omega)) ?_
  rintro e W23 ⟨rfl, b22⟩
  refine ⟨_, rfl, ?_⟩
  have zb22 := b22.size
  replace b20 := b20.trans (b22.mono b20.size)
  replace b18 := b18.trans (b22.mono b18.size)
  replace b16 := b16.trans (b22.mono b16.size)
  replace b14 := b14.trans (b22.mono b14.size)
  replace b12 := b12.trans (b22.mono b12.size)
  replace r10 := r10.up b22
  replace b7 := b7.trans (b22.mono b7.size)
  replace r4 := r4.up b22
  replace b1 := b1.trans (b22.mono b1.size)
  replace q := q.trans (b22.mono q.size)
  refine LL.val (R.move rfl rfl) rfl rfl rfl ?_
  refine LL.val (R.extract rfl rfl rfl) rfl rfl rfl ?_
  refine LL.val (R.extract rfl rfl rfl) rfl rfl rfl ?_
  have l24 := r10.lt
  have l25 := r4.lt
  refine LL.alloc ([Value.int IntKind.i64 0, Value.int IntKind.i64 0]) rfl rfl rfl rfl rfl ?_
  intro W27 g28 eg28 r29 z30 b26
  replace b22 := b22.trans (b26.mono b22.size)
  replace b20 := b20.trans (b26.mono b20.size)
  replace b18 := b18.trans (b26.mono b18.size)
  replace b16 := b16.trans (b26.mono b16.size)
  replace b14 := b14.trans (b26.mono b14.size)
  replace b12 := b12.trans (b26.mono b12.size)
  replace r10 := r10.up b26
  replace b7 := b7.trans (b26.mono b7.size)
  replace r4 := r4.up b26
  replace b1 := b1.trans (b26.mono b1.size)
  replace q := q.trans (b26.mono q.size)
  refine LL.storeN (vs := [Value.int IntKind.i64 0, Value.int IntKind.i64 0]) rfl rfl rfl rfl r29 (by exact Nat.le_of_ble_eq_true rfl) (ones_of rfl) rfl rfl ?_
  intro W32 r33 b31 z34
  have hlb31 := r29.lt
  replace r33 : RowL W32 _ 46 [Value.int IntKind.i64 0, Value.int IntKind.i64 0] := r33
  clear r29
  replace b26 := b26.grown b31 b26.size (by rintro k ⟨⟩; omega)
  replace b22 := b22.grown b31 b22.size (by rintro k ⟨⟩; omega)
  replace b20 := b20.grown b31 b20.size (by rintro k ⟨⟩; omega)
  replace b18 := b18.grown b31 b18.size (by rintro k ⟨⟩; omega)
  replace b16 := b16.grown b31 b16.size (by rintro k ⟨⟩; omega)
  replace b14 := b14.grown b31 b14.size (by rintro k ⟨⟩; omega)
  replace b12 := b12.grown b31 b12.size (by rintro k ⟨⟩; omega)
  replace r10 := r10.gr b31 (by have := r10.lt; omega)
  replace b7 := b7.grown b31 b7.size (by rintro k ⟨⟩; omega)
  replace r4 := r4.gr b31 (by have := r4.lt; omega)
  replace b1 := b1.grown b31 b1.size (by rintro k ⟨⟩; omega)
  replace q := q.grown b31 q.size (by rintro k ⟨⟩; omega)
  have r29 := r33
  clear r33
  refine LL.val (R.assign rfl rfl) rfl rfl rfl ?_
  refine LL.nilS ?_
  refine CC.seq ?_
  refine CC.region ?_
  refine LL.val (R.load rfl rfl (I.ldNc (vs := [Value.int IntKind.i64 b, Value.int IntKind.i64 i, Value.int IntKind.i64 r, Value.int IntKind.i64 t, Value.int IntKind.u64 ↑k1, Value.int IntKind.u64 ↑k2, Value.int IntKind.i64 a, Value.int IntKind.i64 c, Value.int IntKind.i64 d, Value.int IntKind.i64 e]) (RowL.cells r4 rfl) (by rfl) (by rfl))) rfl rfl rfl ?_
  refine LL.call (R.call rfl rfl rfl) rfl rfl rfl (peach_any _ _ _ _ _ _ _ _ _ _ _) ?_
  rintro e W36 ⟨g37, rfl, r38, l39, b35⟩
  refine ⟨_, rfl, ?_⟩
  have zb35 := b35.size
  replace b26 := b26.trans (b35.mono b26.size)
  replace b22 := b22.trans (b35.mono b22.size)
  replace b20 := b20.trans (b35.mono b20.size)
  replace b18 := b18.trans (b35.mono b18.size)
  replace b16 := b16.trans (b35.mono b16.size)
  replace b14 := b14.trans (b35.mono b14.size)
  replace b12 := b12.trans (b35.mono b12.size)
  replace r10 := r10.up b35
  replace b7 := b7.trans (b35.mono b7.size)
  replace r4 := r4.up b35
  replace b1 := b1.trans (b35.mono b1.size)
  replace q := q.trans (b35.mono q.size)
  replace r29 := r29.up b35
  refine LL.val (R.assign rfl rfl) rfl rfl rfl ?_
  refine LL.nilS ?_
  refine CC.seq ?_
  refine CC.seq ?_
  refine CC.region ?_
  refine LL.val (R.move rfl rfl) rfl rfl rfl ?_
  refine LL.val (R.eqFn rfl rfl rfl rfl) rfl rfl rfl ?_
  refine LL.nilS ?_
  refine CC.no rfl ?_
  refine CC.skip ?_
  refine EE.thenN ?_
  refine CC.seq ?_
  refine CC.seq ?_
  refine CC.region ?_
  refine LL.val (R.move rfl rfl) rfl rfl rfl ?_
  refine LL.nilS ?_
  refine CC.block ?_
  have yB := q.size
  have l9 := r10.lt
  refine CC.rangeZ (γ := Unit) (gf := 36) (lb := [.pointer (some ⟨g37, 0, none⟩)]) (encs := paE) rfl rfl (each_none b i r t k1 k2 a c d e g37 _ hl ⟨_, r38⟩) (Below.refl _ _) (fun _ h => h.elim) (fun _ => rfl) rfl
    (fun m (pre : List Pa) W' => Below w.heap.size w W' ∧ RowL W' g9 4 [.bool false]) (fun m (pre : List Pa) W' => False) (fun W' => Below w.heap.size w W' ∧ RowL W' g9 4 [.bool false])
    (fun m m' s X Y hs ht hg => ⟨hs.1.trans (ht.below yB hs.1.size), ht.row hs.2 (.inl l9)⟩) (fun m m' s X Y hs ht hg => hs)
    ⟨q, r10⟩ (fun m xs W' _ h => h) (fun m pre W' _ h => h.elim) (fun x g => sl []) (fun x g W' => True) (fun x g => fun _ W W' row h hg hr => h) ?assign ?body ?after
  case assign =>
    rintro l' m pre x W K hm h hK
    refine CC.skip ?_
    exact EE.thenK fun a' F => hK a' _ () (StaysZ.refl _ _ _) (Keeps.refl _ _) h (F.keep _ trivial) trivial
  case body =>
    rintro l' m pre x g W hm hl' hrl h hx ⟨_, rfl, tt, hp⟩
    simp at hp
  case after =>
    rintro E W hE ⟨h1, r10⟩ hE1
    refine EE.thenN ?_
    refine CC.seq ?_
    refine CC.region ?_
    refine LL.val (R.move rfl rfl) rfl rfl rfl ?_
    refine LL.val (R.len rfl rfl rfl rfl) rfl rfl rfl ?_
    refine LL.val (R.eqT rfl rfl rfl (by omega)) rfl rfl rfl ?_
    refine LL.val (R.move rfl rfl) rfl rfl rfl ?_
    refine LL.val (R.move rfl rfl) rfl rfl rfl ?_
    refine LL.call (R.call rfl rfl rfl) rfl rfl rfl (num_any _ _) ?_
    rintro e W' ⟨rfl, rfl⟩
    refine ⟨_, rfl, ?_⟩
    refine LL.val (R.eqT rfl rfl rfl (by omega)) rfl rfl rfl ?_
    refine LL.val (R.pick rfl rfl rfl) rfl rfl rfl ?_
    refine LL.val (R.move rfl rfl) rfl rfl rfl ?_
    refine LL.val (R.move rfl rfl) rfl rfl rfl ?_
    refine LL.call (R.call rfl rfl rfl) rfl rfl rfl (num_any _ _) ?_
    rintro e W' ⟨rfl, rfl⟩
    refine ⟨_, rfl, ?_⟩
    refine LL.val (R.eqT rfl rfl rfl (by omega)) rfl rfl rfl ?_
    refine LL.val (R.pick rfl rfl rfl) rfl rfl rfl ?_
    refine LL.val (R.move rfl rfl) rfl rfl rfl ?_
    refine LL.val (R.move rfl rfl) rfl rfl rfl ?_
    refine LL.call (R.call rfl rfl rfl) rfl rfl rfl (num_any _ _) ?_
    rintro e W' ⟨rfl, rfl⟩
    refine ⟨_, rfl, ?_⟩
    refine LL.val (R.eqT rfl rfl rfl (by omega)) rfl rfl rfl ?_
    refine LL.val (R.pick rfl rfl rfl) rfl rfl rfl ?_
    refine LL.val (R.move rfl rfl) rfl rfl rfl ?_
    refine LL.val (R.move rfl rfl) rfl rfl rfl ?_
    refine LL.call (R.call rfl rfl rfl) rfl rfl rfl (num_any _ _) ?_
    rintro e W' ⟨rfl, rfl⟩
    refine ⟨_, rfl, ?_⟩
    refine LL.val (R.eqT rfl rfl rfl (by omega)) rfl rfl rfl ?_
    refine LL.val (R.pick rfl rfl rfl) rfl rfl rfl ?_
    refine LL.val (R.move rfl rfl) rfl rfl rfl ?_
    refine LL.val (R.move rfl rfl) rfl rfl rfl ?_
    refine LL.call (R.call rfl rfl rfl) rfl rfl rfl (num_any _ _) ?_
    rintro e W' ⟨rfl, rfl⟩
    refine ⟨_, rfl, ?_⟩
    refine LL.val (R.eqT rfl rfl rfl (by omega)) rfl rfl rfl ?_
    refine LL.val (R.pick rfl rfl rfl) rfl rfl rfl ?_
    refine LL.val (R.move rfl rfl) rfl rfl rfl ?_
    refine LL.call (R.call rfl rfl rfl) rfl rfl rfl (works_any _) ?_
    rintro e Wb2 ⟨rfl, bb1⟩
    refine ⟨_, rfl, ?_⟩
    have zbb1 := bb1.size
    replace h1 := h1.trans (bb1.mono h1.size)
    replace r10 := r10.up bb1
    replace hE1 := defer_up hE1 bb1
    refine LL.val (R.pick rfl rfl rfl) rfl rfl rfl ?_
    refine LL.store rfl rfl rfl rfl r10 (by exact Nat.le_of_ble_eq_true rfl) rfl rfl rfl rfl ?_
    intro Wb4 rb5 bb3 zb6
    have hlbb3 := r10.lt
    replace rb5 : RowL Wb4 _ 4 [Value.bool true] := rb5
    clear r10
    replace h1 := h1.grown bb3 h1.size (by rintro k ⟨⟩; omega)
    replace hE1 := (bb3.block _ (Array.getElem?_eq_some_iff.1 hE1).1 (by simp; omega)).trans hE1
    have r10 := rb5
    clear rb5
    refine LL.nilS ?_
    refine CC.ret ?_
    refine EE.retN1 hE1 rfl ⟨_, rfl, lv1 rfl (RowL.cell (taken_up (by assumption) (by omega)) rfl)⟩ ?_
    exact ⟨rfl, taken_bel h1 (by omega) (Nat.le_refl _)⟩
theorem supers_walk (b i r t k1 k2 a c d e n : Int) (w : World) (h1 : 0 ≤ k1 ∧ k1 < 18446744073709551616) (h2 : 0 ≤ k2 ∧ k2 < 18446744073709551616) : Calls Try.prog 4 #[.agg #[.int .i64 b, .int .i64 i, .int .i64 r, .int .i64 t, .int .u64 k1, .int .u64 k2, .int .i64 a, .int .i64 c, .int .i64 d, .int .i64 e], .int .i64 n] w fun x w' => x = .returned (.bool true) ∧ Below w.heap.size w w' := by
  obtain ⟨k1, rfl⟩ := Int.eq_ofNat_of_zero_le h1.1
  obtain ⟨k2, rfl⟩ := Int.eq_ofNat_of_zero_le h2.1
  by_cases hl : isL b i r t a c d e
  · obtain ⟨b, rfl⟩ := Int.eq_ofNat_of_zero_le (show 0 ≤ b by omega)
    obtain ⟨i, rfl⟩ := Int.eq_ofNat_of_zero_le (show 0 ≤ i by omega)
    obtain ⟨r, rfl⟩ := Int.eq_ofNat_of_zero_le (show 0 ≤ r by omega)
    obtain ⟨t, rfl⟩ := Int.eq_ofNat_of_zero_le (show 0 ≤ t by omega)
    exact supers_T b i r t k1 k2 a c d e n w ⟨by omega, by omega⟩ hl
  · exact supers_F b i r t k1 k2 a c d e n w hl
end Go.Proofs.Ythdgnogpjpoklaa
