/- LayoutHolds: the walk. -/
import Derived.Test.YthdgnogpjpoklaaHoldM
import Derived.Test.YthdgnogpjpoklaaPartsR
namespace Go.Proofs.Ythdgnogpjpoklaa
set_option linter.unusedVariables false
set_option linter.unusedSimpArgs false
open Go.RowKit Go.Shelf
section
variable {P : Program} {w : World} {T TI e : TypeId} {z : Value} {bytes : Nat} {kn : IntKind} {o : Oper} {n i : Nat} {D : List Deferred} {M : Slots} {ops : Array Oper} {ok : World → Prop} {K : Slots → World → Prop}
theorem ZR.zeros {xs : Array Operand} {v : Value} {base m l : Nat} {us : List Value} (hi : ops[i]? = some o) (ho : o.op = .call { callee := .builtin .append, args := xs, argTypes := #[T, TI] }) (hx : evsM M xs.toList = some [v, .int .i64 (m : Int)]) (I : El P T e z bytes) (htn : P.underlying TI = some (.int kn)) (hz1 : z.oneCell' = true) (hown : w.ownsRow base e 1 v l us)
    (hm : 0 < m) (h63 : l + m ≤ maxLen) (hb : (l + m) * bytes ≤ 140737488355328) (hbase : base ≤ w.heap.size) (hd : dstB n o.dst = true) (hg : wantB ops M o.guard = some true)
    (c : ∀ v' w', w'.ownsRow base e 1 v' (l + m) (us ++ List.replicate m z) → w.grownBy w' v.ownBlock → ok w' ∧ K (putM M o.dst v') w') : SR P ops ok i K n D M w := by
  obtain ⟨v', w', h1, h2, h3, h4⟩ := run_append_zeros I htn hz1 o.type hown hm h63 hb hbase
  have h := c v' w' h2 h3
  refine SR.val (v := v') hi (R.builtin ho hx fun b => ?_) hd hg h.1 h.2
  unfold builtin
  simp only [Sem.run_bind, h1, Result.andThen_ok, Sem.run_pure]
end
theorem owns_form {w : World} {e base n : Nat} {v : Value} {xs : List Value} (h : w.ownsRow base e 1 v n xs) (hn : 0 < n) : ∃ g cap, v = .slice (some ⟨g, 0, none⟩) n cap ∧ base ≤ g ∧ g < w.heap.size ∧ n ≤ cap := by
  rcases id h.2 with ⟨rfl, e1⟩ | ⟨g, cap, cur, rfl, hbg, hg, hnc, hcm, hcs, htake⟩
  · omega
  · exact ⟨g, cap, rfl, hbg, (Array.getElem?_eq_some_iff.1 hg).1, hnc⟩
theorem read_dev (b i r t k1 k2 : Nat) (v : Value) (w : World) (hof : okF b i r t) (hb : b ≤ 64) (hk : k1 < 18446744073709551616 ∧ k2 < 18446744073709551616) (hv : Reads w v (ints .u64 (devL b i r t k1 k2 (64 * b) 0 0))) : Calls Try.prog 22 #[v] w fun x w' => x = .returned (rdT b i r t k1 k2) ∧ Below w.heap.size w w' := by
  have hl := supL_len b i r t k1 k2
  have hw := devL_all (b := b) (i := i) (r := r) (t := t) (k1 := k1) (k2 := k2) (n := 64 * b) (at' := 0) (by' := 0) (by omega) (by omega)
  have hn := devL_len (b := b) (i := i) (r := r) (t := t) (k1 := k1) (k2 := k2) (n := 64 * b) (at' := 0) (by' := 0) (by omega)
  rw [dev_same (by omega)] at hv hw hn
  have h := read_T v _ w hv hw (by omega) (dev_ok hof)
  rw [wd_app (by omega), wd_app (by omega), wd_app (by omega), wd_app (by omega), wd_app (by omega), wd_app (by omega)] at h
  exact h
theorem read_bent (b i r t k1 k2 at' by' : Nat) (v : Value) (w : World) (hof : okF b i r t) (hb : b ≤ 64) (hk : k1 < 18446744073709551616 ∧ k2 < 18446744073709551616 ∧ by' < 18446744073709551616) (hat : at' ≤ 63) (h0 : by' ≠ 0) (hv : Reads w v (ints .u64 (devL b i r t k1 k2 (64 * b) at' by'))) : Calls Try.prog 22 #[v] w fun x w' => x = .returned rdN ∧ Below w.heap.size w w' := by
  have hw := devL_all (b := b) (i := i) (r := r) (t := t) (k1 := k1) (k2 := k2) (n := 64 * b) (at' := at') (by' := by') (by omega) (by omega)
  have hn := devL_len (b := b) (i := i) (r := r) (t := t) (k1 := k1) (k2 := k2) (n := 64 * b) (at' := at') (by' := by') (by omega)
  exact read_F v _ w hv hw (by omega) (dev_bent (by omega) (by omega) (by omega) h0)
set_option maxRecDepth 100000 in
set_option maxHeartbeats 8000000 in
theorem holds_F1 (b i r t : Int) (k1 k2 : Nat) (at' : Int) (by' : Nat) (word : Int) (w : World) (hok : notF b i r t) : Calls Try.prog 8 #[formV b i r t, keyV k1 k2, .int .i64 at', .int .u64 (by' : Int), .int .i64 word] w fun x w' => x = .returned (.bool true) ∧ Below w.heap.size w w' := by
  have q := Below.refl w.heap.size w
  refine X.fnM Try.func8 rfl (n := 144) rfl rfl ?_
  refine CC.seq ?_
  refine CC.region ?_
  refine LL.box [Value.int IntKind.i64 b, Value.int IntKind.i64 i, Value.int IntKind.i64 r, Value.int IntKind.i64 t] rfl rfl rfl rfl rfl ?_
  intro W2 g3 eg3 r4 z5 b1
  replace q := q.trans (b1.mono q.size)
  have l6 := r4.lt
  refine LL.box [Value.int IntKind.u64 ↑k1, Value.int IntKind.u64 ↑k2] rfl rfl rfl rfl rfl ?_
  intro W8 g9 eg9 r10 z11 b7
  replace r4 := r4.up b7
  replace b1 := b1.trans (b7.mono b1.size)
  replace q := q.trans (b7.mono q.size)
  have l12 := r10.lt
  have l13 := r4.lt
  refine LL.box [Value.int IntKind.i64 word] rfl rfl rfl rfl rfl ?_
  intro W15 g16 eg16 r17 z18 b14
  replace r10 := r10.up b14
  replace b7 := b7.trans (b14.mono b7.size)
  replace r4 := r4.up b14
  replace b1 := b1.trans (b14.mono b1.size)
  replace q := q.trans (b14.mono q.size)
  refine LL.val (R.assign rfl rfl) rfl rfl rfl ?_
  refine LL.nilS ?_
  refine CC.seq ?_
  refine CC.region ?_
  refine LL.val (R.load rfl rfl (I.ldNc (vs := [Value.int IntKind.i64 b, Value.int IntKind.i64 i, Value.int IntKind.i64 r, Value.int IntKind.i64 t]) (RowL.cells r4 rfl) (by rfl) (by rfl))) rfl rfl rfl ?_
  refine LL.val (R.load rfl rfl (I.ldNc (vs := [Value.int IntKind.u64 ↑k1, Value.int IntKind.u64 ↑k2]) (RowL.cells r10 rfl) (by rfl) (by rfl))) rfl rfl rfl ?_
  refine LL.call (R.call rfl rfl rfl) rfl rfl rfl (of_F _ _ _ _ _ _ _ (by first | assumption | omega)) ?_
  rintro e W20 ⟨rfl, b19⟩
  refine ⟨_, rfl, ?_⟩
  have zb19 := b19.size
  replace r17 := r17.up b19
  replace b14 := b14.trans (b19.mono b14.size)
  replace r10 := r10.up b19
  replace b7 := b7.trans (b19.mono b7.size)
  replace r4 := r4.up b19
  replace b1 := b1.trans (b19.mono b1.size)
  replace q := q.trans (b19.mono q.size)
  refine LL.val (R.move rfl rfl) rfl rfl rfl ?_
  refine LL.val (R.extract rfl rfl rfl) rfl rfl rfl ?_
  refine LL.val (R.extract rfl rfl rfl) rfl rfl rfl ?_
  have l21 := r17.lt
  have l22 := r10.lt
  have l23 := r4.lt
  refine LL.alloc ([Value.int IntKind.i64 0, Value.int IntKind.i64 0, Value.int IntKind.i64 0, Value.int IntKind.i64 0, Value.int IntKind.u64 0, Value.int IntKind.u64 0, Value.int IntKind.i64 0, Value.int IntKind.i64 0, Value.int IntKind.i64 0, Value.int IntKind.i64 0]) rfl rfl rfl rfl rfl ?_
  intro W25 g26 eg26 r27 z28 b24
  replace b19 := b19.trans (b24.mono b19.size)
  replace r17 := r17.up b24
  replace b14 := b14.trans (b24.mono b14.size)
  replace r10 := r10.up b24
  replace b7 := b7.trans (b24.mono b7.size)
  replace r4 := r4.up b24
  replace b1 := b1.trans (b24.mono b1.size)
  replace q := q.trans (b24.mono q.size)
  refine LL.storeN (vs := [Value.int IntKind.i64 0, Value.int IntKind.i64 0, Value.int IntKind.i64 0, Value.int IntKind.i64 0, Value.int IntKind.u64 ↑0, Value.int IntKind.u64 ↑0, Value.int IntKind.i64 0, Value.int IntKind.i64 0, Value.int IntKind.i64 0, Value.int IntKind.i64 0]) rfl rfl rfl rfl r27 (by exact Nat.le_of_ble_eq_true rfl) (ones_of rfl) rfl rfl ?_
  intro W30 r31 b29 z32
  have hlb29 := r27.lt
  replace r31 : RowL W30 _ 27 [Value.int IntKind.i64 0, Value.int IntKind.i64 0, Value.int IntKind.i64 0, Value.int IntKind.i64 0, Value.int IntKind.u64 ↑0, Value.int IntKind.u64 ↑0, Value.int IntKind.i64 0, Value.int IntKind.i64 0, Value.int IntKind.i64 0, Value.int IntKind.i64 0] := r31
  clear r27
  replace b24 := b24.grown b29 b24.size (by rintro k ⟨⟩; omega)
  replace b19 := b19.grown b29 b19.size (by rintro k ⟨⟩; omega)
  replace r17 := r17.gr b29 (by have := r17.lt; omega)
  replace b14 := b14.grown b29 b14.size (by rintro k ⟨⟩; omega)
  replace r10 := r10.gr b29 (by have := r10.lt; omega)
  replace b7 := b7.grown b29 b7.size (by rintro k ⟨⟩; omega)
  replace r4 := r4.gr b29 (by have := r4.lt; omega)
  replace b1 := b1.grown b29 b1.size (by rintro k ⟨⟩; omega)
  replace q := q.grown b29 q.size (by rintro k ⟨⟩; omega)
  have r27 := r31
  clear r31
  refine LL.val (R.assign rfl rfl) rfl rfl rfl ?_
  refine LL.nilS ?_
  refine CC.seq ?_
  refine CC.seq ?_
  refine CC.region ?_
  refine LL.val (R.move rfl rfl) rfl rfl rfl ?_
  refine LL.call (R.call rfl rfl rfl) rfl rfl rfl (num_any _ _) ?_
  rintro e W' ⟨rfl, rfl⟩
  refine ⟨_, rfl, ?_⟩
  refine LL.val (R.neT rfl rfl rfl (by omega)) rfl rfl rfl ?_
  refine LL.val (R.move rfl rfl) rfl rfl rfl ?_
  refine LL.skip rfl rfl ?_
  refine LL.skip rfl rfl ?_
  refine LL.skip rfl rfl ?_
  refine LL.val (R.pick rfl rfl rfl) rfl rfl rfl ?_
  refine LL.val (R.move rfl rfl) rfl rfl rfl ?_
  refine LL.skip rfl rfl ?_
  refine LL.skip rfl rfl ?_
  refine LL.val (R.pick rfl rfl rfl) rfl rfl rfl ?_
  refine LL.val (R.move rfl rfl) rfl rfl rfl ?_
  refine LL.skip rfl rfl ?_
  refine LL.skip rfl rfl ?_
  refine LL.val (R.pick rfl rfl rfl) rfl rfl rfl ?_
  refine LL.val (R.move rfl rfl) rfl rfl rfl ?_
  refine LL.skip rfl rfl ?_
  refine LL.skip rfl rfl ?_
  refine LL.val (R.pick rfl rfl rfl) rfl rfl rfl ?_
  refine LL.val (R.move rfl rfl) rfl rfl rfl ?_
  refine LL.skip rfl rfl ?_
  refine LL.skip rfl rfl ?_
  refine LL.skip rfl rfl ?_
  refine LL.skip rfl rfl ?_
  refine LL.skip rfl rfl ?_
  refine LL.val (R.pick rfl rfl rfl) rfl rfl rfl ?_
  refine LL.nilS ?_
  refine CC.yes rfl ?_
  refine CC.seq ?_
  refine CC.region ?_
  refine LL.call (R.call rfl rfl rfl) rfl rfl rfl (works_any _) ?_
  rintro e W34 ⟨rfl, b33⟩
  refine ⟨_, rfl, ?_⟩
  have zb33 := b33.size
  replace b24 := b24.trans (b33.mono b24.size)
  replace b19 := b19.trans (b33.mono b19.size)
  replace r17 := r17.up b33
  replace b14 := b14.trans (b33.mono b14.size)
  replace r10 := r10.up b33
  replace b7 := b7.trans (b33.mono b7.size)
  replace r4 := r4.up b33
  replace b1 := b1.trans (b33.mono b1.size)
  replace q := q.trans (b33.mono q.size)
  replace r27 := r27.up b33
  refine LL.val (R.assign rfl rfl) rfl rfl rfl ?_
  refine LL.nilS ?_
  refine CC.ret ?_
  refine EE.thenR ?_
  refine EE.retM _ rfl rfl ?_
  exact ⟨rfl, q⟩
set_option maxRecDepth 100000 in
set_option maxHeartbeats 8000000 in
theorem holds_F2 (b i r t : Int) (k1 k2 : Nat) (at' : Int) (by' : Nat) (word : Int) (w : World) (hok : okF b i r t) (h : 64 < b ∨ at' < 0 ∨ 63 < at' ∨ word < 0 ∨ 64 * b ≤ word) : Calls Try.prog 8 #[formV b i r t, keyV k1 k2, .int .i64 at', .int .u64 (by' : Int), .int .i64 word] w fun x w' => x = .returned (.bool true) ∧ Below w.heap.size w w' := by
  have q := Below.refl w.heap.size w
  rcases h with h | h | h | h | h
  · refine X.fnM Try.func8 rfl (n := 144) rfl rfl ?_
    refine CC.seq ?_
    refine CC.region ?_
    refine LL.box [Value.int IntKind.i64 b, Value.int IntKind.i64 i, Value.int IntKind.i64 r, Value.int IntKind.i64 t] rfl rfl rfl rfl rfl ?_
    intro W2 g3 eg3 r4 z5 b1
    replace q := q.trans (b1.mono q.size)
    have l6 := r4.lt
    refine LL.box [Value.int IntKind.u64 ↑k1, Value.int IntKind.u64 ↑k2] rfl rfl rfl rfl rfl ?_
    intro W8 g9 eg9 r10 z11 b7
    replace r4 := r4.up b7
    replace b1 := b1.trans (b7.mono b1.size)
    replace q := q.trans (b7.mono q.size)
    have l12 := r10.lt
    have l13 := r4.lt
    refine LL.box [Value.int IntKind.i64 word] rfl rfl rfl rfl rfl ?_
    intro W15 g16 eg16 r17 z18 b14
    replace r10 := r10.up b14
    replace b7 := b7.trans (b14.mono b7.size)
    replace r4 := r4.up b14
    replace b1 := b1.trans (b14.mono b1.size)
    replace q := q.trans (b14.mono q.size)
    refine LL.val (R.assign rfl rfl) rfl rfl rfl ?_
    refine LL.nilS ?_
    refine CC.seq ?_
    refine CC.region ?_
    refine LL.val (R.load rfl rfl (I.ldNc (vs := [Value.int IntKind.i64 b, Value.int IntKind.i64 i, Value.int IntKind.i64 r, Value.int IntKind.i64 t]) (RowL.cells r4 rfl) (by rfl) (by rfl))) rfl rfl rfl ?_
    refine LL.val (R.load rfl rfl (I.ldNc (vs := [Value.int IntKind.u64 ↑k1, Value.int IntKind.u64 ↑k2]) (RowL.cells r10 rfl) (by rfl) (by rfl))) rfl rfl rfl ?_
    refine LL.call (R.call rfl rfl rfl) rfl rfl rfl (of_T _ _ _ _ _ _ _ (by first | assumption | omega)) ?_
    rintro e W20 ⟨rfl, b19⟩
    refine ⟨_, rfl, ?_⟩
    have zb19 := b19.size
    replace r17 := r17.up b19
    replace b14 := b14.trans (b19.mono b14.size)
    replace r10 := r10.up b19
    replace b7 := b7.trans (b19.mono b7.size)
    replace r4 := r4.up b19
    replace b1 := b1.trans (b19.mono b1.size)
    replace q := q.trans (b19.mono q.size)
    refine LL.val (R.move rfl rfl) rfl rfl rfl ?_
    refine LL.val (R.extract rfl rfl rfl) rfl rfl rfl ?_
    refine LL.val (R.extract rfl rfl rfl) rfl rfl rfl ?_
    have l21 := r17.lt
    have l22 := r10.lt
    have l23 := r4.lt
    refine LL.alloc ([Value.int IntKind.i64 0, Value.int IntKind.i64 0, Value.int IntKind.i64 0, Value.int IntKind.i64 0, Value.int IntKind.u64 0, Value.int IntKind.u64 0, Value.int IntKind.i64 0, Value.int IntKind.i64 0, Value.int IntKind.i64 0, Value.int IntKind.i64 0]) rfl rfl rfl rfl rfl ?_
    intro W25 g26 eg26 r27 z28 b24
    replace b19 := b19.trans (b24.mono b19.size)
    replace r17 := r17.up b24
    replace b14 := b14.trans (b24.mono b14.size)
    replace r10 := r10.up b24
    replace b7 := b7.trans (b24.mono b7.size)
    replace r4 := r4.up b24
    replace b1 := b1.trans (b24.mono b1.size)
    replace q := q.trans (b24.mono q.size)
    refine LL.storeN (vs := [Value.int IntKind.i64 b, Value.int IntKind.i64 i, Value.int IntKind.i64 r, Value.int IntKind.i64 t, Value.int IntKind.u64 ↑k1, Value.int IntKind.u64 ↑k2, Value.int IntKind.i64 9, Value.int IntKind.i64 (9 + i / 4), Value.int IntKind.i64 (9 + i / 4 + r / 4), Value.int IntKind.i64 (10 + i / 4 + r / 4)]) rfl rfl rfl rfl r27 (by exact Nat.le_of_ble_eq_true rfl) (ones_of rfl) rfl rfl ?_
    intro W30 r31 b29 z32
    have hlb29 := r27.lt
    replace r31 : RowL W30 _ 27 [Value.int IntKind.i64 b, Value.int IntKind.i64 i, Value.int IntKind.i64 r, Value.int IntKind.i64 t, Value.int IntKind.u64 ↑k1, Value.int IntKind.u64 ↑k2, Value.int IntKind.i64 9, Value.int IntKind.i64 (9 + i / 4), Value.int IntKind.i64 (9 + i / 4 + r / 4), Value.int IntKind.i64 (10 + i / 4 + r / 4)] := r31
    clear r27
    replace b24 := b24.grown b29 b24.size (by rintro k ⟨⟩; omega)
    replace b19 := b19.grown b29 b19.size (by rintro k ⟨⟩; omega)
    replace r17 := r17.gr b29 (by have := r17.lt; omega)
    replace b14 := b14.grown b29 b14.size (by rintro k ⟨⟩; omega)
    replace r10 := r10.gr b29 (by have := r10.lt; omega)
    replace b7 := b7.grown b29 b7.size (by rintro k ⟨⟩; omega)
    replace r4 := r4.gr b29 (by have := r4.lt; omega)
    replace b1 := b1.grown b29 b1.size (by rintro k ⟨⟩; omega)
    replace q := q.grown b29 q.size (by rintro k ⟨⟩; omega)
    have r27 := r31
    clear r31
    refine LL.val (R.assign rfl rfl) rfl rfl rfl ?_
    refine LL.nilS ?_
    refine CC.seq ?_
    refine CC.seq ?_
    refine CC.region ?_
    refine LL.val (R.move rfl rfl) rfl rfl rfl ?_
    refine LL.call (R.call rfl rfl rfl) rfl rfl rfl (num_any _ _) ?_
    rintro e W' ⟨rfl, rfl⟩
    refine ⟨_, rfl, ?_⟩
    refine LL.val (R.neF rfl rfl rfl (by omega)) rfl rfl rfl ?_
    refine LL.val (R.move rfl rfl) rfl rfl rfl ?_
    refine LL.val (R.field rfl rfl (I.fld rfl)) rfl rfl rfl ?_
    refine LL.val (R.load rfl rfl (I.ld1 rfl (RowL.cell r4 rfl))) rfl rfl rfl ?_
    refine LL.val (R.gtT rfl rfl rfl (by omega)) rfl rfl rfl ?_
    refine LL.val (R.pick rfl rfl rfl) rfl rfl rfl ?_
    refine LL.val (R.move rfl rfl) rfl rfl rfl ?_
    refine LL.skip rfl rfl ?_
    refine LL.skip rfl rfl ?_
    refine LL.val (R.pick rfl rfl rfl) rfl rfl rfl ?_
    refine LL.val (R.move rfl rfl) rfl rfl rfl ?_
    refine LL.skip rfl rfl ?_
    refine LL.skip rfl rfl ?_
    refine LL.val (R.pick rfl rfl rfl) rfl rfl rfl ?_
    refine LL.val (R.move rfl rfl) rfl rfl rfl ?_
    refine LL.skip rfl rfl ?_
    refine LL.skip rfl rfl ?_
    refine LL.val (R.pick rfl rfl rfl) rfl rfl rfl ?_
    refine LL.val (R.move rfl rfl) rfl rfl rfl ?_
    refine LL.skip rfl rfl ?_
    refine LL.skip rfl rfl ?_
    refine LL.skip rfl rfl ?_
    refine LL.skip rfl rfl ?_
    refine LL.skip rfl rfl ?_
    refine LL.val (R.pick rfl rfl rfl) rfl rfl rfl ?_
    refine LL.nilS ?_
    refine CC.yes rfl ?_
    refine CC.seq ?_
    refine CC.region ?_
    refine LL.call (R.call rfl rfl rfl) rfl rfl rfl (works_any _) ?_
    rintro e W34 ⟨rfl, b33⟩
    refine ⟨_, rfl, ?_⟩
    have zb33 := b33.size
    replace b24 := b24.trans (b33.mono b24.size)
    replace b19 := b19.trans (b33.mono b19.size)
    replace r17 := r17.up b33
    replace b14 := b14.trans (b33.mono b14.size)
    replace r10 := r10.up b33
    replace b7 := b7.trans (b33.mono b7.size)
    replace r4 := r4.up b33
    replace b1 := b1.trans (b33.mono b1.size)
    replace q := q.trans (b33.mono q.size)
    replace r27 := r27.up b33
    refine LL.val (R.assign rfl rfl) rfl rfl rfl ?_
    refine LL.nilS ?_
    refine CC.ret ?_
    refine EE.thenR ?_
    refine EE.retM _ rfl rfl ?_
    exact ⟨rfl, q⟩
  · refine X.fnM Try.func8 rfl (n := 144) rfl rfl ?_
    refine CC.seq ?_
    refine CC.region ?_
    refine LL.box [Value.int IntKind.i64 b, Value.int IntKind.i64 i, Value.int IntKind.i64 r, Value.int IntKind.i64 t] rfl rfl rfl rfl rfl ?_
    intro Wa2 ga3 ega3 ra4 za5 ba1
    replace q := q.trans (ba1.mono q.size)
    have la6 := ra4.lt
    refine LL.box [Value.int IntKind.u64 ↑k1, Value.int IntKind.u64 ↑k2] rfl rfl rfl rfl rfl ?_
    intro Wa8 ga9 ega9 ra10 za11 ba7
    replace ra4 := ra4.up ba7
    replace ba1 := ba1.trans (ba7.mono ba1.size)
    replace q := q.trans (ba7.mono q.size)
    have la12 := ra10.lt
    have la13 := ra4.lt
    refine LL.box [Value.int IntKind.i64 word] rfl rfl rfl rfl rfl ?_
    intro Wa15 ga16 ega16 ra17 za18 ba14
    replace ra10 := ra10.up ba14
    replace ba7 := ba7.trans (ba14.mono ba7.size)
    replace ra4 := ra4.up ba14
    replace ba1 := ba1.trans (ba14.mono ba1.size)
    replace q := q.trans (ba14.mono q.size)
    refine LL.val (R.assign rfl rfl) rfl rfl rfl ?_
    refine LL.nilS ?_
    refine CC.seq ?_
    refine CC.region ?_
    refine LL.val (R.load rfl rfl (I.ldNc (vs := [Value.int IntKind.i64 b, Value.int IntKind.i64 i, Value.int IntKind.i64 r, Value.int IntKind.i64 t]) (RowL.cells ra4 rfl) (by rfl) (by rfl))) rfl rfl rfl ?_
    refine LL.val (R.load rfl rfl (I.ldNc (vs := [Value.int IntKind.u64 ↑k1, Value.int IntKind.u64 ↑k2]) (RowL.cells ra10 rfl) (by rfl) (by rfl))) rfl rfl rfl ?_
    refine LL.call (R.call rfl rfl rfl) rfl rfl rfl (of_T _ _ _ _ _ _ _ (by first | assumption | omega)) ?_
    rintro e Wa20 ⟨rfl, ba19⟩
    refine ⟨_, rfl, ?_⟩
    have zba19 := ba19.size
    replace ra17 := ra17.up ba19
    replace ba14 := ba14.trans (ba19.mono ba14.size)
    replace ra10 := ra10.up ba19
    replace ba7 := ba7.trans (ba19.mono ba7.size)
    replace ra4 := ra4.up ba19
    replace ba1 := ba1.trans (ba19.mono ba1.size)
    replace q := q.trans (ba19.mono q.size)
    refine LL.val (R.move rfl rfl) rfl rfl rfl ?_
    refine LL.val (R.extract rfl rfl rfl) rfl rfl rfl ?_
    refine LL.val (R.extract rfl rfl rfl) rfl rfl rfl ?_
    have la21 := ra17.lt
    have la22 := ra10.lt
    have la23 := ra4.lt
    refine LL.alloc ([Value.int IntKind.i64 0, Value.int IntKind.i64 0, Value.int IntKind.i64 0, Value.int IntKind.i64 0, Value.int IntKind.u64 0, Value.int IntKind.u64 0, Value.int IntKind.i64 0, Value.int IntKind.i64 0, Value.int IntKind.i64 0, Value.int IntKind.i64 0]) rfl rfl rfl rfl rfl ?_
    intro Wa25 ga26 ega26 ra27 za28 ba24
    replace ba19 := ba19.trans (ba24.mono ba19.size)
    replace ra17 := ra17.up ba24
    replace ba14 := ba14.trans (ba24.mono ba14.size)
    replace ra10 := ra10.up ba24
    replace ba7 := ba7.trans (ba24.mono ba7.size)
    replace ra4 := ra4.up ba24
    replace ba1 := ba1.trans (ba24.mono ba1.size)
    replace q := q.trans (ba24.mono q.size)
    refine LL.storeN (vs := [Value.int IntKind.i64 b, Value.int IntKind.i64 i, Value.int IntKind.i64 r, Value.int IntKind.i64 t, Value.int IntKind.u64 ↑k1, Value.int IntKind.u64 ↑k2, Value.int IntKind.i64 9, Value.int IntKind.i64 (9 + i / 4), Value.int IntKind.i64 (9 + i / 4 + r / 4), Value.int IntKind.i64 (10 + i / 4 + r / 4)]) rfl rfl rfl rfl ra27 (by exact Nat.le_of_ble_eq_true rfl) (ones_of rfl) rfl rfl ?_
    intro Wa30 ra31 ba29 za32
    have hlba29 := ra27.lt
    replace ra31 : RowL Wa30 _ 27 [Value.int IntKind.i64 b, Value.int IntKind.i64 i, Value.int IntKind.i64 r, Value.int IntKind.i64 t, Value.int IntKind.u64 ↑k1, Value.int IntKind.u64 ↑k2, Value.int IntKind.i64 9, Value.int IntKind.i64 (9 + i / 4), Value.int IntKind.i64 (9 + i / 4 + r / 4), Value.int IntKind.i64 (10 + i / 4 + r / 4)] := ra31
    clear ra27
    replace ba24 := ba24.grown ba29 ba24.size (by rintro k ⟨⟩; omega)
    replace ba19 := ba19.grown ba29 ba19.size (by rintro k ⟨⟩; omega)
    replace ra17 := ra17.gr ba29 (by have := ra17.lt; omega)
    replace ba14 := ba14.grown ba29 ba14.size (by rintro k ⟨⟩; omega)
    replace ra10 := ra10.gr ba29 (by have := ra10.lt; omega)
    replace ba7 := ba7.grown ba29 ba7.size (by rintro k ⟨⟩; omega)
    replace ra4 := ra4.gr ba29 (by have := ra4.lt; omega)
    replace ba1 := ba1.grown ba29 ba1.size (by rintro k ⟨⟩; omega)
    replace q := q.grown ba29 q.size (by rintro k ⟨⟩; omega)
    have ra27 := ra31
    clear ra31
    refine LL.val (R.assign rfl rfl) rfl rfl rfl ?_
    refine LL.nilS ?_
    refine CC.seq ?_
    refine CC.seq ?_
    refine CC.region ?_
    refine LL.val (R.move rfl rfl) rfl rfl rfl ?_
    refine LL.call (R.call rfl rfl rfl) rfl rfl rfl (num_any _ _) ?_
    rintro e W' ⟨rfl, rfl⟩
    refine ⟨_, rfl, ?_⟩
    refine LL.val (R.neF rfl rfl rfl (by omega)) rfl rfl rfl ?_
    refine LL.val (R.move rfl rfl) rfl rfl rfl ?_
    refine LL.val (R.field rfl rfl (I.fld rfl)) rfl rfl rfl ?_
    refine LL.val (R.load rfl rfl (I.ld1 rfl (RowL.cell ra4 rfl))) rfl rfl rfl ?_
    refine LL.vsplit (fun h => R.gtT rfl rfl rfl h) (fun h => R.gtF rfl rfl rfl (Int.not_lt.1 h)) rfl rfl rfl (fun ca33 => ?_) (fun ca33 => ?_)
    refine LL.val (R.pick rfl rfl rfl) rfl rfl rfl ?_
    refine LL.val (R.move rfl rfl) rfl rfl rfl ?_
    refine LL.skip rfl rfl ?_
    refine LL.skip rfl rfl ?_
    refine LL.val (R.pick rfl rfl rfl) rfl rfl rfl ?_
    refine LL.val (R.move rfl rfl) rfl rfl rfl ?_
    refine LL.skip rfl rfl ?_
    refine LL.skip rfl rfl ?_
    refine LL.val (R.pick rfl rfl rfl) rfl rfl rfl ?_
    refine LL.val (R.move rfl rfl) rfl rfl rfl ?_
    refine LL.skip rfl rfl ?_
    refine LL.skip rfl rfl ?_
    refine LL.val (R.pick rfl rfl rfl) rfl rfl rfl ?_
    refine LL.val (R.move rfl rfl) rfl rfl rfl ?_
    refine LL.skip rfl rfl ?_
    refine LL.skip rfl rfl ?_
    refine LL.skip rfl rfl ?_
    refine LL.skip rfl rfl ?_
    refine LL.skip rfl rfl ?_
    refine LL.val (R.pick rfl rfl rfl) rfl rfl rfl ?_
    refine LL.nilS ?_
    refine CC.yes rfl ?_
    refine CC.seq ?_
    refine CC.region ?_
    refine LL.call (R.call rfl rfl rfl) rfl rfl rfl (works_any _) ?_
    rintro e Wa35 ⟨rfl, ba34⟩
    refine ⟨_, rfl, ?_⟩
    have zba34 := ba34.size
    replace ba24 := ba24.trans (ba34.mono ba24.size)
    replace ba19 := ba19.trans (ba34.mono ba19.size)
    replace ra17 := ra17.up ba34
    replace ba14 := ba14.trans (ba34.mono ba14.size)
    replace ra10 := ra10.up ba34
    replace ba7 := ba7.trans (ba34.mono ba7.size)
    replace ra4 := ra4.up ba34
    replace ba1 := ba1.trans (ba34.mono ba1.size)
    replace q := q.trans (ba34.mono q.size)
    replace ra27 := ra27.up ba34
    refine LL.val (R.assign rfl rfl) rfl rfl rfl ?_
    refine LL.nilS ?_
    refine CC.ret ?_
    refine EE.thenR ?_
    refine EE.retM _ rfl rfl ?_
    exact ⟨rfl, q⟩
    refine LL.val (R.pick rfl rfl rfl) rfl rfl rfl ?_
    refine LL.val (R.move rfl rfl) rfl rfl rfl ?_
    refine LL.val (R.move rfl rfl) rfl rfl rfl ?_
    refine LL.val (R.ltT rfl rfl rfl (by omega)) rfl rfl rfl ?_
    refine LL.val (R.pick rfl rfl rfl) rfl rfl rfl ?_
    refine LL.val (R.move rfl rfl) rfl rfl rfl ?_
    refine LL.skip rfl rfl ?_
    refine LL.skip rfl rfl ?_
    refine LL.val (R.pick rfl rfl rfl) rfl rfl rfl ?_
    refine LL.val (R.move rfl rfl) rfl rfl rfl ?_
    refine LL.skip rfl rfl ?_
    refine LL.skip rfl rfl ?_
    refine LL.val (R.pick rfl rfl rfl) rfl rfl rfl ?_
    refine LL.val (R.move rfl rfl) rfl rfl rfl ?_
    refine LL.skip rfl rfl ?_
    refine LL.skip rfl rfl ?_
    refine LL.skip rfl rfl ?_
    refine LL.skip rfl rfl ?_
    refine LL.skip rfl rfl ?_
    refine LL.val (R.pick rfl rfl rfl) rfl rfl rfl ?_
    refine LL.nilS ?_
    refine CC.yes rfl ?_
    refine CC.seq ?_
    refine CC.region ?_
    refine LL.call (R.call rfl rfl rfl) rfl rfl rfl (works_any _) ?_
    rintro e Wa37 ⟨rfl, ba36⟩
    refine ⟨_, rfl, ?_⟩
    have zba36 := ba36.size
    replace ba24 := ba24.trans (ba36.mono ba24.size)
    replace ba19 := ba19.trans (ba36.mono ba19.size)
    replace ra17 := ra17.up ba36
    replace ba14 := ba14.trans (ba36.mono ba14.size)
    replace ra10 := ra10.up ba36
    replace ba7 := ba7.trans (ba36.mono ba7.size)
    replace ra4 := ra4.up ba36
    replace ba1 := ba1.trans (ba36.mono ba1.size)
    replace q := q.trans (ba36.mono q.size)
    replace ra27 := ra27.up ba36
    refine LL.val (R.assign rfl rfl) rfl rfl rfl ?_
    refine LL.nilS ?_
    refine CC.ret ?_
    refine EE.thenR ?_
    refine EE.retM _ rfl rfl ?_
    exact ⟨rfl, q⟩
  · refine X.fnM Try.func8 rfl (n := 144) rfl rfl ?_
    refine CC.seq ?_
    refine CC.region ?_
    refine LL.box [Value.int IntKind.i64 b, Value.int IntKind.i64 i, Value.int IntKind.i64 r, Value.int IntKind.i64 t] rfl rfl rfl rfl rfl ?_
    intro Wb2 gb3 egb3 rb4 zb5 bb1
    replace q := q.trans (bb1.mono q.size)
    have lb6 := rb4.lt
    refine LL.box [Value.int IntKind.u64 ↑k1, Value.int IntKind.u64 ↑k2] rfl rfl rfl rfl rfl ?_
    intro Wb8 gb9 egb9 rb10 zb11 bb7
    replace rb4 := rb4.up bb7
    replace bb1 := bb1.trans (bb7.mono bb1.size)
    replace q := q.trans (bb7.mono q.size)
    have lb12 := rb10.lt
    have lb13 := rb4.lt
    refine LL.box [Value.int IntKind.i64 word] rfl rfl rfl rfl rfl ?_
    intro Wb15 gb16 egb16 rb17 zb18 bb14
    replace rb10 := rb10.up bb14
    replace bb7 := bb7.trans (bb14.mono bb7.size)
    replace rb4 := rb4.up bb14
    replace bb1 := bb1.trans (bb14.mono bb1.size)
    replace q := q.trans (bb14.mono q.size)
    refine LL.val (R.assign rfl rfl) rfl rfl rfl ?_
    refine LL.nilS ?_
    refine CC.seq ?_
    refine CC.region ?_
    refine LL.val (R.load rfl rfl (I.ldNc (vs := [Value.int IntKind.i64 b, Value.int IntKind.i64 i, Value.int IntKind.i64 r, Value.int IntKind.i64 t]) (RowL.cells rb4 rfl) (by rfl) (by rfl))) rfl rfl rfl ?_
    refine LL.val (R.load rfl rfl (I.ldNc (vs := [Value.int IntKind.u64 ↑k1, Value.int IntKind.u64 ↑k2]) (RowL.cells rb10 rfl) (by rfl) (by rfl))) rfl rfl rfl ?_
    refine LL.call (R.call rfl rfl rfl) rfl rfl rfl (of_T _ _ _ _ _ _ _ (by first | assumption | omega)) ?_
    rintro e Wb20 ⟨rfl, bb19⟩
    refine ⟨_, rfl, ?_⟩
    have zbb19 := bb19.size
    replace rb17 := rb17.up bb19
    replace bb14 := bb14.trans (bb19.mono bb14.size)
    replace rb10 := rb10.up bb19
    replace bb7 := bb7.trans (bb19.mono bb7.size)
    replace rb4 := rb4.up bb19
    replace bb1 := bb1.trans (bb19.mono bb1.size)
    replace q := q.trans (bb19.mono q.size)
    refine LL.val (R.move rfl rfl) rfl rfl rfl ?_
    refine LL.val (R.extract rfl rfl rfl) rfl rfl rfl ?_
    refine LL.val (R.extract rfl rfl rfl) rfl rfl rfl ?_
    have lb21 := rb17.lt
    have lb22 := rb10.lt
    have lb23 := rb4.lt
    refine LL.alloc ([Value.int IntKind.i64 0, Value.int IntKind.i64 0, Value.int IntKind.i64 0, Value.int IntKind.i64 0, Value.int IntKind.u64 0, Value.int IntKind.u64 0, Value.int IntKind.i64 0, Value.int IntKind.i64 0, Value.int IntKind.i64 0, Value.int IntKind.i64 0]) rfl rfl rfl rfl rfl ?_
    intro Wb25 gb26 egb26 rb27 zb28 bb24
    replace bb19 := bb19.trans (bb24.mono bb19.size)
    replace rb17 := rb17.up bb24
    replace bb14 := bb14.trans (bb24.mono bb14.size)
    replace rb10 := rb10.up bb24
    replace bb7 := bb7.trans (bb24.mono bb7.size)
    replace rb4 := rb4.up bb24
    replace bb1 := bb1.trans (bb24.mono bb1.size)
    replace q := q.trans (bb24.mono q.size)
    refine LL.storeN (vs := [Value.int IntKind.i64 b, Value.int IntKind.i64 i, Value.int IntKind.i64 r, Value.int IntKind.i64 t, Value.int IntKind.u64 ↑k1, Value.int IntKind.u64 ↑k2, Value.int IntKind.i64 9, Value.int IntKind.i64 (9 + i / 4), Value.int IntKind.i64 (9 + i / 4 + r / 4), Value.int IntKind.i64 (10 + i / 4 + r / 4)]) rfl rfl rfl rfl rb27 (by exact Nat.le_of_ble_eq_true rfl) (ones_of rfl) rfl rfl ?_
    intro Wb30 rb31 bb29 zb32
    have hlbb29 := rb27.lt
    replace rb31 : RowL Wb30 _ 27 [Value.int IntKind.i64 b, Value.int IntKind.i64 i, Value.int IntKind.i64 r, Value.int IntKind.i64 t, Value.int IntKind.u64 ↑k1, Value.int IntKind.u64 ↑k2, Value.int IntKind.i64 9, Value.int IntKind.i64 (9 + i / 4), Value.int IntKind.i64 (9 + i / 4 + r / 4), Value.int IntKind.i64 (10 + i / 4 + r / 4)] := rb31
    clear rb27
    replace bb24 := bb24.grown bb29 bb24.size (by rintro k ⟨⟩; omega)
    replace bb19 := bb19.grown bb29 bb19.size (by rintro k ⟨⟩; omega)
    replace rb17 := rb17.gr bb29 (by have := rb17.lt; omega)
    replace bb14 := bb14.grown bb29 bb14.size (by rintro k ⟨⟩; omega)
    replace rb10 := rb10.gr bb29 (by have := rb10.lt; omega)
    replace bb7 := bb7.grown bb29 bb7.size (by rintro k ⟨⟩; omega)
    replace rb4 := rb4.gr bb29 (by have := rb4.lt; omega)
    replace bb1 := bb1.grown bb29 bb1.size (by rintro k ⟨⟩; omega)
    replace q := q.grown bb29 q.size (by rintro k ⟨⟩; omega)
    have rb27 := rb31
    clear rb31
    refine LL.val (R.assign rfl rfl) rfl rfl rfl ?_
    refine LL.nilS ?_
    refine CC.seq ?_
    refine CC.seq ?_
    refine CC.region ?_
    refine LL.val (R.move rfl rfl) rfl rfl rfl ?_
    refine LL.call (R.call rfl rfl rfl) rfl rfl rfl (num_any _ _) ?_
    rintro e W' ⟨rfl, rfl⟩
    refine ⟨_, rfl, ?_⟩
    refine LL.val (R.neF rfl rfl rfl (by omega)) rfl rfl rfl ?_
    refine LL.val (R.move rfl rfl) rfl rfl rfl ?_
    refine LL.val (R.field rfl rfl (I.fld rfl)) rfl rfl rfl ?_
    refine LL.val (R.load rfl rfl (I.ld1 rfl (RowL.cell rb4 rfl))) rfl rfl rfl ?_
    refine LL.vsplit (fun h => R.gtT rfl rfl rfl h) (fun h => R.gtF rfl rfl rfl (Int.not_lt.1 h)) rfl rfl rfl (fun cb33 => ?_) (fun cb33 => ?_)
    refine LL.val (R.pick rfl rfl rfl) rfl rfl rfl ?_
    refine LL.val (R.move rfl rfl) rfl rfl rfl ?_
    refine LL.skip rfl rfl ?_
    refine LL.skip rfl rfl ?_
    refine LL.val (R.pick rfl rfl rfl) rfl rfl rfl ?_
    refine LL.val (R.move rfl rfl) rfl rfl rfl ?_
    refine LL.skip rfl rfl ?_
    refine LL.skip rfl rfl ?_
    refine LL.val (R.pick rfl rfl rfl) rfl rfl rfl ?_
    refine LL.val (R.move rfl rfl) rfl rfl rfl ?_
    refine LL.skip rfl rfl ?_
    refine LL.skip rfl rfl ?_
    refine LL.val (R.pick rfl rfl rfl) rfl rfl rfl ?_
    refine LL.val (R.move rfl rfl) rfl rfl rfl ?_
    refine LL.skip rfl rfl ?_
    refine LL.skip rfl rfl ?_
    refine LL.skip rfl rfl ?_
    refine LL.skip rfl rfl ?_
    refine LL.skip rfl rfl ?_
    refine LL.val (R.pick rfl rfl rfl) rfl rfl rfl ?_
    refine LL.nilS ?_
    refine CC.yes rfl ?_
    refine CC.seq ?_
    refine CC.region ?_
    refine LL.call (R.call rfl rfl rfl) rfl rfl rfl (works_any _) ?_
    rintro e Wb35 ⟨rfl, bb34⟩
    refine ⟨_, rfl, ?_⟩
    have zbb34 := bb34.size
    replace bb24 := bb24.trans (bb34.mono bb24.size)
    replace bb19 := bb19.trans (bb34.mono bb19.size)
    replace rb17 := rb17.up bb34
    replace bb14 := bb14.trans (bb34.mono bb14.size)
    replace rb10 := rb10.up bb34
    replace bb7 := bb7.trans (bb34.mono bb7.size)
    replace rb4 := rb4.up bb34
    replace bb1 := bb1.trans (bb34.mono bb1.size)
    replace q := q.trans (bb34.mono q.size)
    replace rb27 := rb27.up bb34
    refine LL.val (R.assign rfl rfl) rfl rfl rfl ?_
    refine LL.nilS ?_
    refine CC.ret ?_
    refine EE.thenR ?_
    refine EE.retM _ rfl rfl ?_
    exact ⟨rfl, q⟩
    refine LL.val (R.pick rfl rfl rfl) rfl rfl rfl ?_
    refine LL.val (R.move rfl rfl) rfl rfl rfl ?_
    refine LL.val (R.move rfl rfl) rfl rfl rfl ?_
    refine LL.val (R.ltF rfl rfl rfl (by omega)) rfl rfl rfl ?_
    refine LL.val (R.pick rfl rfl rfl) rfl rfl rfl ?_
    refine LL.val (R.move rfl rfl) rfl rfl rfl ?_
    refine LL.val (R.move rfl rfl) rfl rfl rfl ?_
    refine LL.val (R.gtT rfl rfl rfl (by omega)) rfl rfl rfl ?_
    refine LL.val (R.pick rfl rfl rfl) rfl rfl rfl ?_
    refine LL.val (R.move rfl rfl) rfl rfl rfl ?_
    refine LL.skip rfl rfl ?_
    refine LL.skip rfl rfl ?_
    refine LL.val (R.pick rfl rfl rfl) rfl rfl rfl ?_
    refine LL.val (R.move rfl rfl) rfl rfl rfl ?_
    refine LL.skip rfl rfl ?_
    refine LL.skip rfl rfl ?_
    refine LL.skip rfl rfl ?_
    refine LL.skip rfl rfl ?_
    refine LL.skip rfl rfl ?_
    refine LL.val (R.pick rfl rfl rfl) rfl rfl rfl ?_
    refine LL.nilS ?_
    refine CC.yes rfl ?_
    refine CC.seq ?_
    refine CC.region ?_
    refine LL.call (R.call rfl rfl rfl) rfl rfl rfl (works_any _) ?_
    rintro e Wb37 ⟨rfl, bb36⟩
    refine ⟨_, rfl, ?_⟩
    have zbb36 := bb36.size
    replace bb24 := bb24.trans (bb36.mono bb24.size)
    replace bb19 := bb19.trans (bb36.mono bb19.size)
    replace rb17 := rb17.up bb36
    replace bb14 := bb14.trans (bb36.mono bb14.size)
    replace rb10 := rb10.up bb36
    replace bb7 := bb7.trans (bb36.mono bb7.size)
    replace rb4 := rb4.up bb36
    replace bb1 := bb1.trans (bb36.mono bb1.size)
    replace q := q.trans (bb36.mono q.size)
    replace rb27 := rb27.up bb36
    refine LL.val (R.assign rfl rfl) rfl rfl rfl ?_
    refine LL.nilS ?_
    refine CC.ret ?_
    refine EE.thenR ?_
    refine EE.retM _ rfl rfl ?_
    exact ⟨rfl, q⟩
  · refine X.fnM Try.func8 rfl (n := 144) rfl rfl ?_
    refine CC.seq ?_
    refine CC.region ?_
    refine LL.box [Value.int IntKind.i64 b, Value.int IntKind.i64 i, Value.int IntKind.i64 r, Value.int IntKind.i64 t] rfl rfl rfl rfl rfl ?_
    intro Wc2 gc3 egc3 rc4 zc5 bc1
    replace q := q.trans (bc1.mono q.size)
    have lc6 := rc4.lt
    refine LL.box [Value.int IntKind.u64 ↑k1, Value.int IntKind.u64 ↑k2] rfl rfl rfl rfl rfl ?_
    intro Wc8 gc9 egc9 rc10 zc11 bc7
    replace rc4 := rc4.up bc7
    replace bc1 := bc1.trans (bc7.mono bc1.size)
    replace q := q.trans (bc7.mono q.size)
    have lc12 := rc10.lt
    have lc13 := rc4.lt
    refine LL.box [Value.int IntKind.i64 word] rfl rfl rfl rfl rfl ?_
    intro Wc15 gc16 egc16 rc17 zc18 bc14
    replace rc10 := rc10.up bc14
    replace bc7 := bc7.trans (bc14.mono bc7.size)
    replace rc4 := rc4.up bc14
    replace bc1 := bc1.trans (bc14.mono bc1.size)
    replace q := q.trans (bc14.mono q.size)
    refine LL.val (R.assign rfl rfl) rfl rfl rfl ?_
    refine LL.nilS ?_
    refine CC.seq ?_
    refine CC.region ?_
    refine LL.val (R.load rfl rfl (I.ldNc (vs := [Value.int IntKind.i64 b, Value.int IntKind.i64 i, Value.int IntKind.i64 r, Value.int IntKind.i64 t]) (RowL.cells rc4 rfl) (by rfl) (by rfl))) rfl rfl rfl ?_
    refine LL.val (R.load rfl rfl (I.ldNc (vs := [Value.int IntKind.u64 ↑k1, Value.int IntKind.u64 ↑k2]) (RowL.cells rc10 rfl) (by rfl) (by rfl))) rfl rfl rfl ?_
    refine LL.call (R.call rfl rfl rfl) rfl rfl rfl (of_T _ _ _ _ _ _ _ (by first | assumption | omega)) ?_
    rintro e Wc20 ⟨rfl, bc19⟩
    refine ⟨_, rfl, ?_⟩
    have zbc19 := bc19.size
    replace rc17 := rc17.up bc19
    replace bc14 := bc14.trans (bc19.mono bc14.size)
    replace rc10 := rc10.up bc19
    replace bc7 := bc7.trans (bc19.mono bc7.size)
    replace rc4 := rc4.up bc19
    replace bc1 := bc1.trans (bc19.mono bc1.size)
    replace q := q.trans (bc19.mono q.size)
    refine LL.val (R.move rfl rfl) rfl rfl rfl ?_
    refine LL.val (R.extract rfl rfl rfl) rfl rfl rfl ?_
    refine LL.val (R.extract rfl rfl rfl) rfl rfl rfl ?_
    have lc21 := rc17.lt
    have lc22 := rc10.lt
    have lc23 := rc4.lt
    refine LL.alloc ([Value.int IntKind.i64 0, Value.int IntKind.i64 0, Value.int IntKind.i64 0, Value.int IntKind.i64 0, Value.int IntKind.u64 0, Value.int IntKind.u64 0, Value.int IntKind.i64 0, Value.int IntKind.i64 0, Value.int IntKind.i64 0, Value.int IntKind.i64 0]) rfl rfl rfl rfl rfl ?_
    intro Wc25 gc26 egc26 rc27 zc28 bc24
    replace bc19 := bc19.trans (bc24.mono bc19.size)
    replace rc17 := rc17.up bc24
    replace bc14 := bc14.trans (bc24.mono bc14.size)
    replace rc10 := rc10.up bc24
    replace bc7 := bc7.trans (bc24.mono bc7.size)
    replace rc4 := rc4.up bc24
    replace bc1 := bc1.trans (bc24.mono bc1.size)
    replace q := q.trans (bc24.mono q.size)
    refine LL.storeN (vs := [Value.int IntKind.i64 b, Value.int IntKind.i64 i, Value.int IntKind.i64 r, Value.int IntKind.i64 t, Value.int IntKind.u64 ↑k1, Value.int IntKind.u64 ↑k2, Value.int IntKind.i64 9, Value.int IntKind.i64 (9 + i / 4), Value.int IntKind.i64 (9 + i / 4 + r / 4), Value.int IntKind.i64 (10 + i / 4 + r / 4)]) rfl rfl rfl rfl rc27 (by exact Nat.le_of_ble_eq_true rfl) (ones_of rfl) rfl rfl ?_
    intro Wc30 rc31 bc29 zc32
    have hlbc29 := rc27.lt
    replace rc31 : RowL Wc30 _ 27 [Value.int IntKind.i64 b, Value.int IntKind.i64 i, Value.int IntKind.i64 r, Value.int IntKind.i64 t, Value.int IntKind.u64 ↑k1, Value.int IntKind.u64 ↑k2, Value.int IntKind.i64 9, Value.int IntKind.i64 (9 + i / 4), Value.int IntKind.i64 (9 + i / 4 + r / 4), Value.int IntKind.i64 (10 + i / 4 + r / 4)] := rc31
    clear rc27
    replace bc24 := bc24.grown bc29 bc24.size (by rintro k ⟨⟩; omega)
    replace bc19 := bc19.grown bc29 bc19.size (by rintro k ⟨⟩; omega)
    replace rc17 := rc17.gr bc29 (by have := rc17.lt; omega)
    replace bc14 := bc14.grown bc29 bc14.size (by rintro k ⟨⟩; omega)
    replace rc10 := rc10.gr bc29 (by have := rc10.lt; omega)
    replace bc7 := bc7.grown bc29 bc7.size (by rintro k ⟨⟩; omega)
    replace rc4 := rc4.gr bc29 (by have := rc4.lt; omega)
    replace bc1 := bc1.grown bc29 bc1.size (by rintro k ⟨⟩; omega)
    replace q := q.grown bc29 q.size (by rintro k ⟨⟩; omega)
    have rc27 := rc31
    clear rc31
    refine LL.val (R.assign rfl rfl) rfl rfl rfl ?_
    refine LL.nilS ?_
    refine CC.seq ?_
    refine CC.seq ?_
    refine CC.region ?_
    refine LL.val (R.move rfl rfl) rfl rfl rfl ?_
    refine LL.call (R.call rfl rfl rfl) rfl rfl rfl (num_any _ _) ?_
    rintro e W' ⟨rfl, rfl⟩
    refine ⟨_, rfl, ?_⟩
    refine LL.val (R.neF rfl rfl rfl (by omega)) rfl rfl rfl ?_
    refine LL.val (R.move rfl rfl) rfl rfl rfl ?_
    refine LL.val (R.field rfl rfl (I.fld rfl)) rfl rfl rfl ?_
    refine LL.val (R.load rfl rfl (I.ld1 rfl (RowL.cell rc4 rfl))) rfl rfl rfl ?_
    refine LL.vsplit (fun h => R.gtT rfl rfl rfl h) (fun h => R.gtF rfl rfl rfl (Int.not_lt.1 h)) rfl rfl rfl (fun cc33 => ?_) (fun cc33 => ?_)
    refine LL.val (R.pick rfl rfl rfl) rfl rfl rfl ?_
    refine LL.val (R.move rfl rfl) rfl rfl rfl ?_
    refine LL.skip rfl rfl ?_
    refine LL.skip rfl rfl ?_
    refine LL.val (R.pick rfl rfl rfl) rfl rfl rfl ?_
    refine LL.val (R.move rfl rfl) rfl rfl rfl ?_
    refine LL.skip rfl rfl ?_
    refine LL.skip rfl rfl ?_
    refine LL.val (R.pick rfl rfl rfl) rfl rfl rfl ?_
    refine LL.val (R.move rfl rfl) rfl rfl rfl ?_
    refine LL.skip rfl rfl ?_
    refine LL.skip rfl rfl ?_
    refine LL.val (R.pick rfl rfl rfl) rfl rfl rfl ?_
    refine LL.val (R.move rfl rfl) rfl rfl rfl ?_
    refine LL.skip rfl rfl ?_
    refine LL.skip rfl rfl ?_
    refine LL.skip rfl rfl ?_
    refine LL.skip rfl rfl ?_
    refine LL.skip rfl rfl ?_
    refine LL.val (R.pick rfl rfl rfl) rfl rfl rfl ?_
    refine LL.nilS ?_
    refine CC.yes rfl ?_
    refine CC.seq ?_
    refine CC.region ?_
    refine LL.call (R.call rfl rfl rfl) rfl rfl rfl (works_any _) ?_
    rintro e Wc35 ⟨rfl, bc34⟩
    refine ⟨_, rfl, ?_⟩
    have zbc34 := bc34.size
    replace bc24 := bc24.trans (bc34.mono bc24.size)
    replace bc19 := bc19.trans (bc34.mono bc19.size)
    replace rc17 := rc17.up bc34
    replace bc14 := bc14.trans (bc34.mono bc14.size)
    replace rc10 := rc10.up bc34
    replace bc7 := bc7.trans (bc34.mono bc7.size)
    replace rc4 := rc4.up bc34
    replace bc1 := bc1.trans (bc34.mono bc1.size)
    replace q := q.trans (bc34.mono q.size)
    replace rc27 := rc27.up bc34
    refine LL.val (R.assign rfl rfl) rfl rfl rfl ?_
    refine LL.nilS ?_
    refine CC.ret ?_
    refine EE.thenR ?_
    refine EE.retM _ rfl rfl ?_
    exact ⟨rfl, q⟩
    refine LL.val (R.pick rfl rfl rfl) rfl rfl rfl ?_
    refine LL.val (R.move rfl rfl) rfl rfl rfl ?_
    refine LL.val (R.move rfl rfl) rfl rfl rfl ?_
    refine LL.vsplit (fun h => R.ltT rfl rfl rfl h) (fun h => R.ltF rfl rfl rfl (Int.not_lt.1 h)) rfl rfl rfl (fun cc36 => ?_) (fun cc36 => ?_)
    refine LL.val (R.pick rfl rfl rfl) rfl rfl rfl ?_
    refine LL.val (R.move rfl rfl) rfl rfl rfl ?_
    refine LL.skip rfl rfl ?_
    refine LL.skip rfl rfl ?_
    refine LL.val (R.pick rfl rfl rfl) rfl rfl rfl ?_
    refine LL.val (R.move rfl rfl) rfl rfl rfl ?_
    refine LL.skip rfl rfl ?_
    refine LL.skip rfl rfl ?_
    refine LL.val (R.pick rfl rfl rfl) rfl rfl rfl ?_
    refine LL.val (R.move rfl rfl) rfl rfl rfl ?_
    refine LL.skip rfl rfl ?_
    refine LL.skip rfl rfl ?_
    refine LL.skip rfl rfl ?_
    refine LL.skip rfl rfl ?_
    refine LL.skip rfl rfl ?_
    refine LL.val (R.pick rfl rfl rfl) rfl rfl rfl ?_
    refine LL.nilS ?_
    refine CC.yes rfl ?_
    refine CC.seq ?_
    refine CC.region ?_
    refine LL.call (R.call rfl rfl rfl) rfl rfl rfl (works_any _) ?_
    rintro e Wc38 ⟨rfl, bc37⟩
    refine ⟨_, rfl, ?_⟩
    have zbc37 := bc37.size
    replace bc24 := bc24.trans (bc37.mono bc24.size)
    replace bc19 := bc19.trans (bc37.mono bc19.size)
    replace rc17 := rc17.up bc37
    replace bc14 := bc14.trans (bc37.mono bc14.size)
    replace rc10 := rc10.up bc37
    replace bc7 := bc7.trans (bc37.mono bc7.size)
    replace rc4 := rc4.up bc37
    replace bc1 := bc1.trans (bc37.mono bc1.size)
    replace q := q.trans (bc37.mono q.size)
    replace rc27 := rc27.up bc37
    refine LL.val (R.assign rfl rfl) rfl rfl rfl ?_
    refine LL.nilS ?_
    refine CC.ret ?_
    refine EE.thenR ?_
    refine EE.retM _ rfl rfl ?_
    exact ⟨rfl, q⟩
    refine LL.val (R.pick rfl rfl rfl) rfl rfl rfl ?_
    refine LL.val (R.move rfl rfl) rfl rfl rfl ?_
    refine LL.val (R.move rfl rfl) rfl rfl rfl ?_
    refine LL.vsplit (fun h => R.gtT rfl rfl rfl h) (fun h => R.gtF rfl rfl rfl (Int.not_lt.1 h)) rfl rfl rfl (fun cc39 => ?_) (fun cc39 => ?_)
    refine LL.val (R.pick rfl rfl rfl) rfl rfl rfl ?_
    refine LL.val (R.move rfl rfl) rfl rfl rfl ?_
    refine LL.skip rfl rfl ?_
    refine LL.skip rfl rfl ?_
    refine LL.val (R.pick rfl rfl rfl) rfl rfl rfl ?_
    refine LL.val (R.move rfl rfl) rfl rfl rfl ?_
    refine LL.skip rfl rfl ?_
    refine LL.skip rfl rfl ?_
    refine LL.skip rfl rfl ?_
    refine LL.skip rfl rfl ?_
    refine LL.skip rfl rfl ?_
    refine LL.val (R.pick rfl rfl rfl) rfl rfl rfl ?_
    refine LL.nilS ?_
    refine CC.yes rfl ?_
    refine CC.seq ?_
    refine CC.region ?_
    refine LL.call (R.call rfl rfl rfl) rfl rfl rfl (works_any _) ?_
    rintro e Wc41 ⟨rfl, bc40⟩
    refine ⟨_, rfl, ?_⟩
    have zbc40 := bc40.size
    replace bc24 := bc24.trans (bc40.mono bc24.size)
    replace bc19 := bc19.trans (bc40.mono bc19.size)
    replace rc17 := rc17.up bc40
    replace bc14 := bc14.trans (bc40.mono bc14.size)
    replace rc10 := rc10.up bc40
    replace bc7 := bc7.trans (bc40.mono bc7.size)
    replace rc4 := rc4.up bc40
    replace bc1 := bc1.trans (bc40.mono bc1.size)
    replace q := q.trans (bc40.mono q.size)
    replace rc27 := rc27.up bc40
    refine LL.val (R.assign rfl rfl) rfl rfl rfl ?_
    refine LL.nilS ?_
    refine CC.ret ?_
    refine EE.thenR ?_
    refine EE.retM _ rfl rfl ?_
    exact ⟨rfl, q⟩
    refine LL.val (R.pick rfl rfl rfl) rfl rfl rfl ?_
    refine LL.val (R.move rfl rfl) rfl rfl rfl ?_
    refine LL.val (R.load rfl rfl (I.ld1 rfl (RowL.cell rc17 rfl))) rfl rfl rfl ?_
    refine LL.val (R.ltT rfl rfl rfl (by omega)) rfl rfl rfl ?_
    refine LL.val (R.pick rfl rfl rfl) rfl rfl rfl ?_
    refine LL.val (R.move rfl rfl) rfl rfl rfl ?_
    refine LL.skip rfl rfl ?_
    refine LL.skip rfl rfl ?_
    refine LL.skip rfl rfl ?_
    refine LL.skip rfl rfl ?_
    refine LL.skip rfl rfl ?_
    refine LL.val (R.pick rfl rfl rfl) rfl rfl rfl ?_
    refine LL.nilS ?_
    refine CC.yes rfl ?_
    refine CC.seq ?_
    refine CC.region ?_
    refine LL.call (R.call rfl rfl rfl) rfl rfl rfl (works_any _) ?_
    rintro e Wc43 ⟨rfl, bc42⟩
    refine ⟨_, rfl, ?_⟩
    have zbc42 := bc42.size
    replace bc24 := bc24.trans (bc42.mono bc24.size)
    replace bc19 := bc19.trans (bc42.mono bc19.size)
    replace rc17 := rc17.up bc42
    replace bc14 := bc14.trans (bc42.mono bc14.size)
    replace rc10 := rc10.up bc42
    replace bc7 := bc7.trans (bc42.mono bc7.size)
    replace rc4 := rc4.up bc42
    replace bc1 := bc1.trans (bc42.mono bc1.size)
    replace q := q.trans (bc42.mono q.size)
    replace rc27 := rc27.up bc42
    refine LL.val (R.assign rfl rfl) rfl rfl rfl ?_
    refine LL.nilS ?_
    refine CC.ret ?_
    refine EE.thenR ?_
    refine EE.retM _ rfl rfl ?_
    exact ⟨rfl, q⟩
  · refine X.fnM Try.func8 rfl (n := 144) rfl rfl ?_
    refine CC.seq ?_
    refine CC.region ?_
    refine LL.box [Value.int IntKind.i64 b, Value.int IntKind.i64 i, Value.int IntKind.i64 r, Value.int IntKind.i64 t] rfl rfl rfl rfl rfl ?_
    intro Wd2 gd3 egd3 rd4 zd5 bd1
    replace q := q.trans (bd1.mono q.size)
    have ld6 := rd4.lt
    refine LL.box [Value.int IntKind.u64 ↑k1, Value.int IntKind.u64 ↑k2] rfl rfl rfl rfl rfl ?_
    intro Wd8 gd9 egd9 rd10 zd11 bd7
    replace rd4 := rd4.up bd7
    replace bd1 := bd1.trans (bd7.mono bd1.size)
    replace q := q.trans (bd7.mono q.size)
    have ld12 := rd10.lt
    have ld13 := rd4.lt
    refine LL.box [Value.int IntKind.i64 word] rfl rfl rfl rfl rfl ?_
    intro Wd15 gd16 egd16 rd17 zd18 bd14
    replace rd10 := rd10.up bd14
    replace bd7 := bd7.trans (bd14.mono bd7.size)
    replace rd4 := rd4.up bd14
    replace bd1 := bd1.trans (bd14.mono bd1.size)
    replace q := q.trans (bd14.mono q.size)
    refine LL.val (R.assign rfl rfl) rfl rfl rfl ?_
    refine LL.nilS ?_
    refine CC.seq ?_
    refine CC.region ?_
    refine LL.val (R.load rfl rfl (I.ldNc (vs := [Value.int IntKind.i64 b, Value.int IntKind.i64 i, Value.int IntKind.i64 r, Value.int IntKind.i64 t]) (RowL.cells rd4 rfl) (by rfl) (by rfl))) rfl rfl rfl ?_
    refine LL.val (R.load rfl rfl (I.ldNc (vs := [Value.int IntKind.u64 ↑k1, Value.int IntKind.u64 ↑k2]) (RowL.cells rd10 rfl) (by rfl) (by rfl))) rfl rfl rfl ?_
    refine LL.call (R.call rfl rfl rfl) rfl rfl rfl (of_T _ _ _ _ _ _ _ (by first | assumption | omega)) ?_
    rintro e Wd20 ⟨rfl, bd19⟩
    refine ⟨_, rfl, ?_⟩
    have zbd19 := bd19.size
    replace rd17 := rd17.up bd19
    replace bd14 := bd14.trans (bd19.mono bd14.size)
    replace rd10 := rd10.up bd19
    replace bd7 := bd7.trans (bd19.mono bd7.size)
    replace rd4 := rd4.up bd19
    replace bd1 := bd1.trans (bd19.mono bd1.size)
    replace q := q.trans (bd19.mono q.size)
    refine LL.val (R.move rfl rfl) rfl rfl rfl ?_
    refine LL.val (R.extract rfl rfl rfl) rfl rfl rfl ?_
    refine LL.val (R.extract rfl rfl rfl) rfl rfl rfl ?_
    have ld21 := rd17.lt
    have ld22 := rd10.lt
    have ld23 := rd4.lt
    refine LL.alloc ([Value.int IntKind.i64 0, Value.int IntKind.i64 0, Value.int IntKind.i64 0, Value.int IntKind.i64 0, Value.int IntKind.u64 0, Value.int IntKind.u64 0, Value.int IntKind.i64 0, Value.int IntKind.i64 0, Value.int IntKind.i64 0, Value.int IntKind.i64 0]) rfl rfl rfl rfl rfl ?_
    intro Wd25 gd26 egd26 rd27 zd28 bd24
    replace bd19 := bd19.trans (bd24.mono bd19.size)
    replace rd17 := rd17.up bd24
    replace bd14 := bd14.trans (bd24.mono bd14.size)
    replace rd10 := rd10.up bd24
    replace bd7 := bd7.trans (bd24.mono bd7.size)
    replace rd4 := rd4.up bd24
    replace bd1 := bd1.trans (bd24.mono bd1.size)
    replace q := q.trans (bd24.mono q.size)
    refine LL.storeN (vs := [Value.int IntKind.i64 b, Value.int IntKind.i64 i, Value.int IntKind.i64 r, Value.int IntKind.i64 t, Value.int IntKind.u64 ↑k1, Value.int IntKind.u64 ↑k2, Value.int IntKind.i64 9, Value.int IntKind.i64 (9 + i / 4), Value.int IntKind.i64 (9 + i / 4 + r / 4), Value.int IntKind.i64 (10 + i / 4 + r / 4)]) rfl rfl rfl rfl rd27 (by exact Nat.le_of_ble_eq_true rfl) (ones_of rfl) rfl rfl ?_
    intro Wd30 rd31 bd29 zd32
    have hlbd29 := rd27.lt
    replace rd31 : RowL Wd30 _ 27 [Value.int IntKind.i64 b, Value.int IntKind.i64 i, Value.int IntKind.i64 r, Value.int IntKind.i64 t, Value.int IntKind.u64 ↑k1, Value.int IntKind.u64 ↑k2, Value.int IntKind.i64 9, Value.int IntKind.i64 (9 + i / 4), Value.int IntKind.i64 (9 + i / 4 + r / 4), Value.int IntKind.i64 (10 + i / 4 + r / 4)] := rd31
    clear rd27
    replace bd24 := bd24.grown bd29 bd24.size (by rintro k ⟨⟩; omega)
    replace bd19 := bd19.grown bd29 bd19.size (by rintro k ⟨⟩; omega)
    replace rd17 := rd17.gr bd29 (by have := rd17.lt; omega)
    replace bd14 := bd14.grown bd29 bd14.size (by rintro k ⟨⟩; omega)
    replace rd10 := rd10.gr bd29 (by have := rd10.lt; omega)
    replace bd7 := bd7.grown bd29 bd7.size (by rintro k ⟨⟩; omega)
    replace rd4 := rd4.gr bd29 (by have := rd4.lt; omega)
    replace bd1 := bd1.grown bd29 bd1.size (by rintro k ⟨⟩; omega)
    replace q := q.grown bd29 q.size (by rintro k ⟨⟩; omega)
    have rd27 := rd31
    clear rd31
    refine LL.val (R.assign rfl rfl) rfl rfl rfl ?_
    refine LL.nilS ?_
    refine CC.seq ?_
    refine CC.seq ?_
    refine CC.region ?_
    refine LL.val (R.move rfl rfl) rfl rfl rfl ?_
    refine LL.call (R.call rfl rfl rfl) rfl rfl rfl (num_any _ _) ?_
    rintro e W' ⟨rfl, rfl⟩
    refine ⟨_, rfl, ?_⟩
    refine LL.val (R.neF rfl rfl rfl (by omega)) rfl rfl rfl ?_
    refine LL.val (R.move rfl rfl) rfl rfl rfl ?_
    refine LL.val (R.field rfl rfl (I.fld rfl)) rfl rfl rfl ?_
    refine LL.val (R.load rfl rfl (I.ld1 rfl (RowL.cell rd4 rfl))) rfl rfl rfl ?_
    refine LL.vsplit (fun h => R.gtT rfl rfl rfl h) (fun h => R.gtF rfl rfl rfl (Int.not_lt.1 h)) rfl rfl rfl (fun cd33 => ?_) (fun cd33 => ?_)
    refine LL.val (R.pick rfl rfl rfl) rfl rfl rfl ?_
    refine LL.val (R.move rfl rfl) rfl rfl rfl ?_
    refine LL.skip rfl rfl ?_
    refine LL.skip rfl rfl ?_
    refine LL.val (R.pick rfl rfl rfl) rfl rfl rfl ?_
    refine LL.val (R.move rfl rfl) rfl rfl rfl ?_
    refine LL.skip rfl rfl ?_
    refine LL.skip rfl rfl ?_
    refine LL.val (R.pick rfl rfl rfl) rfl rfl rfl ?_
    refine LL.val (R.move rfl rfl) rfl rfl rfl ?_
    refine LL.skip rfl rfl ?_
    refine LL.skip rfl rfl ?_
    refine LL.val (R.pick rfl rfl rfl) rfl rfl rfl ?_
    refine LL.val (R.move rfl rfl) rfl rfl rfl ?_
    refine LL.skip rfl rfl ?_
    refine LL.skip rfl rfl ?_
    refine LL.skip rfl rfl ?_
    refine LL.skip rfl rfl ?_
    refine LL.skip rfl rfl ?_
    refine LL.val (R.pick rfl rfl rfl) rfl rfl rfl ?_
    refine LL.nilS ?_
    refine CC.yes rfl ?_
    refine CC.seq ?_
    refine CC.region ?_
    refine LL.call (R.call rfl rfl rfl) rfl rfl rfl (works_any _) ?_
    rintro e Wd35 ⟨rfl, bd34⟩
    refine ⟨_, rfl, ?_⟩
    have zbd34 := bd34.size
    replace bd24 := bd24.trans (bd34.mono bd24.size)
    replace bd19 := bd19.trans (bd34.mono bd19.size)
    replace rd17 := rd17.up bd34
    replace bd14 := bd14.trans (bd34.mono bd14.size)
    replace rd10 := rd10.up bd34
    replace bd7 := bd7.trans (bd34.mono bd7.size)
    replace rd4 := rd4.up bd34
    replace bd1 := bd1.trans (bd34.mono bd1.size)
    replace q := q.trans (bd34.mono q.size)
    replace rd27 := rd27.up bd34
    refine LL.val (R.assign rfl rfl) rfl rfl rfl ?_
    refine LL.nilS ?_
    refine CC.ret ?_
    refine EE.thenR ?_
    refine EE.retM _ rfl rfl ?_
    exact ⟨rfl, q⟩
    refine LL.val (R.pick rfl rfl rfl) rfl rfl rfl ?_
    refine LL.val (R.move rfl rfl) rfl rfl rfl ?_
    refine LL.val (R.move rfl rfl) rfl rfl rfl ?_
    refine LL.vsplit (fun h => R.ltT rfl rfl rfl h) (fun h => R.ltF rfl rfl rfl (Int.not_lt.1 h)) rfl rfl rfl (fun cd36 => ?_) (fun cd36 => ?_)
    refine LL.val (R.pick rfl rfl rfl) rfl rfl rfl ?_
    refine LL.val (R.move rfl rfl) rfl rfl rfl ?_
    refine LL.skip rfl rfl ?_
    refine LL.skip rfl rfl ?_
    refine LL.val (R.pick rfl rfl rfl) rfl rfl rfl ?_
    refine LL.val (R.move rfl rfl) rfl rfl rfl ?_
    refine LL.skip rfl rfl ?_
    refine LL.skip rfl rfl ?_
    refine LL.val (R.pick rfl rfl rfl) rfl rfl rfl ?_
    refine LL.val (R.move rfl rfl) rfl rfl rfl ?_
    refine LL.skip rfl rfl ?_
    refine LL.skip rfl rfl ?_
    refine LL.skip rfl rfl ?_
    refine LL.skip rfl rfl ?_
    refine LL.skip rfl rfl ?_
    refine LL.val (R.pick rfl rfl rfl) rfl rfl rfl ?_
    refine LL.nilS ?_
    refine CC.yes rfl ?_
    refine CC.seq ?_
    refine CC.region ?_
    refine LL.call (R.call rfl rfl rfl) rfl rfl rfl (works_any _) ?_
    rintro e Wd38 ⟨rfl, bd37⟩
    refine ⟨_, rfl, ?_⟩
    have zbd37 := bd37.size
    replace bd24 := bd24.trans (bd37.mono bd24.size)
    replace bd19 := bd19.trans (bd37.mono bd19.size)
    replace rd17 := rd17.up bd37
    replace bd14 := bd14.trans (bd37.mono bd14.size)
    replace rd10 := rd10.up bd37
    replace bd7 := bd7.trans (bd37.mono bd7.size)
    replace rd4 := rd4.up bd37
    replace bd1 := bd1.trans (bd37.mono bd1.size)
    replace q := q.trans (bd37.mono q.size)
    replace rd27 := rd27.up bd37
    refine LL.val (R.assign rfl rfl) rfl rfl rfl ?_
    refine LL.nilS ?_
    refine CC.ret ?_
    refine EE.thenR ?_
    refine EE.retM _ rfl rfl ?_
    exact ⟨rfl, q⟩
    refine LL.val (R.pick rfl rfl rfl) rfl rfl rfl ?_
    refine LL.val (R.move rfl rfl) rfl rfl rfl ?_
    refine LL.val (R.move rfl rfl) rfl rfl rfl ?_
    refine LL.vsplit (fun h => R.gtT rfl rfl rfl h) (fun h => R.gtF rfl rfl rfl (Int.not_lt.1 h)) rfl rfl rfl (fun cd39 => ?_) (fun cd39 => ?_)
    refine LL.val (R.pick rfl rfl rfl) rfl rfl rfl ?_
    refine LL.val (R.move rfl rfl) rfl rfl rfl ?_
    refine LL.skip rfl rfl ?_
    refine LL.skip rfl rfl ?_
    refine LL.val (R.pick rfl rfl rfl) rfl rfl rfl ?_
    refine LL.val (R.move rfl rfl) rfl rfl rfl ?_
    refine LL.skip rfl rfl ?_
    refine LL.skip rfl rfl ?_
    refine LL.skip rfl rfl ?_
    refine LL.skip rfl rfl ?_
    refine LL.skip rfl rfl ?_
    refine LL.val (R.pick rfl rfl rfl) rfl rfl rfl ?_
    refine LL.nilS ?_
    refine CC.yes rfl ?_
    refine CC.seq ?_
    refine CC.region ?_
    refine LL.call (R.call rfl rfl rfl) rfl rfl rfl (works_any _) ?_
    rintro e Wd41 ⟨rfl, bd40⟩
    refine ⟨_, rfl, ?_⟩
    have zbd40 := bd40.size
    replace bd24 := bd24.trans (bd40.mono bd24.size)
    replace bd19 := bd19.trans (bd40.mono bd19.size)
    replace rd17 := rd17.up bd40
    replace bd14 := bd14.trans (bd40.mono bd14.size)
    replace rd10 := rd10.up bd40
    replace bd7 := bd7.trans (bd40.mono bd7.size)
    replace rd4 := rd4.up bd40
    replace bd1 := bd1.trans (bd40.mono bd1.size)
    replace q := q.trans (bd40.mono q.size)
    replace rd27 := rd27.up bd40
    refine LL.val (R.assign rfl rfl) rfl rfl rfl ?_
    refine LL.nilS ?_
    refine CC.ret ?_
    refine EE.thenR ?_
    refine EE.retM _ rfl rfl ?_
    exact ⟨rfl, q⟩
    refine LL.val (R.pick rfl rfl rfl) rfl rfl rfl ?_
    refine LL.val (R.move rfl rfl) rfl rfl rfl ?_
    refine LL.val (R.load rfl rfl (I.ld1 rfl (RowL.cell rd17 rfl))) rfl rfl rfl ?_
    refine LL.val (R.ltF rfl rfl rfl (by omega)) rfl rfl rfl ?_
    refine LL.val (R.pick rfl rfl rfl) rfl rfl rfl ?_
    refine LL.val (R.move rfl rfl) rfl rfl rfl ?_
    refine LL.val (R.load rfl rfl (I.ld1 rfl (RowL.cell rd17 rfl))) rfl rfl rfl ?_
    refine LL.val (R.field rfl rfl (I.fld rfl)) rfl rfl rfl ?_
    refine LL.val (R.load rfl rfl (I.ld1 rfl (RowL.cell rd4 rfl))) rfl rfl rfl ?_
    refine LL.val (R.mulI rfl rfl rfl (by omega)) rfl rfl rfl ?_
    refine LL.val (R.geT rfl rfl rfl (by omega)) rfl rfl rfl ?_
    refine LL.val (R.pick rfl rfl rfl) rfl rfl rfl ?_
    refine LL.nilS ?_
    refine CC.yes rfl ?_
    refine CC.seq ?_
    refine CC.region ?_
    refine LL.call (R.call rfl rfl rfl) rfl rfl rfl (works_any _) ?_
    rintro e Wd43 ⟨rfl, bd42⟩
    refine ⟨_, rfl, ?_⟩
    have zbd42 := bd42.size
    replace bd24 := bd24.trans (bd42.mono bd24.size)
    replace bd19 := bd19.trans (bd42.mono bd19.size)
    replace rd17 := rd17.up bd42
    replace bd14 := bd14.trans (bd42.mono bd14.size)
    replace rd10 := rd10.up bd42
    replace bd7 := bd7.trans (bd42.mono bd7.size)
    replace rd4 := rd4.up bd42
    replace bd1 := bd1.trans (bd42.mono bd1.size)
    replace q := q.trans (bd42.mono q.size)
    replace rd27 := rd27.up bd42
    refine LL.val (R.assign rfl rfl) rfl rfl rfl ?_
    refine LL.nilS ?_
    refine CC.ret ?_
    refine EE.thenR ?_
    refine EE.retM _ rfl rfl ?_
    exact ⟨rfl, q⟩
set_option maxRecDepth 100000 in
set_option maxHeartbeats 8000000 in
theorem holds_T (b i r t k1 k2 at' by' word : Nat) (w : World) (hof : okF b i r t) (hb : b ≤ 64) (hk : k1 < 18446744073709551616 ∧ k2 < 18446744073709551616 ∧ by' < 18446744073709551616) (hat : at' ≤ 63) (hword : word < 64 * b) : Calls Try.prog 8 #[formV b i r t, keyV k1 k2, .int .i64 (at' : Int), .int .u64 (by' : Int), .int .i64 (word : Int)] w fun x w' => x = .returned (.bool true) ∧ Below w.heap.size w w' := by
  have q := Below.refl w.heap.size w
  refine X.fnM Try.func8 rfl (n := 144) rfl rfl ?_
  refine CC.seq ?_
  refine CC.region ?_
  refine LL.box [Value.int IntKind.i64 ↑b, Value.int IntKind.i64 ↑i, Value.int IntKind.i64 ↑r, Value.int IntKind.i64 ↑t] rfl rfl rfl rfl rfl ?_
  intro W2 g3 eg3 r4 z5 b1
  replace q := q.trans (b1.mono q.size)
  have l6 := r4.lt
  refine LL.box [Value.int IntKind.u64 ↑k1, Value.int IntKind.u64 ↑k2] rfl rfl rfl rfl rfl ?_
  intro W8 g9 eg9 r10 z11 b7
  replace r4 := r4.up b7
  replace b1 := b1.trans (b7.mono b1.size)
  replace q := q.trans (b7.mono q.size)
  have l12 := r10.lt
  have l13 := r4.lt
  refine LL.box [Value.int IntKind.i64 ↑word] rfl rfl rfl rfl rfl ?_
  intro W15 g16 eg16 r17 z18 b14
  replace r10 := r10.up b14
  replace b7 := b7.trans (b14.mono b7.size)
  replace r4 := r4.up b14
  replace b1 := b1.trans (b14.mono b1.size)
  replace q := q.trans (b14.mono q.size)
  refine LL.val (R.assign rfl rfl) rfl rfl rfl ?_
  refine LL.nilS ?_
  refine CC.seq ?_
  refine CC.region ?_
  refine LL.val (R.load rfl rfl (I.ldNc (vs := [Value.int IntKind.i64 ↑b, Value.int IntKind.i64 ↑i, Value.int IntKind.i64 ↑r, Value.int IntKind.i64 ↑t]) (RowL.cells r4 rfl) (by rfl) (by rfl))) rfl rfl rfl ?_
  refine LL.val (R.load rfl rfl (I.ldNc (vs := [Value.int IntKind.u64 ↑k1, Value.int IntKind.u64 ↑k2]) (RowL.cells r10 rfl) (by rfl) (by rfl))) rfl rfl rfl ?_
  refine LL.call (R.call rfl rfl rfl) rfl rfl rfl (of_T _ _ _ _ _ _ _ (by first | assumption | omega)) ?_
  rintro e W20 ⟨rfl, b19⟩
  refine ⟨_, rfl, ?_⟩
  have zb19 := b19.size
  replace r17 := r17.up b19
  replace b14 := b14.trans (b19.mono b14.size)
  replace r10 := r10.up b19
  replace b7 := b7.trans (b19.mono b7.size)
  replace r4 := r4.up b19
  replace b1 := b1.trans (b19.mono b1.size)
  replace q := q.trans (b19.mono q.size)
  refine LL.val (R.move rfl rfl) rfl rfl rfl ?_
  refine LL.val (R.extract rfl rfl rfl) rfl rfl rfl ?_
  refine LL.val (R.extract rfl rfl rfl) rfl rfl rfl ?_
  have l21 := r17.lt
  have l22 := r10.lt
  have l23 := r4.lt
  refine LL.alloc ([Value.int IntKind.i64 0, Value.int IntKind.i64 0, Value.int IntKind.i64 0, Value.int IntKind.i64 0, Value.int IntKind.u64 0, Value.int IntKind.u64 0, Value.int IntKind.i64 0, Value.int IntKind.i64 0, Value.int IntKind.i64 0, Value.int IntKind.i64 0]) rfl rfl rfl rfl rfl ?_
  intro W25 g26 eg26 r27 z28 b24
  replace b19 := b19.trans (b24.mono b19.size)
  replace r17 := r17.up b24
  replace b14 := b14.trans (b24.mono b14.size)
  replace r10 := r10.up b24
  replace b7 := b7.trans (b24.mono b7.size)
  replace r4 := r4.up b24
  replace b1 := b1.trans (b24.mono b1.size)
  replace q := q.trans (b24.mono q.size)
  refine LL.storeN (vs := [Value.int IntKind.i64 ↑b, Value.int IntKind.i64 ↑i, Value.int IntKind.i64 ↑r, Value.int IntKind.i64 ↑t, Value.int IntKind.u64 ↑k1, Value.int IntKind.u64 ↑k2, Value.int IntKind.i64 9, Value.int IntKind.i64 (9 + ↑i / 4), Value.int IntKind.i64 (9 + ↑i / 4 + ↑r / 4), Value.int IntKind.i64 (10 + ↑i / 4 + ↑r / 4)]) rfl rfl rfl rfl r27 (by exact Nat.le_of_ble_eq_true rfl) (ones_of rfl) rfl rfl ?_
  intro W30 r31 b29 z32
  have hlb29 := r27.lt
  replace r31 : RowL W30 _ 27 [Value.int IntKind.i64 ↑b, Value.int IntKind.i64 ↑i, Value.int IntKind.i64 ↑r, Value.int IntKind.i64 ↑t, Value.int IntKind.u64 ↑k1, Value.int IntKind.u64 ↑k2, Value.int IntKind.i64 9, Value.int IntKind.i64 (9 + ↑i / 4), Value.int IntKind.i64 (9 + ↑i / 4 + ↑r / 4), Value.int IntKind.i64 (10 + ↑i / 4 + ↑r / 4)] := r31
  clear r27
  replace b24 := b24.grown b29 b24.size (by rintro k ⟨⟩; omega)
  replace b19 := b19.grown b29 b19.size (by rintro k ⟨⟩; omega)
  replace r17 := r17.gr b29 (by have := r17.lt; omega)
  replace b14 := b14.grown b29 b14.size (by rintro k ⟨⟩; omega)
  replace r10 := r10.gr b29 (by have := r10.lt; omega)
  replace b7 := b7.grown b29 b7.size (by rintro k ⟨⟩; omega)
  replace r4 := r4.gr b29 (by have := r4.lt; omega)
  replace b1 := b1.grown b29 b1.size (by rintro k ⟨⟩; omega)
  replace q := q.grown b29 q.size (by rintro k ⟨⟩; omega)
  have r27 := r31
  clear r31
  refine LL.val (R.assign rfl rfl) rfl rfl rfl ?_
  refine LL.nilS ?_
  refine CC.seq ?_
  refine CC.seq ?_
  refine CC.region ?_
  refine LL.val (R.move rfl rfl) rfl rfl rfl ?_
  refine LL.call (R.call rfl rfl rfl) rfl rfl rfl (num_any _ _) ?_
  rintro e W' ⟨rfl, rfl⟩
  refine ⟨_, rfl, ?_⟩
  refine LL.val (R.neF rfl rfl rfl (by omega)) rfl rfl rfl ?_
  refine LL.val (R.move rfl rfl) rfl rfl rfl ?_
  refine LL.val (R.field rfl rfl (I.fld rfl)) rfl rfl rfl ?_
  refine LL.val (R.load rfl rfl (I.ld1 rfl (RowL.cell r4 rfl))) rfl rfl rfl ?_
  refine LL.val (R.gtF rfl rfl rfl (by omega)) rfl rfl rfl ?_
  refine LL.val (R.pick rfl rfl rfl) rfl rfl rfl ?_
  refine LL.val (R.move rfl rfl) rfl rfl rfl ?_
  refine LL.val (R.move rfl rfl) rfl rfl rfl ?_
  refine LL.val (R.ltF rfl rfl rfl (by omega)) rfl rfl rfl ?_
  refine LL.val (R.pick rfl rfl rfl) rfl rfl rfl ?_
  refine LL.val (R.move rfl rfl) rfl rfl rfl ?_
  refine LL.val (R.move rfl rfl) rfl rfl rfl ?_
  refine LL.val (R.gtF rfl rfl rfl (by omega)) rfl rfl rfl ?_
  refine LL.val (R.pick rfl rfl rfl) rfl rfl rfl ?_
  refine LL.val (R.move rfl rfl) rfl rfl rfl ?_
  refine LL.val (R.load rfl rfl (I.ld1 rfl (RowL.cell r17 rfl))) rfl rfl rfl ?_
  refine LL.val (R.ltF rfl rfl rfl (by omega)) rfl rfl rfl ?_
  refine LL.val (R.pick rfl rfl rfl) rfl rfl rfl ?_
  refine LL.val (R.move rfl rfl) rfl rfl rfl ?_
  refine LL.val (R.load rfl rfl (I.ld1 rfl (RowL.cell r17 rfl))) rfl rfl rfl ?_
  refine LL.val (R.field rfl rfl (I.fld rfl)) rfl rfl rfl ?_
  refine LL.val (R.load rfl rfl (I.ld1 rfl (RowL.cell r4 rfl))) rfl rfl rfl ?_
  refine LL.val (R.mulcN rfl rfl rfl rfl (by omega)) rfl rfl rfl ?_
  refine LL.val (R.geF rfl rfl rfl (by omega)) rfl rfl rfl ?_
  refine LL.val (R.pick rfl rfl rfl) rfl rfl rfl ?_
  refine LL.nilS ?_
  refine CC.no rfl ?_
  refine CC.skip ?_
  refine EE.thenN ?_
  refine CC.seq ?_
  refine CC.region ?_
  refine LL.val (R.load rfl rfl (I.ldNc (vs := [Value.int IntKind.i64 ↑b, Value.int IntKind.i64 ↑i, Value.int IntKind.i64 ↑r, Value.int IntKind.i64 ↑t, Value.int IntKind.u64 ↑k1, Value.int IntKind.u64 ↑k2, Value.int IntKind.i64 9, Value.int IntKind.i64 (9 + ↑i / 4), Value.int IntKind.i64 (9 + ↑i / 4 + ↑r / 4), Value.int IntKind.i64 (10 + ↑i / 4 + ↑r / 4)]) (RowL.cells r27 rfl) (by rfl) (by rfl))) rfl rfl rfl ?_
  refine LL.call (R.call rfl rfl rfl) rfl rfl rfl (super_any b i r t k1 k2 _ _ _ _ _ (by omega)) ?_
  rintro e2 W1 ⟨v, rfl, o, b1⟩
  refine ⟨_, rfl, ?_⟩
  replace q := q.trans (b1.mono q.size)
  replace r4 := r4.up b1
  replace r17 := r17.up b1
  replace r27 := r27.up b1
  have hS := reads_of_owns o
  have hl := supL_len b i r t k1 k2
  obtain ⟨S, hSd⟩ : ∃ S, supL b i r t k1 k2 = S := ⟨_, rfl⟩
  rw [hSd] at hS hl
  obtain ⟨a2, cap2, rfl, hcap2, _⟩ := hS.intsN (n := 64) hl
  have jq := q.size
  clear o b1 b19 b24 b29 b14 b7 r10
  refine LL.val (R.move rfl rfl) rfl rfl rfl ?_
  refine LL.val (R.extract rfl rfl rfl) rfl rfl rfl ?_
  refine LL.val (R.extract rfl rfl rfl) rfl rfl rfl ?_
  refine LL.val (R.assign rfl rfl) rfl rfl rfl ?_
  refine LL.val (R.assign rfl rfl) rfl rfl rfl ?_
  refine LL.nilS ?_
  refine CC.seq ?_
  refine CC.seq ?_
  refine CC.region ?_
  refine LL.val (R.move rfl rfl) rfl rfl rfl ?_
  refine LL.call (R.call rfl rfl rfl) rfl rfl rfl (num_any _ _) ?_
  rintro e W' ⟨rfl, rfl⟩
  refine ⟨_, rfl, ?_⟩
  refine LL.val (R.neF rfl rfl rfl (by omega)) rfl rfl rfl ?_
  refine LL.val (R.move rfl rfl) rfl rfl rfl ?_
  refine LL.val (R.move rfl rfl) rfl rfl rfl ?_
  refine LL.val (R.len rfl rfl rfl rfl) rfl rfl rfl ?_
  refine LL.val (R.neF rfl rfl rfl (by omega)) rfl rfl rfl ?_
  refine LL.val (R.pick rfl rfl rfl) rfl rfl rfl ?_
  refine LL.nilS ?_
  refine CC.no rfl ?_
  refine CC.skip ?_
  refine EE.thenN ?_
  refine CC.seq ?_
  refine CC.freeZ (fun W_ j => j < W_.heap.size ∧ (True)) (by kernel_rfl) (by kernel_rfl) (fun Wa2 ba1 za3 => ?_)
  replace q := q.trans (ba1.mono q.size)
  replace r4 := r4.up ba1
  replace r17 := r17.up ba1
  replace r27 := r27.up ba1
  replace hS := hS.up ba1
  have hok : Kept (fun j => j < Wa2.heap.size ∧ (True)) Wa2 Wa2 := Kept.refl _ _
  have fzr4 := fzRow (K := fun j => j < Wa2.heap.size ∧ (True)) r4 ⟨r4.lt, (by first | trivial | omega)⟩
  have fzr17 := fzRow (K := fun j => j < Wa2.heap.size ∧ (True)) r17 ⟨r17.lt, (by first | trivial | omega)⟩
  have fzr27 := fzRow (K := fun j => j < Wa2.heap.size ∧ (True)) r27 ⟨r27.lt, (by first | trivial | omega)⟩
  refine AA.pure 1 rfl hok (by kernel_rfl) (fun w' b' => R.move rfl rfl) rfl rfl ?_
  refine AA.pure 3 rfl hok (by kernel_rfl) (fun w' b' => R.field rfl rfl (I.fld rfl)) rfl rfl ?_
  refine AA.pure 4 rfl hok (by kernel_rfl) (fun w' b' => R.load rfl rfl (I.ld1 rfl (RowL.cell (fzr4 w' b') rfl))) rfl rfl ?_
  refine AA.pure 5 rfl hok (by kernel_rfl) (fun w' b' => R.mulcN rfl rfl rfl rfl (by omega)) rfl rfl ?_
  refine AA.pure 6 rfl hok (by kernel_rfl) (fun w' b' => R.subNc rfl rfl rfl rfl (by omega) (by omega)) rfl rfl ?_
  refine AA.one 0 (by kernel_rfl) ?_
  have la4 := r4.lt
  have la5 := r17.lt
  have la6 := r27.lt
  refine ZR.lit (e := 24) [] 0 rfl rfl rfl (fun _ => by kernel_rfl) rfl rfl ?_
  intro Wa8 ga9 ega9 ra10 za11 ba7
  replace ba1 := ba1.trans (ba7.mono ba1.size)
  replace q := q.trans (ba7.mono q.size)
  replace r4 := r4.up ba7
  replace r17 := r17.up ba7
  replace r27 := r27.up ba7
  replace hS := hS.up ba7
  replace hok := hok.trans (bkept ba7 (fun j h => by have := h.1; have := hok.size; omega))
  have ya12 := hok.size
  refine ⟨hok, ?_⟩
  refine AA.one 2 (by kernel_rfl) ?_
  have o := RowL.owns (base := Wa2.heap.size) ra10 (by omega) (by simp)
  refine ZR.append (us := []) (ys := ints .u64 S) rfl rfl rfl El64 o hS (ints_one _ _) (by simp [maxLen, hl]) (by simp [hl]) (by omega) rfl rfl ?_
  intro v1 W5 o1 g1
  have hb1 := owns_bel o g1 (by omega)
  have y1 := hb1.size
  replace hok := hok.trans (bkept hb1 (fun j h => h.1))
  replace q := q.trans (hb1.mono (by omega))
  replace r4 := r4.below hb1 (by omega)
  replace r17 := r17.below hb1 (by omega)
  replace r27 := r27.below hb1 (by omega)
  refine ⟨hok, ?_⟩
  simp only [List.nil_append, List.length_map, hl, List.length_nil, Nat.zero_add] at o1
  clear o g1 hb1 hS ra10 ba1 ba7 ya12
  refine AA.one 7 (by kernel_rfl) ?_
  refine ZR.zeros (m := 64 * b - 64) rfl rfl rfl El64 Try.underlying3 rfl o1 (by omega) (by simp only [maxLen]; omega) (by omega) (by omega) rfl rfl ?_
  intro v2 W6 o2 g2
  have hb2 := owns_bel o1 g2 (by omega)
  have y2 := hb2.size
  replace hok := hok.trans (bkept hb2 (fun j h => h.1))
  replace q := q.trans (hb2.mono (by omega))
  replace r4 := r4.below hb2 (by omega)
  replace r17 := r17.below hb2 (by omega)
  replace r27 := r27.below hb2 (by omega)
  refine ⟨hok, ?_⟩
  rw [show 64 + (64 * b - 64) = 64 * b by omega, show ints .u64 S ++ List.replicate (64 * b - 64) (.int .u64 0) = ints .u64 (S ++ List.replicate (64 * b - 64) 0) by simp [ints]] at o2
  obtain ⟨gv, cv, rfl, hgv, lgv, hcv⟩ := owns_form o2 (by omega)
  clear o1 g2 hb2
  have hdv : devL b i r t k1 k2 (64 * b) 0 0 = S ++ List.replicate (64 * b - 64) 0 := by rw [← hSd]; exact dev_same (by omega)
  have hdl : (S ++ List.replicate (64 * b - 64) 0).length = 64 * b := by simp [hl]; omega
  have hgetS : (S ++ List.replicate (64 * b - 64) 0)[at']? = some (wd S at') := by
    unfold wd
    rw [List.getElem?_append_left (by omega), List.getElem?_eq_getElem (by omega)]
    rfl
  have hwS : wd S at' < 18446744073709551616 := by
    unfold wd
    rw [← hSd]
    exact supL_lt (by omega) _
  have hR := reads_of_owns o2
  obtain ⟨_, _, e3, _, hcl⟩ := hR.intsN hdl
  obtain ⟨_, _, e4, _, hcl⟩ := hcl (by omega)
  simp only [Value.slice.injEq, true_and] at e3
  rw [← e3.1] at e4
  simp only [Option.some.injEq, Addr.mk.injEq, and_true] at e4
  obtain ⟨rfl, rfl⟩ := e4
  have c1 := hcl at' (by omega)
  rw [hgetS] at c1
  replace c1 : W6.cell? ⟨gv, 0 + at', none⟩ = some (.int .u64 (wd S at' : Int)) := c1
  have qj := Below.refl W6.heap.size W6
  clear e3 hcl
  refine AA.pure 8 rfl hok (by kernel_rfl) (fun w' b' => R.assign rfl rfl) rfl rfl ?_
  refine AA.done rfl ?_
  clear fzr4 fzr17 fzr27 hok
  refine EE.thenN ?_
  refine CC.seq ?_
  refine CC.region ?_
  refine LL.val (R.move rfl rfl) rfl rfl rfl ?_
  refine LL.call (R.call rfl rfl rfl) rfl rfl rfl (read_dev b i r t k1 k2 _ _ hof hb (by omega) (by rw [hdv]; exact hR)) ?_
  rintro e W7 ⟨rfl, b7⟩
  refine ⟨_, rfl, ?_⟩
  replace q := q.trans (b7.mono q.size)
  replace qj := qj.trans (b7.mono qj.size)
  replace r4 := r4.up b7
  replace r17 := r17.up b7
  replace r27 := r27.up b7
  replace c1 := cell_up c1 b7
  have y7 := b7.size
  clear b7 hR
  refine LL.val (R.move rfl rfl) rfl rfl rfl ?_
  refine LL.val (R.extract rfl rfl rfl) rfl rfl rfl ?_
  refine LL.val (R.extract rfl rfl rfl) rfl rfl rfl ?_
  have ld1 := r4.lt
  have ld2 := r17.lt
  have ld3 := r27.lt
  refine LL.alloc ([Value.int IntKind.i64 0, Value.int IntKind.i64 0, Value.int IntKind.i64 0, Value.int IntKind.i64 0, Value.int IntKind.u64 0, Value.int IntKind.u64 0, Value.int IntKind.i64 0, Value.int IntKind.i64 0, Value.int IntKind.i64 0, Value.int IntKind.i64 0]) rfl rfl rfl rfl rfl ?_
  intro Wd5 gd6 egd6 rd7 zd8 bd4
  replace q := q.trans (bd4.mono q.size)
  replace qj := qj.trans (bd4.mono qj.size)
  replace r4 := r4.up bd4
  replace r17 := r17.up bd4
  replace r27 := r27.up bd4
  replace c1 := cell_up c1 bd4
  refine LL.storeN (vs := [Value.int IntKind.i64 ↑b, Value.int IntKind.i64 ↑i, Value.int IntKind.i64 ↑r, Value.int IntKind.i64 ↑t, Value.int IntKind.u64 ↑k1, Value.int IntKind.u64 ↑k2, Value.int IntKind.i64 9, Value.int IntKind.i64 (9 + ↑i / 4), Value.int IntKind.i64 (9 + ↑i / 4 + ↑r / 4), Value.int IntKind.i64 (10 + ↑i / 4 + ↑r / 4)]) rfl rfl rfl rfl rd7 (by exact Nat.le_of_ble_eq_true rfl) (ones_of rfl) rfl rfl ?_
  intro Wd10 rd11 bd9 zd12
  have hlbd9 := rd7.lt
  replace rd11 : RowL Wd10 _ 27 [Value.int IntKind.i64 ↑b, Value.int IntKind.i64 ↑i, Value.int IntKind.i64 ↑r, Value.int IntKind.i64 ↑t, Value.int IntKind.u64 ↑k1, Value.int IntKind.u64 ↑k2, Value.int IntKind.i64 9, Value.int IntKind.i64 (9 + ↑i / 4), Value.int IntKind.i64 (9 + ↑i / 4 + ↑r / 4), Value.int IntKind.i64 (10 + ↑i / 4 + ↑r / 4)] := rd11
  clear rd7
  replace bd4 := bd4.grown bd9 bd4.size (by rintro k ⟨⟩; omega)
  replace q := q.grown bd9 q.size (by rintro k ⟨⟩; omega)
  replace qj := qj.grown bd9 qj.size (by rintro k ⟨⟩; omega)
  replace r4 := r4.gr bd9 (by have := r4.lt; omega)
  replace r17 := r17.gr bd9 (by have := r17.lt; omega)
  replace r27 := r27.gr bd9 (by have := r27.lt; omega)
  replace c1 := cell_gr c1 bd9 (by omega)
  have rd7 := rd11
  clear rd11
  refine LL.val (R.assign rfl rfl) rfl rfl rfl ?_
  refine LL.nilS ?_
  refine CC.seq ?_
  refine CC.region ?_
  refine LL.val (R.move rfl rfl) rfl rfl rfl ?_
  refine LL.val (R.move rfl rfl) rfl rfl rfl ?_
  refine LL.val (R.move rfl rfl) rfl rfl rfl ?_
  refine LL.val (R.move rfl rfl) rfl rfl rfl ?_
  refine LL.val (R.index rfl rfl rfl (I.ixS1 rfl (by omega))) rfl rfl rfl ?_
  refine LL.val (R.load rfl rfl (I.ld1 rfl (by assumption))) rfl rfl rfl ?_
  refine LL.val (R.move rfl rfl) rfl rfl rfl ?_
  refine LL.val (R.xorU rfl rfl rfl (by omega) (by omega)) rfl rfl rfl ?_
  refine LL.val (R.index rfl rfl rfl (I.ixS1 rfl (by omega))) rfl rfl rfl ?_
  have o3 := owns_below o2 qj
  obtain ⟨cur, hcur, hjc, _, hset⟩ := owns_set (u := .int .u64 ((wd S at' ^^^ by' : Nat) : Int)) o3 (j := at') (by omega)
  refine LL.store rfl rfl rfl rfl hcur (by omega) rfl rfl rfl rfl ?_
  intro W9 r9 g9' z9
  rw [Nat.zero_add] at r9
  have o4 := hset W9 r9
  rw [show (ints .u64 (S ++ List.replicate (64 * b - 64) 0)).set at' (.int .u64 ((wd S at' ^^^ by' : Nat) : Int)) = ints .u64 (devL b i r t k1 k2 (64 * b) at' by') by unfold devL; rw [hSd]; simp only [ints, List.map_set]] at o4
  replace q := q.grown g9' q.size (by rintro k ⟨⟩; omega)
  replace r4 := r4.gr g9' (by omega)
  replace r17 := r17.gr g9' (by omega)
  replace r27 := r27.gr g9' (by omega)
  replace rd7 := rd7.gr g9' (by omega)
  have hR := reads_of_owns o4
  clear o2 o3 o4 hset hcur r9 c1 qj g9' bd4 bd9 hgetS hwS hdv
  have hpa := part_any b i r t k1 k2 9 (9 + (i : Int) / 4) (9 + (i : Int) / 4 + (r : Int) / 4) (10 + (i : Int) / 4 + (r : Int) / 4) word
  have hlas := lastP_scan (word := word) (acc := (0, 0)) (pre_sorted (b := b) (i := i) (r := r) (by omega) (by omega) 6 (by omega))
  by_cases h0 : by' = 0
  case pos =>
    subst h0
    rw [dev_same (by omega)] at hR
    refine LL.nilS ?_
    refine CC.seq ?_
    refine CC.region ?_
    refine LL.val (R.move rfl rfl) rfl rfl rfl ?_
    refine LL.call (R.call rfl rfl rfl) rfl rfl rfl (read_dev b i r t k1 k2 _ _ hof hb (by omega) (by rw [dev_same (by omega)]; exact hR)) ?_
    rintro e W10 ⟨rfl, b7⟩
    refine ⟨_, rfl, ?_⟩
    replace q := q.trans (b7.mono q.size)
    replace r4 := r4.up b7
    replace r17 := r17.up b7
    replace r27 := r27.up b7
    replace rd7 := rd7.up b7
    clear b7 hR
    refine LL.val (R.move rfl rfl) rfl rfl rfl ?_
    refine LL.val (R.extract rfl rfl rfl) rfl rfl rfl ?_
    refine LL.val (R.extract rfl rfl rfl) rfl rfl rfl ?_
    have lf1 := r4.lt
    have lf2 := r17.lt
    have lf3 := r27.lt
    have lf4 := rd7.lt
    refine LL.alloc ([Value.int IntKind.i64 0, Value.int IntKind.i64 0, Value.int IntKind.i64 0, Value.int IntKind.i64 0, Value.int IntKind.u64 0, Value.int IntKind.u64 0, Value.int IntKind.i64 0, Value.int IntKind.i64 0, Value.int IntKind.i64 0, Value.int IntKind.i64 0]) rfl rfl rfl rfl rfl ?_
    intro Wf6 gf7 egf7 rf8 zf9 bf5
    replace q := q.trans (bf5.mono q.size)
    replace r4 := r4.up bf5
    replace r17 := r17.up bf5
    replace r27 := r27.up bf5
    replace rd7 := rd7.up bf5
    refine LL.storeN (vs := [Value.int IntKind.i64 ↑b, Value.int IntKind.i64 ↑i, Value.int IntKind.i64 ↑r, Value.int IntKind.i64 ↑t, Value.int IntKind.u64 ↑k1, Value.int IntKind.u64 ↑k2, Value.int IntKind.i64 9, Value.int IntKind.i64 (9 + ↑i / 4), Value.int IntKind.i64 (9 + ↑i / 4 + ↑r / 4), Value.int IntKind.i64 (10 + ↑i / 4 + ↑r / 4)]) rfl rfl rfl rfl rf8 (by exact Nat.le_of_ble_eq_true rfl) (ones_of rfl) rfl rfl ?_
    intro Wf11 rf12 bf10 zf13
    have hlbf10 := rf8.lt
    replace rf12 : RowL Wf11 _ 27 [Value.int IntKind.i64 ↑b, Value.int IntKind.i64 ↑i, Value.int IntKind.i64 ↑r, Value.int IntKind.i64 ↑t, Value.int IntKind.u64 ↑k1, Value.int IntKind.u64 ↑k2, Value.int IntKind.i64 9, Value.int IntKind.i64 (9 + ↑i / 4), Value.int IntKind.i64 (9 + ↑i / 4 + ↑r / 4), Value.int IntKind.i64 (10 + ↑i / 4 + ↑r / 4)] := rf12
    clear rf8
    replace bf5 := bf5.grown bf10 bf5.size (by rintro k ⟨⟩; omega)
    replace q := q.grown bf10 q.size (by rintro k ⟨⟩; omega)
    replace r4 := r4.gr bf10 (by have := r4.lt; omega)
    replace r17 := r17.gr bf10 (by have := r17.lt; omega)
    replace r27 := r27.gr bf10 (by have := r27.lt; omega)
    replace rd7 := rd7.gr bf10 (by have := rd7.lt; omega)
    have rf8 := rf12
    clear rf12
    refine LL.val (R.assign rfl rfl) rfl rfl rfl ?_
    refine LL.nilS ?_
    refine CC.seq ?_
    refine CC.seq ?_
    refine CC.region ?_
    refine LL.val (R.move rfl rfl) rfl rfl rfl ?_
    refine LL.call (R.call rfl rfl rfl) rfl rfl rfl (num_any _ _) ?_
    rintro e W' ⟨rfl, rfl⟩
    refine ⟨_, rfl, ?_⟩
    refine LL.val (R.neF rfl rfl rfl (by omega)) rfl rfl rfl ?_
    refine LL.val (R.move rfl rfl) rfl rfl rfl ?_
    refine LL.val (R.load rfl rfl (I.ldNc (vs := [Value.int IntKind.i64 ↑b, Value.int IntKind.i64 ↑i, Value.int IntKind.i64 ↑r, Value.int IntKind.i64 ↑t, Value.int IntKind.u64 ↑k1, Value.int IntKind.u64 ↑k2, Value.int IntKind.i64 9, Value.int IntKind.i64 (9 + ↑i / 4), Value.int IntKind.i64 (9 + ↑i / 4 + ↑r / 4), Value.int IntKind.i64 (10 + ↑i / 4 + ↑r / 4)]) (RowL.cells rd7 rfl) (by rfl) (by rfl))) rfl rfl rfl ?_
    refine LL.val (R.load rfl rfl (I.ldNc (vs := [Value.int IntKind.i64 ↑b, Value.int IntKind.i64 ↑i, Value.int IntKind.i64 ↑r, Value.int IntKind.i64 ↑t, Value.int IntKind.u64 ↑k1, Value.int IntKind.u64 ↑k2, Value.int IntKind.i64 9, Value.int IntKind.i64 (9 + ↑i / 4), Value.int IntKind.i64 (9 + ↑i / 4 + ↑r / 4), Value.int IntKind.i64 (10 + ↑i / 4 + ↑r / 4)]) (RowL.cells r27 rfl) (by rfl) (by rfl))) rfl rfl rfl ?_
    refine LL.val (R.neST (p := (↑b : Int) = ↑b ∧ (↑i : Int) = ↑i ∧ (↑r : Int) = ↑r ∧ (↑t : Int) = ↑t ∧ (↑k1 : Int) = ↑k1 ∧ (↑k2 : Int) = ↑k2 ∧ (9 : Int) = 9 ∧ (9 + ↑i / 4 : Int) = 9 + ↑i / 4 ∧ (9 + ↑i / 4 + ↑r / 4 : Int) = 9 + ↑i / 4 + ↑r / 4 ∧ (10 + ↑i / 4 + ↑r / 4 : Int) = 10 + ↑i / 4 + ↑r / 4) (bs := [decide ((↑b : Int) = ↑b), decide ((↑i : Int) = ↑i), decide ((↑r : Int) = ↑r), decide ((↑t : Int) = ↑t), decide ((↑k1 : Int) = ↑k1), decide ((↑k2 : Int) = ↑k2), decide ((9 : Int) = 9), decide ((9 + ↑i / 4 : Int) = 9 + ↑i / 4), decide ((9 + ↑i / 4 + ↑r / 4 : Int) = 9 + ↑i / 4 + ↑r / 4), decide ((10 + ↑i / 4 + ↑r / 4 : Int) = 10 + ↑i / 4 + ↑r / 4)]) rfl rfl rfl rfl (by kernel_rfl) (by kernel_rfl) (by simp) (by first | assumption | omega)) rfl rfl rfl ?_
    refine LL.val (R.pick rfl rfl rfl) rfl rfl rfl ?_
    refine LL.val (R.move rfl rfl) rfl rfl rfl ?_
    refine LL.val (R.move rfl rfl) rfl rfl rfl ?_
    refine LL.call (R.call rfl rfl rfl) rfl rfl rfl (num_any _ _) ?_
    rintro e W' ⟨rfl, rfl⟩
    refine ⟨_, rfl, ?_⟩
    refine LL.val (R.eqF rfl rfl rfl (by omega)) rfl rfl rfl ?_
    refine LL.val (R.move rfl rfl) rfl rfl rfl ?_
    refine LL.val (R.neF rfl rfl rfl (by omega)) rfl rfl rfl ?_
    refine LL.val (R.neBool rfl rfl rfl rfl rfl) rfl rfl rfl ?_
    refine LL.val (R.pick rfl rfl rfl) rfl rfl rfl ?_
    refine LL.nilS ?_
    refine CC.no rfl ?_
    refine CC.skip ?_
    refine EE.thenN ?_
    refine CC.seq ?_
    refine CC.region ?_
    refine LL.val (R.load rfl rfl (I.ldNc (vs := [Value.int IntKind.i64 ↑b, Value.int IntKind.i64 ↑i, Value.int IntKind.i64 ↑r, Value.int IntKind.i64 ↑t, Value.int IntKind.u64 ↑k1, Value.int IntKind.u64 ↑k2, Value.int IntKind.i64 9, Value.int IntKind.i64 (9 + ↑i / 4), Value.int IntKind.i64 (9 + ↑i / 4 + ↑r / 4), Value.int IntKind.i64 (10 + ↑i / 4 + ↑r / 4)]) (RowL.cells r27 rfl) (by rfl) (by rfl))) rfl rfl rfl ?_
    refine LL.call (R.call rfl rfl rfl) rfl rfl rfl (peach_any _ _ _ _ _ _ _ _ _ _ _) ?_
    rintro e Wf15 ⟨gf16, rfl, rf17, lf18, bf14⟩
    refine ⟨_, rfl, ?_⟩
    have zbf14 := bf14.size
    replace bf5 := bf5.trans (bf14.mono bf5.size)
    replace q := q.trans (bf14.mono q.size)
    replace r4 := r4.up bf14
    replace r17 := r17.up bf14
    replace r27 := r27.up bf14
    replace rd7 := rd7.up bf14
    replace rf8 := rf8.up bf14
    refine LL.val (R.assign rfl rfl) rfl rfl rfl ?_
    refine LL.nilS ?_
    refine CC.seq ?_
    refine CC.seq ?_
    refine CC.region ?_
    refine LL.val (R.move rfl rfl) rfl rfl rfl ?_
    refine LL.val (R.eqFn rfl rfl rfl rfl) rfl rfl rfl ?_
    refine LL.nilS ?_
    refine CC.no rfl ?_
    refine CC.skip ?_
    refine EE.thenN ?_
    refine CC.seq ?_
    refine CC.region ?_
    have lf19 := rf17.lt
    have lf20 := r4.lt
    have lf21 := r17.lt
    have lf22 := r27.lt
    have lf23 := rd7.lt
    have lf24 := rf8.lt
    refine LL.alloc ([Value.int IntKind.i64 0, Value.int IntKind.i64 0]) rfl rfl rfl rfl rfl ?_
    intro Wf26 gf27 egf27 rf28 zf29 bf25
    replace rf17 := rf17.up bf25
    replace bf14 := bf14.trans (bf25.mono bf14.size)
    replace bf5 := bf5.trans (bf25.mono bf5.size)
    replace q := q.trans (bf25.mono q.size)
    replace r4 := r4.up bf25
    replace r17 := r17.up bf25
    replace r27 := r27.up bf25
    replace rd7 := rd7.up bf25
    replace rf8 := rf8.up bf25
    refine LL.nilS ?_
    refine CC.seq ?_
    refine CC.seq ?_
    refine CC.region ?_
    refine LL.val (R.move rfl rfl) rfl rfl rfl ?_
    refine LL.nilS ?_
    refine CC.block ?_
    have yB := q.size
    have hG := each_gives b i r t k1 k2 _ _ _ _ gf16 Wf26 (by omega) ⟨_, rf17⟩
    have n27 := rf28.lt
    have n16 := r17.lt
    have n26 := r27.lt
    refine CC.rangeZ (γ := Nat) (gf := 36) (lb := [.pointer (some ⟨gf16, 0, none⟩)]) (encs := paE) rfl rfl hG (Below.refl _ _) (fun _ h => h.elim) (fun _ => rfl) rfl
      (fun m (pre : List Pa) W' => Below w.heap.size w W' ∧ RowL W' g16 3 [.int .i64 (word : Int)] ∧ RowL W' g26 27 [.int .i64 (b : Int), .int .i64 (i : Int), .int .i64 (r : Int), .int .i64 (t : Int), .int .u64 (k1 : Int), .int .u64 (k2 : Int), .int .i64 9, .int .i64 (9 + (i : Int) / 4), .int .i64 (9 + (i : Int) / 4 + (r : Int) / 4), .int .i64 (10 + (i : Int) / 4 + (r : Int) / 4)] ∧ RowL W' gf27 46 [.int .i64 ((lastP word pre (0, 0)).1 : Int), .int .i64 ((lastP word pre (0, 0)).2 : Int)])
      (fun m (pre : List Pa) W' => False)
      (fun W' => Below w.heap.size w W' ∧ RowL W' g16 3 [.int .i64 (word : Int)] ∧ RowL W' g26 27 [.int .i64 (b : Int), .int .i64 (i : Int), .int .i64 (r : Int), .int .i64 (t : Int), .int .u64 (k1 : Int), .int .u64 (k2 : Int), .int .i64 9, .int .i64 (9 + (i : Int) / 4), .int .i64 (9 + (i : Int) / 4 + (r : Int) / 4), .int .i64 (10 + (i : Int) / 4 + (r : Int) / 4)] ∧ RowL W' gf27 46 [.int .i64 ((scanP word (allP b i r) (0, 0)).1 : Int), .int .i64 ((scanP word (allP b i r) (0, 0)).2 : Int)])
      (fun m m' s X Y hs ht hg => ⟨hs.1.trans (ht.below yB hs.1.size), ht.row hs.2.1 (.inl n16), ht.row hs.2.2.1 (.inl n26), ht.row hs.2.2.2 (.inl n27)⟩)
      (fun m m' s X Y hs ht hg => hs)
      ⟨q, r17, r27, rf28⟩ ?hIA (fun m pre W' _ h => h.elim)
      (fun x g => sl [(9, .pointer (some ⟨g16, 0, none⟩)), (11, .pointer (some ⟨g26, 0, none⟩)), (21, .pointer (some ⟨gf27, 0, none⟩)), (22, .int .i64 (x.1 : Int)), (23, .pointer (some ⟨g, 0, none⟩))]) (fun x g W' => RowL W' g 46 [.int .i64 (x.2.1 : Int), .int .i64 (x.2.2 : Int)] ∧ gf27 < g) (fun x g => fun _ W W' row h hg hr => ⟨RowL.own () W W' row h.1 hg hr, h.2⟩) ?assign ?body ?after
    case hIA =>
      rintro m xs W' rfl ⟨h1, h2, h3, h4⟩
      rw [show lastP word (allP b i r) (0, 0) = scanP word (allP b i r) (0, 0) from hlas] at h4
      exact ⟨h1, h2, h3, h4⟩
    case assign =>
      rintro l' m pre x W K hm ⟨h1, h9, h11, h21⟩ hK
      have qa := Below.refl W.heap.size W
      have ySz := h1.size
      have l21' := h21.lt
      refine CC.seq ?_
      refine CC.region ?_
      refine LL.val (R.assign rfl rfl) rfl rfl rfl ?_
      refine LL.nilS ?_
      refine CC.region ?_
      have lg1 := h9.lt
      have lg2 := h11.lt
      have lg3 := h21.lt
      refine LL.alloc ([Value.int IntKind.i64 0, Value.int IntKind.i64 0]) rfl rfl rfl rfl rfl ?_
      intro Wg5 gg6 egg6 rg7 zg8 bg4
      replace h1 := h1.trans (bg4.mono h1.size)
      replace h9 := h9.up bg4
      replace h11 := h11.up bg4
      replace h21 := h21.up bg4
      replace qa := qa.trans (bg4.mono qa.size)
      refine LL.storeN (vs := [Value.int IntKind.i64 ↑x.2.1, Value.int IntKind.i64 ↑x.2.2]) rfl rfl rfl rfl rg7 (by exact Nat.le_of_ble_eq_true rfl) (ones_of rfl) rfl rfl ?_
      intro Wg10 rg11 bg9 zg12
      have hlbg9 := rg7.lt
      replace rg11 : RowL Wg10 _ 46 [Value.int IntKind.i64 ↑x.2.1, Value.int IntKind.i64 ↑x.2.2] := rg11
      clear rg7
      replace bg4 := bg4.grown bg9 bg4.size (by rintro k ⟨⟩; omega)
      replace h1 := h1.grown bg9 h1.size (by rintro k ⟨⟩; omega)
      replace h9 := h9.gr bg9 (by have := h9.lt; omega)
      replace h11 := h11.gr bg9 (by have := h11.lt; omega)
      replace h21 := h21.gr bg9 (by have := h21.lt; omega)
      replace qa := qa.grown bg9 qa.size (by rintro k ⟨⟩; omega)
      have rg7 := rg11
      clear rg11
      refine LL.nil ?_
      exact EE.thenK fun a' F => hK a' _ _ (StaysZ.of_below qa) (Keeps.of_below (fun k hk => hk.elim) qa) ⟨h1, h9, h11, h21⟩ (F.keep _ ⟨rfl, rfl, rfl, rfl, rfl, trivial⟩) ⟨by assumption, by omega⟩
    case body =>
      rintro l' m pre x g W hm hl' hrl ⟨h1, h9, h11, h21⟩ ⟨hx, hg⟩ _
      have st := StaysZ.refl Wf26.heap.size m W
      have kp := Keeps.refl (fun _ => False) W
      have hg9 : g ≠ gf27 := by omega
      by_cases hxw : x.1 ≤ word
      · refine CC.block ?_
        refine CC.seq ?_
        refine CC.region ?_
        refine LL.val (R.move rfl rfl) rfl rfl rfl ?_
        refine LL.val (R.load rfl rfl (I.ld1 rfl (RowL.cell h9 rfl))) rfl rfl rfl ?_
        refine LL.val (R.leT rfl rfl rfl (by omega)) rfl rfl rfl ?_
        refine LL.nilS ?_
        refine CC.yes rfl ?_
        refine CC.region ?_
        refine LL.val (R.load rfl rfl (I.ldNc (vs := [Value.int IntKind.i64 ↑x.2.1, Value.int IntKind.i64 ↑x.2.2]) (RowL.cells hx rfl) (by rfl) (by rfl))) rfl rfl rfl ?_
        refine LL.storeN (vs := [Value.int IntKind.i64 ↑x.2.1, Value.int IntKind.i64 ↑x.2.2]) rfl rfl rfl rfl h21 (by exact Nat.le_of_ble_eq_true rfl) (ones_of rfl) rfl rfl ?_
        intro Wh2 rh3 bh1 zh4
        have hlbh1 := h21.lt
        replace rh3 : RowL Wh2 _ 46 [Value.int IntKind.i64 ↑x.2.1, Value.int IntKind.i64 ↑x.2.2] := rh3
        clear h21
        replace h1 := h1.grown bh1 h1.size (by rintro k ⟨⟩; omega)
        replace h9 := h9.gr bh1 (by have := h9.lt; omega)
        replace h11 := h11.gr bh1 (by have := h11.lt; omega)
        replace hx := hx.gr bh1 (by have := hx.lt; omega)
        replace st := st.trans (StaysZ.of_grown bh1 (by omega))
        replace kp := kp.trans (Keeps.of_grown bh1 fun k hk => hk.elim)
        have h21 := rh3
        clear rh3
        refine LL.nil ?_
        refine EE.inN ?_
        exact EE.roundNZ ⟨st, kp, h1, h9, h11, by rw [lastP_snoc, if_pos hxw]; exact h21⟩
      · refine CC.block ?_
        refine CC.seq ?_
        refine CC.region ?_
        refine LL.val (R.move rfl rfl) rfl rfl rfl ?_
        refine LL.val (R.load rfl rfl (I.ld1 rfl (RowL.cell h9 rfl))) rfl rfl rfl ?_
        refine LL.val (R.leF rfl rfl rfl (by omega)) rfl rfl rfl ?_
        refine LL.nilS ?_
        refine CC.no rfl ?_
        refine CC.skip ?_
        refine EE.inN ?_
        exact EE.roundNZ ⟨st, kp, h1, h9, h11, by rw [lastP_snoc, if_neg hxw]; exact h21⟩
    case after =>
      rintro E W hE ⟨h1, h9, h11, h21⟩ hE1
      refine EE.thenN ?_
      refine CC.seq ?_
      refine CC.region ?_
      refine LL.val (R.load rfl rfl (I.ldNc (vs := [Value.int IntKind.i64 ↑b, Value.int IntKind.i64 ↑i, Value.int IntKind.i64 ↑r, Value.int IntKind.i64 ↑t, Value.int IntKind.u64 ↑k1, Value.int IntKind.u64 ↑k2, Value.int IntKind.i64 9, Value.int IntKind.i64 (9 + ↑i / 4), Value.int IntKind.i64 (9 + ↑i / 4 + ↑r / 4), Value.int IntKind.i64 (10 + ↑i / 4 + ↑r / 4)]) (RowL.cells h11 rfl) (by rfl) (by rfl))) rfl rfl rfl ?_
      refine LL.val (R.load rfl rfl (I.ld1 rfl (RowL.cell h9 rfl))) rfl rfl rfl ?_
      refine LL.call (R.call rfl rfl rfl) rfl rfl rfl (hpa _ (by first | assumption | omega) (by first | assumption | omega)) ?_
      rintro e Wj2 ⟨rfl, bj1⟩
      refine ⟨_, rfl, ?_⟩
      have zbj1 := bj1.size
      replace h1 := h1.trans (bj1.mono h1.size)
      replace h9 := h9.up bj1
      replace h11 := h11.up bj1
      replace h21 := h21.up bj1
      replace hE1 := defer_up hE1 bj1
      refine LL.val (R.move rfl rfl) rfl rfl rfl ?_
      refine LL.val (R.extract rfl rfl rfl) rfl rfl rfl ?_
      refine LL.val (R.extract rfl rfl rfl) rfl rfl rfl ?_
      have lj3 := h9.lt
      have lj4 := h11.lt
      have lj5 := h21.lt
      have lj6 := (Array.getElem?_eq_some_iff.1 hE1).1
      refine LL.alloc ([Value.int IntKind.i64 0, Value.int IntKind.i64 0]) rfl rfl rfl rfl rfl ?_
      intro Wj8 gj9 egj9 rj10 zj11 bj7
      replace bj1 := bj1.trans (bj7.mono bj1.size)
      replace h1 := h1.trans (bj7.mono h1.size)
      replace h9 := h9.up bj7
      replace h11 := h11.up bj7
      replace h21 := h21.up bj7
      replace hE1 := defer_up hE1 bj7
      refine LL.storeN (vs := [Value.int IntKind.i64 ↑(scanP word (allP b i r) (0, 0)).1, Value.int IntKind.i64 ↑(scanP word (allP b i r) (0, 0)).2]) rfl rfl rfl rfl rj10 (by exact Nat.le_of_ble_eq_true rfl) (ones_of rfl) rfl rfl ?_
      intro Wj13 rj14 bj12 zj15
      have hlbj12 := rj10.lt
      replace rj14 : RowL Wj13 _ 46 [Value.int IntKind.i64 ↑(scanP word (allP b i r) (0, 0)).1, Value.int IntKind.i64 ↑(scanP word (allP b i r) (0, 0)).2] := rj14
      clear rj10
      replace bj7 := bj7.grown bj12 bj7.size (by rintro k ⟨⟩; omega)
      replace bj1 := bj1.grown bj12 bj1.size (by rintro k ⟨⟩; omega)
      replace h1 := h1.grown bj12 h1.size (by rintro k ⟨⟩; omega)
      replace h9 := h9.gr bj12 (by have := h9.lt; omega)
      replace h11 := h11.gr bj12 (by have := h11.lt; omega)
      replace h21 := h21.gr bj12 (by have := h21.lt; omega)
      replace hE1 := (bj12.block _ (Array.getElem?_eq_some_iff.1 hE1).1 (by simp; omega)).trans hE1
      have rj10 := rj14
      clear rj14
      refine LL.val (R.assign rfl rfl) rfl rfl rfl ?_
      refine LL.nilS ?_
      refine CC.seq ?_
      refine CC.region ?_
      refine LL.val (R.move rfl rfl) rfl rfl rfl ?_
      refine LL.call (R.call rfl rfl rfl) rfl rfl rfl (num_any _ _) ?_
      rintro e W' ⟨rfl, rfl⟩
      refine ⟨_, rfl, ?_⟩
      refine LL.val (R.eqT rfl rfl rfl (by omega)) rfl rfl rfl ?_
      refine LL.val (R.move rfl rfl) rfl rfl rfl ?_
      refine LL.val (R.load rfl rfl (I.ldNc (vs := [Value.int IntKind.i64 ↑(scanP word (allP b i r) (0, 0)).1, Value.int IntKind.i64 ↑(scanP word (allP b i r) (0, 0)).2]) (RowL.cells rj10 rfl) (by rfl) (by rfl))) rfl rfl rfl ?_
      refine LL.val (R.load rfl rfl (I.ldNc (vs := [Value.int IntKind.i64 ↑(scanP word (allP b i r) (0, 0)).1, Value.int IntKind.i64 ↑(scanP word (allP b i r) (0, 0)).2]) (RowL.cells h21 rfl) (by rfl) (by rfl))) rfl rfl rfl ?_
      refine LL.val (R.eqST (p := (↑(scanP word (allP b i r) (0, 0)).1 : Int) = ↑(scanP word (allP b i r) (0, 0)).1 ∧ (↑(scanP word (allP b i r) (0, 0)).2 : Int) = ↑(scanP word (allP b i r) (0, 0)).2) (bs := [decide ((↑(scanP word (allP b i r) (0, 0)).1 : Int) = ↑(scanP word (allP b i r) (0, 0)).1), decide ((↑(scanP word (allP b i r) (0, 0)).2 : Int) = ↑(scanP word (allP b i r) (0, 0)).2)]) rfl rfl rfl rfl (by kernel_rfl) (by kernel_rfl) (by simp) (by first | assumption | omega)) rfl rfl rfl ?_
      refine LL.val (R.pick rfl rfl rfl) rfl rfl rfl ?_
      refine LL.val (R.move rfl rfl) rfl rfl rfl ?_
      refine LL.call (R.call rfl rfl rfl) rfl rfl rfl (works_any _) ?_
      rintro e Wj17 ⟨rfl, bj16⟩
      refine ⟨_, rfl, ?_⟩
      have zbj16 := bj16.size
      replace bj7 := bj7.trans (bj16.mono bj7.size)
      replace bj1 := bj1.trans (bj16.mono bj1.size)
      replace h1 := h1.trans (bj16.mono h1.size)
      replace h9 := h9.up bj16
      replace h11 := h11.up bj16
      replace h21 := h21.up bj16
      replace hE1 := defer_up hE1 bj16
      replace rj10 := rj10.up bj16
      refine LL.val (R.pick rfl rfl rfl) rfl rfl rfl ?_
      refine LL.val (R.assign rfl rfl) rfl rfl rfl ?_
      refine LL.nilS ?_
      refine CC.ret ?_
      refine EE.ret1 hE1 _ rfl rfl ?_
      exact ⟨rfl, taken_bel h1 (by omega) (Nat.le_refl _)⟩
  case neg =>
    refine LL.nilS ?_
    refine CC.seq ?_
    refine CC.region ?_
    refine LL.val (R.move rfl rfl) rfl rfl rfl ?_
    refine LL.call (R.call rfl rfl rfl) rfl rfl rfl (read_bent b i r t k1 k2 at' by' _ _ hof hb (by omega) hat h0 hR) ?_
    rintro e W10 ⟨rfl, b7⟩
    refine ⟨_, rfl, ?_⟩
    replace q := q.trans (b7.mono q.size)
    replace r4 := r4.up b7
    replace r17 := r17.up b7
    replace r27 := r27.up b7
    replace rd7 := rd7.up b7
    clear b7 hR
    refine LL.val (R.move rfl rfl) rfl rfl rfl ?_
    refine LL.val (R.extract rfl rfl rfl) rfl rfl rfl ?_
    refine LL.val (R.extract rfl rfl rfl) rfl rfl rfl ?_
    have ll1 := r4.lt
    have ll2 := r17.lt
    have ll3 := r27.lt
    have ll4 := rd7.lt
    refine LL.alloc ([Value.int IntKind.i64 0, Value.int IntKind.i64 0, Value.int IntKind.i64 0, Value.int IntKind.i64 0, Value.int IntKind.u64 0, Value.int IntKind.u64 0, Value.int IntKind.i64 0, Value.int IntKind.i64 0, Value.int IntKind.i64 0, Value.int IntKind.i64 0]) rfl rfl rfl rfl rfl ?_
    intro Wl6 gl7 egl7 rl8 zl9 bl5
    replace q := q.trans (bl5.mono q.size)
    replace r4 := r4.up bl5
    replace r17 := r17.up bl5
    replace r27 := r27.up bl5
    replace rd7 := rd7.up bl5
    refine LL.storeN (vs := [Value.int IntKind.i64 0, Value.int IntKind.i64 0, Value.int IntKind.i64 0, Value.int IntKind.i64 0, Value.int IntKind.u64 ↑0, Value.int IntKind.u64 ↑0, Value.int IntKind.i64 0, Value.int IntKind.i64 0, Value.int IntKind.i64 0, Value.int IntKind.i64 0]) rfl rfl rfl rfl rl8 (by exact Nat.le_of_ble_eq_true rfl) (ones_of rfl) rfl rfl ?_
    intro Wl11 rl12 bl10 zl13
    have hlbl10 := rl8.lt
    replace rl12 : RowL Wl11 _ 27 [Value.int IntKind.i64 0, Value.int IntKind.i64 0, Value.int IntKind.i64 0, Value.int IntKind.i64 0, Value.int IntKind.u64 ↑0, Value.int IntKind.u64 ↑0, Value.int IntKind.i64 0, Value.int IntKind.i64 0, Value.int IntKind.i64 0, Value.int IntKind.i64 0] := rl12
    clear rl8
    replace bl5 := bl5.grown bl10 bl5.size (by rintro k ⟨⟩; omega)
    replace q := q.grown bl10 q.size (by rintro k ⟨⟩; omega)
    replace r4 := r4.gr bl10 (by have := r4.lt; omega)
    replace r17 := r17.gr bl10 (by have := r17.lt; omega)
    replace r27 := r27.gr bl10 (by have := r27.lt; omega)
    replace rd7 := rd7.gr bl10 (by have := rd7.lt; omega)
    have rl8 := rl12
    clear rl12
    refine LL.val (R.assign rfl rfl) rfl rfl rfl ?_
    refine LL.nilS ?_
    refine CC.seq ?_
    refine CC.seq ?_
    refine CC.region ?_
    refine LL.val (R.move rfl rfl) rfl rfl rfl ?_
    refine LL.call (R.call rfl rfl rfl) rfl rfl rfl (num_any _ _) ?_
    rintro e W' ⟨rfl, rfl⟩
    refine ⟨_, rfl, ?_⟩
    refine LL.val (R.neF rfl rfl rfl (by omega)) rfl rfl rfl ?_
    refine LL.val (R.move rfl rfl) rfl rfl rfl ?_
    refine LL.val (R.load rfl rfl (I.ldNc (vs := [Value.int IntKind.i64 ↑b, Value.int IntKind.i64 ↑i, Value.int IntKind.i64 ↑r, Value.int IntKind.i64 ↑t, Value.int IntKind.u64 ↑k1, Value.int IntKind.u64 ↑k2, Value.int IntKind.i64 9, Value.int IntKind.i64 (9 + ↑i / 4), Value.int IntKind.i64 (9 + ↑i / 4 + ↑r / 4), Value.int IntKind.i64 (10 + ↑i / 4 + ↑r / 4)]) (RowL.cells rd7 rfl) (by rfl) (by rfl))) rfl rfl rfl ?_
    refine LL.val (R.load rfl rfl (I.ldNc (vs := [Value.int IntKind.i64 ↑b, Value.int IntKind.i64 ↑i, Value.int IntKind.i64 ↑r, Value.int IntKind.i64 ↑t, Value.int IntKind.u64 ↑k1, Value.int IntKind.u64 ↑k2, Value.int IntKind.i64 9, Value.int IntKind.i64 (9 + ↑i / 4), Value.int IntKind.i64 (9 + ↑i / 4 + ↑r / 4), Value.int IntKind.i64 (10 + ↑i / 4 + ↑r / 4)]) (RowL.cells r27 rfl) (by rfl) (by rfl))) rfl rfl rfl ?_
    refine LL.val (R.neST (p := (↑b : Int) = ↑b ∧ (↑i : Int) = ↑i ∧ (↑r : Int) = ↑r ∧ (↑t : Int) = ↑t ∧ (↑k1 : Int) = ↑k1 ∧ (↑k2 : Int) = ↑k2 ∧ (9 : Int) = 9 ∧ (9 + ↑i / 4 : Int) = 9 + ↑i / 4 ∧ (9 + ↑i / 4 + ↑r / 4 : Int) = 9 + ↑i / 4 + ↑r / 4 ∧ (10 + ↑i / 4 + ↑r / 4 : Int) = 10 + ↑i / 4 + ↑r / 4) (bs := [decide ((↑b : Int) = ↑b), decide ((↑i : Int) = ↑i), decide ((↑r : Int) = ↑r), decide ((↑t : Int) = ↑t), decide ((↑k1 : Int) = ↑k1), decide ((↑k2 : Int) = ↑k2), decide ((9 : Int) = 9), decide ((9 + ↑i / 4 : Int) = 9 + ↑i / 4), decide ((9 + ↑i / 4 + ↑r / 4 : Int) = 9 + ↑i / 4 + ↑r / 4), decide ((10 + ↑i / 4 + ↑r / 4 : Int) = 10 + ↑i / 4 + ↑r / 4)]) rfl rfl rfl rfl (by kernel_rfl) (by kernel_rfl) (by simp) (by first | assumption | omega)) rfl rfl rfl ?_
    refine LL.val (R.pick rfl rfl rfl) rfl rfl rfl ?_
    refine LL.val (R.move rfl rfl) rfl rfl rfl ?_
    refine LL.val (R.move rfl rfl) rfl rfl rfl ?_
    refine LL.call (R.call rfl rfl rfl) rfl rfl rfl (num_any _ _) ?_
    rintro e W' ⟨rfl, rfl⟩
    refine ⟨_, rfl, ?_⟩
    refine LL.val (R.eqT rfl rfl rfl (by omega)) rfl rfl rfl ?_
    refine LL.val (R.move rfl rfl) rfl rfl rfl ?_
    refine LL.val (R.neT rfl rfl rfl (by omega)) rfl rfl rfl ?_
    refine LL.val (R.neBool rfl rfl rfl rfl rfl) rfl rfl rfl ?_
    refine LL.val (R.pick rfl rfl rfl) rfl rfl rfl ?_
    refine LL.nilS ?_
    refine CC.no rfl ?_
    refine CC.skip ?_
    refine EE.thenN ?_
    refine CC.seq ?_
    refine CC.region ?_
    refine LL.val (R.load rfl rfl (I.ldNc (vs := [Value.int IntKind.i64 ↑b, Value.int IntKind.i64 ↑i, Value.int IntKind.i64 ↑r, Value.int IntKind.i64 ↑t, Value.int IntKind.u64 ↑k1, Value.int IntKind.u64 ↑k2, Value.int IntKind.i64 9, Value.int IntKind.i64 (9 + ↑i / 4), Value.int IntKind.i64 (9 + ↑i / 4 + ↑r / 4), Value.int IntKind.i64 (10 + ↑i / 4 + ↑r / 4)]) (RowL.cells r27 rfl) (by rfl) (by rfl))) rfl rfl rfl ?_
    refine LL.call (R.call rfl rfl rfl) rfl rfl rfl (peach_any _ _ _ _ _ _ _ _ _ _ _) ?_
    rintro e Wl15 ⟨gl16, rfl, rl17, ll18, bl14⟩
    refine ⟨_, rfl, ?_⟩
    have zbl14 := bl14.size
    replace bl5 := bl5.trans (bl14.mono bl5.size)
    replace q := q.trans (bl14.mono q.size)
    replace r4 := r4.up bl14
    replace r17 := r17.up bl14
    replace r27 := r27.up bl14
    replace rd7 := rd7.up bl14
    replace rl8 := rl8.up bl14
    refine LL.val (R.assign rfl rfl) rfl rfl rfl ?_
    refine LL.nilS ?_
    refine CC.seq ?_
    refine CC.seq ?_
    refine CC.region ?_
    refine LL.val (R.move rfl rfl) rfl rfl rfl ?_
    refine LL.val (R.eqFn rfl rfl rfl rfl) rfl rfl rfl ?_
    refine LL.nilS ?_
    refine CC.no rfl ?_
    refine CC.skip ?_
    refine EE.thenN ?_
    refine CC.seq ?_
    refine CC.region ?_
    have ll19 := rl17.lt
    have ll20 := r4.lt
    have ll21 := r17.lt
    have ll22 := r27.lt
    have ll23 := rd7.lt
    have ll24 := rl8.lt
    refine LL.alloc ([Value.int IntKind.i64 0, Value.int IntKind.i64 0]) rfl rfl rfl rfl rfl ?_
    intro Wl26 gl27 egl27 rl28 zl29 bl25
    replace rl17 := rl17.up bl25
    replace bl14 := bl14.trans (bl25.mono bl14.size)
    replace bl5 := bl5.trans (bl25.mono bl5.size)
    replace q := q.trans (bl25.mono q.size)
    replace r4 := r4.up bl25
    replace r17 := r17.up bl25
    replace r27 := r27.up bl25
    replace rd7 := rd7.up bl25
    replace rl8 := rl8.up bl25
    refine LL.nilS ?_
    refine CC.seq ?_
    refine CC.seq ?_
    refine CC.region ?_
    refine LL.val (R.move rfl rfl) rfl rfl rfl ?_
    refine LL.nilS ?_
    refine CC.block ?_
    have yB := q.size
    have hG := each_gives b i r t k1 k2 _ _ _ _ gl16 Wl26 (by omega) ⟨_, rl17⟩
    have n27 := rl28.lt
    have n16 := r17.lt
    have n26 := r27.lt
    refine CC.rangeZ (γ := Nat) (gf := 36) (lb := [.pointer (some ⟨gl16, 0, none⟩)]) (encs := paE) rfl rfl hG (Below.refl _ _) (fun _ h => h.elim) (fun _ => rfl) rfl
      (fun m (pre : List Pa) W' => Below w.heap.size w W' ∧ RowL W' g16 3 [.int .i64 (word : Int)] ∧ RowL W' g26 27 [.int .i64 (b : Int), .int .i64 (i : Int), .int .i64 (r : Int), .int .i64 (t : Int), .int .u64 (k1 : Int), .int .u64 (k2 : Int), .int .i64 9, .int .i64 (9 + (i : Int) / 4), .int .i64 (9 + (i : Int) / 4 + (r : Int) / 4), .int .i64 (10 + (i : Int) / 4 + (r : Int) / 4)] ∧ RowL W' gl27 46 [.int .i64 ((lastP word pre (0, 0)).1 : Int), .int .i64 ((lastP word pre (0, 0)).2 : Int)])
      (fun m (pre : List Pa) W' => False)
      (fun W' => Below w.heap.size w W' ∧ RowL W' g16 3 [.int .i64 (word : Int)] ∧ RowL W' g26 27 [.int .i64 (b : Int), .int .i64 (i : Int), .int .i64 (r : Int), .int .i64 (t : Int), .int .u64 (k1 : Int), .int .u64 (k2 : Int), .int .i64 9, .int .i64 (9 + (i : Int) / 4), .int .i64 (9 + (i : Int) / 4 + (r : Int) / 4), .int .i64 (10 + (i : Int) / 4 + (r : Int) / 4)] ∧ RowL W' gl27 46 [.int .i64 ((scanP word (allP b i r) (0, 0)).1 : Int), .int .i64 ((scanP word (allP b i r) (0, 0)).2 : Int)])
      (fun m m' s X Y hs ht hg => ⟨hs.1.trans (ht.below yB hs.1.size), ht.row hs.2.1 (.inl n16), ht.row hs.2.2.1 (.inl n26), ht.row hs.2.2.2 (.inl n27)⟩)
      (fun m m' s X Y hs ht hg => hs)
      ⟨q, r17, r27, rl28⟩ ?hIA (fun m pre W' _ h => h.elim)
      (fun x g => sl [(9, .pointer (some ⟨g16, 0, none⟩)), (11, .pointer (some ⟨g26, 0, none⟩)), (21, .pointer (some ⟨gl27, 0, none⟩)), (22, .int .i64 (x.1 : Int)), (23, .pointer (some ⟨g, 0, none⟩))]) (fun x g W' => RowL W' g 46 [.int .i64 (x.2.1 : Int), .int .i64 (x.2.2 : Int)] ∧ gl27 < g) (fun x g => fun _ W W' row h hg hr => ⟨RowL.own () W W' row h.1 hg hr, h.2⟩) ?assign ?body ?after
    case hIA =>
      rintro m xs W' rfl ⟨h1, h2, h3, h4⟩
      rw [show lastP word (allP b i r) (0, 0) = scanP word (allP b i r) (0, 0) from hlas] at h4
      exact ⟨h1, h2, h3, h4⟩
    case assign =>
      rintro l' m pre x W K hm ⟨h1, h9, h11, h21⟩ hK
      have qa := Below.refl W.heap.size W
      have ySz := h1.size
      have l21' := h21.lt
      refine CC.seq ?_
      refine CC.region ?_
      refine LL.val (R.assign rfl rfl) rfl rfl rfl ?_
      refine LL.nilS ?_
      refine CC.region ?_
      have lm1 := h9.lt
      have lm2 := h11.lt
      have lm3 := h21.lt
      refine LL.alloc ([Value.int IntKind.i64 0, Value.int IntKind.i64 0]) rfl rfl rfl rfl rfl ?_
      intro Wm5 gm6 egm6 rm7 zm8 bm4
      replace h1 := h1.trans (bm4.mono h1.size)
      replace h9 := h9.up bm4
      replace h11 := h11.up bm4
      replace h21 := h21.up bm4
      replace qa := qa.trans (bm4.mono qa.size)
      refine LL.storeN (vs := [Value.int IntKind.i64 ↑x.2.1, Value.int IntKind.i64 ↑x.2.2]) rfl rfl rfl rfl rm7 (by exact Nat.le_of_ble_eq_true rfl) (ones_of rfl) rfl rfl ?_
      intro Wm10 rm11 bm9 zm12
      have hlbm9 := rm7.lt
      replace rm11 : RowL Wm10 _ 46 [Value.int IntKind.i64 ↑x.2.1, Value.int IntKind.i64 ↑x.2.2] := rm11
      clear rm7
      replace bm4 := bm4.grown bm9 bm4.size (by rintro k ⟨⟩; omega)
      replace h1 := h1.grown bm9 h1.size (by rintro k ⟨⟩; omega)
      replace h9 := h9.gr bm9 (by have := h9.lt; omega)
      replace h11 := h11.gr bm9 (by have := h11.lt; omega)
      replace h21 := h21.gr bm9 (by have := h21.lt; omega)
      replace qa := qa.grown bm9 qa.size (by rintro k ⟨⟩; omega)
      have rm7 := rm11
      clear rm11
      refine LL.nil ?_
      exact EE.thenK fun a' F => hK a' _ _ (StaysZ.of_below qa) (Keeps.of_below (fun k hk => hk.elim) qa) ⟨h1, h9, h11, h21⟩ (F.keep _ ⟨rfl, rfl, rfl, rfl, rfl, trivial⟩) ⟨by assumption, by omega⟩
    case body =>
      rintro l' m pre x g W hm hl' hrl ⟨h1, h9, h11, h21⟩ ⟨hx, hg⟩ _
      have st := StaysZ.refl Wl26.heap.size m W
      have kp := Keeps.refl (fun _ => False) W
      have hg9 : g ≠ gl27 := by omega
      by_cases hxw : x.1 ≤ word
      · refine CC.block ?_
        refine CC.seq ?_
        refine CC.region ?_
        refine LL.val (R.move rfl rfl) rfl rfl rfl ?_
        refine LL.val (R.load rfl rfl (I.ld1 rfl (RowL.cell h9 rfl))) rfl rfl rfl ?_
        refine LL.val (R.leT rfl rfl rfl (by omega)) rfl rfl rfl ?_
        refine LL.nilS ?_
        refine CC.yes rfl ?_
        refine CC.region ?_
        refine LL.val (R.load rfl rfl (I.ldNc (vs := [Value.int IntKind.i64 ↑x.2.1, Value.int IntKind.i64 ↑x.2.2]) (RowL.cells hx rfl) (by rfl) (by rfl))) rfl rfl rfl ?_
        refine LL.storeN (vs := [Value.int IntKind.i64 ↑x.2.1, Value.int IntKind.i64 ↑x.2.2]) rfl rfl rfl rfl h21 (by exact Nat.le_of_ble_eq_true rfl) (ones_of rfl) rfl rfl ?_
        intro Wn2 rn3 bn1 zn4
        have hlbn1 := h21.lt
        replace rn3 : RowL Wn2 _ 46 [Value.int IntKind.i64 ↑x.2.1, Value.int IntKind.i64 ↑x.2.2] := rn3
        clear h21
        replace h1 := h1.grown bn1 h1.size (by rintro k ⟨⟩; omega)
        replace h9 := h9.gr bn1 (by have := h9.lt; omega)
        replace h11 := h11.gr bn1 (by have := h11.lt; omega)
        replace hx := hx.gr bn1 (by have := hx.lt; omega)
        replace st := st.trans (StaysZ.of_grown bn1 (by omega))
        replace kp := kp.trans (Keeps.of_grown bn1 fun k hk => hk.elim)
        have h21 := rn3
        clear rn3
        refine LL.nil ?_
        refine EE.inN ?_
        exact EE.roundNZ ⟨st, kp, h1, h9, h11, by rw [lastP_snoc, if_pos hxw]; exact h21⟩
      · refine CC.block ?_
        refine CC.seq ?_
        refine CC.region ?_
        refine LL.val (R.move rfl rfl) rfl rfl rfl ?_
        refine LL.val (R.load rfl rfl (I.ld1 rfl (RowL.cell h9 rfl))) rfl rfl rfl ?_
        refine LL.val (R.leF rfl rfl rfl (by omega)) rfl rfl rfl ?_
        refine LL.nilS ?_
        refine CC.no rfl ?_
        refine CC.skip ?_
        refine EE.inN ?_
        exact EE.roundNZ ⟨st, kp, h1, h9, h11, by rw [lastP_snoc, if_neg hxw]; exact h21⟩
    case after =>
      rintro E W hE ⟨h1, h9, h11, h21⟩ hE1
      refine EE.thenN ?_
      refine CC.seq ?_
      refine CC.region ?_
      refine LL.val (R.load rfl rfl (I.ldNc (vs := [Value.int IntKind.i64 ↑b, Value.int IntKind.i64 ↑i, Value.int IntKind.i64 ↑r, Value.int IntKind.i64 ↑t, Value.int IntKind.u64 ↑k1, Value.int IntKind.u64 ↑k2, Value.int IntKind.i64 9, Value.int IntKind.i64 (9 + ↑i / 4), Value.int IntKind.i64 (9 + ↑i / 4 + ↑r / 4), Value.int IntKind.i64 (10 + ↑i / 4 + ↑r / 4)]) (RowL.cells h11 rfl) (by rfl) (by rfl))) rfl rfl rfl ?_
      refine LL.val (R.load rfl rfl (I.ld1 rfl (RowL.cell h9 rfl))) rfl rfl rfl ?_
      refine LL.call (R.call rfl rfl rfl) rfl rfl rfl (hpa _ (by first | assumption | omega) (by first | assumption | omega)) ?_
      rintro e Wp2 ⟨rfl, bp1⟩
      refine ⟨_, rfl, ?_⟩
      have zbp1 := bp1.size
      replace h1 := h1.trans (bp1.mono h1.size)
      replace h9 := h9.up bp1
      replace h11 := h11.up bp1
      replace h21 := h21.up bp1
      replace hE1 := defer_up hE1 bp1
      refine LL.val (R.move rfl rfl) rfl rfl rfl ?_
      refine LL.val (R.extract rfl rfl rfl) rfl rfl rfl ?_
      refine LL.val (R.extract rfl rfl rfl) rfl rfl rfl ?_
      have lp3 := h9.lt
      have lp4 := h11.lt
      have lp5 := h21.lt
      have lp6 := (Array.getElem?_eq_some_iff.1 hE1).1
      refine LL.alloc ([Value.int IntKind.i64 0, Value.int IntKind.i64 0]) rfl rfl rfl rfl rfl ?_
      intro Wp8 gp9 egp9 rp10 zp11 bp7
      replace bp1 := bp1.trans (bp7.mono bp1.size)
      replace h1 := h1.trans (bp7.mono h1.size)
      replace h9 := h9.up bp7
      replace h11 := h11.up bp7
      replace h21 := h21.up bp7
      replace hE1 := defer_up hE1 bp7
      refine LL.storeN (vs := [Value.int IntKind.i64 ↑(scanP word (allP b i r) (0, 0)).1, Value.int IntKind.i64 ↑(scanP word (allP b i r) (0, 0)).2]) rfl rfl rfl rfl rp10 (by exact Nat.le_of_ble_eq_true rfl) (ones_of rfl) rfl rfl ?_
      intro Wp13 rp14 bp12 zp15
      have hlbp12 := rp10.lt
      replace rp14 : RowL Wp13 _ 46 [Value.int IntKind.i64 ↑(scanP word (allP b i r) (0, 0)).1, Value.int IntKind.i64 ↑(scanP word (allP b i r) (0, 0)).2] := rp14
      clear rp10
      replace bp7 := bp7.grown bp12 bp7.size (by rintro k ⟨⟩; omega)
      replace bp1 := bp1.grown bp12 bp1.size (by rintro k ⟨⟩; omega)
      replace h1 := h1.grown bp12 h1.size (by rintro k ⟨⟩; omega)
      replace h9 := h9.gr bp12 (by have := h9.lt; omega)
      replace h11 := h11.gr bp12 (by have := h11.lt; omega)
      replace h21 := h21.gr bp12 (by have := h21.lt; omega)
      replace hE1 := (bp12.block _ (Array.getElem?_eq_some_iff.1 hE1).1 (by simp; omega)).trans hE1
      have rp10 := rp14
      clear rp14
      refine LL.val (R.assign rfl rfl) rfl rfl rfl ?_
      refine LL.nilS ?_
      refine CC.seq ?_
      refine CC.region ?_
      refine LL.val (R.move rfl rfl) rfl rfl rfl ?_
      refine LL.call (R.call rfl rfl rfl) rfl rfl rfl (num_any _ _) ?_
      rintro e W' ⟨rfl, rfl⟩
      refine ⟨_, rfl, ?_⟩
      refine LL.val (R.eqT rfl rfl rfl (by omega)) rfl rfl rfl ?_
      refine LL.val (R.move rfl rfl) rfl rfl rfl ?_
      refine LL.val (R.load rfl rfl (I.ldNc (vs := [Value.int IntKind.i64 ↑(scanP word (allP b i r) (0, 0)).1, Value.int IntKind.i64 ↑(scanP word (allP b i r) (0, 0)).2]) (RowL.cells rp10 rfl) (by rfl) (by rfl))) rfl rfl rfl ?_
      refine LL.val (R.load rfl rfl (I.ldNc (vs := [Value.int IntKind.i64 ↑(scanP word (allP b i r) (0, 0)).1, Value.int IntKind.i64 ↑(scanP word (allP b i r) (0, 0)).2]) (RowL.cells h21 rfl) (by rfl) (by rfl))) rfl rfl rfl ?_
      refine LL.val (R.eqST (p := (↑(scanP word (allP b i r) (0, 0)).1 : Int) = ↑(scanP word (allP b i r) (0, 0)).1 ∧ (↑(scanP word (allP b i r) (0, 0)).2 : Int) = ↑(scanP word (allP b i r) (0, 0)).2) (bs := [decide ((↑(scanP word (allP b i r) (0, 0)).1 : Int) = ↑(scanP word (allP b i r) (0, 0)).1), decide ((↑(scanP word (allP b i r) (0, 0)).2 : Int) = ↑(scanP word (allP b i r) (0, 0)).2)]) rfl rfl rfl rfl (by kernel_rfl) (by kernel_rfl) (by simp) (by first | assumption | omega)) rfl rfl rfl ?_
      refine LL.val (R.pick rfl rfl rfl) rfl rfl rfl ?_
      refine LL.val (R.move rfl rfl) rfl rfl rfl ?_
      refine LL.call (R.call rfl rfl rfl) rfl rfl rfl (works_any _) ?_
      rintro e Wp17 ⟨rfl, bp16⟩
      refine ⟨_, rfl, ?_⟩
      have zbp16 := bp16.size
      replace bp7 := bp7.trans (bp16.mono bp7.size)
      replace bp1 := bp1.trans (bp16.mono bp1.size)
      replace h1 := h1.trans (bp16.mono h1.size)
      replace h9 := h9.up bp16
      replace h11 := h11.up bp16
      replace h21 := h21.up bp16
      replace hE1 := defer_up hE1 bp16
      replace rp10 := rp10.up bp16
      refine LL.val (R.pick rfl rfl rfl) rfl rfl rfl ?_
      refine LL.val (R.assign rfl rfl) rfl rfl rfl ?_
      refine LL.nilS ?_
      refine CC.ret ?_
      refine EE.ret1 hE1 _ rfl rfl ?_
      exact ⟨rfl, taken_bel h1 (by omega) (Nat.le_refl _)⟩
theorem holds_walk (b i r t : Int) (k1 k2 : Nat) (at' by' word : Int) (w : World) (hk : k1 < 18446744073709551616 ∧ k2 < 18446744073709551616) (hy : 0 ≤ by' ∧ by' < 18446744073709551616) : Calls Try.prog 8 #[formV b i r t, keyV k1 k2, .int .i64 at', .int .u64 by', .int .i64 word] w fun x w' => x = .returned (.bool true) ∧ Below w.heap.size w w' := by
  obtain ⟨by', rfl⟩ := Int.eq_ofNat_of_zero_le hy.1
  by_cases hok : okF b i r t
  case neg => exact holds_F1 b i r t k1 k2 at' by' word w hok
  by_cases h : 64 < b ∨ at' < 0 ∨ 63 < at' ∨ word < 0 ∨ 64 * b ≤ word
  · exact holds_F2 b i r t k1 k2 at' by' word w hok h
  obtain ⟨b, rfl⟩ := Int.eq_ofNat_of_zero_le (show 0 ≤ b by omega)
  obtain ⟨i, rfl⟩ := Int.eq_ofNat_of_zero_le (show 0 ≤ i by omega)
  obtain ⟨r, rfl⟩ := Int.eq_ofNat_of_zero_le (show 0 ≤ r by omega)
  obtain ⟨t, rfl⟩ := Int.eq_ofNat_of_zero_le (show 0 ≤ t by omega)
  obtain ⟨at', rfl⟩ := Int.eq_ofNat_of_zero_le (show 0 ≤ at' by omega)
  obtain ⟨word, rfl⟩ := Int.eq_ofNat_of_zero_le (show 0 ≤ word by omega)
  exact holds_T b i r t k1 k2 at' by' word w hok (by omega) (by omega) (by omega) (by omega)
end Go.Proofs.Ythdgnogpjpoklaa
