/- record: a record's words. -/
import Derived.Test.YtefepklacchghaaRec1
namespace Go.Proofs.Ytefepklacchghaa
set_option linter.unusedVariables false
set_option linter.unusedSimpArgs false
open Go.RowKit Go.Shelf
theorem nameN_len {l : Bs} (h : nameN l = 0) : 1 ≤ l.length ∧ l.length ≤ 120 := by
  unfold nameN at h
  split at h
  · cases h
  rename_i h1
  split at h
  · cases h
  split at h
  · cases h
  split at h
  · cases h
  rename_i h4
  simp only [fltB, Bool.or_eq_true, decide_eq_true_eq, not_or] at h1
  simp only [fltB, decide_eq_true_eq] at h4
  refine ⟨?_, by omega⟩
  cases l with
  | nil => exact absurd rfl h1.1
  | cons a t => simp
def headR (n : Nat) (l : Bs) : Nat := n + 65536 * l.length
/-- A record's words. -/
def recW (n : Nat) (l : Bs) : List Nat := padL (headR n l :: layL (nbL l))
theorem layL_len (l : Bs) : (layL (nbL l)).length = (l.length + 7) / 8 := by rw [layL_length, nbL_len]
theorem recW_len {n : Nat} {l : Bs} (h : l.length ≤ 120) : (recW n l).length = 16 := by
  unfold recW padL
  simp only [List.length_append, List.length_cons, List.length_replicate, layL_len]
  omega
theorem lay_own (v : Value) (l : Bs) (w : World) (hv : Reads w v (ints .u8 (nbL l))) (hl : l.length ≤ 1048576) : Calls Try.prog 20 #[v] w fun e w' => ∃ v', e = .returned v' ∧ Reads w' v' (ints .u64 (layL (nbL l))) ∧ Below w.heap.size w w' := by
  refine (lay_any v (nbL l) _ w hv (nbL_lt l) (by rw [nbL_len]; omega) rfl).mono ?_
  rintro e w' ⟨g, rfl, _, r, b⟩
  exact ⟨_, rfl, RowL.asInts r .u64 _ rfl (by rw [layL_length]), b⟩
theorem rlay_own (v : Value) (l : Bs) (w : World) (hv : Reads w v (ints .u8 (nbL l))) (hl : l.length ≤ 1048576) : Calls Try.prog 21 #[v] w fun e w' => ∃ v', e = .returned v' ∧ OwnW w' w.heap.size 38 v' ((l.length + 7) / 8) (ints .u64 (layL (nbL l))) ∧ Below w.heap.size w w' := by
  have h := rlay_any v (nbL l) w hv (nbL_lt l) (by rw [nbL_len]; omega)
  rw [nbL_len] at h
  exact h
set_option maxRecDepth 100000 in
set_option maxHeartbeats 4000000 in
theorem words_F (n : Int) (l : Bs) (w : World) (hl : l.length ≤ 1048576) (h : ¬okR n l) : Calls Try.prog 7 #[recV n l] w fun e w' => e = .returned (.tuple #[.slice none 0 0, .int .i64 250]) ∧ Below w.heap.size w w' := by
  have q := Below.refl w.heap.size w
  refine X.fn Try.func7 rfl (n := 25) rfl rfl ?_
  refine CC.seq ?_
  refine CC.region ?_
  refine LL.box [Value.int IntKind.i64 n, strV l] rfl rfl rfl rfl rfl ?_
  intro W2 g3 eg3 r4 z5 b1
  replace q := q.trans (b1.mono q.size)
  refine LL.val (R.assign rfl rfl) rfl rfl rfl ?_
  refine LL.val (R.assign rfl rfl) rfl rfl rfl ?_
  refine LL.nilS ?_
  refine CC.seq ?_
  refine CC.seq ?_
  refine CC.region ?_
  refine LL.val (R.load rfl rfl (I.ldNc (vs := [Value.int IntKind.i64 n, strV l]) (RowL.cells r4 rfl) (by rfl) (by rfl))) rfl rfl rfl ?_
  refine LL.call (R.call rfl rfl rfl) rfl rfl rfl (reck_F _ _ _ (by first | assumption | omega) (by first | assumption | omega)) ?_
  rintro e W7 ⟨rfl, b6⟩
  refine ⟨_, rfl, ?_⟩
  have zb6 := b6.size
  replace r4 := r4.up b6
  replace b1 := b1.trans (b6.mono b1.size)
  replace q := q.trans (b6.mono q.size)
  refine LL.val (R.neT rfl rfl rfl (by omega)) rfl rfl rfl ?_
  refine LL.nilS ?_
  refine CC.yes rfl ?_
  refine CC.seq ?_
  refine CC.region ?_
  refine LL.val (R.assign rfl rfl) rfl rfl rfl ?_
  refine LL.val (R.assign rfl rfl) rfl rfl rfl ?_
  refine LL.nilS ?_
  refine CC.ret ?_
  refine EE.thenR ?_
  refine EE.ret _ rfl rfl ?_
  exact ⟨rfl, q⟩
set_option maxRecDepth 100000 in
set_option maxHeartbeats 4000000 in
theorem words_T (n : Nat) (l : Bs) (w : World) (h : okR n l) : Calls Try.prog 7 #[recV n l] w fun e w' => ∃ v, e = .returned (.tuple #[v, .int .i64 0]) ∧ w'.ownsRow w.heap.size 38 1 v 16 (ints .u64 (recW n l)) ∧ Below w.heap.size w w' := by
  have q := Below.refl w.heap.size w
  have hl := nameN_len h.2
  have hl2 := layL_len l
  refine X.fn Try.func7 rfl (n := 25) rfl rfl ?_
  refine CC.seq ?_
  refine CC.region ?_
  refine LL.box [Value.int IntKind.i64 ↑n, strV l] rfl rfl rfl rfl rfl ?_
  intro W2 g3 eg3 r4 z5 b1
  replace q := q.trans (b1.mono q.size)
  refine LL.val (R.assign rfl rfl) rfl rfl rfl ?_
  refine LL.val (R.assign rfl rfl) rfl rfl rfl ?_
  refine LL.nilS ?_
  refine CC.seq ?_
  refine CC.seq ?_
  refine CC.region ?_
  refine LL.val (R.load rfl rfl (I.ldNc (vs := [Value.int IntKind.i64 ↑n, strV l]) (RowL.cells r4 rfl) (by rfl) (by rfl))) rfl rfl rfl ?_
  refine LL.call (R.call rfl rfl rfl) rfl rfl rfl (reck_T _ _ _ (by first | assumption | omega) (by first | assumption | omega)) ?_
  rintro e W7 ⟨rfl, b6⟩
  refine ⟨_, rfl, ?_⟩
  have zb6 := b6.size
  replace r4 := r4.up b6
  replace b1 := b1.trans (b6.mono b1.size)
  replace q := q.trans (b6.mono q.size)
  refine LL.val (R.neF rfl rfl rfl (by omega)) rfl rfl rfl ?_
  refine LL.nilS ?_
  refine CC.no rfl ?_
  refine CC.skip ?_
  refine EE.thenN ?_
  refine CC.seq ?_
  refine CC.region ?_
  refine LL.val (R.field rfl rfl (I.fld rfl)) rfl rfl rfl ?_
  refine LL.val (R.load rfl rfl (I.ld1 rfl (RowL.cell r4 rfl))) rfl rfl rfl ?_
  refine LL.val (R.convI rfl rfl rfl rfl (wrapU (by omega) (by omega))) rfl rfl rfl ?_
  refine LL.val (R.field rfl rfl (I.fld rfl)) rfl rfl rfl ?_
  refine LL.val (R.load rfl rfl (I.ld1 rfl (RowL.cell r4 rfl))) rfl rfl rfl ?_
  refine LL.val (R.lenS rfl rfl rfl rfl) rfl rfl rfl ?_
  refine LL.val (R.convI rfl rfl rfl rfl (wrapU (by omega) (by omega))) rfl rfl rfl ?_
  refine LL.val (R.shlE (b := 16) (z := 65536 * l.length) rfl rfl rfl (by decide) (by omega) (by omega)) rfl rfl rfl ?_
  refine LL.val (R.orE (z := headR n l) rfl rfl rfl (by omega) (by omega) (or_add (by omega))) rfl rfl rfl ?_
  refine LL.val (R.assign rfl rfl) rfl rfl rfl ?_
  refine LL.nilS ?_
  refine CC.seq ?_
  refine CC.region ?_
  refine LL.val (R.move rfl rfl) rfl rfl rfl ?_
  have l8 := r4.lt
  refine LL.lit (e := 38) [Value.int IntKind.u64 ↑(headR n l)] 1 rfl rfl (fun _ => by kernel_rfl) rfl rfl ?_
  intro W10 g11 eg11 r12 z13 b9
  replace b6 := b6.trans (b9.mono b6.size)
  replace r4 := r4.up b9
  replace b1 := b1.trans (b9.mono b1.size)
  replace q := q.trans (b9.mono q.size)
  refine LL.val (R.field rfl rfl (I.fld rfl)) rfl rfl rfl ?_
  refine LL.val (R.load rfl rfl (I.ld1 rfl (RowL.cell r4 rfl))) rfl rfl rfl ?_
  have l14 := r12.lt
  have l15 := r4.lt
  refine LL.strBytes (l) rfl rfl Go.Proofs.Try.underlying9 Go.Proofs.Try.underlying57 Go.Proofs.Try.underlying5 rfl rfl ?_
  intro v18 W17 k19 ev18 r20 b16
  replace r12 := r12.up b16
  replace b9 := b9.trans (b16.mono b9.size)
  replace b6 := b6.trans (b16.mono b6.size)
  replace r4 := r4.up b16
  replace b1 := b1.trans (b16.mono b1.size)
  replace q := q.trans (b16.mono q.size)
  refine LL.call (R.call rfl rfl rfl) rfl rfl rfl (lay_own _ _ _ (by assumption) (by omega)) ?_
  rintro e W22 ⟨v24, rfl, o23, b21⟩
  refine ⟨_, rfl, ?_⟩
  have zb21 := b21.size
  replace r20 := r20.up b21
  replace b16 := b16.trans (b21.mono b16.size)
  replace r12 := r12.up b21
  replace b9 := b9.trans (b21.mono b9.size)
  replace b6 := b6.trans (b21.mono b6.size)
  replace r4 := r4.up b21
  replace b1 := b1.trans (b21.mono b1.size)
  replace q := q.trans (b21.mono q.size)
  refine LL.appendL rfl rfl El64 r12 (by first | assumption | exact OwnW.reads (by assumption)) (ints_one _ _) (by simp only [maxLen, List.length_map, List.length_cons, List.length_nil]; omega) (by simp only [maxLen, List.length_map, List.length_cons, List.length_nil]; omega) rfl rfl ?_
  have hlb28 := r12.lt
  intro v25 W26 o27 b28
  clear r12
  replace o27 := o27.low (show w.heap.size ≤ _ by omega)
  replace b9 := b9.grown b28 b9.size (by rintro k ⟨⟩; omega)
  replace b6 := b6.grown b28 b6.size (by rintro k ⟨⟩; omega)
  replace r4 := r4.gr b28 (by have := r4.lt; omega)
  replace b1 := b1.grown b28 b1.size (by rintro k ⟨⟩; omega)
  replace q := q.grown b28 q.size (by rintro k ⟨⟩; omega)
  have zb28 := b28.size
  have ho := o27
  simp only [List.length_cons, List.length_nil, List.length_map, hl2, Nat.zero_add] at ho
  refine LL.call (R.call rfl rfl rfl) rfl rfl rfl (lay16_any _ (headR n l :: layL (nbL l)) (1 + (l.length + 7) / 8) w.heap.size _ ho (by omega) (by omega) (by have := q.size; omega)) ?_
  rintro e W2 ⟨v', rfl, o2, b2⟩
  refine ⟨_, rfl, ?_⟩
  have q2 : Below w.heap.size w W2 := q.trans b2
  refine LL.val (R.assign rfl rfl) rfl rfl rfl ?_
  refine LL.val (R.assign rfl rfl) rfl rfl rfl ?_
  refine LL.nilS ?_
  refine CC.ret ?_
  refine EE.ret _ rfl rfl ?_
  exact ⟨_, rfl, o2, q2⟩
set_option maxRecDepth 100000 in
set_option maxHeartbeats 4000000 in
theorem rwords_F (n : Int) (l : Bs) (w : World) (hl : l.length ≤ 1048576) (h : ¬okR n l) : Calls Try.prog 8 #[recV n l] w fun e w' => e = .returned (.tuple #[.slice none 0 0, .int .i64 250]) ∧ Below w.heap.size w w' := by
  have q := Below.refl w.heap.size w
  refine X.fn Try.func8 rfl (n := 28) rfl rfl ?_
  refine CC.seq ?_
  refine CC.region ?_
  refine LL.box [Value.int IntKind.i64 n, strV l] rfl rfl rfl rfl rfl ?_
  intro W2 g3 eg3 r4 z5 b1
  replace q := q.trans (b1.mono q.size)
  refine LL.val (R.assign rfl rfl) rfl rfl rfl ?_
  refine LL.val (R.assign rfl rfl) rfl rfl rfl ?_
  refine LL.nilS ?_
  refine CC.seq ?_
  refine CC.seq ?_
  refine CC.region ?_
  refine LL.val (R.load rfl rfl (I.ldNc (vs := [Value.int IntKind.i64 n, strV l]) (RowL.cells r4 rfl) (by rfl) (by rfl))) rfl rfl rfl ?_
  refine LL.call (R.call rfl rfl rfl) rfl rfl rfl (rreck_F _ _ _ (by first | assumption | omega) (by first | assumption | omega)) ?_
  rintro e W7 ⟨rfl, b6⟩
  refine ⟨_, rfl, ?_⟩
  have zb6 := b6.size
  replace r4 := r4.up b6
  replace b1 := b1.trans (b6.mono b1.size)
  replace q := q.trans (b6.mono q.size)
  refine LL.val (R.neT rfl rfl rfl (by omega)) rfl rfl rfl ?_
  refine LL.nilS ?_
  refine CC.yes rfl ?_
  refine CC.seq ?_
  refine CC.region ?_
  refine LL.val (R.assign rfl rfl) rfl rfl rfl ?_
  refine LL.val (R.assign rfl rfl) rfl rfl rfl ?_
  refine LL.nilS ?_
  refine CC.ret ?_
  refine EE.thenR ?_
  refine EE.ret _ rfl rfl ?_
  exact ⟨rfl, q⟩
set_option maxRecDepth 100000 in
set_option maxHeartbeats 4000000 in
theorem rwords_T (n : Nat) (l : Bs) (w : World) (h : okR n l) : Calls Try.prog 8 #[recV n l] w fun e w' => ∃ v, e = .returned (.tuple #[v, .int .i64 0]) ∧ w'.ownsRow w.heap.size 38 1 v 16 (ints .u64 (recW n l)) ∧ Below w.heap.size w w' := by
  have q := Below.refl w.heap.size w
  have hl := nameN_len h.2
  have hl2 := layL_len l
  focus
    refine X.fn Try.func8 rfl (n := 28) rfl rfl ?_
    refine CC.seq ?_
    refine CC.region ?_
    refine LL.box [Value.int IntKind.i64 ↑n, strV l] rfl rfl rfl rfl rfl ?_
    intro W2 g3 eg3 r4 z5 b1
    replace q := q.trans (b1.mono q.size)
    refine LL.val (R.assign rfl rfl) rfl rfl rfl ?_
    refine LL.val (R.assign rfl rfl) rfl rfl rfl ?_
    refine LL.nilS ?_
    refine CC.seq ?_
    refine CC.seq ?_
    refine CC.region ?_
    refine LL.val (R.load rfl rfl (I.ldNc (vs := [Value.int IntKind.i64 ↑n, strV l]) (RowL.cells r4 rfl) (by rfl) (by rfl))) rfl rfl rfl ?_
    refine LL.call (R.call rfl rfl rfl) rfl rfl rfl (rreck_T _ _ _ (by first | assumption | omega) (by first | assumption | omega)) ?_
    rintro e W7 ⟨rfl, b6⟩
    refine ⟨_, rfl, ?_⟩
    have zb6 := b6.size
    replace r4 := r4.up b6
    replace b1 := b1.trans (b6.mono b1.size)
    replace q := q.trans (b6.mono q.size)
    refine LL.val (R.neF rfl rfl rfl (by omega)) rfl rfl rfl ?_
    refine LL.nilS ?_
    refine CC.no rfl ?_
    refine CC.skip ?_
    refine EE.thenN ?_
    refine CC.seq ?_
    refine CC.join (fun l_ W32 => ∃ (v31 : Value), l_ = [(0, Value.agg #[Value.int IntKind.i64 ↑n, strV l]), (1, Value.pointer (some { block := g3, off := 0 })), (2, Value.slice none 0 0), (3, Value.int IntKind.i64 0), (5, Value.agg #[Value.int IntKind.i64 ↑n, strV l]), (6, Value.int IntKind.i64 0), (7, Value.bool false), (4, v31)] ∧ (OwnW W32 w.heap.size 38 v31 ([Value.int IntKind.u64 ↑(headR n l)].length + (ints IntKind.u64 (layL (nbL l))).length) ([Value.int IntKind.u64 ↑(headR n l)] ++ ints IntKind.u64 (layL (nbL l)))) ∧ (Below W7.heap.size W7 W32) ∧ (Below W2.heap.size W2 W32) ∧ (RowL W32 g3 23 [Value.int IntKind.i64 ↑n, strV l]) ∧ (Below w.heap.size w W32) ∧ (Below w.heap.size w W32) ∧ (W7.heap.size ≤ W32.heap.size)) (fun J36 => ?_) ?restJ36
    case' restJ36 =>
      clear b6
      clear r4
      clear b1
      clear q
      rintro _ W32 ⟨v31, rfl, o33, b8, b6, r4, b1, q, z35⟩
    refine EE.thenN ?_
    refine CC.seq ?_
    refine CC.region ?_
    refine LL.val (R.move rfl rfl) rfl rfl rfl ?_
    refine LL.val (R.move rfl rfl) rfl rfl rfl ?_
    rotate_left
    refine CC.freeZ (fun W_ j => j < W_.heap.size ∧ (True)) (by kernel_rfl) (by kernel_rfl) (fun W38 b37 z39 => ?_)
    replace b6 := b6.trans (b37.mono b6.size)
    replace r4 := r4.up b37
    replace b1 := b1.trans (b37.mono b1.size)
    replace q := q.trans (b37.mono q.size)
    have hok : Kept (fun j => j < W38.heap.size ∧ (True)) W38 W38 := Kept.refl _ _
    have fzr4 := fzRow (K := fun j => j < W38.heap.size ∧ (True)) r4 ⟨r4.lt, (by first | trivial | omega)⟩
    refine AA.pure 0 rfl hok (by kernel_rfl) (fun w' b' => R.field rfl rfl (I.fld rfl)) rfl rfl ?_
    refine AA.pure 1 rfl hok (by kernel_rfl) (fun w' b' => R.load rfl rfl (I.ld1 rfl (RowL.cell (fzr4 w' b') rfl))) rfl rfl ?_
    refine AA.pure 2 rfl hok (by kernel_rfl) (fun w' b' => R.convI rfl rfl rfl rfl (wrapU (by omega) (by omega))) rfl rfl ?_
    refine AA.pure 3 rfl hok (by kernel_rfl) (fun w' b' => R.field rfl rfl (I.fld rfl)) rfl rfl ?_
    refine AA.pure 4 rfl hok (by kernel_rfl) (fun w' b' => R.load rfl rfl (I.ld1 rfl (RowL.cell (fzr4 w' b') rfl))) rfl rfl ?_
    refine AA.pure 5 rfl hok (by kernel_rfl) (fun w' b' => R.lenS rfl rfl rfl rfl) rfl rfl ?_
    refine AA.pure 6 rfl hok (by kernel_rfl) (fun w' b' => R.convI rfl rfl rfl rfl (wrapU (by omega) (by omega))) rfl rfl ?_
    refine AA.pure 7 rfl hok (by kernel_rfl) (fun w' b' => R.mulUE (a := 65536) (z := 65536 * l.length) rfl rfl rfl (by omega) (by omega)) rfl rfl ?_
    refine AA.pure 8 rfl hok (by kernel_rfl) (fun w' b' => R.addUE (z := headR n l) rfl rfl rfl (by unfold headR; omega) (by unfold headR; omega)) rfl rfl ?_
    refine AA.pure 10 rfl hok (by kernel_rfl) (fun w' b' => R.field rfl rfl (I.fld rfl)) rfl rfl ?_
    refine AA.pure 11 rfl hok (by kernel_rfl) (fun w' b' => R.load rfl rfl (I.ld1 rfl (RowL.cell (fzr4 w' b') rfl))) rfl rfl ?_
    refine AA.two 9 12 (by kernel_rfl) ?_ ?_
    have l40 := r4.lt
    refine ZR.lit (e := 38) [Value.int IntKind.u64 ↑(headR n l)] 1 rfl rfl rfl (fun _ => by kernel_rfl) rfl rfl ?_
    intro W42 g43 eg43 r44 z45 b41
    replace b37 := b37.trans (b41.mono b37.size)
    replace b6 := b6.trans (b41.mono b6.size)
    replace r4 := r4.up b41
    replace b1 := b1.trans (b41.mono b1.size)
    replace q := q.trans (b41.mono q.size)
    replace hok := hok.trans (bkept b41 (fun j h => by have := h.1; have := hok.size; omega))
    have y46 := hok.size
    refine ⟨hok, ?_⟩
    refine AA.one 12 (by kernel_rfl) ?_
    have l47 := r44.lt
    have l48 := r4.lt
    refine ZR.strBytes (l) rfl rfl rfl Go.Proofs.Try.underlying9 Go.Proofs.Try.underlying57 Go.Proofs.Try.underlying5 rfl rfl ?_
    intro v51 W50 k52 ev51 r53 b49
    replace r44 := r44.up b49
    replace b41 := b41.trans (b49.mono b41.size)
    replace b37 := b37.trans (b49.mono b37.size)
    replace b6 := b6.trans (b49.mono b6.size)
    replace r4 := r4.up b49
    replace b1 := b1.trans (b49.mono b1.size)
    replace q := q.trans (b49.mono q.size)
    replace hok := hok.trans (bkept b49 (fun j h => by have := h.1; have := hok.size; omega))
    have y54 := hok.size
    refine ⟨hok, ?_⟩
    refine AA.one 13 (by kernel_rfl) ?_
    refine SR.call rfl (R.call rfl rfl rfl) rfl rfl (rlay_own _ _ _ (by assumption) (by omega)) ?_
    rintro e W56 ⟨v58, rfl, o57, b55⟩
    have zb55 := b55.size
    replace r53 := r53.up b55
    replace b49 := b49.trans (b55.mono b49.size)
    replace r44 := r44.up b55
    replace b41 := b41.trans (b55.mono b41.size)
    replace b37 := b37.trans (b55.mono b37.size)
    replace b6 := b6.trans (b55.mono b6.size)
    replace r4 := r4.up b55
    replace b1 := b1.trans (b55.mono b1.size)
    replace q := q.trans (b55.mono q.size)
    replace hok := hok.trans (bkept b55 (fun j h => by have := h.1; have := hok.size; omega))
    have y59 := hok.size
    refine ⟨_, rfl, hok, ?_⟩
    refine AA.one 14 (by kernel_rfl) ?_
    refine ZR.appendL rfl rfl rfl El64 r44 (by first | assumption | exact OwnW.reads (by assumption)) (ints_one _ _) (by simp only [maxLen, List.length_map, List.length_cons, List.length_nil]; omega) (by simp only [maxLen, List.length_map, List.length_cons, List.length_nil]; omega) rfl rfl ?_
    have hlb63 := r44.lt
    intro v60 W61 o62 b63
    clear r44
    replace o62 := o62.low (show w.heap.size ≤ _ by omega)
    replace b41 := b41.grown b63 b41.size (by rintro k ⟨⟩; omega)
    replace b37 := b37.grown b63 b37.size (by rintro k ⟨⟩; omega)
    replace b6 := b6.grown b63 b6.size (by rintro k ⟨⟩; omega)
    replace r4 := r4.gr b63 (by have := r4.lt; omega)
    replace b1 := b1.grown b63 b1.size (by rintro k ⟨⟩; omega)
    replace q := q.grown b63 q.size (by rintro k ⟨⟩; omega)
    replace hok := hok.trans (grown_kept b63 (fun j h => by have := h.1; have := hok.size; omega) (fun j h e => by cases e; have h2 := h.1; have h3 := h.2; omega))
    have zb63 := b63.size
    refine ⟨hok, ?_⟩
    refine AA.pure 15 rfl hok (by kernel_rfl) (fun w' b' => R.assign rfl rfl) rfl rfl ?_
    refine AA.done rfl ?_
    clear fzr4 hok
    exact EE.weak (J36 _ _ ⟨_, rfl, (by first | assumption | omega), (by first | assumption | omega), (by first | assumption | omega), (by first | assumption | omega), (by first | assumption | omega), (by first | assumption | omega), (by first | assumption | omega)⟩) ⟨rfl, rfl, rfl, rfl, rfl, rfl, rfl, rfl, trivial⟩
    have l64 := r4.lt
    refine ZR.strBytes (l) rfl rfl rfl Go.Proofs.Try.underlying9 Go.Proofs.Try.underlying57 Go.Proofs.Try.underlying5 rfl rfl ?_
    intro v67 W66 k68 ev67 r69 b65
    replace b37 := b37.trans (b65.mono b37.size)
    replace b6 := b6.trans (b65.mono b6.size)
    replace r4 := r4.up b65
    replace b1 := b1.trans (b65.mono b1.size)
    replace q := q.trans (b65.mono q.size)
    replace hok := hok.trans (bkept b65 (fun j h => by have := h.1; have := hok.size; omega))
    have y70 := hok.size
    refine ⟨hok, ?_⟩
    refine AA.two 9 13 (by kernel_rfl) ?_ ?_
    have l71 := r4.lt
    refine ZR.lit (e := 38) [Value.int IntKind.u64 ↑(headR n l)] 1 rfl rfl rfl (fun _ => by kernel_rfl) rfl rfl ?_
    intro W73 g74 eg74 r75 z76 b72
    replace r69 := r69.up b72
    replace b65 := b65.trans (b72.mono b65.size)
    replace b37 := b37.trans (b72.mono b37.size)
    replace b6 := b6.trans (b72.mono b6.size)
    replace r4 := r4.up b72
    replace b1 := b1.trans (b72.mono b1.size)
    replace q := q.trans (b72.mono q.size)
    replace hok := hok.trans (bkept b72 (fun j h => by have := h.1; have := hok.size; omega))
    have y77 := hok.size
    refine ⟨hok, ?_⟩
    refine AA.one 13 (by kernel_rfl) ?_
    refine SR.call rfl (R.call rfl rfl rfl) rfl rfl (rlay_own _ _ _ (by assumption) (by omega)) ?_
    rintro e W79 ⟨v81, rfl, o80, b78⟩
    have zb78 := b78.size
    replace r75 := r75.up b78
    replace b72 := b72.trans (b78.mono b72.size)
    replace r69 := r69.up b78
    replace b65 := b65.trans (b78.mono b65.size)
    replace b37 := b37.trans (b78.mono b37.size)
    replace b6 := b6.trans (b78.mono b6.size)
    replace r4 := r4.up b78
    replace b1 := b1.trans (b78.mono b1.size)
    replace q := q.trans (b78.mono q.size)
    replace hok := hok.trans (bkept b78 (fun j h => by have := h.1; have := hok.size; omega))
    have y82 := hok.size
    refine ⟨_, rfl, hok, ?_⟩
    refine AA.one 14 (by kernel_rfl) ?_
    refine ZR.appendL rfl rfl rfl El64 r75 (by first | assumption | exact OwnW.reads (by assumption)) (ints_one _ _) (by simp only [maxLen, List.length_map, List.length_cons, List.length_nil]; omega) (by simp only [maxLen, List.length_map, List.length_cons, List.length_nil]; omega) rfl rfl ?_
    have hlb86 := r75.lt
    intro v83 W84 o85 b86
    clear r75
    replace o85 := o85.low (show w.heap.size ≤ _ by omega)
    replace b72 := b72.grown b86 b72.size (by rintro k ⟨⟩; omega)
    replace b65 := b65.grown b86 b65.size (by rintro k ⟨⟩; omega)
    replace b37 := b37.grown b86 b37.size (by rintro k ⟨⟩; omega)
    replace b6 := b6.grown b86 b6.size (by rintro k ⟨⟩; omega)
    replace r4 := r4.gr b86 (by have := r4.lt; omega)
    replace b1 := b1.grown b86 b1.size (by rintro k ⟨⟩; omega)
    replace q := q.grown b86 q.size (by rintro k ⟨⟩; omega)
    replace hok := hok.trans (grown_kept b86 (fun j h => by have := h.1; have := hok.size; omega) (fun j h e => by cases e; have h2 := h.1; have h3 := h.2; omega))
    have zb86 := b86.size
    refine ⟨hok, ?_⟩
    refine AA.pure 15 rfl hok (by kernel_rfl) (fun w' b' => R.assign rfl rfl) rfl rfl ?_
    refine AA.done rfl ?_
    clear fzr4 hok
    exact EE.weak (J36 _ _ ⟨_, rfl, (by first | assumption | omega), (by first | assumption | omega), (by first | assumption | omega), (by first | assumption | omega), (by first | assumption | omega), (by first | assumption | omega), (by first | assumption | omega)⟩) ⟨rfl, rfl, rfl, rfl, rfl, rfl, rfl, rfl, trivial⟩
    refine SR.call rfl (R.call rfl rfl rfl) rfl rfl (rlay_own _ _ _ (by assumption) (by omega)) ?_
    rintro e W88 ⟨v90, rfl, o89, b87⟩
    have zb87 := b87.size
    replace r69 := r69.up b87
    replace b65 := b65.trans (b87.mono b65.size)
    replace b37 := b37.trans (b87.mono b37.size)
    replace b6 := b6.trans (b87.mono b6.size)
    replace r4 := r4.up b87
    replace b1 := b1.trans (b87.mono b1.size)
    replace q := q.trans (b87.mono q.size)
    replace hok := hok.trans (bkept b87 (fun j h => by have := h.1; have := hok.size; omega))
    have y91 := hok.size
    refine ⟨_, rfl, hok, ?_⟩
    refine AA.one 9 (by kernel_rfl) ?_
    have l92 := r4.lt
    refine ZR.lit (e := 38) [Value.int IntKind.u64 ↑(headR n l)] 1 rfl rfl rfl (fun _ => by kernel_rfl) rfl rfl ?_
    intro W94 g95 eg95 r96 z97 b93
    replace o89 := o89.up b93
    replace b87 := b87.trans (b93.mono b87.size)
    replace r69 := r69.up b93
    replace b65 := b65.trans (b93.mono b65.size)
    replace b37 := b37.trans (b93.mono b37.size)
    replace b6 := b6.trans (b93.mono b6.size)
    replace r4 := r4.up b93
    replace b1 := b1.trans (b93.mono b1.size)
    replace q := q.trans (b93.mono q.size)
    replace hok := hok.trans (bkept b93 (fun j h => by have := h.1; have := hok.size; omega))
    have y98 := hok.size
    refine ⟨hok, ?_⟩
    refine AA.one 14 (by kernel_rfl) ?_
    refine ZR.appendL rfl rfl rfl El64 r96 (by first | assumption | exact OwnW.reads (by assumption)) (ints_one _ _) (by simp only [maxLen, List.length_map, List.length_cons, List.length_nil]; omega) (by simp only [maxLen, List.length_map, List.length_cons, List.length_nil]; omega) rfl rfl ?_
    have hlb102 := r96.lt
    intro v99 W100 o101 b102
    clear r96
    replace o101 := o101.low (show w.heap.size ≤ _ by omega)
    replace b93 := b93.grown b102 b93.size (by rintro k ⟨⟩; omega)
    replace b87 := b87.grown b102 b87.size (by rintro k ⟨⟩; omega)
    replace b65 := b65.grown b102 b65.size (by rintro k ⟨⟩; omega)
    replace b37 := b37.grown b102 b37.size (by rintro k ⟨⟩; omega)
    replace b6 := b6.grown b102 b6.size (by rintro k ⟨⟩; omega)
    replace r4 := r4.gr b102 (by have := r4.lt; omega)
    replace b1 := b1.grown b102 b1.size (by rintro k ⟨⟩; omega)
    replace q := q.grown b102 q.size (by rintro k ⟨⟩; omega)
    replace hok := hok.trans (grown_kept b102 (fun j h => by have := h.1; have := hok.size; omega) (fun j h e => by cases e; have h2 := h.1; have h3 := h.2; omega))
    have zb102 := b102.size
    refine ⟨hok, ?_⟩
    refine AA.pure 15 rfl hok (by kernel_rfl) (fun w' b' => R.assign rfl rfl) rfl rfl ?_
    refine AA.done rfl ?_
    clear fzr4 hok
    exact EE.weak (J36 _ _ ⟨_, rfl, (by first | assumption | omega), (by first | assumption | omega), (by first | assumption | omega), (by first | assumption | omega), (by first | assumption | omega), (by first | assumption | omega), (by first | assumption | omega)⟩) ⟨rfl, rfl, rfl, rfl, rfl, rfl, rfl, rfl, trivial⟩
  have ho := o33
  simp only [List.length_cons, List.length_nil, List.length_map, hl2, Nat.zero_add] at ho
  obtain ⟨gv, cv, rfl, hgv, lgv, hcv⟩ := owns_at ho (by omega)
  by_cases h16 : (l.length + 7) / 8 = 15
  · refine LL.val (R.len rfl rfl rfl rfl) rfl rfl rfl ?_
    refine LL.val (R.subIz (z := 0) rfl rfl rfl (by omega) (by decide)) rfl rfl rfl ?_
    refine LL.zeros0 rfl rfl El64 Try.underlying3 (by omega) rfl rfl ?_
    refine LL.val (R.assign rfl rfl) rfl rfl rfl ?_
    refine LL.val (R.assign rfl rfl) rfl rfl rfl ?_
    refine LL.nilS ?_
    refine CC.ret ?_
    refine EE.ret _ rfl rfl ?_
    refine ⟨_, rfl, ?_, q⟩
    rw [show recW n l = headR n l :: layL (nbL l) by unfold recW padL; simp [hl2, h16]]
    have ho2 := ho
    rw [h16] at ho2 ⊢
    exact ho2
  · refine LL.val (R.len rfl rfl rfl rfl) rfl rfl rfl ?_
    refine LL.val (R.subcN rfl rfl rfl rfl (by omega) (by omega)) rfl rfl rfl ?_
    refine LL.zeros (m := 16 - (1 + (l.length + 7) / 8)) rfl rfl El64 Try.underlying3 rfl ho (by omega) (by simp only [maxLen]; omega) (by omega) (by have := q.size; omega) rfl rfl ?_
    intro v' w' o1 g1 l1
    refine LL.val (R.assign rfl rfl) rfl rfl rfl ?_
    refine LL.val (R.assign rfl rfl) rfl rfl rfl ?_
    refine LL.nilS ?_
    refine CC.ret ?_
    refine EE.ret _ rfl rfl ?_
    rw [show 1 + (l.length + 7) / 8 + (16 - (1 + (l.length + 7) / 8)) = 16 by omega] at o1
    refine ⟨v', rfl, ?_, q.trans (owns_bel ho g1 (by have := q.size; omega))⟩
    rw [show ints .u64 (recW n l) = [Value.int IntKind.u64 ((headR n l : Nat) : Int)] ++ ints .u64 (layL (nbL l)) ++ List.replicate (16 - (1 + (l.length + 7) / 8)) (.int .u64 0) by unfold recW padL; simp [ints, hl2, Nat.add_comm]]
    exact o1
end Go.Proofs.Ytefepklacchghaa
