/- What the statements' walks use: So15, Nd1, So9, So10, So11, So12, So13, So14, So16, Fwd, Nd2, Nd3, Nd4. -/

import Derived.Test.YtfplilpefhhpnaaMra
import Derived.Test.YtfplilpefhhpnaaMrb
/- slots: a change, its panics recovered. -/
namespace Go.Proofs.Ytfplilpefhhpnaa
set_option linter.unusedVariables false
set_option linter.unusedSimpArgs false
open Go.RowKit Go.Shelf
set_option maxRecDepth 100000
set_option maxHeartbeats 4000000
theorem chg1_calm (go ge : Nat) (w : World) : CallsDIn Fence.wide 2 Try.prog 79 [Value.pointer (some ⟨go, 0, none⟩), .pointer (some ⟨ge, 0, none⟩)].toArray .returning w fun e u' w' => (∃ v, e = .returned v) ∧ u' = .returning ∧ w = w' := by
  refine X.recovers (n := 18) (d := 5) (e := 2) Try.func79 rfl rfl rfl rfl rfl rfl rfl rfl rfl rfl rfl (recover_calm) ?_
  refine CC.seq ?_
  refine CC.region ?_
  refine LL.val (R.move rfl rfl) rfl rfl rfl ?_
  refine LL.val (R.eqNilI rfl rfl (by kernel_rfl)) rfl rfl rfl ?_
  refine LL.nilS ?_
  refine CC.no rfl ?_
  refine CC.skip ?_
  refine EE.end _ rfl rfl ?_
  exact ⟨⟨_, rfl⟩, rfl, rfl⟩
theorem chg1_pan (go ge c : Nat) (v0 : Value) (x0 : Int) (w : World) (h1 : RowL w go 49 [v0]) (h2 : RowL w ge 30 [.int .i64 x0]) (hne : go ≠ ge) : CallsDIn Fence.wide 2 Try.prog 79 [Value.pointer (some ⟨go, 0, none⟩), .pointer (some ⟨ge, 0, none⟩)].toArray (.panicking (chain1 (refV c))) w fun e u' w' => (∃ v, e = .returned v) ∧ u' = .panicking [{ v := refV c, recovered := true }] ∧ RowL w' go 49 [.slice none 0 0] ∧ RowL w' ge 30 [.int .i64 (c : Int)] ∧ Kept (fun i => i < w.heap.size ∧ (i ≠ go ∧ i ≠ ge)) w w' := by
  refine X.recovers (n := 18) (d := 5) (e := 2) Try.func79 rfl rfl rfl rfl rfl rfl rfl rfl rfl rfl rfl (recover_one (refV c)) ?_
  refine CC.seq ?_
  refine CC.region ?_
  refine LL.val (R.move rfl rfl) rfl rfl rfl ?_
  refine LL.val (R.neNilI rfl rfl rfl (by kernel_rfl)) rfl rfl rfl ?_
  refine LL.nilS ?_
  refine CC.yes rfl ?_
  refine CC.seq ?_
  refine CC.region ?_
  refine LL.val (R.move rfl rfl) rfl rfl rfl ?_
  refine LL.val (R.assertT rfl rfl (by kernel_rfl)) rfl rfl rfl ?_
  refine LL.val (R.move rfl rfl) rfl rfl rfl ?_
  refine LL.val (R.extract rfl rfl rfl) rfl rfl rfl ?_
  refine LL.val (R.extract rfl rfl rfl) rfl rfl rfl ?_
  have l1 := h1.lt
  have l2 := h2.lt
  refine LL.alloc ([Value.int IntKind.i64 0]) rfl rfl rfl rfl rfl ?_
  intro W4 g5 eg5 r6 z7 b3
  replace h1 := h1.up b3
  replace h2 := h2.up b3
  refine LL.storeN (vs := [Value.int IntKind.i64 ↑c]) rfl rfl rfl rfl r6 (by exact Nat.le_of_ble_eq_true rfl) (ones_of rfl) rfl rfl ?_
  intro W9 r10 b8 z11
  have hlb8 := r6.lt
  replace r10 : RowL W9 _ 117 [Value.int IntKind.i64 ↑c] := r10
  clear r6
  replace b3 := b3.grown b8 b3.size (by rintro k ⟨⟩; omega)
  replace h1 := h1.gr b8 (by have := h1.lt; omega)
  replace h2 := h2.gr b8 (by have := h2.lt; omega)
  have r6 := r10
  clear r10
  refine LL.val (R.assign rfl rfl) rfl rfl rfl ?_
  refine LL.nilS ?_
  refine CC.seq ?_
  refine CC.seq ?_
  refine CC.region ?_
  refine LL.val (R.move rfl rfl) rfl rfl rfl ?_
  refine LL.val (R.not rfl rfl) rfl rfl rfl ?_
  refine LL.nilS ?_
  refine CC.no rfl ?_
  refine CC.skip ?_
  refine EE.thenN ?_
  refine CC.freeZ (fun W_ j => j < W_.heap.size ∧ (j ≠ go ∧ j ≠ ge)) (by kernel_rfl) (by kernel_rfl) (fun W13 b12 z14 => ?_)
  replace b3 := b3.trans (b12.mono b3.size)
  replace h1 := h1.up b12
  replace h2 := h2.up b12
  replace r6 := r6.up b12
  have hok : Kept (fun j => j < W13.heap.size ∧ (j ≠ go ∧ j ≠ ge)) W13 W13 := Kept.refl _ _
  have fzr6 := fzRow (K := fun j => j < W13.heap.size ∧ (j ≠ go ∧ j ≠ ge)) r6 ⟨r6.lt, (by first | trivial | omega)⟩
  refine AA.pure 0 rfl hok (by kernel_rfl) (fun w' b' => R.field rfl rfl (I.fld rfl)) rfl rfl ?_
  refine AA.pure 1 rfl hok (by kernel_rfl) (fun w' b' => R.load rfl rfl (I.ld1 rfl (RowL.cell (fzr6 w' b') rfl))) rfl rfl ?_
  refine AA.one 2 (by kernel_rfl) ?_
  refine ZR.store rfl rfl rfl rfl rfl h1 (by exact Nat.le_of_ble_eq_true rfl) rfl rfl rfl rfl ?_
  intro W16 r17 b15 z18
  have hlb15 := h1.lt
  replace r17 : RowL W16 _ 49 [Value.slice none 0 0] := r17
  clear h1
  replace h2 := h2.gr b15 (by have := h2.lt; omega)
  replace r6 := r6.gr b15 (by have := r6.lt; omega)
  replace hok := hok.trans (grown_kept b15 (fun j h => by have := h.1; have := hok.size; omega) (fun j h e => by cases e; have h2 := h.1; have h3 := h.2; omega))
  have h1 := r17
  clear r17
  refine ⟨hok, ?_⟩
  refine AA.one 3 (by kernel_rfl) ?_
  refine ZR.store rfl rfl rfl rfl rfl h2 (by exact Nat.le_of_ble_eq_true rfl) rfl rfl rfl rfl ?_
  intro W20 r21 b19 z22
  have hlb19 := h2.lt
  replace r21 : RowL W20 _ 30 [Value.int IntKind.i64 ↑c] := r21
  clear h2
  replace r6 := r6.gr b19 (by have := r6.lt; omega)
  replace hok := hok.trans (grown_kept b19 (fun j h => by have := h.1; have := hok.size; omega) (fun j h e => by cases e; have h2 := h.1; have h3 := h.2; omega))
  replace h1 := h1.gr b19 (by have := h1.lt; omega)
  have h2 := r21
  clear r21
  refine ⟨hok, ?_⟩
  refine AA.done rfl ?_
  clear fzr6 hok
  refine EE.end _ rfl rfl ?_
  exact ⟨⟨_, rfl⟩, rfl, h1, h2, ((bkept b3 (fun k hk => hk.1)).trans (grown_kept b15 (fun k hk => by have := hk.1; have := b3.size; omega) (fun k hk e => by cases e; exact hk.2.1 rfl))).trans (grown_kept b19 (fun k hk => by have := hk.1; have := b3.size; omega) (fun k hk e => by cases e; exact hk.2.2 rfl))⟩
theorem callsA {P : Program} {f : FuncId} {a b : Array Value} {w : World} {R : Ending → World → Prop} (h : a = b) (c : Calls P f a w R) : Calls P f b w R := h ▸ c
/-- The work of a change, given as a closure. -/
def WorkT (wf : FuncId) (lb : List Value) (B n left : Nat) (s : List Nat) (s2 : List Nat) (os : List Pt) (w0 : World) : Prop :=
  ∀ (W : World) (gs cs gr go ob : Nat), Below B w0 W → Ch W B gs cs gr go ob n left s [] → Calls Try.prog wf (rowV (.slice (some ⟨gs, 0, none⟩) n cs) left :: stoV gr go :: lb).toArray W fun e W' => e = .returned (.tuple #[]) ∧ ChP W B gs cs gr go ob n left s2 os W'
def WorkP (wf : FuncId) (lb : List Value) (B n left : Nat) (s : List Nat) (c : Nat) (w0 : World) : Prop :=
  ∀ (W : World) (gs cs gr go ob : Nat), Below B w0 W → Ch W B gs cs gr go ob n left s [] → Calls Try.prog wf (rowV (.slice (some ⟨gs, 0, none⟩) n cs) left :: stoV gr go :: lb).toArray W fun e W' => e = .panicked (chain1 (refV c)) ∧ ∃ s2 os, ChP W B gs cs gr go ob n left s2 os W'
theorem change_N (left n : Nat) (v : Value) (s : List Nat) (wf : FuncId) (lb : List Value) (w : World) (hv : ReadsT uE 1 w v s) (hn : s.length = n) (h80 : n ≤ 1048576) (hno : noRow left n) : Calls Try.prog 54 #[.int .u64 (left : Int), v, .func (.func wf) #[] lb.toArray] w fun e w' => e = .returned (.tuple #[.slice none 0 0, .int .i64 2]) ∧ Below w.heap.size w w' := by
  have q := Below.refl w.heap.size w
  have hvF : ∀ X, Below w.heap.size w X → ReadsT uE 1 X v s := fun X b => hv.up b
  clear hv
  refine X.fnP Try.func54 rfl (n := 24) rfl rfl ?_
  refine CC.seq ?_
  refine CC.region ?_
  refine LL.alloc ([Value.slice none 0 0]) rfl rfl rfl rfl rfl ?_
  intro W2 g3 eg3 r4 z5 b1
  replace q := q.trans (b1.mono q.size)
  have l6 := r4.lt
  refine LL.alloc ([Value.int IntKind.i64 0]) rfl rfl rfl rfl rfl ?_
  intro W8 g9 eg9 r10 z11 b7
  replace r4 := r4.up b7
  replace b1 := b1.trans (b7.mono b1.size)
  replace q := q.trans (b7.mono q.size)
  refine LL.nilS ?_
  refine CC.seq ?_
  refine CC.region ?_
  refine LL.val (R.func rfl rfl rfl) rfl rfl rfl ?_
  refine LL.defer rfl rfl rfl rfl rfl rfl ?_
  refine LL.nilS ?_
  refine CC.seq ?_
  refine CC.region ?_
  refine LL.val (R.move rfl rfl) rfl rfl rfl ?_
  refine LL.call (R.call rfl rfl rfl) rfl rfl rfl (uclone_any v s _ (hvF _ q) (by omega)) ?_
  rintro e W1 ⟨v', rfl, o, b1'⟩
  refine ⟨_, rfl, ?_⟩
  have zb1' := b1'.size
  have yq := q.size
  have l4 := r4.lt
  have l10 := r10.lt
  replace r4 := r4.up b1'
  replace r10 := r10.up b1'
  replace q := q.trans (b1'.mono q.size)
  clear b1 b7 b1'
  obtain ⟨aV, cV, rfl, hcV⟩ := (o.reads uEnc).form hn
  clear o
  refine LL.val (R.buildV rfl rfl (v := .agg #[Value.slice aV n cV]) (fun _ => by kernel_rfl)) rfl rfl rfl ?_
  refine LL.val (R.move rfl rfl) rfl rfl rfl ?_
  refine LL.val (R.buildV rfl rfl (v := .agg #[Value.slice aV n cV, Value.int IntKind.u64 ↑left]) (fun _ => by kernel_rfl)) rfl rfl rfl ?_
  have la1 := r4.lt
  have la2 := r10.lt
  refine LL.alloc ([Value.slice none 0 0, Value.int IntKind.u64 0]) rfl rfl rfl rfl rfl ?_
  intro Wa4 ga5 ega5 ra6 za7 ba3
  replace r4 := r4.up ba3
  replace r10 := r10.up ba3
  replace q := q.trans (ba3.mono q.size)
  refine LL.storeN (vs := [Value.slice aV n cV, Value.int IntKind.u64 ↑left]) rfl rfl rfl rfl ra6 (by exact Nat.le_of_ble_eq_true rfl) (ones_of rfl) rfl rfl ?_
  intro Wa9 ra10 ba8 za11
  have hlba8 := ra6.lt
  replace ra10 : RowL Wa9 _ 96 [Value.slice aV n cV, Value.int IntKind.u64 ↑left] := ra10
  clear ra6
  replace ba3 := ba3.grown ba8 ba3.size (by rintro k ⟨⟩; omega)
  replace r4 := r4.gr ba8 (by have := r4.lt; omega)
  replace r10 := r10.gr ba8 (by have := r10.lt; omega)
  replace q := q.grown ba8 q.size (by rintro k ⟨⟩; omega)
  have ra6 := ra10
  clear ra10
  refine LL.nilS ?_
  refine CC.seq ?_
  refine CC.region ?_
  refine LL.val (R.load rfl rfl (I.ldNc (vs := [Value.slice aV n cV, Value.int IntKind.u64 ↑left]) (RowL.cells ra6 rfl) (by rfl) (by rfl))) rfl rfl rfl ?_
  refine LL.call (R.call rfl rfl rfl) rfl rfl rfl (is_F _ _ _ _ _ (by first | assumption | omega) (by first | assumption | omega)) ?_
  rintro e Wa13 ⟨rfl, ba12⟩
  refine ⟨_, rfl, ?_⟩
  have zba12 := ba12.size
  replace ba3 := ba3.trans (ba12.mono ba3.size)
  replace r4 := r4.up ba12
  replace r10 := r10.up ba12
  replace q := q.trans (ba12.mono q.size)
  replace ra6 := ra6.up ba12
  refine LL.val (R.not rfl rfl) rfl rfl rfl ?_
  refine LL.callP (R.call rfl rfl rfl) rfl rfl (refuse_T _ _) ?_
  rintro e Wa16 ⟨rfl, rfl⟩
  refine ⟨_, rfl, ?_⟩
  refine EE.thenP ?_
  (refine EE.panD2 (by kernel_rfl) (chg1_pan g3 g9 2 _ _ _ r4 r10 (by omega)) rfl ?_; rintro e u' W5 ⟨hv, rfl, h1, h2, hk⟩; exact ⟨hv, rfl, _, _, ⟨_, rfl, lv1 rfl (RowL.cell h1 rfl)⟩, ⟨_, rfl, lv1 rfl (RowL.cell h2 rfl)⟩, rfl, hk.onB q (fun j hj => ⟨by have := q.size; omega, by omega⟩)⟩)
theorem change_W (left n : Nat) (v : Value) (s : List Nat) (wf : FuncId) (lb : List Value) (w : World) (hv : ReadsT uE 1 w v s) (hn : s.length = n) (hrow : left ≠ 0 ∧ n % 2 = 0 ∧ 4 ≤ n ∧ n ≤ 56) (eg : entB Try.prog wf = true) (s2 : List Nat) (os : List Pt) (hw : WorkT wf lb w.heap.size n left s s2 os w) : Calls Try.prog 54 #[.int .u64 (left : Int), v, .func (.func wf) #[] lb.toArray] w fun e w' => ∃ vo, e = .returned (.tuple #[vo, .int .i64 0]) ∧ OwnsT pE 2 w' w.heap.size 68 vo os ∧ Below w.heap.size w w' := by
  have h80 : n ≤ 1048576 := by omega
  have q := Below.refl w.heap.size w
  have hvF : ∀ X, Below w.heap.size w X → ReadsT uE 1 X v s := fun X b => hv.up b
  clear hv
  refine X.fnP Try.func54 rfl (n := 24) rfl rfl ?_
  refine CC.seq ?_
  refine CC.region ?_
  refine LL.alloc ([Value.slice none 0 0]) rfl rfl rfl rfl rfl ?_
  intro W2 g3 eg3 r4 z5 b1
  replace q := q.trans (b1.mono q.size)
  have l6 := r4.lt
  refine LL.alloc ([Value.int IntKind.i64 0]) rfl rfl rfl rfl rfl ?_
  intro W8 g9 eg9 r10 z11 b7
  replace r4 := r4.up b7
  replace b1 := b1.trans (b7.mono b1.size)
  replace q := q.trans (b7.mono q.size)
  refine LL.nilS ?_
  refine CC.seq ?_
  refine CC.region ?_
  refine LL.val (R.func rfl rfl rfl) rfl rfl rfl ?_
  refine LL.defer rfl rfl rfl rfl rfl rfl ?_
  refine LL.nilS ?_
  refine CC.seq ?_
  refine CC.region ?_
  refine LL.val (R.move rfl rfl) rfl rfl rfl ?_
  refine LL.call (R.call rfl rfl rfl) rfl rfl rfl (uclone_any v s _ (hvF _ q) (by omega)) ?_
  rintro e W1 ⟨v', rfl, o, b1'⟩
  refine ⟨_, rfl, ?_⟩
  have zb1' := b1'.size
  have yq := q.size
  have l4 := r4.lt
  have l10 := r10.lt
  replace r4 := r4.up b1'
  replace r10 := r10.up b1'
  replace q := q.trans (b1'.mono q.size)
  clear b1 b7 b1'
  obtain ⟨gs, cs, rfl, hgs1, hgs2, hcs⟩ := ownsT_form o hn (by omega)
  have oF : ∀ X, Below W1.heap.size W1 X → OwnsT uE 1 X w.heap.size 25 (.slice (some ⟨gs, 0, none⟩) n cs) s := fun X b => (o.up b).lower (by omega)
  have qn := Below.refl W1.heap.size W1
  clear o
  refine LL.val (R.buildV rfl rfl (v := .agg #[Value.slice (some { block := gs, off := 0 }) n cs]) (fun _ => by kernel_rfl)) rfl rfl rfl ?_
  refine LL.val (R.move rfl rfl) rfl rfl rfl ?_
  refine LL.val (R.buildV rfl rfl (v := .agg #[Value.slice (some { block := gs, off := 0 }) n cs, Value.int IntKind.u64 ↑left]) (fun _ => by kernel_rfl)) rfl rfl rfl ?_
  have la1 := r4.lt
  have la2 := r10.lt
  refine LL.alloc ([Value.slice none 0 0, Value.int IntKind.u64 0]) rfl rfl rfl rfl rfl ?_
  intro Wa4 ga5 ega5 ra6 za7 ba3
  replace r4 := r4.up ba3
  replace r10 := r10.up ba3
  replace q := q.trans (ba3.mono q.size)
  replace qn := qn.trans (ba3.mono qn.size)
  refine LL.storeN (vs := [Value.slice (some { block := gs, off := 0 }) n cs, Value.int IntKind.u64 ↑left]) rfl rfl rfl rfl ra6 (by exact Nat.le_of_ble_eq_true rfl) (ones_of rfl) rfl rfl ?_
  intro Wa9 ra10 ba8 za11
  have hlba8 := ra6.lt
  replace ra10 : RowL Wa9 _ 96 [Value.slice (some { block := gs, off := 0 }) n cs, Value.int IntKind.u64 ↑left] := ra10
  clear ra6
  replace ba3 := ba3.grown ba8 ba3.size (by rintro k ⟨⟩; omega)
  replace r4 := r4.gr ba8 (by have := r4.lt; omega)
  replace r10 := r10.gr ba8 (by have := r10.lt; omega)
  replace q := q.grown ba8 q.size (by rintro k ⟨⟩; omega)
  replace qn := qn.grown ba8 qn.size (by rintro k ⟨⟩; omega)
  have ra6 := ra10
  clear ra10
  refine LL.nilS ?_
  refine CC.seq ?_
  refine CC.region ?_
  refine LL.val (R.load rfl rfl (I.ldNc (vs := [Value.slice (some { block := gs, off := 0 }) n cs, Value.int IntKind.u64 ↑left]) (RowL.cells ra6 rfl) (by rfl) (by rfl))) rfl rfl rfl ?_
  refine LL.call (R.call rfl rfl rfl) rfl rfl rfl (is_T _ _ _ _ _ (by first | assumption | omega)) ?_
  rintro e Wa13 ⟨rfl, ba12⟩
  refine ⟨_, rfl, ?_⟩
  have zba12 := ba12.size
  replace ba3 := ba3.trans (ba12.mono ba3.size)
  replace r4 := r4.up ba12
  replace r10 := r10.up ba12
  replace q := q.trans (ba12.mono q.size)
  replace qn := qn.trans (ba12.mono qn.size)
  replace ra6 := ra6.up ba12
  refine LL.val (R.not rfl rfl) rfl rfl rfl ?_
  refine LL.call (R.call rfl rfl rfl) rfl rfl rfl (refuse_F _ _) ?_
  rintro e W' ⟨rfl, rfl⟩
  refine ⟨_, rfl, ?_⟩
  refine LL.nilS ?_
  refine CC.seq ?_
  refine CC.region ?_
  refine LL.val (R.move rfl rfl) rfl rfl rfl ?_
  refine LL.val (R.load rfl rfl (I.ldNc (vs := [Value.slice (some { block := gs, off := 0 }) n cs, Value.int IntKind.u64 ↑left]) (RowL.cells ra6 rfl) (by rfl) (by rfl))) rfl rfl rfl ?_
  refine LL.val (R.func rfl rfl rfl) rfl rfl rfl ?_
  have C0 : Ch Wa13 w.heap.size gs cs ga5 g3 gs n left s [] := ⟨oF _ qn, ra6, ⟨_, r4, OwnsT.none _ _ _, fun g h => (by cases h)⟩, by have := q.size; have := ra6.lt; omega, by omega⟩
  refine LL.call (R.callV rfl rfl rfl eg) rfl rfl rfl (callsA (by simp) (hw Wa13 gs cs ga5 g3 gs q C0)) ?_
  rintro e W5 ⟨rfl, ob, C, hob, t5⟩
  refine ⟨_, rfl, ?_⟩
  replace r10 := r10.kept t5 ⟨r10.lt, by omega⟩
  replace q := t5.onB q (fun j hj => ⟨by have := q.size; omega, by omega⟩)
  have zt5 := t5.size
  clear r4 ra6 qn oF C0
  obtain ⟨_, _, ⟨vo, r4, oo, hoo⟩, _, hne⟩ := C
  obtain ⟨av, cv, rfl, hcv⟩ := (oo.reads pEnc).form rfl
  have zq := q.size
  have z10 := r10.lt
  have hn3 : ∀ g, (Value.slice av os.length cv).ownBlock = some g → g ≠ g3 ∧ g ≠ g9 := fun g h => by
    have := (hoo g h).1
    have := (hoo g h).2
    omega
  refine LL.nilS ?_
  refine CC.seq ?_
  refine CC.region ?_
  refine LL.val (R.load rfl rfl (I.ld1 rfl (RowL.cell r4 rfl))) rfl rfl rfl ?_
  refine LL.store rfl rfl rfl rfl r4 (by exact Nat.le_of_ble_eq_true rfl) rfl rfl rfl rfl ?_
  intro Wb2 rb3 bb1 zb4
  have hlbb1 := r4.lt
  replace rb3 : RowL Wb2 _ 49 [Value.slice av os.length cv] := rb3
  clear r4
  replace r10 := r10.gr bb1 (by have := r10.lt; omega)
  replace q := q.grown bb1 q.size (by rintro k ⟨⟩; omega)
  have r4 := rb3
  clear rb3
  refine LL.store rfl rfl rfl rfl r10 (by exact Nat.le_of_ble_eq_true rfl) rfl rfl rfl rfl ?_
  intro Wb6 rb7 bb5 zb8
  have hlbb5 := r10.lt
  replace rb7 : RowL Wb6 _ 30 [Value.int IntKind.i64 0] := rb7
  clear r10
  replace q := q.grown bb5 q.size (by rintro k ⟨⟩; omega)
  replace r4 := r4.gr bb5 (by have := r4.lt; omega)
  have r10 := rb7
  clear rb7
  refine LL.nilS ?_
  refine CC.ret ?_
  (refine EE.retD2 (by kernel_rfl) (chg1_calm g3 g9 _) rfl ?_; rintro e u' W6 ⟨hv, rfl, rfl⟩; exact ⟨hv, rfl, _, _, ⟨_, rfl, lv1 rfl (RowL.cell r4 rfl)⟩, ⟨_, rfl, lv1 rfl (RowL.cell r10 rfl)⟩, _, rfl, (oo.grown bb1 (fun e => (hn3 _ e).1 rfl)).grown bb5 (fun e => (hn3 _ e).2 rfl), q⟩)
theorem change_P (left n : Nat) (v : Value) (s : List Nat) (wf : FuncId) (lb : List Value) (w : World) (hv : ReadsT uE 1 w v s) (hn : s.length = n) (hrow : left ≠ 0 ∧ n % 2 = 0 ∧ 4 ≤ n ∧ n ≤ 56) (eg : entB Try.prog wf = true) (c : Nat) (hw : WorkP wf lb w.heap.size n left s c w) : Calls Try.prog 54 #[.int .u64 (left : Int), v, .func (.func wf) #[] lb.toArray] w fun e w' => e = .returned (.tuple #[.slice none 0 0, .int .i64 (c : Int)]) ∧ Below w.heap.size w w' := by
  have h80 : n ≤ 1048576 := by omega
  have q := Below.refl w.heap.size w
  have hvF : ∀ X, Below w.heap.size w X → ReadsT uE 1 X v s := fun X b => hv.up b
  clear hv
  refine X.fnP Try.func54 rfl (n := 24) rfl rfl ?_
  refine CC.seq ?_
  refine CC.region ?_
  refine LL.alloc ([Value.slice none 0 0]) rfl rfl rfl rfl rfl ?_
  intro W2 g3 eg3 r4 z5 b1
  replace q := q.trans (b1.mono q.size)
  have l6 := r4.lt
  refine LL.alloc ([Value.int IntKind.i64 0]) rfl rfl rfl rfl rfl ?_
  intro W8 g9 eg9 r10 z11 b7
  replace r4 := r4.up b7
  replace b1 := b1.trans (b7.mono b1.size)
  replace q := q.trans (b7.mono q.size)
  refine LL.nilS ?_
  refine CC.seq ?_
  refine CC.region ?_
  refine LL.val (R.func rfl rfl rfl) rfl rfl rfl ?_
  refine LL.defer rfl rfl rfl rfl rfl rfl ?_
  refine LL.nilS ?_
  refine CC.seq ?_
  refine CC.region ?_
  refine LL.val (R.move rfl rfl) rfl rfl rfl ?_
  refine LL.call (R.call rfl rfl rfl) rfl rfl rfl (uclone_any v s _ (hvF _ q) (by omega)) ?_
  rintro e W1 ⟨v', rfl, o, b1'⟩
  refine ⟨_, rfl, ?_⟩
  have zb1' := b1'.size
  have yq := q.size
  have l4 := r4.lt
  have l10 := r10.lt
  replace r4 := r4.up b1'
  replace r10 := r10.up b1'
  replace q := q.trans (b1'.mono q.size)
  clear b1 b7 b1'
  obtain ⟨gs, cs, rfl, hgs1, hgs2, hcs⟩ := ownsT_form o hn (by omega)
  have oF : ∀ X, Below W1.heap.size W1 X → OwnsT uE 1 X w.heap.size 25 (.slice (some ⟨gs, 0, none⟩) n cs) s := fun X b => (o.up b).lower (by omega)
  have qn := Below.refl W1.heap.size W1
  clear o
  refine LL.val (R.buildV rfl rfl (v := .agg #[Value.slice (some { block := gs, off := 0 }) n cs]) (fun _ => by kernel_rfl)) rfl rfl rfl ?_
  refine LL.val (R.move rfl rfl) rfl rfl rfl ?_
  refine LL.val (R.buildV rfl rfl (v := .agg #[Value.slice (some { block := gs, off := 0 }) n cs, Value.int IntKind.u64 ↑left]) (fun _ => by kernel_rfl)) rfl rfl rfl ?_
  have la1 := r4.lt
  have la2 := r10.lt
  refine LL.alloc ([Value.slice none 0 0, Value.int IntKind.u64 0]) rfl rfl rfl rfl rfl ?_
  intro Wa4 ga5 ega5 ra6 za7 ba3
  replace r4 := r4.up ba3
  replace r10 := r10.up ba3
  replace q := q.trans (ba3.mono q.size)
  replace qn := qn.trans (ba3.mono qn.size)
  refine LL.storeN (vs := [Value.slice (some { block := gs, off := 0 }) n cs, Value.int IntKind.u64 ↑left]) rfl rfl rfl rfl ra6 (by exact Nat.le_of_ble_eq_true rfl) (ones_of rfl) rfl rfl ?_
  intro Wa9 ra10 ba8 za11
  have hlba8 := ra6.lt
  replace ra10 : RowL Wa9 _ 96 [Value.slice (some { block := gs, off := 0 }) n cs, Value.int IntKind.u64 ↑left] := ra10
  clear ra6
  replace ba3 := ba3.grown ba8 ba3.size (by rintro k ⟨⟩; omega)
  replace r4 := r4.gr ba8 (by have := r4.lt; omega)
  replace r10 := r10.gr ba8 (by have := r10.lt; omega)
  replace q := q.grown ba8 q.size (by rintro k ⟨⟩; omega)
  replace qn := qn.grown ba8 qn.size (by rintro k ⟨⟩; omega)
  have ra6 := ra10
  clear ra10
  refine LL.nilS ?_
  refine CC.seq ?_
  refine CC.region ?_
  refine LL.val (R.load rfl rfl (I.ldNc (vs := [Value.slice (some { block := gs, off := 0 }) n cs, Value.int IntKind.u64 ↑left]) (RowL.cells ra6 rfl) (by rfl) (by rfl))) rfl rfl rfl ?_
  refine LL.call (R.call rfl rfl rfl) rfl rfl rfl (is_T _ _ _ _ _ (by first | assumption | omega)) ?_
  rintro e Wa13 ⟨rfl, ba12⟩
  refine ⟨_, rfl, ?_⟩
  have zba12 := ba12.size
  replace ba3 := ba3.trans (ba12.mono ba3.size)
  replace r4 := r4.up ba12
  replace r10 := r10.up ba12
  replace q := q.trans (ba12.mono q.size)
  replace qn := qn.trans (ba12.mono qn.size)
  replace ra6 := ra6.up ba12
  refine LL.val (R.not rfl rfl) rfl rfl rfl ?_
  refine LL.call (R.call rfl rfl rfl) rfl rfl rfl (refuse_F _ _) ?_
  rintro e W' ⟨rfl, rfl⟩
  refine ⟨_, rfl, ?_⟩
  refine LL.nilS ?_
  refine CC.seq ?_
  refine CC.region ?_
  refine LL.val (R.move rfl rfl) rfl rfl rfl ?_
  refine LL.val (R.load rfl rfl (I.ldNc (vs := [Value.slice (some { block := gs, off := 0 }) n cs, Value.int IntKind.u64 ↑left]) (RowL.cells ra6 rfl) (by rfl) (by rfl))) rfl rfl rfl ?_
  refine LL.val (R.func rfl rfl rfl) rfl rfl rfl ?_
  have C0 : Ch Wa13 w.heap.size gs cs ga5 g3 gs n left s [] := ⟨oF _ qn, ra6, ⟨_, r4, OwnsT.none _ _ _, fun g h => (by cases h)⟩, by have := q.size; have := ra6.lt; omega, by omega⟩
  refine LL.callP (R.callV rfl rfl rfl eg) rfl rfl (callsA (by simp) (hw Wa13 gs cs ga5 g3 gs q C0)) ?_
  rintro e W5 ⟨rfl, s2, os, ob, C, hob, t5⟩
  refine ⟨_, rfl, ?_⟩
  replace r10 := r10.kept t5 ⟨r10.lt, by omega⟩
  replace q := t5.onB q (fun j hj => ⟨by have := q.size; omega, by omega⟩)
  have zt5 := t5.size
  clear r4 ra6 qn oF C0
  obtain ⟨_, _, ⟨vo, r4, oo, hoo⟩, _, hne⟩ := C
  refine EE.thenP ?_
  (refine EE.panD2 (by kernel_rfl) (chg1_pan g3 g9 c _ _ _ r4 r10 (by omega)) rfl ?_; rintro e u' W6 ⟨hv, rfl, h1, h2, hk⟩; exact ⟨hv, rfl, _, _, ⟨_, rfl, lv1 rfl (RowL.cell h1 rfl)⟩, ⟨_, rfl, lv1 rfl (RowL.cell h2 rfl)⟩, rfl, hk.onB q (fun j hj => ⟨by have := q.size; omega, by omega⟩)⟩)
end Go.Proofs.Ytfplilpefhhpnaa
/- node: what the words of a head must be. -/
namespace Go.Proofs.Ytfplilpefhhpnaa
set_option linter.unusedVariables false
set_option linter.unusedSimpArgs false
open Go.RowKit Go.Shelf
set_option maxRecDepth 100000
set_option maxHeartbeats 8000000
section
variable {P : Program} {w : World} {t u : TypeId} {o : Oper} {x y : Operand} {n : Nat} {D : List Deferred} {M : Slots}
theorem R.andE {a b z : Nat} (ho : o.op = .binOp .and t x y u) (hx : evM M x = some (.int .u64 (a : Int))) (hy : evM M y = some (.int .u64 (b : Int))) (ha : a < 18446744073709551616) (hb : b < 18446744073709551616) (hz : a &&& b = z) : Runs P n D M o w (.value (.int .u64 (z : Int))) w := by
  subst hz
  exact R.andU ho hx hy ha hb
end
theorem and_hi {x : Nat} (h : x < 18446744073709551616) : x &&& 18446744073709551360 = x / 256 * 256 := by
  have e : x = x / 256 * 2 ^ 8 + x % 256 := by omega
  have h1 : (18446744073709551360 : Nat) = 72057594037927935 * 2 ^ 8 := by decide
  refine Nat.eq_of_testBit_eq fun i => ?_
  rw [Nat.testBit_and, h1, show x / 256 * 256 = x / 256 * 2 ^ 8 by omega, Nat.testBit_mul_two_pow, Nat.testBit_mul_two_pow]
  by_cases hi : 8 ≤ i
  · have e2 : Nat.testBit 72057594037927935 (i - 8) = decide (i - 8 < 56) := by
      rw [show (72057594037927935 : Nat) = 2 ^ 56 - 1 by decide, Nat.testBit_two_pow_sub_one]
    rw [e2]
    have e3 : (x / 256).testBit (i - 8) = x.testBit i := by
      rw [show (256 : Nat) = 2 ^ 8 by decide, Nat.testBit_div_two_pow]
      congr 1
      omega
    rw [e3]
    by_cases h56 : i - 8 < 56
    · simp [hi, h56]
    · have : x.testBit i = false := Nat.testBit_lt_two_pow (Nat.lt_of_lt_of_le h (by rw [show (18446744073709551616 : Nat) = 2 ^ 64 by decide]; exact Nat.pow_le_pow_right (by decide) (by omega)))
      simp [this]
  · simp [hi]
theorem blk_T (v : Nat) (w : World) (h : 1 ≤ v ∧ v < 2048) : Calls Try.prog 68 #[.int .u64 (v : Int)] w fun e w' => e = .returned (.bool true) ∧ w = w' := by
  refine X.fn Try.func68 rfl (n := 9) rfl rfl ?_
  refine CC.seq ?_
  refine CC.region ?_
  refine LL.val (R.assign rfl rfl) rfl rfl rfl ?_
  refine LL.nilS ?_
  refine CC.seq ?_
  refine CC.region ?_
  refine LL.val (R.move rfl rfl) rfl rfl rfl ?_
  refine LL.val (R.leT rfl rfl rfl (by omega)) rfl rfl rfl ?_
  refine LL.val (R.move rfl rfl) rfl rfl rfl ?_
  refine LL.val (R.move rfl rfl) rfl rfl rfl ?_
  refine LL.val (R.ltT rfl rfl rfl (by omega)) rfl rfl rfl ?_
  refine LL.val (R.pick rfl rfl rfl) rfl rfl rfl ?_
  refine LL.val (R.assign rfl rfl) rfl rfl rfl ?_
  refine LL.nilS ?_
  refine CC.ret ?_
  refine EE.ret _ rfl rfl ?_
  exact ⟨rfl, rfl⟩
theorem blk_F (v : Nat) (w : World) (h : v = 0 ∨ 2048 ≤ v) : Calls Try.prog 68 #[.int .u64 (v : Int)] w fun e w' => e = .returned (.bool false) ∧ w = w' := by
  by_cases h0 : v = 0
  · refine X.fn Try.func68 rfl (n := 9) rfl rfl ?_
    refine CC.seq ?_
    refine CC.region ?_
    refine LL.val (R.assign rfl rfl) rfl rfl rfl ?_
    refine LL.nilS ?_
    refine CC.seq ?_
    refine CC.region ?_
    refine LL.val (R.move rfl rfl) rfl rfl rfl ?_
    refine LL.val (R.leF rfl rfl rfl (by omega)) rfl rfl rfl ?_
    refine LL.val (R.move rfl rfl) rfl rfl rfl ?_
    refine LL.skip rfl rfl ?_
    refine LL.skip rfl rfl ?_
    refine LL.val (R.pick rfl rfl rfl) rfl rfl rfl ?_
    refine LL.val (R.assign rfl rfl) rfl rfl rfl ?_
    refine LL.nilS ?_
    refine CC.ret ?_
    refine EE.ret _ rfl rfl ?_
    exact ⟨rfl, rfl⟩
  · refine X.fn Try.func68 rfl (n := 9) rfl rfl ?_
    refine CC.seq ?_
    refine CC.region ?_
    refine LL.val (R.assign rfl rfl) rfl rfl rfl ?_
    refine LL.nilS ?_
    refine CC.seq ?_
    refine CC.region ?_
    refine LL.val (R.move rfl rfl) rfl rfl rfl ?_
    refine LL.val (R.leT rfl rfl rfl (by omega)) rfl rfl rfl ?_
    refine LL.val (R.move rfl rfl) rfl rfl rfl ?_
    refine LL.val (R.move rfl rfl) rfl rfl rfl ?_
    refine LL.val (R.ltF rfl rfl rfl (by omega)) rfl rfl rfl ?_
    refine LL.val (R.pick rfl rfl rfl) rfl rfl rfl ?_
    refine LL.val (R.assign rfl rfl) rfl rfl rfl ?_
    refine LL.nilS ?_
    refine CC.ret ?_
    refine EE.ret _ rfl rfl ?_
    exact ⟨rfl, rfl⟩
/-- What the rules say. -/
def ru1 (v l : Nat) : Prop := v / 256 * 256 = 7522529147838689024 ∧ l ≤ 12
def ru2 (v : Nat) : Prop := v ≤ 2047
def ru3 (v l : Nat) : Prop := (l = 0 ∧ v = 9223372036854775808) ∨ (0 < l ∧ 1 ≤ v ∧ v ≤ 2047)
theorem ru1_any (v l : Nat) (b : Bool) (hb : b = true ↔ ru1 v l) (hv : v < 18446744073709551616) (hl : l < 256) (w : World) : Calls Try.prog 66 #[.int .u64 (v : Int), .int .i64 (l : Int)] w fun e w' => e = .returned (.bool b) ∧ Below w.heap.size w w' := by
  have q := Below.refl w.heap.size w
  obtain ⟨z, hz⟩ : ∃ z, v / 256 * 256 = z := ⟨_, rfl⟩
  have ha : v &&& 18446744073709551360 = z := (and_hi hv).trans hz
  unfold ru1 at hb
  rw [hz] at hb
  have hz64 : z < 18446744073709551616 := by omega
  cases b with
  | true =>
    have h := hb.1 rfl
    refine X.fn Try.func66 rfl (n := 12) rfl rfl ?_
    refine CC.seq ?_
    refine CC.region ?_
    refine LL.val (R.assign rfl rfl) rfl rfl rfl ?_
    refine LL.nilS ?_
    refine CC.seq ?_
    refine CC.region ?_
    refine LL.val (R.move rfl rfl) rfl rfl rfl ?_
    refine LL.val (R.andE (a := v) (b := 18446744073709551360) (z := z) rfl rfl rfl hv (by decide) ha) rfl rfl rfl ?_
    refine LL.val (R.eqT rfl rfl rfl (by omega)) rfl rfl rfl ?_
    refine LL.val (R.move rfl rfl) rfl rfl rfl ?_
    refine LL.val (R.move rfl rfl) rfl rfl rfl ?_
    refine LL.val (R.leT rfl rfl rfl (by omega)) rfl rfl rfl ?_
    refine LL.val (R.pick rfl rfl rfl) rfl rfl rfl ?_
    refine LL.val (R.assign rfl rfl) rfl rfl rfl ?_
    refine LL.nilS ?_
    refine CC.ret ?_
    refine EE.ret _ rfl rfl ?_
    exact ⟨rfl, q⟩
  | false =>
    have h : ¬(z = 7522529147838689024 ∧ l ≤ 12) := fun h => by cases hb.2 h
    clear hb
    by_cases h1 : z = 7522529147838689024
    · have h2 : 12 < l := by omega
      clear h
      refine X.fn Try.func66 rfl (n := 12) rfl rfl ?_
      refine CC.seq ?_
      refine CC.region ?_
      refine LL.val (R.assign rfl rfl) rfl rfl rfl ?_
      refine LL.nilS ?_
      refine CC.seq ?_
      refine CC.region ?_
      refine LL.val (R.move rfl rfl) rfl rfl rfl ?_
      refine LL.val (R.andE (a := v) (b := 18446744073709551360) (z := z) rfl rfl rfl hv (by decide) ha) rfl rfl rfl ?_
      refine LL.val (R.eqT rfl rfl rfl (by omega)) rfl rfl rfl ?_
      refine LL.val (R.move rfl rfl) rfl rfl rfl ?_
      refine LL.val (R.move rfl rfl) rfl rfl rfl ?_
      refine LL.val (R.leF rfl rfl rfl (by omega)) rfl rfl rfl ?_
      refine LL.val (R.pick rfl rfl rfl) rfl rfl rfl ?_
      refine LL.val (R.assign rfl rfl) rfl rfl rfl ?_
      refine LL.nilS ?_
      refine CC.ret ?_
      refine EE.ret _ rfl rfl ?_
      exact ⟨rfl, q⟩
    · clear h
      refine X.fn Try.func66 rfl (n := 12) rfl rfl ?_
      refine CC.seq ?_
      refine CC.region ?_
      refine LL.val (R.assign rfl rfl) rfl rfl rfl ?_
      refine LL.nilS ?_
      refine CC.seq ?_
      refine CC.region ?_
      refine LL.val (R.move rfl rfl) rfl rfl rfl ?_
      refine LL.val (R.andE (a := v) (b := 18446744073709551360) (z := z) rfl rfl rfl hv (by decide) ha) rfl rfl rfl ?_
      refine LL.val (R.eqF rfl rfl rfl (by omega)) rfl rfl rfl ?_
      refine LL.val (R.move rfl rfl) rfl rfl rfl ?_
      refine LL.skip rfl rfl ?_
      refine LL.skip rfl rfl ?_
      refine LL.val (R.pick rfl rfl rfl) rfl rfl rfl ?_
      refine LL.val (R.assign rfl rfl) rfl rfl rfl ?_
      refine LL.nilS ?_
      refine CC.ret ?_
      refine EE.ret _ rfl rfl ?_
      exact ⟨rfl, q⟩
theorem ru2_any (v l : Nat) (b : Bool) (hb : b = true ↔ ru2 v) (w : World) : Calls Try.prog 67 #[.int .u64 (v : Int), .int .i64 (l : Int)] w fun e w' => e = .returned (.bool b) ∧ Below w.heap.size w w' := by
  have q := Below.refl w.heap.size w
  unfold ru2 at hb
  cases b with
  | true =>
    have h := hb.1 rfl
    clear hb
    by_cases h0 : v = 0
    · refine X.fn Try.func67 rfl (n := 11) rfl rfl ?_
      refine CC.seq ?_
      refine CC.region ?_
      refine LL.val (R.assign rfl rfl) rfl rfl rfl ?_
      refine LL.nilS ?_
      refine CC.seq ?_
      refine CC.region ?_
      refine LL.val (R.move rfl rfl) rfl rfl rfl ?_
      refine LL.val (R.eqT rfl rfl rfl (by omega)) rfl rfl rfl ?_
      refine LL.val (R.move rfl rfl) rfl rfl rfl ?_
      refine LL.skip rfl rfl ?_
      refine LL.skip rfl rfl ?_
      refine LL.val (R.pick rfl rfl rfl) rfl rfl rfl ?_
      refine LL.val (R.assign rfl rfl) rfl rfl rfl ?_
      refine LL.nilS ?_
      refine CC.ret ?_
      refine EE.ret _ rfl rfl ?_
      exact ⟨rfl, q⟩
    · refine X.fn Try.func67 rfl (n := 11) rfl rfl ?_
      refine CC.seq ?_
      refine CC.region ?_
      refine LL.val (R.assign rfl rfl) rfl rfl rfl ?_
      refine LL.nilS ?_
      refine CC.seq ?_
      refine CC.region ?_
      refine LL.val (R.move rfl rfl) rfl rfl rfl ?_
      refine LL.val (R.eqF rfl rfl rfl (by omega)) rfl rfl rfl ?_
      refine LL.val (R.move rfl rfl) rfl rfl rfl ?_
      refine LL.val (R.move rfl rfl) rfl rfl rfl ?_
      refine LL.call (R.call rfl rfl rfl) rfl rfl rfl (blk_T _ _ (by first | assumption | omega)) ?_
      rintro e W' ⟨rfl, rfl⟩
      refine ⟨_, rfl, ?_⟩
      refine LL.val (R.pick rfl rfl rfl) rfl rfl rfl ?_
      refine LL.val (R.assign rfl rfl) rfl rfl rfl ?_
      refine LL.nilS ?_
      refine CC.ret ?_
      refine EE.ret _ rfl rfl ?_
      exact ⟨rfl, q⟩
  | false =>
    have h : ¬(v ≤ 2047) := fun h => by cases hb.2 h
    clear hb
    refine X.fn Try.func67 rfl (n := 11) rfl rfl ?_
    refine CC.seq ?_
    refine CC.region ?_
    refine LL.val (R.assign rfl rfl) rfl rfl rfl ?_
    refine LL.nilS ?_
    refine CC.seq ?_
    refine CC.region ?_
    refine LL.val (R.move rfl rfl) rfl rfl rfl ?_
    refine LL.val (R.eqF rfl rfl rfl (by omega)) rfl rfl rfl ?_
    refine LL.val (R.move rfl rfl) rfl rfl rfl ?_
    refine LL.val (R.move rfl rfl) rfl rfl rfl ?_
    refine LL.call (R.call rfl rfl rfl) rfl rfl rfl (blk_F _ _ (by first | assumption | omega)) ?_
    rintro e W' ⟨rfl, rfl⟩
    refine ⟨_, rfl, ?_⟩
    refine LL.val (R.pick rfl rfl rfl) rfl rfl rfl ?_
    refine LL.val (R.assign rfl rfl) rfl rfl rfl ?_
    refine LL.nilS ?_
    refine CC.ret ?_
    refine EE.ret _ rfl rfl ?_
    exact ⟨rfl, q⟩
theorem ru3_any (v l : Nat) (b : Bool) (hb : b = true ↔ ru3 v l) (w : World) : Calls Try.prog 69 #[.int .u64 (v : Int), .int .i64 (l : Int)] w fun e w' => e = .returned (.bool b) ∧ Below w.heap.size w w' := by
  have q := Below.refl w.heap.size w
  unfold ru3 at hb
  by_cases hl : l = 0
  · subst hl
    by_cases hv : v = 9223372036854775808
    · obtain rfl : b = true := hb.2 (.inl ⟨rfl, hv⟩)
      clear hb
      refine X.fn Try.func69 rfl (n := 19) rfl rfl ?_
      refine CC.seq ?_
      refine CC.region ?_
      refine LL.val (R.assign rfl rfl) rfl rfl rfl ?_
      refine LL.nilS ?_
      refine CC.seq ?_
      refine CC.region ?_
      refine LL.val (R.move rfl rfl) rfl rfl rfl ?_
      refine LL.val (R.eqT rfl rfl rfl (by omega)) rfl rfl rfl ?_
      refine LL.val (R.move rfl rfl) rfl rfl rfl ?_
      refine LL.val (R.move rfl rfl) rfl rfl rfl ?_
      refine LL.val (R.eqT rfl rfl rfl (by omega)) rfl rfl rfl ?_
      refine LL.val (R.pick rfl rfl rfl) rfl rfl rfl ?_
      refine LL.val (R.move rfl rfl) rfl rfl rfl ?_
      refine LL.skip rfl rfl ?_
      refine LL.skip rfl rfl ?_
      refine LL.skip rfl rfl ?_
      refine LL.skip rfl rfl ?_
      refine LL.skip rfl rfl ?_
      refine LL.skip rfl rfl ?_
      refine LL.val (R.pick rfl rfl rfl) rfl rfl rfl ?_
      refine LL.val (R.assign rfl rfl) rfl rfl rfl ?_
      refine LL.nilS ?_
      refine CC.ret ?_
      refine EE.ret _ rfl rfl ?_
      exact ⟨rfl, q⟩
    · obtain rfl : b = false := by
        cases b with
        | false => rfl
        | true => rcases hb.1 rfl with h | h <;> omega
      clear hb
      refine X.fn Try.func69 rfl (n := 19) rfl rfl ?_
      refine CC.seq ?_
      refine CC.region ?_
      refine LL.val (R.assign rfl rfl) rfl rfl rfl ?_
      refine LL.nilS ?_
      refine CC.seq ?_
      refine CC.region ?_
      refine LL.val (R.move rfl rfl) rfl rfl rfl ?_
      refine LL.val (R.eqT rfl rfl rfl (by omega)) rfl rfl rfl ?_
      refine LL.val (R.move rfl rfl) rfl rfl rfl ?_
      refine LL.val (R.move rfl rfl) rfl rfl rfl ?_
      refine LL.val (R.eqF rfl rfl rfl (by omega)) rfl rfl rfl ?_
      refine LL.val (R.pick rfl rfl rfl) rfl rfl rfl ?_
      refine LL.val (R.move rfl rfl) rfl rfl rfl ?_
      refine LL.val (R.move rfl rfl) rfl rfl rfl ?_
      refine LL.val (R.gtF rfl rfl rfl (by omega)) rfl rfl rfl ?_
      refine LL.val (R.move rfl rfl) rfl rfl rfl ?_
      refine LL.skip rfl rfl ?_
      refine LL.skip rfl rfl ?_
      refine LL.val (R.pick rfl rfl rfl) rfl rfl rfl ?_
      refine LL.val (R.pick rfl rfl rfl) rfl rfl rfl ?_
      refine LL.val (R.assign rfl rfl) rfl rfl rfl ?_
      refine LL.nilS ?_
      refine CC.ret ?_
      refine EE.ret _ rfl rfl ?_
      exact ⟨rfl, q⟩
  · by_cases hv : 1 ≤ v ∧ v < 2048
    · obtain rfl : b = true := hb.2 (.inr (by omega))
      clear hb
      refine X.fn Try.func69 rfl (n := 19) rfl rfl ?_
      refine CC.seq ?_
      refine CC.region ?_
      refine LL.val (R.assign rfl rfl) rfl rfl rfl ?_
      refine LL.nilS ?_
      refine CC.seq ?_
      refine CC.region ?_
      refine LL.val (R.move rfl rfl) rfl rfl rfl ?_
      refine LL.val (R.eqF rfl rfl rfl (by omega)) rfl rfl rfl ?_
      refine LL.val (R.move rfl rfl) rfl rfl rfl ?_
      refine LL.skip rfl rfl ?_
      refine LL.skip rfl rfl ?_
      refine LL.val (R.pick rfl rfl rfl) rfl rfl rfl ?_
      refine LL.val (R.move rfl rfl) rfl rfl rfl ?_
      refine LL.val (R.move rfl rfl) rfl rfl rfl ?_
      refine LL.val (R.gtT rfl rfl rfl (by omega)) rfl rfl rfl ?_
      refine LL.val (R.move rfl rfl) rfl rfl rfl ?_
      refine LL.val (R.move rfl rfl) rfl rfl rfl ?_
      refine LL.call (R.call rfl rfl rfl) rfl rfl rfl (blk_T _ _ (by first | assumption | omega)) ?_
      rintro e W' ⟨rfl, rfl⟩
      refine ⟨_, rfl, ?_⟩
      refine LL.val (R.pick rfl rfl rfl) rfl rfl rfl ?_
      refine LL.val (R.pick rfl rfl rfl) rfl rfl rfl ?_
      refine LL.val (R.assign rfl rfl) rfl rfl rfl ?_
      refine LL.nilS ?_
      refine CC.ret ?_
      refine EE.ret _ rfl rfl ?_
      exact ⟨rfl, q⟩
    · have hv' : v = 0 ∨ 2048 ≤ v := by omega
      obtain rfl : b = false := by
        cases b with
        | false => rfl
        | true => rcases hb.1 rfl with h | h <;> omega
      clear hb hv
      refine X.fn Try.func69 rfl (n := 19) rfl rfl ?_
      refine CC.seq ?_
      refine CC.region ?_
      refine LL.val (R.assign rfl rfl) rfl rfl rfl ?_
      refine LL.nilS ?_
      refine CC.seq ?_
      refine CC.region ?_
      refine LL.val (R.move rfl rfl) rfl rfl rfl ?_
      refine LL.val (R.eqF rfl rfl rfl (by omega)) rfl rfl rfl ?_
      refine LL.val (R.move rfl rfl) rfl rfl rfl ?_
      refine LL.skip rfl rfl ?_
      refine LL.skip rfl rfl ?_
      refine LL.val (R.pick rfl rfl rfl) rfl rfl rfl ?_
      refine LL.val (R.move rfl rfl) rfl rfl rfl ?_
      refine LL.val (R.move rfl rfl) rfl rfl rfl ?_
      refine LL.val (R.gtT rfl rfl rfl (by omega)) rfl rfl rfl ?_
      refine LL.val (R.move rfl rfl) rfl rfl rfl ?_
      refine LL.val (R.move rfl rfl) rfl rfl rfl ?_
      refine LL.call (R.call rfl rfl rfl) rfl rfl rfl (blk_F _ _ (by first | assumption | omega)) ?_
      rintro e W' ⟨rfl, rfl⟩
      refine ⟨_, rfl, ?_⟩
      refine LL.val (R.pick rfl rfl rfl) rfl rfl rfl ?_
      refine LL.val (R.pick rfl rfl rfl) rfl rfl rfl ?_
      refine LL.val (R.assign rfl rfl) rfl rfl rfl ?_
      refine LL.nilS ?_
      refine CC.ret ?_
      refine EE.ret _ rfl rfl ?_
      exact ⟨rfl, q⟩
theorem ru4_any (v l : Nat) (b : Bool) (hb : b = true ↔ v ≤ 2) (w : World) : Calls Try.prog 70 #[.int .u64 (v : Int), .int .i64 (l : Int)] w fun e w' => e = .returned (.bool b) ∧ Below w.heap.size w w' := by
  have q := Below.refl w.heap.size w
  cases b with
  | true =>
    have h := hb.1 rfl
    refine X.fn Try.func70 rfl (n := 7) rfl rfl ?_
    refine CC.seq ?_
    refine CC.region ?_
    refine LL.val (R.assign rfl rfl) rfl rfl rfl ?_
    refine LL.nilS ?_
    refine CC.seq ?_
    refine CC.region ?_
    refine LL.val (R.move rfl rfl) rfl rfl rfl ?_
    refine LL.val (R.leT rfl rfl rfl (by omega)) rfl rfl rfl ?_
    refine LL.val (R.assign rfl rfl) rfl rfl rfl ?_
    refine LL.nilS ?_
    refine CC.ret ?_
    refine EE.ret _ rfl rfl ?_
    exact ⟨rfl, q⟩
  | false =>
    have h : ¬(v ≤ 2) := fun h => by cases hb.2 h
    refine X.fn Try.func70 rfl (n := 7) rfl rfl ?_
    refine CC.seq ?_
    refine CC.region ?_
    refine LL.val (R.assign rfl rfl) rfl rfl rfl ?_
    refine LL.nilS ?_
    refine CC.seq ?_
    refine CC.region ?_
    refine LL.val (R.move rfl rfl) rfl rfl rfl ?_
    refine LL.val (R.leF rfl rfl rfl (by omega)) rfl rfl rfl ?_
    refine LL.val (R.assign rfl rfl) rfl rfl rfl ?_
    refine LL.nilS ?_
    refine CC.ret ?_
    refine EE.ret _ rfl rfl ?_
    exact ⟨rfl, q⟩
theorem ru5_any (v l : Nat) (b : Bool) (hb : b = true ↔ v = 0) (w : World) : Calls Try.prog 71 #[.int .u64 (v : Int), .int .i64 (l : Int)] w fun e w' => e = .returned (.bool b) ∧ Below w.heap.size w w' := by
  have q := Below.refl w.heap.size w
  cases b with
  | true =>
    have h := hb.1 rfl
    refine X.fn Try.func71 rfl (n := 7) rfl rfl ?_
    refine CC.seq ?_
    refine CC.region ?_
    refine LL.val (R.assign rfl rfl) rfl rfl rfl ?_
    refine LL.nilS ?_
    refine CC.seq ?_
    refine CC.region ?_
    refine LL.val (R.move rfl rfl) rfl rfl rfl ?_
    refine LL.val (R.eqT rfl rfl rfl (by omega)) rfl rfl rfl ?_
    refine LL.val (R.assign rfl rfl) rfl rfl rfl ?_
    refine LL.nilS ?_
    refine CC.ret ?_
    refine EE.ret _ rfl rfl ?_
    exact ⟨rfl, q⟩
  | false =>
    have h : ¬(v = 0) := fun h => by cases hb.2 h
    refine X.fn Try.func71 rfl (n := 7) rfl rfl ?_
    refine CC.seq ?_
    refine CC.region ?_
    refine LL.val (R.assign rfl rfl) rfl rfl rfl ?_
    refine LL.nilS ?_
    refine CC.seq ?_
    refine CC.region ?_
    refine LL.val (R.move rfl rfl) rfl rfl rfl ?_
    refine LL.val (R.eqF rfl rfl rfl (by omega)) rfl rfl rfl ?_
    refine LL.val (R.assign rfl rfl) rfl rfl rfl ?_
    refine LL.nilS ?_
    refine CC.ret ?_
    refine EE.ret _ rfl rfl ?_
    exact ⟨rfl, q⟩
end Go.Proofs.Ytfplilpefhhpnaa
/- slots: stores applied; a change under way, since its call; shift. -/
namespace Go.Proofs.Ytfplilpefhhpnaa
set_option linter.unusedVariables false
set_option linter.unusedSimpArgs false
open Go.RowKit Go.Shelf
/-- Words to which stores are applied. -/
def applyS (s : List Nat) (os : List Pt) : List Nat := os.foldl (fun s p => s.set p.1.toNat p.2) s
theorem applyS_app (s : List Nat) (a b : List Pt) : applyS s (a ++ b) = applyS (applyS s a) b := List.foldl_append
theorem applyS_one (s : List Nat) (j v : Nat) : applyS s [((j : Int), v)] = s.set j v := by simp [applyS]
theorem applyS_ne {s : List Nat} {os : List Pt} {i : Nat} (h : ∀ p ∈ os, p.1.toNat ≠ i) : (applyS s os)[i]? = s[i]? := by
  induction os generalizing s with
  | nil => rfl
  | cons p os ih =>
    rw [show p :: os = [p] ++ os from rfl, applyS_app, ih (fun q hq => h q (List.mem_cons_of_mem _ hq))]
    show (s.set p.1.toNat p.2)[i]? = _
    rw [List.getElem?_set_ne (h p (List.mem_cons_self ..))]
theorem keyN_ne {s : List Nat} {os : List Pt} {j : Nat} (h : ∀ p ∈ os, p.1.toNat ≠ 2 * j) : keyN (applyS s os) j = keyN s j := by unfold keyN; rw [applyS_ne h]
theorem ptrN_ne {s : List Nat} {os : List Pt} {j : Nat} (h : ∀ p ∈ os, p.1.toNat ≠ 2 * j + 1) : ptrN (applyS s os) j = ptrN s j := by unfold ptrN; rw [applyS_ne h]
/-- A change under way in a call that began at W0. -/
structure Cs (W0 : World) (A gs cs gr go ob0 n left : Nat) (s : List Nat) (os : List Pt) (ob : Nat) (W : World) : Prop where
  ch : Ch W A gs cs gr go ob n left s os
  ob : ob = ob0 ∨ W0.heap.size ≤ ob
  kp : Kept (KS W0 gs go ob0) W0 W
section
variable {W0 W W' : World} {A gs cs gr go ob0 ob ob2 n left : Nat} {s s2 : List Nat} {os os2 : List Pt}
theorem Cs.up (C : Cs W0 A gs cs gr go ob0 n left s os ob W) (b : Below W.heap.size W W') : Cs W0 A gs cs gr go ob0 n left s os ob W' :=
  ⟨C.ch.up b, C.ob, C.kp.trans (bkept b fun k hk => by have := hk.1; have := C.kp.size; omega)⟩
theorem Cs.refl (C : Ch W A gs cs gr go ob n left s os) : Cs W A gs cs gr go ob n left s os ob W := ⟨C, .inl rfl, Kept.refl _ _⟩
theorem Cs.then (C : Cs W0 A gs cs gr go ob0 n left s os ob W) (C2 : Ch W' A gs cs gr go ob2 n left s2 os2) (h : ob2 = ob ∨ W.heap.size ≤ ob2) (t : Kept (KS W gs go ob) W W') : Cs W0 A gs cs gr go ob0 n left s2 os2 ob2 W' :=
  ⟨C2, by have := C.ob; have := C.kp.size; omega, C.kp.trans (t.less fun k hk => ⟨by have := hk.1; have := C.kp.size; omega, by have := hk.1; have := C.ob; omega⟩)⟩
theorem Cs.p (C : Cs W0 A gs cs gr go ob0 n left s os ob W) : ChP W0 A gs cs gr go ob0 n left s os W := ⟨ob, C.ch, C.ob, C.kp⟩
theorem Cs.os_eq (C : Cs W0 A gs cs gr go ob0 n left s os ob W) (h1 : s = s2) (h2 : os = os2) : Cs W0 A gs cs gr go ob0 n left s2 os2 ob W := by subst h1; subst h2; exact C
abbrev sV (gs n cs : Nat) : Value := .slice (some ⟨gs, 0, none⟩) n cs
theorem key_c (C : Cs W0 A gs cs gr go ob0 n left s os ob W) (hn : n ≤ 1048576) {j : Nat} (X : World) (b : Below W.heap.size W X) (hj : 2 * j < n) : Calls Try.prog 61 #[celV (sV gs n cs), .int .i64 (j : Int)] X fun e w' => e = .returned (.int .u64 (keyN s j : Int)) ∧ Below X.heap.size X w' := key_any _ n cs j _ s X (C.ch.reads.up b) C.ch.len hn (keyN_at (by rw [C.ch.len]; exact hj))
theorem ptr_c (C : Cs W0 A gs cs gr go ob0 n left s os ob W) (hn : n ≤ 1048576) {j : Nat} (X : World) (b : Below W.heap.size W X) (hj : 2 * j + 1 < n) : Calls Try.prog 63 #[celV (sV gs n cs), .int .i64 (j : Int)] X fun e w' => e = .returned (.int .u64 (ptrN s j : Int)) ∧ Below X.heap.size X w' := ptr_any _ n cs j _ s X (C.ch.reads.up b) C.ch.len hn (ptrN_at (by rw [C.ch.len]; exact hj))
theorem ahead_c (C : Cs W0 A gs cs gr go ob0 n left s os ob W) (hn : n ≤ 1048576) {j : Nat} (X : World) (b : Below W.heap.size W X) (hj : j ≤ n / 2) : Calls Try.prog 65 #[rowV (sV gs n cs) left, .int .i64 (j : Int)] X fun e w' => e = .returned (.int .u64 (aheadN left s j : Int)) ∧ Below X.heap.size X w' := ahead_any _ n cs left j s X (C.ch.reads.up b) C.ch.len hn hj
theorem over_c (C : Cs W0 A gs cs gr go ob0 n left s os ob W) (hn : n ≤ 1048576) (X : World) (b : Below W.heap.size W X) : Calls Try.prog 59 #[rowV (sV gs n cs) left] X fun e w' => e = .returned (.int .i64 (overN s : Int)) ∧ Below X.heap.size X w' := over_any _ n cs left s X (C.ch.reads.up b) C.ch.len hn
end
set_option maxRecDepth 100000
set_option maxHeartbeats 4000000
end Go.Proofs.Ytfplilpefhhpnaa
/- slots: what the changes do. -/
namespace Go.Proofs.Ytfplilpefhhpnaa
set_option linter.unusedVariables false
set_option linter.unusedSimpArgs false
open Go.RowKit Go.Shelf
theorem Stl.rise {left : Nat} {s : List Nat} {n : Nat} (h : Stl left s n) : ∀ (i j : Nat), i < j → j < n → keyN s i < keyN s j := fun i j hij hj => by
  induction j with
  | zero => omega
  | succ j ih =>
    have := h.up j hj
    by_cases e : i = j
    · subst e; exact this
    · have := ih (by omega) (by omega)
      omega
theorem findN_uniq {l : List (Nat × Pr)} {key : Nat} {x : Nat × Pr} (hx : x ∈ l) (hk : x.2.1 = key) (hu : ∀ y ∈ l, y.2.1 = key → y = x) : findN l key = (x.1, true) := by
  unfold findN
  cases h : l.find? fun x => x.2.1 == key with
  | none => exact absurd hk (by simpa using List.find?_eq_none.1 h x hx)
  | some y =>
    have h1 := List.mem_of_find?_eq_some h
    have h2 : y.2.1 = key := by simpa using List.find?_some h
    rw [hu y h1 h2]
theorem find_stlT {left n key i : Nat} {s : List Nat} (h : Stl left s n) (hi : i < n) (hk : keyN s i = key) : findN (pairS left s) key = (i, true) := by
  refine findN_uniq (x := (i, prA s i)) (by rw [h.pairS]; exact List.mem_map.2 ⟨i, List.mem_range.2 hi, rfl⟩) hk fun y hy hyk => ?_
  rw [h.pairS] at hy
  obtain ⟨j, hj, rfl⟩ := List.mem_map.1 hy
  have hj := List.mem_range.1 hj
  have hyk : keyN s j = key := hyk
  rcases Nat.lt_trichotomy i j with e | rfl | e
  · have := h.rise i j e hj; omega
  · rfl
  · have := h.rise j i e hi; omega
theorem find_stlF {left n key : Nat} {s : List Nat} (h : Stl left s n) (hk : ∀ j, j < n → keyN s j ≠ key) : findN (pairS left s) key = (0, false) := findN_none fun y hy => by
  rw [h.pairS] at hy
  obtain ⟨j, hj, rfl⟩ := List.mem_map.1 hy
  exact hk j (List.mem_range.1 hj)
section
variable {W0 W W' : World} {A gs cs gr go ob0 ob ob2 n left : Nat} {s s2 : List Nat} {os os2 : List Pt}
theorem find_c (C : Cs W0 A gs cs gr go ob0 n left s os ob W) (hn : n ≤ 1048576) {key i : Nat} {b : Bool} (hf : findN (pairS left s) key = (i, b)) (X : World) (hb : Below W.heap.size W X) : Calls Try.prog 57 #[rowV (sV gs n cs) left, .int .u64 (key : Int)] X fun e w' => e = .returned (.tuple #[.int .i64 (i : Int), .bool b]) ∧ Below X.heap.size X w' :=
  (find_any _ n cs left key s X (C.ch.reads.up hb) C.ch.len hn).mono fun e w' h => by rw [hf] at h; exact h
theorem rp_cT (C : Cs W0 A gs cs gr go ob0 n left s os ob W) (hn : n ≤ 1048576) {ptr m : Nat} (hp : ptr ≠ 0 ∧ ptr ≠ left) (hs : Stl left s m) (hne : ∀ j, j < m → ptrN s j ≠ ptr) : Calls Try.prog 56 #[rowV (sV gs n cs) left, .int .u64 (ptr : Int)] W fun e w' => e = .returned (.tuple #[]) ∧ Below W.heap.size W w' :=
  rp_T _ n cs left ptr s W C.ch.reads C.ch.len hn hp (setP_iff.2 ⟨m, hs⟩) fun x hx => by
    rw [hs.pairS] at hx
    obtain ⟨j, hj, rfl⟩ := List.mem_map.1 hx
    exact hne j (List.mem_range.1 hj)
/-- Why a pointer may not come in. -/
def rpE (left : Nat) (s : List Nat) (p c : Nat) : Prop := (c = 2 ∧ (p = 0 ∨ p = left)) ∨ (p ≠ 0 ∧ p ≠ left ∧ ((c = 190 ∧ ¬ setP left s) ∨ (c = 2 ∧ ∃ m, Stl left s m ∧ ∃ j, j < m ∧ ptrN s j = p)))
theorem rp_cE (C : Cs W0 A gs cs gr go ob0 n left s os ob W) (hn : n ≤ 1048576) {p c : Nat} (h : rpE left s p c) : Calls Try.prog 56 #[rowV (sV gs n cs) left, .int .u64 (p : Int)] W fun e w' => e = .panicked (chain1 (refV c)) ∧ Below W.heap.size W w' := by
  rcases h with ⟨rfl, h⟩ | ⟨h1, h2, (⟨rfl, h⟩ | ⟨rfl, m, hs, j, hj, hp⟩)⟩
  · exact rp_A _ n cs left p s W h
  · exact rp_S _ n cs left p s W C.ch.reads C.ch.len hn ⟨h1, h2⟩ h
  · exact rp_P _ n cs left p s W C.ch.reads C.ch.len hn ⟨h1, h2⟩ (setP_iff.2 ⟨m, hs⟩) ⟨(j, prA s j), by rw [hs.pairS]; exact List.mem_map.2 ⟨j, List.mem_range.2 hj, rfl⟩, hp⟩
end
set_option maxRecDepth 100000
set_option maxHeartbeats 4000000
end Go.Proofs.Ytfplilpefhhpnaa
/- slots: Take, Put: what the changes do. -/
namespace Go.Proofs.Ytfplilpefhhpnaa
set_option linter.unusedVariables false
set_option linter.unusedSimpArgs false
open Go.RowKit Go.Shelf
set_option maxRecDepth 100000
set_option maxHeartbeats 4000000
/-- Put's stores that make room. -/
def upK (s : List Nat) (n : Nat) : Nat → List Pt
  | 0 => []
  | t + 1 => upK s n t ++ [(((2 * (n - 1 - t + 1) + 1 : Nat) : Int), ptrN s (n - 1 - t)), (((2 * (n - 1 - t + 1) : Nat) : Int), keyN s (n - 1 - t))]
theorem upK_len (s : List Nat) (n : Nat) : ∀ t, (upK s n t).length = 2 * t
  | 0 => rfl
  | t + 1 => by unfold upK; rw [List.length_append, upK_len s n t]; simp; omega
theorem upK_ge {s : List Nat} {n : Nat} : ∀ {t : Nat}, t ≤ n → ∀ p ∈ upK s n t, 2 * (n - t) + 2 ≤ p.1.toNat
  | 0, _, p, h => by simp [upK] at h
  | t + 1, ht, p, h => by
    unfold upK at h
    rcases List.mem_append.1 h with h | h
    · have := upK_ge (by omega) p h
      omega
    · simp only [List.mem_cons, List.not_mem_nil, or_false] at h
      rcases h with rfl | rfl <;> simp only [Int.toNat_natCast] <;> omega
def putA (s : List Nat) (m t : Nat) : List Pt := [(((2 * (m + 1) + 1 : Nat) : Int), 0)] ++ upK s m t
theorem putA_ge {s : List Nat} {m t : Nat} (ht : t ≤ m) : ∀ p ∈ putA s m t, 2 * (m - t) + 2 ≤ p.1.toNat := fun p hp => by
  rcases List.mem_append.1 hp with hp | hp
  · rw [List.mem_singleton.1 hp]; simp only [Int.toNat_natCast]; omega
  · exact upK_ge ht p hp
def putL (left : Nat) (s : List Nat) (m i k p : Nat) : List Pt := putA s m (m - i) ++ [(((2 * i + 1 : Nat) : Int), aheadN left s i)] ++ [(((2 * i : Nat) : Int), k)] ++ [(((2 * i + 1 : Nat) : Int), p)]
end Go.Proofs.Ytfplilpefhhpnaa
/- slots: Put: what the change does. -/
namespace Go.Proofs.Ytfplilpefhhpnaa
set_option linter.unusedVariables false
set_option linter.unusedSimpArgs false
open Go.RowKit Go.Shelf
set_option maxRecDepth 100000
set_option maxHeartbeats 8000000
theorem put1_E (A gs cs gr go ob0 n left gp k p c : Nat) (s : List Nat) (os : List Pt) (W0 : World) (C0 : Ch W0 A gs cs gr go ob0 n left s os) (hn6 : n ≤ 56) (rp : RowL W0 gp 46 [.int .u64 (k : Int), .int .u64 (p : Int)]) (hE : rpE left s p c) : Calls Try.prog 55 #[rowV (sV gs n cs) left, stoV gr go, .pointer (some ⟨gp, 0, none⟩)] W0 fun e W' => e = .panicked (chain1 (refV c)) ∧ Below W0.heap.size W0 W' := by
  have C := Cs.refl C0
  clear C0
  have hn : n ≤ 1048576 := by omega
  have q := Below.refl W0.heap.size W0
  refine X.fn Try.func55 rfl (n := 101) rfl rfl ?_
  refine CC.seq ?_
  refine CC.region ?_
  have l1 := rp.lt
  refine LL.box [sV gs n cs, Value.int IntKind.u64 ↑left] rfl rfl rfl rfl rfl ?_
  intro W3 g4 eg4 r5 z6 b2
  replace rp := rp.up b2
  replace C := C.up b2
  replace q := q.trans (b2.mono q.size)
  refine LL.nilS ?_
  refine CC.seq ?_
  refine CC.region ?_
  refine LL.val (R.load rfl rfl (I.ldNc (vs := [sV gs n cs, Value.int IntKind.u64 ↑left]) (RowL.cells r5 rfl) (by rfl) (by rfl))) rfl rfl rfl ?_
  refine LL.val (R.field rfl rfl (I.fld rfl)) rfl rfl rfl ?_
  refine LL.val (R.load rfl rfl (I.ld1 rfl (RowL.cell rp rfl))) rfl rfl rfl ?_
  refine LL.callP (R.call rfl rfl rfl) rfl rfl (rp_cE C hn hE) ?_
  rintro e W8 ⟨rfl, b7⟩
  refine ⟨_, rfl, ?_⟩
  have zb7 := b7.size
  replace r5 := r5.up b7
  replace b2 := b2.trans (b7.mono b2.size)
  replace rp := rp.up b7
  replace C := C.up b7
  replace q := q.trans (b7.mono q.size)
  refine EE.thenP ?_
  refine EE.pan ?_
  exact ⟨rfl, q⟩
theorem put1_W (A gs cs gr go ob0 n left gp k p m i : Nat) (s : List Nat) (os : List Pt) (W0 : World) (C0 : Ch W0 A gs cs gr go ob0 n left s os) (hn6 : n ≤ 56) (rp : RowL W0 gp 46 [.int .u64 (k : Int), .int .u64 (p : Int)]) (hp : p ≠ 0 ∧ p ≠ left) (hs : Stl left s m) (hne : ∀ j, j < m → ptrN s j ≠ p) (hi : i < m) (hk : keyN s i = k) : Calls Try.prog 55 #[rowV (sV gs n cs) left, stoV gr go, .pointer (some ⟨gp, 0, none⟩)] W0 fun e W' => e = .panicked (chain1 (refV 191)) ∧ Below W0.heap.size W0 W' := by
  have C := Cs.refl C0
  clear C0
  have hn : n ≤ 1048576 := by omega
  have q := Below.refl W0.heap.size W0
  have hf := find_stlT hs hi hk
  refine X.fn Try.func55 rfl (n := 101) rfl rfl ?_
  refine CC.seq ?_
  refine CC.region ?_
  have l1 := rp.lt
  refine LL.box [sV gs n cs, Value.int IntKind.u64 ↑left] rfl rfl rfl rfl rfl ?_
  intro W3 g4 eg4 r5 z6 b2
  replace rp := rp.up b2
  replace C := C.up b2
  replace q := q.trans (b2.mono q.size)
  refine LL.nilS ?_
  refine CC.seq ?_
  refine CC.region ?_
  refine LL.val (R.load rfl rfl (I.ldNc (vs := [sV gs n cs, Value.int IntKind.u64 ↑left]) (RowL.cells r5 rfl) (by rfl) (by rfl))) rfl rfl rfl ?_
  refine LL.val (R.field rfl rfl (I.fld rfl)) rfl rfl rfl ?_
  refine LL.val (R.load rfl rfl (I.ld1 rfl (RowL.cell rp rfl))) rfl rfl rfl ?_
  refine LL.call (R.call rfl rfl rfl) rfl rfl rfl (rp_cT C hn hp hs hne) ?_
  rintro e W8 ⟨rfl, b7⟩
  refine ⟨_, rfl, ?_⟩
  have zb7 := b7.size
  replace r5 := r5.up b7
  replace b2 := b2.trans (b7.mono b2.size)
  replace rp := rp.up b7
  replace C := C.up b7
  replace q := q.trans (b7.mono q.size)
  refine LL.nilS ?_
  refine CC.seq ?_
  refine CC.region ?_
  refine LL.val (R.load rfl rfl (I.ldNc (vs := [sV gs n cs, Value.int IntKind.u64 ↑left]) (RowL.cells r5 rfl) (by rfl) (by rfl))) rfl rfl rfl ?_
  refine LL.val (R.field rfl rfl (I.fld rfl)) rfl rfl rfl ?_
  refine LL.val (R.load rfl rfl (I.ld1 rfl (RowL.cell rp rfl))) rfl rfl rfl ?_
  refine LL.call (R.call rfl rfl rfl) rfl rfl rfl (find_c C hn hf _ (Below.refl _ _)) ?_
  rintro e W11 ⟨rfl, b10⟩
  refine ⟨_, rfl, ?_⟩
  have zb10 := b10.size
  replace b7 := b7.trans (b10.mono b7.size)
  replace r5 := r5.up b10
  replace b2 := b2.trans (b10.mono b2.size)
  replace rp := rp.up b10
  replace C := C.up b10
  replace q := q.trans (b10.mono q.size)
  refine LL.val (R.move rfl rfl) rfl rfl rfl ?_
  refine LL.val (R.extract rfl rfl rfl) rfl rfl rfl ?_
  refine LL.val (R.extract rfl rfl rfl) rfl rfl rfl ?_
  refine LL.val (R.assign rfl rfl) rfl rfl rfl ?_
  refine LL.val (R.assign rfl rfl) rfl rfl rfl ?_
  refine LL.nilS ?_
  refine CC.seq ?_
  refine CC.region ?_
  refine LL.val (R.move rfl rfl) rfl rfl rfl ?_
  refine LL.callP (R.call rfl rfl rfl) rfl rfl (refuse_T _ _) ?_
  rintro e W14 ⟨rfl, rfl⟩
  refine ⟨_, rfl, ?_⟩
  refine EE.thenP ?_
  refine EE.pan ?_
  exact ⟨rfl, q⟩
theorem put1_L (A gs cs gr go ob0 n left gp k p m : Nat) (s : List Nat) (os : List Pt) (W0 : World) (C0 : Ch W0 A gs cs gr go ob0 n left s os) (hn6 : n ≤ 56) (rp : RowL W0 gp 46 [.int .u64 (k : Int), .int .u64 (p : Int)]) (hp : p ≠ 0 ∧ p ≠ left) (hs : Stl left s m) (hne : ∀ j, j < m → ptrN s j ≠ p) (hk : ∀ j, j < m → keyN s j ≠ k) (hm : m = n / 2 - 1) : Calls Try.prog 55 #[rowV (sV gs n cs) left, stoV gr go, .pointer (some ⟨gp, 0, none⟩)] W0 fun e W' => e = .panicked (chain1 (refV 3)) ∧ Below W0.heap.size W0 W' := by
  have C := Cs.refl C0
  have hml := hs.lt
  rw [C0.len] at hml
  clear C0
  have hn : n ≤ 1048576 := by omega
  have q := Below.refl W0.heap.size W0
  have hf := find_stlF hs hk
  have hov := hs.over
  refine X.fn Try.func55 rfl (n := 101) rfl rfl ?_
  refine CC.seq ?_
  refine CC.region ?_
  have l9 := rp.lt
  refine LL.box [sV gs n cs, Value.int IntKind.u64 ↑left] rfl rfl rfl rfl rfl ?_
  intro W11 g12 eg12 r13 z14 b10
  replace rp := rp.up b10
  replace C := C.up b10
  replace q := q.trans (b10.mono q.size)
  refine LL.nilS ?_
  refine CC.seq ?_
  refine CC.region ?_
  refine LL.val (R.load rfl rfl (I.ldNc (vs := [sV gs n cs, Value.int IntKind.u64 ↑left]) (RowL.cells r13 rfl) (by rfl) (by rfl))) rfl rfl rfl ?_
  refine LL.val (R.field rfl rfl (I.fld rfl)) rfl rfl rfl ?_
  refine LL.val (R.load rfl rfl (I.ld1 rfl (RowL.cell rp rfl))) rfl rfl rfl ?_
  refine LL.call (R.call rfl rfl rfl) rfl rfl rfl (rp_cT C hn hp hs hne) ?_
  rintro e W52 ⟨rfl, b51⟩
  refine ⟨_, rfl, ?_⟩
  have zb51 := b51.size
  replace r13 := r13.up b51
  replace b10 := b10.trans (b51.mono b10.size)
  replace rp := rp.up b51
  replace C := C.up b51
  replace q := q.trans (b51.mono q.size)
  refine LL.nilS ?_
  refine CC.seq ?_
  refine CC.region ?_
  refine LL.val (R.load rfl rfl (I.ldNc (vs := [sV gs n cs, Value.int IntKind.u64 ↑left]) (RowL.cells r13 rfl) (by rfl) (by rfl))) rfl rfl rfl ?_
  refine LL.val (R.field rfl rfl (I.fld rfl)) rfl rfl rfl ?_
  refine LL.val (R.load rfl rfl (I.ld1 rfl (RowL.cell rp rfl))) rfl rfl rfl ?_
  refine LL.call (R.call rfl rfl rfl) rfl rfl rfl (find_c C hn hf _ (Below.refl _ _)) ?_
  rintro e W91 ⟨rfl, b90⟩
  refine ⟨_, rfl, ?_⟩
  have zb90 := b90.size
  replace b51 := b51.trans (b90.mono b51.size)
  replace r13 := r13.up b90
  replace b10 := b10.trans (b90.mono b10.size)
  replace rp := rp.up b90
  replace C := C.up b90
  replace q := q.trans (b90.mono q.size)
  refine LL.val (R.move rfl rfl) rfl rfl rfl ?_
  refine LL.val (R.extract rfl rfl rfl) rfl rfl rfl ?_
  refine LL.val (R.extract rfl rfl rfl) rfl rfl rfl ?_
  refine LL.val (R.assign rfl rfl) rfl rfl rfl ?_
  refine LL.val (R.assign rfl rfl) rfl rfl rfl ?_
  refine LL.nilS ?_
  refine CC.seq ?_
  refine CC.region ?_
  refine LL.val (R.move rfl rfl) rfl rfl rfl ?_
  refine LL.call (R.call rfl rfl rfl) rfl rfl rfl (refuse_F _ _) ?_
  rintro e W' ⟨rfl, rfl⟩
  refine ⟨_, rfl, ?_⟩
  refine LL.nilS ?_
  refine CC.seq ?_
  refine CC.region ?_
  refine LL.val (R.load rfl rfl (I.ldNc (vs := [sV gs n cs, Value.int IntKind.u64 ↑left]) (RowL.cells r13 rfl) (by rfl) (by rfl))) rfl rfl rfl ?_
  have l169 := r13.lt
  have l170 := rp.lt
  (refine LL.call (R.call rfl rfl rfl) rfl rfl rfl (over_c C hn _ (Below.refl _ _)) ?_; rintro e W168 ⟨rfl, b165⟩; refine ⟨_, rfl, ?_⟩; rw [hov])
  have zb165 := b165.size
  replace b90 := b90.trans (b165.mono b90.size)
  replace b51 := b51.trans (b165.mono b51.size)
  replace r13 := r13.up b165
  replace b10 := b10.trans (b165.mono b10.size)
  replace rp := rp.up b165
  replace C := C.up b165
  replace q := q.trans (b165.mono q.size)
  refine LL.val (R.assign rfl rfl) rfl rfl rfl ?_
  refine LL.val (R.assign rfl rfl) rfl rfl rfl ?_
  refine LL.nilS ?_
  refine CC.seq ?_
  refine CC.region ?_
  refine LL.val (R.move rfl rfl) rfl rfl rfl ?_
  refine LL.val (R.field rfl rfl (I.fld rfl)) rfl rfl rfl ?_
  refine LL.val (R.load rfl rfl (I.ldNc (vs := [sV gs n cs]) (RowL.cells r13 rfl) (by rfl) (by rfl))) rfl rfl rfl ?_
  refine LL.call (R.call rfl rfl rfl) rfl rfl rfl (many_any _ _ _ _ (by first | assumption | omega)) ?_
  rintro e W229 ⟨rfl, b228⟩
  refine ⟨_, rfl, ?_⟩
  have zb228 := b228.size
  replace b165 := b165.trans (b228.mono b165.size)
  replace b90 := b90.trans (b228.mono b90.size)
  replace b51 := b51.trans (b228.mono b51.size)
  replace r13 := r13.up b228
  replace b10 := b10.trans (b228.mono b10.size)
  replace rp := rp.up b228
  replace C := C.up b228
  replace q := q.trans (b228.mono q.size)
  refine LL.val (R.subNc rfl rfl rfl rfl (by omega) (by omega)) rfl rfl rfl ?_
  refine LL.val (R.eqT rfl rfl rfl (by omega)) rfl rfl rfl ?_
  refine LL.callP (R.call rfl rfl rfl) rfl rfl (refuse_T _ _) ?_
  rintro e W259 ⟨rfl, rfl⟩
  refine ⟨_, rfl, ?_⟩
  refine EE.thenP ?_
  refine EE.pan ?_
  exact ⟨rfl, q⟩
theorem put1_T (A gs cs gr go ob0 n left gp k p m i : Nat) (s : List Nat) (os : List Pt) (W0 : World) (C0 : Ch W0 A gs cs gr go ob0 n left s os) (hn6 : n ≤ 56) (ho : os.length ≤ 900000) (rp : RowL W0 gp 46 [.int .u64 (k : Int), .int .u64 (p : Int)]) (hgp : gp ≠ gs ∧ gp ≠ go ∧ gp ≠ ob0) (hp : p ≠ 0 ∧ p ≠ left) (hs : Stl left s m) (hne : ∀ j, j < m → ptrN s j ≠ p) (hk : ∀ j, j < m → keyN s j ≠ k) (hm : m + 1 < n / 2) (hi : i ≤ m) (hi2 : ∀ j, j < i → keyN s j < k) (hi3 : i = m ∨ k < keyN s i) : Calls Try.prog 55 #[rowV (sV gs n cs) left, stoV gr go, .pointer (some ⟨gp, 0, none⟩)] W0 fun e W' => e = .returned (.tuple #[]) ∧ ChP W0 A gs cs gr go ob0 n left (applyS s (putL left s m i k p)) (os ++ putL left s m i k p) W' := by
  have C := Cs.refl C0
  have hlt := C0.lt
  clear C0
  have hn : n ≤ 1048576 := by omega
  have hf := find_stlF hs hk
  have hov := hs.over
  have lgp := rp.lt
  refine X.fn Try.func55 rfl (n := 101) rfl rfl ?_
  refine CC.seq ?_
  refine CC.region ?_
  have l9 := rp.lt
  refine LL.box [sV gs n cs, Value.int IntKind.u64 ↑left] rfl rfl rfl rfl rfl ?_
  intro W11 g12 eg12 r13 z14 b10
  replace rp := rp.up b10
  replace C := C.up b10
  refine LL.nilS ?_
  refine CC.seq ?_
  refine CC.region ?_
  refine LL.val (R.load rfl rfl (I.ldNc (vs := [sV gs n cs, Value.int IntKind.u64 ↑left]) (RowL.cells r13 rfl) (by rfl) (by rfl))) rfl rfl rfl ?_
  refine LL.val (R.field rfl rfl (I.fld rfl)) rfl rfl rfl ?_
  refine LL.val (R.load rfl rfl (I.ld1 rfl (RowL.cell rp rfl))) rfl rfl rfl ?_
  refine LL.call (R.call rfl rfl rfl) rfl rfl rfl (rp_cT C hn hp hs hne) ?_
  rintro e W52 ⟨rfl, b51⟩
  refine ⟨_, rfl, ?_⟩
  have zb51 := b51.size
  replace r13 := r13.up b51
  replace b10 := b10.trans (b51.mono b10.size)
  replace rp := rp.up b51
  replace C := C.up b51
  refine LL.nilS ?_
  refine CC.seq ?_
  refine CC.region ?_
  refine LL.val (R.load rfl rfl (I.ldNc (vs := [sV gs n cs, Value.int IntKind.u64 ↑left]) (RowL.cells r13 rfl) (by rfl) (by rfl))) rfl rfl rfl ?_
  refine LL.val (R.field rfl rfl (I.fld rfl)) rfl rfl rfl ?_
  refine LL.val (R.load rfl rfl (I.ld1 rfl (RowL.cell rp rfl))) rfl rfl rfl ?_
  refine LL.call (R.call rfl rfl rfl) rfl rfl rfl (find_c C hn hf _ (Below.refl _ _)) ?_
  rintro e W91 ⟨rfl, b90⟩
  refine ⟨_, rfl, ?_⟩
  have zb90 := b90.size
  replace b51 := b51.trans (b90.mono b51.size)
  replace r13 := r13.up b90
  replace b10 := b10.trans (b90.mono b10.size)
  replace rp := rp.up b90
  replace C := C.up b90
  refine LL.val (R.move rfl rfl) rfl rfl rfl ?_
  refine LL.val (R.extract rfl rfl rfl) rfl rfl rfl ?_
  refine LL.val (R.extract rfl rfl rfl) rfl rfl rfl ?_
  refine LL.val (R.assign rfl rfl) rfl rfl rfl ?_
  refine LL.val (R.assign rfl rfl) rfl rfl rfl ?_
  refine LL.nilS ?_
  refine CC.seq ?_
  refine CC.region ?_
  refine LL.val (R.move rfl rfl) rfl rfl rfl ?_
  refine LL.call (R.call rfl rfl rfl) rfl rfl rfl (refuse_F _ _) ?_
  rintro e W' ⟨rfl, rfl⟩
  refine ⟨_, rfl, ?_⟩
  refine LL.nilS ?_
  refine CC.seq ?_
  refine CC.region ?_
  refine LL.val (R.load rfl rfl (I.ldNc (vs := [sV gs n cs, Value.int IntKind.u64 ↑left]) (RowL.cells r13 rfl) (by rfl) (by rfl))) rfl rfl rfl ?_
  have l169 := r13.lt
  have l170 := rp.lt
  (refine LL.call (R.call rfl rfl rfl) rfl rfl rfl (over_c C hn _ (Below.refl _ _)) ?_; rintro e W168 ⟨rfl, b165⟩; refine ⟨_, rfl, ?_⟩; rw [hov])
  have zb165 := b165.size
  replace b90 := b90.trans (b165.mono b90.size)
  replace b51 := b51.trans (b165.mono b51.size)
  replace r13 := r13.up b165
  replace b10 := b10.trans (b165.mono b10.size)
  replace rp := rp.up b165
  replace C := C.up b165
  refine LL.val (R.assign rfl rfl) rfl rfl rfl ?_
  refine LL.val (R.assign rfl rfl) rfl rfl rfl ?_
  refine LL.nilS ?_
  refine CC.seq ?_
  refine CC.region ?_
  refine LL.val (R.move rfl rfl) rfl rfl rfl ?_
  refine LL.val (R.field rfl rfl (I.fld rfl)) rfl rfl rfl ?_
  refine LL.val (R.load rfl rfl (I.ldNc (vs := [sV gs n cs]) (RowL.cells r13 rfl) (by rfl) (by rfl))) rfl rfl rfl ?_
  refine LL.call (R.call rfl rfl rfl) rfl rfl rfl (many_any _ _ _ _ (by first | assumption | omega)) ?_
  rintro e W229 ⟨rfl, b228⟩
  refine ⟨_, rfl, ?_⟩
  have zb228 := b228.size
  replace b165 := b165.trans (b228.mono b165.size)
  replace b90 := b90.trans (b228.mono b90.size)
  replace b51 := b51.trans (b228.mono b51.size)
  replace r13 := r13.up b228
  replace b10 := b10.trans (b228.mono b10.size)
  replace rp := rp.up b228
  replace C := C.up b228
  refine LL.val (R.subNc rfl rfl rfl rfl (by omega) (by omega)) rfl rfl rfl ?_
  refine LL.val (R.eqF rfl rfl rfl (by omega)) rfl rfl rfl ?_
  refine LL.call (R.call rfl rfl rfl) rfl rfl rfl (refuse_F _ _) ?_
  rintro e W' ⟨rfl, rfl⟩
  refine ⟨_, rfl, ?_⟩
  refine LL.nilS ?_
  refine CC.seq ?_
  refine CC.block ?_
  refine CC.loop (α := Nat) (fun j => [(1, stoV gr go), (2, .pointer (some ⟨gp, 0, none⟩)), (3, .pointer (some ⟨g12, 0, none⟩)), (7, .int .i64 (m : Int)), (8, .int .i64 (j : Int))])
    (fun j W => j ≤ i ∧ RowL W g12 96 [sV gs n cs, .int .u64 (left : Int)] ∧ RowL W gp 46 [.int .u64 (k : Int), .int .u64 (p : Int)] ∧ Cs W0 A gs cs gr go ob0 n left s os ob0 W) (fun j => i - j)
    0 ⟨rfl, rfl, rfl, rfl, rfl, trivial⟩ ⟨Nat.zero_le _, r13, rp, C⟩ ?_
  clear r13 rp C b10 b51 b90 b165 b228
  rintro j W ⟨hj, r13, rp, C⟩
  show CC none Try.prog _ 101 [] (sl [(1, stoV gr go), (2, .pointer (some ⟨gp, 0, none⟩)), (3, .pointer (some ⟨g12, 0, none⟩)), (7, .int .i64 (m : Int)), (8, .int .i64 (j : Int))]) _ W
  by_cases hji : j < i
  case pos =>
    have hkj := hi2 j hji
    refine CC.seq ?_
    refine CC.seq ?_
    refine CC.grow (by kernel_rfl) (by kernel_rfl) ?_
    refine GG.val (fun w' b' => R.move rfl rfl) rfl rfl ?_
    refine GG.val (fun w' b' => R.move rfl rfl) rfl rfl ?_
    refine GG.val (fun w' b' => R.ltT rfl rfl rfl (by omega)) rfl rfl ?_
    refine GG.val (fun w' b' => R.move rfl rfl) rfl rfl ?_
    refine GG.val (fun w' b' => R.field rfl rfl (I.fld rfl)) rfl rfl ?_
    refine GG.val (fun w' b' => R.load rfl rfl (I.ldNc (vs := [sV gs n cs]) (RowL.cells (r13.up b') rfl) (by rfl) (by rfl))) rfl rfl ?_
    refine GG.val (fun w' b' => R.move rfl rfl) rfl rfl ?_
    refine GG.call (fun w' => (R.call rfl rfl rfl)) rfl rfl (fun w' b' => (key_c C hn w' b' (by omega)).mono fun e W' h => ⟨h.1, b'.trans (h.2.mono b'.size)⟩) ?_
    refine GG.val (fun w' b' => R.field rfl rfl (I.fld rfl)) rfl rfl ?_
    refine GG.val (fun w' b' => R.load rfl rfl (I.ld1 rfl (RowL.cell (rp.up b') rfl))) rfl rfl ?_
    refine GG.val (fun w' b' => R.ltT rfl rfl rfl (by omega)) rfl rfl ?_
    refine GG.val (fun w' b' => R.pick rfl rfl rfl) rfl rfl ?_
    refine GG.nilQ (fun Wa5 ba4 => ?_)
    have zba4 := ba4.size
    replace r13 := r13.up ba4
    replace rp := rp.up ba4
    replace C := C.up ba4
    refine EE.thenN ?_
    refine CC.yes rfl ?_
    refine CC.skip ?_
    refine EE.thenN ?_
    refine CC.block ?_
    refine CC.region ?_
    refine LL.val (R.move rfl rfl) rfl rfl rfl ?_
    refine LL.val (R.addNc rfl rfl rfl rfl (by omega)) rfl rfl rfl ?_
    refine LL.val (R.assign rfl rfl) rfl rfl rfl ?_
    refine LL.nil ?_
    refine EE.inN ?_
    exact EE.round (j + 1) ⟨rfl, rfl, rfl, rfl, rfl, trivial⟩ ⟨by show j + 1 ≤ i; omega, r13, rp, C⟩ (by show i - (j + 1) < i - j; omega)
  obtain rfl : j = i := by omega
  clear hj hji hi2
  have zkp := C.kp.size
  have lg12 := r13.lt
  have C' : Cs W0 A gs cs gr go ob0 n left (applyS s (putA s m 0)) (os ++ putA s m 0) ob0 W ∨ True := .inr trivial
  clear C'
  have e0 : s.set (2 * (m + 1) + 1) 0 = applyS s (putA s m 0) := by
    unfold putA upK
    rw [List.append_nil, applyS_one]
  have e1 : os ++ [(((2 * (m + 1) + 1 : Nat) : Int), 0)] = os ++ putA s m 0 := by
    unfold putA upK
    rw [List.append_nil]
  have eK : ∀ t, t ≤ m → ∀ j, j + 1 = m - t → ptrN (applyS s (putA s m t)) j = ptrN s j ∧ ∀ v, keyN ((applyS s (putA s m t)).set (2 * (j + 1) + 1) v) j = keyN s j := fun t ht j hj => by
    refine ⟨ptrN_ne fun p hp => by have := putA_ge ht p hp; omega, fun v => ?_⟩
    rw [← applyS_one, ← applyS_app]
    refine keyN_ne fun p hp => ?_
    rcases List.mem_append.1 hp with hp | hp
    · have := putA_ge ht p hp; omega
    · rw [List.mem_singleton.1 hp]; simp only [Int.toNat_natCast]; omega
  have eS : ∀ t j, j + 1 = m - t → ((applyS s (putA s m t)).set (2 * (j + 1) + 1) (ptrN s j)).set (2 * (j + 1)) (keyN s j) = applyS s (putA s m (t + 1)) ∧ os ++ putA s m t ++ [(((2 * (j + 1) + 1 : Nat) : Int), ptrN s j)] ++ [(((2 * (j + 1) : Nat) : Int), keyN s j)] = os ++ putA s m (t + 1) := fun t j hj => by
    have ej : m - 1 - t = j := by omega
    have e : putA s m (t + 1) = putA s m t ++ ([(((2 * (j + 1) + 1 : Nat) : Int), ptrN s j)] ++ [(((2 * (j + 1) : Nat) : Int), keyN s j)]) := by
      unfold putA
      show _ ++ (upK s m t ++ _) = _
      rw [ej, List.append_assoc]
      rfl
    rw [e, applyS_app, applyS_app, applyS_one, applyS_one]
    refine ⟨rfl, by simp only [List.append_assoc]⟩
  have eA : aheadN left (applyS s (putA s m (m - j))) j = aheadN left s j := by
    unfold aheadN
    split
    · rfl
    · exact ptrN_ne fun p hp => by have := putA_ge (by omega) p hp; omega
  have eL : (((applyS s (putA s m (m - j))).set (2 * j + 1) (aheadN left s j)).set (2 * j) k).set (2 * j + 1) p = applyS s (putL left s m j k p) ∧ os ++ putA s m (m - j) ++ [(((2 * j + 1 : Nat) : Int), aheadN left s j)] ++ [(((2 * j : Nat) : Int), k)] ++ [(((2 * j + 1 : Nat) : Int), p)] = os ++ putL left s m j k p := by
    unfold putL
    rw [applyS_app, applyS_app, applyS_app, applyS_one, applyS_one, applyS_one]
    refine ⟨rfl, by simp only [List.append_assoc]⟩
  have lA : ∀ t, t ≤ m → (putA s m t).length ≤ 200 := fun t ht => by unfold putA; rw [List.length_append, upK_len]; simp; omega
  have hi4 : j = m ∨ (j < m ∧ k < keyN s j) := by omega
  clear hi3
  rcases hi4 with rfl | ⟨hjm, hki⟩
  · refine CC.seq ?_
    refine CC.seq ?_
    refine CC.grow (by kernel_rfl) (by kernel_rfl) ?_
    refine GG.val (fun w' b' => R.move rfl rfl) rfl rfl ?_
    refine GG.val (fun w' b' => R.move rfl rfl) rfl rfl ?_
    refine GG.val (fun w' b' => R.ltF rfl rfl rfl (by omega)) rfl rfl ?_
    refine GG.val (fun w' b' => R.move rfl rfl) rfl rfl ?_
    refine GG.skip rfl rfl ?_
    refine GG.skip rfl rfl ?_
    refine GG.skip rfl rfl ?_
    refine GG.skip rfl rfl ?_
    refine GG.skip rfl rfl ?_
    refine GG.skip rfl rfl ?_
    refine GG.skip rfl rfl ?_
    refine GG.val (fun w' b' => R.pick rfl rfl rfl) rfl rfl ?_
    refine GG.nilQ (fun Wb40 bb39 => ?_)
    have zbb39 := bb39.size
    replace r13 := r13.up bb39
    replace rp := rp.up bb39
    replace C := C.up bb39
    refine EE.thenN ?_
    refine CC.no rfl ?_
    refine CC.exit ?_
    refine EE.thenX ?_
    refine EE.thenX ?_
    refine EE.inX ?_
    refine EE.thenN ?_
    refine CC.seq ?_
    refine CC.seq ?_
    refine CC.region ?_
    refine LL.val (R.move rfl rfl) rfl rfl rfl ?_
    refine LL.val (R.addNc rfl rfl rfl rfl (by omega)) rfl rfl rfl ?_
    refine LL.val (R.field rfl rfl (I.fld rfl)) rfl rfl rfl ?_
    refine LL.val (R.load rfl rfl (I.ldNc (vs := [sV gs n cs]) (RowL.cells r13 rfl) (by rfl) (by rfl))) rfl rfl rfl ?_
    refine LL.call (R.call rfl rfl rfl) rfl rfl rfl (many_any _ _ _ _ (by first | assumption | omega)) ?_
    rintro e Wb77 ⟨rfl, bb76⟩
    refine ⟨_, rfl, ?_⟩
    have zbb76 := bb76.size
    replace bb39 := bb39.trans (bb76.mono bb39.size)
    replace r13 := r13.up bb76
    replace rp := rp.up bb76
    replace C := C.up bb76
    refine LL.val (R.ltT rfl rfl rfl (by omega)) rfl rfl rfl ?_
    refine LL.nilS ?_
    refine CC.yes rfl ?_
    refine CC.region ?_
    refine LL.val (R.move rfl rfl) rfl rfl rfl ?_
    refine LL.val (R.move rfl rfl) rfl rfl rfl ?_
    refine LL.val (R.addNc rfl rfl rfl rfl (by omega)) rfl rfl rfl ?_
    refine LL.call (R.call rfl rfl rfl) rfl rfl rfl (ptrWord_any _ _ (by first | assumption | omega)) ?_
    rintro e W' ⟨rfl, rfl⟩
    refine ⟨_, rfl, ?_⟩
    (have lgr0 := rp.lt; have lgr1 := r13.lt; refine LL.call (R.callV rfl rfl rfl rfl) rfl rfl rfl (store_any A gs cs gr go _ n left _ _ _ _ _ C.ch (by omega) hn (by first | omega | (simp only [List.length_append, List.length_cons, List.length_nil]; omega))) ?_; rintro e Wb117 ⟨rfl, ob2, C2, hob2, tb116⟩; refine ⟨_, rfl, ?_⟩; replace C := C.then C2 hob2 tb116; clear C2; have hbn0 : ob2 ≠ gp := (by omega); have hbn1 : ob2 ≠ g12 := (by omega); clear hob2)
    have ztb116 := tb116.size
    replace r13 := r13.kept tb116 ⟨r13.lt, by omega⟩
    replace rp := rp.kept tb116 ⟨rp.lt, by omega⟩
    refine LL.nilS ?_
    refine CC.seq ?_
    refine CC.seq ?_
    refine CC.region ?_
    refine LL.val (R.move rfl rfl) rfl rfl rfl ?_
    refine LL.val (R.subI rfl rfl rfl (by omega)) rfl rfl rfl ?_
    refine LL.val (R.assign rfl rfl) rfl rfl rfl ?_
    refine LL.nilS ?_
    refine CC.block ?_
    rw [e0, e1] at C
    refine CC.loop (α := Nat × Nat × Int) (fun q => [(1, stoV gr go), (2, .pointer (some ⟨gp, 0, none⟩)), (3, .pointer (some ⟨g12, 0, none⟩)), (8, .int .i64 (j : Int)), (9, .int .i64 q.2.2)])
      (fun q W => q.1 ≤ j - j ∧ RowL W g12 96 [sV gs n cs, .int .u64 (left : Int)] ∧ RowL W gp 46 [.int .u64 (k : Int), .int .u64 (p : Int)] ∧ Cs W0 A gs cs gr go ob0 n left (applyS s (putA s j q.1)) (os ++ putA s j q.1) q.2.1 W ∧ q.2.1 ≠ gp ∧ q.2.1 ≠ g12 ∧ q.2.2 = ((j - q.1 : Nat) : Int) - 1) (fun q => j - q.1)
      (0, ob2, _) ⟨rfl, rfl, rfl, rfl, rfl, trivial⟩ ⟨Nat.zero_le _, r13, rp, C, hbn0, hbn1, by dsimp only; omega⟩ ?_
    clear r13 rp C hbn0 hbn1
    rintro ⟨t, ob, z⟩ W ⟨ht', r13, rp, C, hbn0, hbn1, hz⟩
    simp only at ht' C hbn0 hbn1 hz
    have ht : t ≤ j := by omega
    have zkp2 := C.kp.size
    show CC none Try.prog _ 101 [] (sl [(1, stoV gr go), (2, .pointer (some ⟨gp, 0, none⟩)), (3, .pointer (some ⟨g12, 0, none⟩)), (8, .int .i64 (j : Int)), (9, .int .i64 z)]) _ W
    by_cases htl : t < j - j
    case pos =>
      exact absurd htl (by omega)
    obtain rfl : t = j - j := by omega
    refine CC.seq ?_
    refine CC.seq ?_
    refine CC.region ?_
    refine LL.val (R.move rfl rfl) rfl rfl rfl ?_
    refine LL.val (R.move rfl rfl) rfl rfl rfl ?_
    refine LL.val (R.geF rfl rfl rfl (by omega)) rfl rfl rfl ?_
    refine LL.nilS ?_
    refine CC.no rfl ?_
    refine CC.exit ?_
    refine EE.thenX ?_
    refine EE.thenX ?_
    refine EE.inX ?_
    refine EE.thenN ?_
    refine CC.seq ?_
    refine CC.growT 6 (by kernel_rfl) (by kernel_rfl) ?_
    refine GG.val (fun w' b' => R.move rfl rfl) rfl rfl ?_
    refine GG.val (fun w' b' => R.move rfl rfl) rfl rfl ?_
    refine GG.call (fun w' => (R.call rfl rfl rfl)) rfl rfl (fun w' b' => (ptrWord_any _ w' (by first | assumption | omega)).mono fun e W' h => ⟨h.1, h.2 ▸ b'⟩) ?_
    refine GG.val (fun w' b' => R.load rfl rfl (I.ldNc (vs := [sV gs n cs, Value.int IntKind.u64 ↑left]) (RowL.cells (r13.up b') rfl) (by rfl) (by rfl))) rfl rfl ?_
    refine GG.val (fun w' b' => R.move rfl rfl) rfl rfl ?_
    refine GG.call (fun w' => (R.call rfl rfl rfl)) rfl rfl (fun w' b' => (ahead_c C hn w' b' (by omega)).mono fun e W' h => ⟨h.1, b'.trans (h.2.mono b'.size)⟩) ?_
    refine GG.nil (fun Wc68 bc67 => ?_)
    have zbc67 := bc67.size
    replace r13 := r13.up bc67
    replace rp := rp.up bc67
    replace C := C.up bc67
    (have lgr0 := rp.lt; have lgr1 := r13.lt; refine LL.call (R.callV rfl rfl rfl rfl) rfl rfl rfl (store_any A gs cs gr go _ n left _ _ _ _ _ C.ch (by omega) hn (by first | omega | (have := lA _ ht; simp only [List.length_append, List.length_cons, List.length_nil]; omega))) ?_; rintro e Wc72 ⟨rfl, ob2, C2, hob2, tc71⟩; refine ⟨_, rfl, ?_⟩; replace C := C.then C2 hob2 tc71; clear C2; have hbn0 : ob2 ≠ gp := (by omega); have hbn1 : ob2 ≠ g12 := (by omega); clear hob2)
    have ztc71 := tc71.size
    replace r13 := r13.kept tc71 ⟨r13.lt, by omega⟩
    replace rp := rp.kept tc71 ⟨rp.lt, by omega⟩
    refine LL.nilS ?_
    refine CC.seq ?_
    refine CC.growT 5 (by kernel_rfl) (by kernel_rfl) ?_
    refine GG.val (fun w' b' => R.move rfl rfl) rfl rfl ?_
    refine GG.val (fun w' b' => R.move rfl rfl) rfl rfl ?_
    refine GG.call (fun w' => (R.call rfl rfl rfl)) rfl rfl (fun w' b' => (keyWord_any _ w' (by first | assumption | omega)).mono fun e W' h => ⟨h.1, h.2 ▸ b'⟩) ?_
    refine GG.val (fun w' b' => R.field rfl rfl (I.fld rfl)) rfl rfl ?_
    refine GG.val (fun w' b' => R.load rfl rfl (I.ld1 rfl (RowL.cell (rp.up b') rfl))) rfl rfl ?_
    refine GG.nil (fun Wc115 bc114 => ?_)
    have zbc114 := bc114.size
    replace C := C.up bc114
    replace r13 := r13.up bc114
    replace rp := rp.up bc114
    (have lgr0 := rp.lt; have lgr1 := r13.lt; refine LL.call (R.callV rfl rfl rfl rfl) rfl rfl rfl (store_any A gs cs gr go _ n left _ _ _ _ _ C.ch (by omega) hn (by first | omega | (have := lA _ ht; simp only [List.length_append, List.length_cons, List.length_nil]; omega))) ?_; rintro e Wc119 ⟨rfl, ob2, C2, hob2, tc118⟩; refine ⟨_, rfl, ?_⟩; replace C := C.then C2 hob2 tc118; clear C2; have hbn0 : ob2 ≠ gp := (by omega); have hbn1 : ob2 ≠ g12 := (by omega); clear hob2)
    have ztc118 := tc118.size
    replace r13 := r13.kept tc118 ⟨r13.lt, by omega⟩
    replace rp := rp.kept tc118 ⟨rp.lt, by omega⟩
    refine LL.nilS ?_
    refine CC.growT 5 (by kernel_rfl) (by kernel_rfl) ?_
    refine GG.val (fun w' b' => R.move rfl rfl) rfl rfl ?_
    refine GG.val (fun w' b' => R.move rfl rfl) rfl rfl ?_
    refine GG.call (fun w' => (R.call rfl rfl rfl)) rfl rfl (fun w' b' => (ptrWord_any _ w' (by first | assumption | omega)).mono fun e W' h => ⟨h.1, h.2 ▸ b'⟩) ?_
    refine GG.val (fun w' b' => R.field rfl rfl (I.fld rfl)) rfl rfl ?_
    refine GG.val (fun w' b' => R.load rfl rfl (I.ld1 rfl (RowL.cell (rp.up b') rfl))) rfl rfl ?_
    refine GG.nil (fun Wc162 bc161 => ?_)
    have zbc161 := bc161.size
    replace C := C.up bc161
    replace r13 := r13.up bc161
    replace rp := rp.up bc161
    (have lgr0 := rp.lt; have lgr1 := r13.lt; refine LL.call (R.callV rfl rfl rfl rfl) rfl rfl rfl (store_any A gs cs gr go _ n left _ _ _ _ _ C.ch (by omega) hn (by first | omega | (have := lA _ ht; simp only [List.length_append, List.length_cons, List.length_nil]; omega))) ?_; rintro e Wc166 ⟨rfl, ob2, C2, hob2, tc165⟩; refine ⟨_, rfl, ?_⟩; replace C := C.then C2 hob2 tc165; clear C2; have hbn0 : ob2 ≠ gp := (by omega); have hbn1 : ob2 ≠ g12 := (by omega); clear hob2)
    have ztc165 := tc165.size
    replace r13 := r13.kept tc165 ⟨r13.lt, by omega⟩
    replace rp := rp.kept tc165 ⟨rp.lt, by omega⟩
    refine LL.nil ?_
    refine EE.end _ rfl rfl ?_
    exact ⟨rfl, (C.os_eq (by rw [eA]; exact eL.1) (by rw [eA]; exact eL.2)).p⟩
  · refine CC.seq ?_
    refine CC.seq ?_
    refine CC.grow (by kernel_rfl) (by kernel_rfl) ?_
    refine GG.val (fun w' b' => R.move rfl rfl) rfl rfl ?_
    refine GG.val (fun w' b' => R.move rfl rfl) rfl rfl ?_
    refine GG.val (fun w' b' => R.ltT rfl rfl rfl (by omega)) rfl rfl ?_
    refine GG.val (fun w' b' => R.move rfl rfl) rfl rfl ?_
    refine GG.val (fun w' b' => R.field rfl rfl (I.fld rfl)) rfl rfl ?_
    refine GG.val (fun w' b' => R.load rfl rfl (I.ldNc (vs := [sV gs n cs]) (RowL.cells (r13.up b') rfl) (by rfl) (by rfl))) rfl rfl ?_
    refine GG.val (fun w' b' => R.move rfl rfl) rfl rfl ?_
    refine GG.call (fun w' => (R.call rfl rfl rfl)) rfl rfl (fun w' b' => (key_c C hn w' b' (by omega)).mono fun e W' h => ⟨h.1, b'.trans (h.2.mono b'.size)⟩) ?_
    refine GG.val (fun w' b' => R.field rfl rfl (I.fld rfl)) rfl rfl ?_
    refine GG.val (fun w' b' => R.load rfl rfl (I.ld1 rfl (RowL.cell (rp.up b') rfl))) rfl rfl ?_
    refine GG.val (fun w' b' => R.ltF rfl rfl rfl (by omega)) rfl rfl ?_
    refine GG.val (fun w' b' => R.pick rfl rfl rfl) rfl rfl ?_
    refine GG.nilQ (fun Wd89 bd88 => ?_)
    have zbd88 := bd88.size
    replace r13 := r13.up bd88
    replace rp := rp.up bd88
    replace C := C.up bd88
    refine EE.thenN ?_
    refine CC.no rfl ?_
    refine CC.exit ?_
    refine EE.thenX ?_
    refine EE.thenX ?_
    refine EE.inX ?_
    refine EE.thenN ?_
    refine CC.seq ?_
    refine CC.seq ?_
    refine CC.region ?_
    refine LL.val (R.move rfl rfl) rfl rfl rfl ?_
    refine LL.val (R.addNc rfl rfl rfl rfl (by omega)) rfl rfl rfl ?_
    refine LL.val (R.field rfl rfl (I.fld rfl)) rfl rfl rfl ?_
    refine LL.val (R.load rfl rfl (I.ldNc (vs := [sV gs n cs]) (RowL.cells r13 rfl) (by rfl) (by rfl))) rfl rfl rfl ?_
    refine LL.call (R.call rfl rfl rfl) rfl rfl rfl (many_any _ _ _ _ (by first | assumption | omega)) ?_
    rintro e Wd126 ⟨rfl, bd125⟩
    refine ⟨_, rfl, ?_⟩
    have zbd125 := bd125.size
    replace bd88 := bd88.trans (bd125.mono bd88.size)
    replace r13 := r13.up bd125
    replace rp := rp.up bd125
    replace C := C.up bd125
    refine LL.val (R.ltT rfl rfl rfl (by omega)) rfl rfl rfl ?_
    refine LL.nilS ?_
    refine CC.yes rfl ?_
    refine CC.region ?_
    refine LL.val (R.move rfl rfl) rfl rfl rfl ?_
    refine LL.val (R.move rfl rfl) rfl rfl rfl ?_
    refine LL.val (R.addNc rfl rfl rfl rfl (by omega)) rfl rfl rfl ?_
    refine LL.call (R.call rfl rfl rfl) rfl rfl rfl (ptrWord_any _ _ (by first | assumption | omega)) ?_
    rintro e W' ⟨rfl, rfl⟩
    refine ⟨_, rfl, ?_⟩
    (have lgr0 := rp.lt; have lgr1 := r13.lt; refine LL.call (R.callV rfl rfl rfl rfl) rfl rfl rfl (store_any A gs cs gr go _ n left _ _ _ _ _ C.ch (by omega) hn (by first | omega | (simp only [List.length_append, List.length_cons, List.length_nil]; omega))) ?_; rintro e Wd166 ⟨rfl, ob2, C2, hob2, td165⟩; refine ⟨_, rfl, ?_⟩; replace C := C.then C2 hob2 td165; clear C2; have hbn0 : ob2 ≠ gp := (by omega); have hbn1 : ob2 ≠ g12 := (by omega); clear hob2)
    have ztd165 := td165.size
    replace r13 := r13.kept td165 ⟨r13.lt, by omega⟩
    replace rp := rp.kept td165 ⟨rp.lt, by omega⟩
    refine LL.nilS ?_
    refine CC.seq ?_
    refine CC.seq ?_
    refine CC.region ?_
    refine LL.val (R.move rfl rfl) rfl rfl rfl ?_
    refine LL.val (R.subNc rfl rfl rfl rfl (by omega) (by omega)) rfl rfl rfl ?_
    refine LL.val (R.assign rfl rfl) rfl rfl rfl ?_
    refine LL.nilS ?_
    refine CC.block ?_
    rw [e0, e1] at C
    refine CC.loop (α := Nat × Nat × Int) (fun q => [(1, stoV gr go), (2, .pointer (some ⟨gp, 0, none⟩)), (3, .pointer (some ⟨g12, 0, none⟩)), (8, .int .i64 (j : Int)), (9, .int .i64 q.2.2)])
      (fun q W => q.1 ≤ m - j ∧ RowL W g12 96 [sV gs n cs, .int .u64 (left : Int)] ∧ RowL W gp 46 [.int .u64 (k : Int), .int .u64 (p : Int)] ∧ Cs W0 A gs cs gr go ob0 n left (applyS s (putA s m q.1)) (os ++ putA s m q.1) q.2.1 W ∧ q.2.1 ≠ gp ∧ q.2.1 ≠ g12 ∧ q.2.2 = ((m - q.1 : Nat) : Int) - 1) (fun q => m - q.1)
      (0, ob2, _) ⟨rfl, rfl, rfl, rfl, rfl, trivial⟩ ⟨Nat.zero_le _, r13, rp, C, hbn0, hbn1, by have h : ((m - 1 : Nat) : Int) = ((m - 0 : Nat) : Int) - 1 := (by omega); exact h⟩ ?_
    clear r13 rp C hbn0 hbn1
    rintro ⟨t, ob, z⟩ W ⟨ht', r13, rp, C, hbn0, hbn1, hz⟩
    simp only at ht' C hbn0 hbn1 hz
    have ht : t ≤ m := by omega
    have zkp2 := C.kp.size
    show CC none Try.prog _ 101 [] (sl [(1, stoV gr go), (2, .pointer (some ⟨gp, 0, none⟩)), (3, .pointer (some ⟨g12, 0, none⟩)), (8, .int .i64 (j : Int)), (9, .int .i64 z)]) _ W
    by_cases htl : t < m - j
    case pos =>
      obtain ⟨i, hi'⟩ : ∃ i, i + 1 = m - t := ⟨m - t - 1, by omega⟩
      obtain ⟨e3, e4⟩ := eK t ht i hi'
      obtain ⟨e5, e6⟩ := eS t i hi'
      obtain rfl : z = (i : Int) := by omega
      clear eK eS eA eL
      refine CC.seq ?_
      refine CC.seq ?_
      refine CC.region ?_
      refine LL.val (R.move rfl rfl) rfl rfl rfl ?_
      refine LL.val (R.move rfl rfl) rfl rfl rfl ?_
      refine LL.val (R.geT rfl rfl rfl (by omega)) rfl rfl rfl ?_
      refine LL.nilS ?_
      refine CC.yes rfl ?_
      refine CC.skip ?_
      refine EE.thenN ?_
      refine CC.seq ?_
      refine CC.block ?_
      refine CC.seq ?_
      refine CC.growT 8 (by kernel_rfl) (by kernel_rfl) ?_
      refine GG.val (fun w' b' => R.move rfl rfl) rfl rfl ?_
      refine GG.val (fun w' b' => R.move rfl rfl) rfl rfl ?_
      refine GG.val (fun w' b' => R.addNc rfl rfl rfl rfl (by omega)) rfl rfl ?_
      refine GG.call (fun w' => (R.call rfl rfl rfl)) rfl rfl (fun w' b' => (ptrWord_any _ w' (by first | assumption | omega)).mono fun e W' h => ⟨h.1, h.2 ▸ b'⟩) ?_
      refine GG.val (fun w' b' => R.field rfl rfl (I.fld rfl)) rfl rfl ?_
      refine GG.val (fun w' b' => R.load rfl rfl (I.ldNc (vs := [sV gs n cs]) (RowL.cells (r13.up b') rfl) (by rfl) (by rfl))) rfl rfl ?_
      refine GG.val (fun w' b' => R.move rfl rfl) rfl rfl ?_
      refine GG.call (fun w' => (R.call rfl rfl rfl)) rfl rfl (fun w' b' => (ptr_c C hn w' b' (by omega)).mono fun e W' h => ⟨h.1, b'.trans (h.2.mono b'.size)⟩) ?_
      refine GG.nil (fun We82 be81 => ?_)
      have zbe81 := be81.size
      replace r13 := r13.up be81
      replace rp := rp.up be81
      replace C := C.up be81
      (have lgr0 := rp.lt; have lgr1 := r13.lt; refine LL.call (R.callV rfl rfl rfl rfl) rfl rfl rfl (store_any A gs cs gr go _ n left _ _ _ _ _ C.ch (by omega) hn (by first | omega | (have := lA _ ht; simp only [List.length_append, List.length_cons, List.length_nil]; omega))) ?_; rintro e We86 ⟨rfl, ob2, C2, hob2, te85⟩; refine ⟨_, rfl, ?_⟩; replace C := C.then C2 hob2 te85; clear C2; have hbn0 : ob2 ≠ gp := (by omega); have hbn1 : ob2 ≠ g12 := (by omega); clear hob2)
      have zte85 := te85.size
      replace r13 := r13.kept te85 ⟨r13.lt, by omega⟩
      replace rp := rp.kept te85 ⟨rp.lt, by omega⟩
      refine LL.nilS ?_
      refine CC.growT 8 (by kernel_rfl) (by kernel_rfl) ?_
      refine GG.val (fun w' b' => R.move rfl rfl) rfl rfl ?_
      refine GG.val (fun w' b' => R.move rfl rfl) rfl rfl ?_
      refine GG.val (fun w' b' => R.addNc rfl rfl rfl rfl (by omega)) rfl rfl ?_
      refine GG.call (fun w' => (R.call rfl rfl rfl)) rfl rfl (fun w' b' => (keyWord_any _ w' (by first | assumption | omega)).mono fun e W' h => ⟨h.1, h.2 ▸ b'⟩) ?_
      refine GG.val (fun w' b' => R.field rfl rfl (I.fld rfl)) rfl rfl ?_
      refine GG.val (fun w' b' => R.load rfl rfl (I.ldNc (vs := [sV gs n cs]) (RowL.cells (r13.up b') rfl) (by rfl) (by rfl))) rfl rfl ?_
      refine GG.val (fun w' b' => R.move rfl rfl) rfl rfl ?_
      refine GG.call (fun w' => (R.call rfl rfl rfl)) rfl rfl (fun w' b' => (key_c C hn w' b' (by omega)).mono fun e W' h => ⟨h.1, b'.trans (h.2.mono b'.size)⟩) ?_
      refine GG.nil (fun We150 be149 => ?_)
      have zbe149 := be149.size
      replace C := C.up be149
      replace r13 := r13.up be149
      replace rp := rp.up be149
      (have lgr0 := rp.lt; have lgr1 := r13.lt; refine LL.call (R.callV rfl rfl rfl rfl) rfl rfl rfl (store_any A gs cs gr go _ n left _ _ _ _ _ C.ch (by omega) hn (by first | omega | (have := lA _ ht; simp only [List.length_append, List.length_cons, List.length_nil]; omega))) ?_; rintro e We154 ⟨rfl, ob2, C2, hob2, te153⟩; refine ⟨_, rfl, ?_⟩; replace C := C.then C2 hob2 te153; clear C2; have hbn0 : ob2 ≠ gp := (by omega); have hbn1 : ob2 ≠ g12 := (by omega); clear hob2)
      have zte153 := te153.size
      replace r13 := r13.kept te153 ⟨r13.lt, by omega⟩
      replace rp := rp.kept te153 ⟨rp.lt, by omega⟩
      refine LL.nil ?_
      refine EE.inN ?_
      refine EE.thenN ?_
      refine CC.region ?_
      refine LL.val (R.move rfl rfl) rfl rfl rfl ?_
      refine LL.val (R.subI rfl rfl rfl (by omega)) rfl rfl rfl ?_
      refine LL.val (R.assign rfl rfl) rfl rfl rfl ?_
      refine LL.nil ?_
      exact EE.round (t + 1, _, _) ⟨rfl, rfl, rfl, rfl, rfl, trivial⟩ ⟨by show t + 1 ≤ m - j; omega, r13, rp, C.os_eq (by rw [e4, e3]; exact e5) (by rw [e4, e3]; exact e6), hbn0, hbn1, by dsimp only; omega⟩ (by show m - (t + 1) < m - t; omega)
    obtain rfl : t = m - j := by omega
    refine CC.seq ?_
    refine CC.seq ?_
    refine CC.region ?_
    refine LL.val (R.move rfl rfl) rfl rfl rfl ?_
    refine LL.val (R.move rfl rfl) rfl rfl rfl ?_
    refine LL.val (R.geF rfl rfl rfl (by omega)) rfl rfl rfl ?_
    refine LL.nilS ?_
    refine CC.no rfl ?_
    refine CC.exit ?_
    refine EE.thenX ?_
    refine EE.thenX ?_
    refine EE.inX ?_
    refine EE.thenN ?_
    refine CC.seq ?_
    refine CC.growT 6 (by kernel_rfl) (by kernel_rfl) ?_
    refine GG.val (fun w' b' => R.move rfl rfl) rfl rfl ?_
    refine GG.val (fun w' b' => R.move rfl rfl) rfl rfl ?_
    refine GG.call (fun w' => (R.call rfl rfl rfl)) rfl rfl (fun w' b' => (ptrWord_any _ w' (by first | assumption | omega)).mono fun e W' h => ⟨h.1, h.2 ▸ b'⟩) ?_
    refine GG.val (fun w' b' => R.load rfl rfl (I.ldNc (vs := [sV gs n cs, Value.int IntKind.u64 ↑left]) (RowL.cells (r13.up b') rfl) (by rfl) (by rfl))) rfl rfl ?_
    refine GG.val (fun w' b' => R.move rfl rfl) rfl rfl ?_
    refine GG.call (fun w' => (R.call rfl rfl rfl)) rfl rfl (fun w' b' => (ahead_c C hn w' b' (by omega)).mono fun e W' h => ⟨h.1, b'.trans (h.2.mono b'.size)⟩) ?_
    refine GG.nil (fun Wf68 bf67 => ?_)
    have zbf67 := bf67.size
    replace r13 := r13.up bf67
    replace rp := rp.up bf67
    replace C := C.up bf67
    (have lgr0 := rp.lt; have lgr1 := r13.lt; refine LL.call (R.callV rfl rfl rfl rfl) rfl rfl rfl (store_any A gs cs gr go _ n left _ _ _ _ _ C.ch (by omega) hn (by first | omega | (have := lA _ ht; simp only [List.length_append, List.length_cons, List.length_nil]; omega))) ?_; rintro e Wf72 ⟨rfl, ob2, C2, hob2, tf71⟩; refine ⟨_, rfl, ?_⟩; replace C := C.then C2 hob2 tf71; clear C2; have hbn0 : ob2 ≠ gp := (by omega); have hbn1 : ob2 ≠ g12 := (by omega); clear hob2)
    have ztf71 := tf71.size
    replace r13 := r13.kept tf71 ⟨r13.lt, by omega⟩
    replace rp := rp.kept tf71 ⟨rp.lt, by omega⟩
    refine LL.nilS ?_
    refine CC.seq ?_
    refine CC.growT 5 (by kernel_rfl) (by kernel_rfl) ?_
    refine GG.val (fun w' b' => R.move rfl rfl) rfl rfl ?_
    refine GG.val (fun w' b' => R.move rfl rfl) rfl rfl ?_
    refine GG.call (fun w' => (R.call rfl rfl rfl)) rfl rfl (fun w' b' => (keyWord_any _ w' (by first | assumption | omega)).mono fun e W' h => ⟨h.1, h.2 ▸ b'⟩) ?_
    refine GG.val (fun w' b' => R.field rfl rfl (I.fld rfl)) rfl rfl ?_
    refine GG.val (fun w' b' => R.load rfl rfl (I.ld1 rfl (RowL.cell (rp.up b') rfl))) rfl rfl ?_
    refine GG.nil (fun Wf115 bf114 => ?_)
    have zbf114 := bf114.size
    replace C := C.up bf114
    replace r13 := r13.up bf114
    replace rp := rp.up bf114
    (have lgr0 := rp.lt; have lgr1 := r13.lt; refine LL.call (R.callV rfl rfl rfl rfl) rfl rfl rfl (store_any A gs cs gr go _ n left _ _ _ _ _ C.ch (by omega) hn (by first | omega | (have := lA _ ht; simp only [List.length_append, List.length_cons, List.length_nil]; omega))) ?_; rintro e Wf119 ⟨rfl, ob2, C2, hob2, tf118⟩; refine ⟨_, rfl, ?_⟩; replace C := C.then C2 hob2 tf118; clear C2; have hbn0 : ob2 ≠ gp := (by omega); have hbn1 : ob2 ≠ g12 := (by omega); clear hob2)
    have ztf118 := tf118.size
    replace r13 := r13.kept tf118 ⟨r13.lt, by omega⟩
    replace rp := rp.kept tf118 ⟨rp.lt, by omega⟩
    refine LL.nilS ?_
    refine CC.growT 5 (by kernel_rfl) (by kernel_rfl) ?_
    refine GG.val (fun w' b' => R.move rfl rfl) rfl rfl ?_
    refine GG.val (fun w' b' => R.move rfl rfl) rfl rfl ?_
    refine GG.call (fun w' => (R.call rfl rfl rfl)) rfl rfl (fun w' b' => (ptrWord_any _ w' (by first | assumption | omega)).mono fun e W' h => ⟨h.1, h.2 ▸ b'⟩) ?_
    refine GG.val (fun w' b' => R.field rfl rfl (I.fld rfl)) rfl rfl ?_
    refine GG.val (fun w' b' => R.load rfl rfl (I.ld1 rfl (RowL.cell (rp.up b') rfl))) rfl rfl ?_
    refine GG.nil (fun Wf162 bf161 => ?_)
    have zbf161 := bf161.size
    replace C := C.up bf161
    replace r13 := r13.up bf161
    replace rp := rp.up bf161
    (have lgr0 := rp.lt; have lgr1 := r13.lt; refine LL.call (R.callV rfl rfl rfl rfl) rfl rfl rfl (store_any A gs cs gr go _ n left _ _ _ _ _ C.ch (by omega) hn (by first | omega | (have := lA _ ht; simp only [List.length_append, List.length_cons, List.length_nil]; omega))) ?_; rintro e Wf166 ⟨rfl, ob2, C2, hob2, tf165⟩; refine ⟨_, rfl, ?_⟩; replace C := C.then C2 hob2 tf165; clear C2; have hbn0 : ob2 ≠ gp := (by omega); have hbn1 : ob2 ≠ g12 := (by omega); clear hob2)
    have ztf165 := tf165.size
    replace r13 := r13.kept tf165 ⟨r13.lt, by omega⟩
    replace rp := rp.kept tf165 ⟨rp.lt, by omega⟩
    refine LL.nil ?_
    refine EE.end _ rfl rfl ?_
    exact ⟨rfl, (C.os_eq (by rw [eA]; exact eL.1) (by rw [eA]; exact eL.2)).p⟩
end Go.Proofs.Ytfplilpefhhpnaa
/- slots: Tidy: what the change does. -/
namespace Go.Proofs.Ytfplilpefhhpnaa
set_option linter.unusedVariables false
set_option linter.unusedSimpArgs false
open Go.RowKit Go.Shelf
set_option maxRecDepth 100000
set_option maxHeartbeats 8000000
end Go.Proofs.Ytfplilpefhhpnaa
/- slots: Tidy: what the change does. -/
namespace Go.Proofs.Ytfplilpefhhpnaa
set_option linter.unusedVariables false
set_option linter.unusedSimpArgs false
open Go.RowKit Go.Shelf
set_option maxRecDepth 100000
set_option maxHeartbeats 8000000
end Go.Proofs.Ytfplilpefhhpnaa
/- slots: Put, Take, Swap, Tidy, Read, Each, Check. -/
namespace Go.Proofs.Ytfplilpefhhpnaa
set_option linter.unusedVariables false
set_option linter.unusedSimpArgs false
open Go.RowKit Go.Shelf
/-- How many keys are less. -/
def posN (s : List Nat) (k : Nat) : Nat := ((List.range (overN s)).takeWhile fun j => decide (keyN s j < k)).length
theorem tw_ex (p : Nat → Bool) : ∀ n, ∃ m, m ≤ n ∧ (∀ i, i < m → p i = true) ∧ (m = n ∨ p m = false)
  | 0 => ⟨0, Nat.le_refl _, fun i h => by omega, .inl rfl⟩
  | n + 1 => by
    obtain ⟨m, h1, h2, h3⟩ := tw_ex p n
    rcases h3 with rfl | h3
    · cases hp : p m with
      | false => exact ⟨m, by omega, h2, .inr hp⟩
      | true => exact ⟨m + 1, by omega, fun i hi => by
          by_cases e : i = m
          · subst e; exact hp
          · exact h2 i (by omega), .inl rfl⟩
    · exact ⟨m, by omega, h2, .inr h3⟩
theorem posN_spec (s : List Nat) (k : Nat) : posN s k ≤ overN s ∧ (∀ j, j < posN s k → keyN s j < k) ∧ (posN s k = overN s ∨ k ≤ keyN s (posN s k)) := by
  obtain ⟨m, h1, h2, h3⟩ := tw_ex (fun j => decide (keyN s j < k)) (overN s)
  have e : posN s k = m := tw_len _ _ h1 h2 h3
  rw [e]
  refine ⟨h1, fun j hj => by simpa using h2 j hj, h3.imp_right fun h => by simpa using h⟩
open Classical in
noncomputable def putF (left : Nat) (s : List Nat) (k p : Nat) : Nat × List Pt :=
  if noRow left s.length then (2, []) else if p = 0 ∨ p = left then (2, []) else if ¬ setP left s then (190, []) else if ∃ j, j < overN s ∧ ptrN s j = p then (2, []) else
  if ∃ j, j < overN s ∧ keyN s j = k then (191, []) else if overN s + 1 = s.length / 2 then (3, []) else (0, putL left s (overN s) (posN s k) k p)
open Classical in
noncomputable def checkF (left : Nat) (s : List Nat) : Nat := if noRow left s.length then 2 else if setP left s then 0 else 190
/-- What a call of a change hands back. -/
def chQ (r : Nat × List Pt) (w : World) (e : Ending) (w' : World) : Prop := ∃ vo, e = .returned (.tuple #[vo, .int .i64 (r.1 : Int)]) ∧ OwnsT pE 2 w' w.heap.size 68 vo r.2 ∧ Below w.heap.size w w'
theorem chQ_nil {c : Nat} {w : World} {e : Ending} {w' : World} (h : e = .returned (.tuple #[.slice none 0 0, .int .i64 (c : Int)]) ∧ Below w.heap.size w w') : chQ (c, []) w e w' := ⟨_, h.1, OwnsT.none _ _ _, h.2⟩
theorem chQ_os {os : List Pt} {w : World} {e : Ending} {w' : World} (h : ∃ vo, e = .returned (.tuple #[vo, .int .i64 0]) ∧ OwnsT pE 2 w' w.heap.size 68 vo os ∧ Below w.heap.size w w') : chQ (0, os) w e w' := h
theorem noRow_not {left n : Nat} (h : ¬ noRow left n) : left ≠ 0 ∧ n % 2 = 0 ∧ 4 ≤ n ∧ n ≤ 56 := Classical.not_not.1 h
set_option maxRecDepth 100000
set_option maxHeartbeats 4000000
theorem put_chg (left n k p gp : Nat) (v : Value) (s : List Nat) (w : World) (hv : ReadsT uE 1 w v s) (hn : s.length = n) (h80 : n ≤ 1048576) (rp : RowL w gp 46 [.int .u64 (k : Int), .int .u64 (p : Int)]) : Calls Try.prog 54 #[.int .u64 (left : Int), v, .func (.func 55) #[] [Value.pointer (some ⟨gp, 0, none⟩)].toArray] w (chQ (putF left s k p) w) := by
  unfold putF
  rw [hn]
  split
  · rename_i h; exact (change_N left n v s _ _ w hv hn h80 h).mono fun e w' h => chQ_nil h
  rename_i h1
  have hrow := noRow_not h1
  have lgp := rp.lt
  have pan : ∀ c, rpE left s p c → Calls Try.prog 54 #[.int .u64 (left : Int), v, .func (.func 55) #[] [Value.pointer (some ⟨gp, 0, none⟩)].toArray] w (chQ (c, []) w) := fun c hE =>
    (change_P left n v s _ _ w hv hn hrow (by kernel_rfl) c fun W gs cs gr go ob b C => (put1_E w.heap.size gs cs gr go ob n left gp k p c s [] W C (by omega) (rp.up b) hE).mono fun e W' h => ⟨h.1, s, [], ((Cs.refl C).up h.2).p⟩).mono fun e w' h => chQ_nil h
  split
  · rename_i h2; exact pan 2 (.inl ⟨rfl, h2⟩)
  rename_i h2
  have hp : p ≠ 0 ∧ p ≠ left := ⟨fun e => h2 (.inl e), fun e => h2 (.inr e)⟩
  split
  · rename_i h3; exact pan 190 (.inr ⟨hp.1, hp.2, .inl ⟨rfl, h3⟩⟩)
  rename_i h3
  obtain ⟨m, hs⟩ := setP_iff.1 (Classical.not_not.1 h3)
  rw [hs.over]
  split
  · rename_i h4
    exact pan 2 (.inr ⟨hp.1, hp.2, .inr ⟨rfl, m, hs, h4⟩⟩)
  rename_i h4
  have hne : ∀ j, j < m → ptrN s j ≠ p := fun j hj e => h4 ⟨j, hj, e⟩
  have pan2 : ∀ c, (∀ (W : World) (gs cs gr go ob : Nat), Below w.heap.size w W → Ch W w.heap.size gs cs gr go ob n left s [] → Calls Try.prog 55 #[rowV (sV gs n cs) left, stoV gr go, .pointer (some ⟨gp, 0, none⟩)] W fun e W' => e = .panicked (chain1 (refV c)) ∧ Below W.heap.size W W') → Calls Try.prog 54 #[.int .u64 (left : Int), v, .func (.func 55) #[] [Value.pointer (some ⟨gp, 0, none⟩)].toArray] w (chQ (c, []) w) := fun c hc =>
    (change_P left n v s _ _ w hv hn hrow (by kernel_rfl) c fun W gs cs gr go ob b C => (hc W gs cs gr go ob b C).mono fun e W' h => ⟨h.1, s, [], ((Cs.refl C).up h.2).p⟩).mono fun e w' h => chQ_nil h
  have hml := hs.lt
  rw [hn] at hml
  split
  · rename_i h5
    obtain ⟨i, hi, hk⟩ := h5
    exact pan2 191 fun W gs cs gr go ob b C => put1_W w.heap.size gs cs gr go ob n left gp k p m i s [] W C (by omega) (rp.up b) hp hs hne hi hk
  rename_i h5
  have hk : ∀ j, j < m → keyN s j ≠ k := fun j hj e => h5 ⟨j, hj, e⟩
  split
  · rename_i h6
    exact pan2 3 fun W gs cs gr go ob b C => put1_L w.heap.size gs cs gr go ob n left gp k p m s [] W C (by omega) (rp.up b) hp hs hne hk (by omega)
  rename_i h6
  obtain ⟨q1, q2, q3⟩ := posN_spec s k
  rw [hs.over] at q1 q3
  have q4 : posN s k = m ∨ k < keyN s (posN s k) := by
    rcases Nat.lt_or_ge (posN s k) m with h | h
    · have := hk _ h
      omega
    · omega
  exact (change_W left n v s _ _ w hv hn hrow (by kernel_rfl) _ (putL left s m (posN s k) k p) fun W gs cs gr go ob b C => (put1_T w.heap.size gs cs gr go ob n left gp k p m (posN s k) s [] W C (by omega) (by simp) (rp.up b) (by have := C.lt; omega) hp hs hne hk (by omega) q1 q2 q4).mono fun e W' h => ⟨h.1, h.2⟩).mono fun e w' h => chQ_os h
theorem put_any (left n k p : Nat) (v : Value) (s : List Nat) (w : World) (hv : ReadsT uE 1 w v s) (hn : s.length = n) (h80 : n ≤ 1048576) : Calls Try.prog 42 #[.int .u64 (left : Int), v, .agg #[.int .u64 (k : Int), .int .u64 (p : Int)]] w (chQ (putF left s k p) w) := by
  have q := Below.refl w.heap.size w
  have hvF : ∀ X, Below w.heap.size w X → ReadsT uE 1 X v s := fun X b => hv.up b
  clear hv
  refine X.fn Try.func42 rfl (n := 14) rfl rfl ?_
  refine CC.seq ?_
  refine CC.region ?_
  refine LL.box [Value.int IntKind.u64 ↑k, Value.int IntKind.u64 ↑p] rfl rfl rfl rfl rfl ?_
  intro W9 g10 eg10 r11 z12 b8
  replace q := q.trans (b8.mono q.size)
  refine LL.val (R.assign rfl rfl) rfl rfl rfl ?_
  refine LL.val (R.assign rfl rfl) rfl rfl rfl ?_
  refine LL.nilS ?_
  refine CC.seq ?_
  refine CC.region ?_
  refine LL.val (R.move rfl rfl) rfl rfl rfl ?_
  refine LL.val (R.move rfl rfl) rfl rfl rfl ?_
  refine LL.val (R.func rfl rfl rfl) rfl rfl rfl ?_
  have l57 := r11.lt
  (refine LL.call (R.call rfl rfl rfl) rfl rfl rfl (put_chg left n k p _ v s _ (hvF _ q) hn h80 (by assumption)) ?_; rintro e W56 ⟨vo, rfl, o, b53⟩; refine ⟨_, rfl, ?_⟩)
  have zb53 := b53.size
  replace r11 := r11.up b53
  replace b8 := b8.trans (b53.mono b8.size)
  replace q := q.trans (b53.mono q.size)
  refine LL.val (R.extract rfl rfl rfl) rfl rfl rfl ?_
  refine LL.val (R.extract rfl rfl rfl) rfl rfl rfl ?_
  refine LL.val (R.assign rfl rfl) rfl rfl rfl ?_
  refine LL.val (R.assign rfl rfl) rfl rfl rfl ?_
  refine LL.nilS ?_
  refine CC.ret ?_
  refine EE.ret _ rfl rfl ?_
  exact ⟨_, rfl, o.lower (by omega), q⟩
open Classical in
noncomputable def readF (left : Nat) (s : List Nat) : List Pr := if noRow left s.length then [] else pairP left s
theorem read_any (left n : Nat) (v : Value) (s : List Nat) (w : World) (hv : ReadsT uE 1 w v s) (hn : s.length = n) (h80 : n ≤ 1048576) : Calls Try.prog 44 #[.int .u64 (left : Int), v] w fun e w' => ∃ vo, e = .returned vo ∧ OwnsT prE 2 w' w.heap.size 46 vo (readF left s) ∧ Below w.heap.size w w' := by
  have q := Below.refl w.heap.size w
  obtain ⟨a, c, rfl, hc⟩ := hv.form hn
  have hvF : ∀ X, Below w.heap.size w X → ReadsT uE 1 X (.slice a n c) s := fun X b => hv.up b
  clear hv
  unfold readF
  rw [hn]
  by_cases h1 : noRow left n
  · rw [if_pos h1]
    refine X.fn Try.func44 rfl (n := 15) rfl rfl ?_
    refine CC.seq ?_
    refine CC.region ?_
    refine LL.val (R.assign rfl rfl) rfl rfl rfl ?_
    refine LL.nilS ?_
    refine CC.seq ?_
    refine CC.region ?_
    refine LL.val (R.move rfl rfl) rfl rfl rfl ?_
    refine LL.val (R.buildV rfl rfl (v := .agg #[Value.slice a n c]) (fun _ => by kernel_rfl)) rfl rfl rfl ?_
    refine LL.val (R.move rfl rfl) rfl rfl rfl ?_
    refine LL.val (R.buildV rfl rfl (v := .agg #[Value.slice a n c, Value.int IntKind.u64 ↑left]) (fun _ => by kernel_rfl)) rfl rfl rfl ?_
    refine LL.alloc ([Value.slice none 0 0, Value.int IntKind.u64 0]) rfl rfl rfl rfl rfl ?_
    intro W2 g3 eg3 r4 z5 b1
    replace q := q.trans (b1.mono q.size)
    refine LL.storeN (vs := [Value.slice a n c, Value.int IntKind.u64 ↑left]) rfl rfl rfl rfl r4 (by exact Nat.le_of_ble_eq_true rfl) (ones_of rfl) rfl rfl ?_
    intro W7 r8 b6 z9
    have hlb6 := r4.lt
    replace r8 : RowL W7 _ 96 [Value.slice a n c, Value.int IntKind.u64 ↑left] := r8
    clear r4
    replace b1 := b1.grown b6 b1.size (by rintro k ⟨⟩; omega)
    replace q := q.grown b6 q.size (by rintro k ⟨⟩; omega)
    have r4 := r8
    clear r8
    refine LL.nilS ?_
    refine CC.seq ?_
    refine CC.seq ?_
    refine CC.region ?_
    refine LL.val (R.load rfl rfl (I.ldNc (vs := [Value.slice a n c, Value.int IntKind.u64 ↑left]) (RowL.cells r4 rfl) (by rfl) (by rfl))) rfl rfl rfl ?_
    refine LL.call (R.call rfl rfl rfl) rfl rfl rfl (is_F _ _ _ _ _ (by first | assumption | omega) (by first | assumption | omega)) ?_
    rintro e W11 ⟨rfl, b10⟩
    refine ⟨_, rfl, ?_⟩
    have zb10 := b10.size
    replace b1 := b1.trans (b10.mono b1.size)
    replace q := q.trans (b10.mono q.size)
    replace r4 := r4.up b10
    refine LL.val (R.not rfl rfl) rfl rfl rfl ?_
    refine LL.nilS ?_
    refine CC.yes rfl ?_
    refine CC.seq ?_
    refine CC.region ?_
    refine LL.val (R.assign rfl rfl) rfl rfl rfl ?_
    refine LL.nilS ?_
    refine CC.ret ?_
    refine EE.thenR ?_
    refine EE.ret _ rfl rfl ?_
    exact ⟨_, rfl, OwnsT.none _ _ _, q⟩
  · rw [if_neg h1]
    have hrow := noRow_not h1
    clear h1
    refine X.fn Try.func44 rfl (n := 15) rfl rfl ?_
    refine CC.seq ?_
    refine CC.region ?_
    refine LL.val (R.assign rfl rfl) rfl rfl rfl ?_
    refine LL.nilS ?_
    refine CC.seq ?_
    refine CC.region ?_
    refine LL.val (R.move rfl rfl) rfl rfl rfl ?_
    refine LL.val (R.buildV rfl rfl (v := .agg #[Value.slice a n c]) (fun _ => by kernel_rfl)) rfl rfl rfl ?_
    refine LL.val (R.move rfl rfl) rfl rfl rfl ?_
    refine LL.val (R.buildV rfl rfl (v := .agg #[Value.slice a n c, Value.int IntKind.u64 ↑left]) (fun _ => by kernel_rfl)) rfl rfl rfl ?_
    refine LL.alloc ([Value.slice none 0 0, Value.int IntKind.u64 0]) rfl rfl rfl rfl rfl ?_
    intro Wa44 ga45 ega45 ra46 za47 ba43
    replace q := q.trans (ba43.mono q.size)
    refine LL.storeN (vs := [Value.slice a n c, Value.int IntKind.u64 ↑left]) rfl rfl rfl rfl ra46 (by exact Nat.le_of_ble_eq_true rfl) (ones_of rfl) rfl rfl ?_
    intro Wa57 ra58 ba56 za59
    have hlba56 := ra46.lt
    replace ra58 : RowL Wa57 _ 96 [Value.slice a n c, Value.int IntKind.u64 ↑left] := ra58
    clear ra46
    replace ba43 := ba43.grown ba56 ba43.size (by rintro k ⟨⟩; omega)
    replace q := q.grown ba56 q.size (by rintro k ⟨⟩; omega)
    have ra46 := ra58
    clear ra58
    refine LL.nilS ?_
    refine CC.seq ?_
    refine CC.seq ?_
    refine CC.region ?_
    refine LL.val (R.load rfl rfl (I.ldNc (vs := [Value.slice a n c, Value.int IntKind.u64 ↑left]) (RowL.cells ra46 rfl) (by rfl) (by rfl))) rfl rfl rfl ?_
    refine LL.call (R.call rfl rfl rfl) rfl rfl rfl (is_T _ _ _ _ _ (by first | assumption | omega)) ?_
    rintro e Wa77 ⟨rfl, ba76⟩
    refine ⟨_, rfl, ?_⟩
    have zba76 := ba76.size
    replace ba43 := ba43.trans (ba76.mono ba43.size)
    replace q := q.trans (ba76.mono q.size)
    replace ra46 := ra46.up ba76
    refine LL.val (R.not rfl rfl) rfl rfl rfl ?_
    refine LL.nilS ?_
    refine CC.no rfl ?_
    refine CC.skip ?_
    refine EE.thenN ?_
    refine CC.seq ?_
    refine CC.region ?_
    refine LL.val (R.load rfl rfl (I.ldNc (vs := [Value.slice a n c, Value.int IntKind.u64 ↑left]) (RowL.cells ra46 rfl) (by rfl) (by rfl))) rfl rfl rfl ?_
    have la99 := ra46.lt
    (refine LL.call (R.call rfl rfl rfl) rfl rfl rfl (pairs_any a n c left s _ (hvF _ q) hn h80) ?_; rintro e Wa98 ⟨vo, rfl, o, ba95⟩; refine ⟨_, rfl, ?_⟩)
    have zba95 := ba95.size
    replace ba76 := ba76.trans (ba95.mono ba76.size)
    replace ba43 := ba43.trans (ba95.mono ba43.size)
    replace q := q.trans (ba95.mono q.size)
    replace ra46 := ra46.up ba95
    refine LL.val (R.assign rfl rfl) rfl rfl rfl ?_
    refine LL.nilS ?_
    refine CC.ret ?_
    refine EE.ret _ rfl rfl ?_
    exact ⟨_, rfl, o.lower (by omega), q⟩
theorem check_any (left n : Nat) (v : Value) (s : List Nat) (w : World) (hv : ReadsT uE 1 w v s) (hn : s.length = n) (h80 : n ≤ 1048576) : Calls Try.prog 45 #[.int .u64 (left : Int), v] w fun e w' => e = .returned (.int .i64 (checkF left s : Int)) ∧ Below w.heap.size w w' := by
  have q := Below.refl w.heap.size w
  obtain ⟨a, c, rfl, hc⟩ := hv.form hn
  have hvF : ∀ X, Below w.heap.size w X → ReadsT uE 1 X (.slice a n c) s := fun X b => hv.up b
  clear hv
  unfold checkF
  rw [hn]
  by_cases h1 : noRow left n
  · rw [if_pos h1]
    refine X.fn Try.func45 rfl (n := 18) rfl rfl ?_
    refine CC.seq ?_
    refine CC.region ?_
    refine LL.val (R.assign rfl rfl) rfl rfl rfl ?_
    refine LL.nilS ?_
    refine CC.seq ?_
    refine CC.region ?_
    refine LL.val (R.move rfl rfl) rfl rfl rfl ?_
    refine LL.val (R.buildV rfl rfl (v := .agg #[Value.slice a n c]) (fun _ => by kernel_rfl)) rfl rfl rfl ?_
    refine LL.val (R.move rfl rfl) rfl rfl rfl ?_
    refine LL.val (R.buildV rfl rfl (v := .agg #[Value.slice a n c, Value.int IntKind.u64 ↑left]) (fun _ => by kernel_rfl)) rfl rfl rfl ?_
    refine LL.alloc ([Value.slice none 0 0, Value.int IntKind.u64 0]) rfl rfl rfl rfl rfl ?_
    intro W2 g3 eg3 r4 z5 b1
    replace q := q.trans (b1.mono q.size)
    refine LL.storeN (vs := [Value.slice a n c, Value.int IntKind.u64 ↑left]) rfl rfl rfl rfl r4 (by exact Nat.le_of_ble_eq_true rfl) (ones_of rfl) rfl rfl ?_
    intro W7 r8 b6 z9
    have hlb6 := r4.lt
    replace r8 : RowL W7 _ 96 [Value.slice a n c, Value.int IntKind.u64 ↑left] := r8
    clear r4
    replace b1 := b1.grown b6 b1.size (by rintro k ⟨⟩; omega)
    replace q := q.grown b6 q.size (by rintro k ⟨⟩; omega)
    have r4 := r8
    clear r8
    refine LL.nilS ?_
    refine CC.seq ?_
    refine CC.block ?_
    refine CC.seq ?_
    refine CC.region ?_
    refine LL.val (R.load rfl rfl (I.ldNc (vs := [Value.slice a n c, Value.int IntKind.u64 ↑left]) (RowL.cells r4 rfl) (by rfl) (by rfl))) rfl rfl rfl ?_
    refine LL.call (R.call rfl rfl rfl) rfl rfl rfl (is_F _ _ _ _ _ (by first | assumption | omega) (by first | assumption | omega)) ?_
    rintro e W11 ⟨rfl, b10⟩
    refine ⟨_, rfl, ?_⟩
    have zb10 := b10.size
    replace b1 := b1.trans (b10.mono b1.size)
    replace q := q.trans (b10.mono q.size)
    replace r4 := r4.up b10
    refine LL.val (R.not rfl rfl) rfl rfl rfl ?_
    refine LL.val (R.assign rfl rfl) rfl rfl rfl ?_
    refine LL.nilS ?_
    refine CC.yes rfl ?_
    refine CC.seq ?_
    refine CC.region ?_
    refine LL.val (R.assign rfl rfl) rfl rfl rfl ?_
    refine LL.nilS ?_
    refine CC.ret ?_
    refine EE.inR ?_
    refine EE.thenR ?_
    refine EE.ret _ rfl rfl ?_
    exact ⟨rfl, q⟩
  · rw [if_neg h1]
    have hrow := noRow_not h1
    clear h1
    by_cases h2 : setP left s
    · rw [if_pos h2]
      refine X.fn Try.func45 rfl (n := 18) rfl rfl ?_
      refine CC.seq ?_
      refine CC.region ?_
      refine LL.val (R.assign rfl rfl) rfl rfl rfl ?_
      refine LL.nilS ?_
      refine CC.seq ?_
      refine CC.region ?_
      refine LL.val (R.move rfl rfl) rfl rfl rfl ?_
      refine LL.val (R.buildV rfl rfl (v := .agg #[Value.slice a n c]) (fun _ => by kernel_rfl)) rfl rfl rfl ?_
      refine LL.val (R.move rfl rfl) rfl rfl rfl ?_
      refine LL.val (R.buildV rfl rfl (v := .agg #[Value.slice a n c, Value.int IntKind.u64 ↑left]) (fun _ => by kernel_rfl)) rfl rfl rfl ?_
      refine LL.alloc ([Value.slice none 0 0, Value.int IntKind.u64 0]) rfl rfl rfl rfl rfl ?_
      intro Wa44 ga45 ega45 ra46 za47 ba43
      replace q := q.trans (ba43.mono q.size)
      refine LL.storeN (vs := [Value.slice a n c, Value.int IntKind.u64 ↑left]) rfl rfl rfl rfl ra46 (by exact Nat.le_of_ble_eq_true rfl) (ones_of rfl) rfl rfl ?_
      intro Wa57 ra58 ba56 za59
      have hlba56 := ra46.lt
      replace ra58 : RowL Wa57 _ 96 [Value.slice a n c, Value.int IntKind.u64 ↑left] := ra58
      clear ra46
      replace ba43 := ba43.grown ba56 ba43.size (by rintro k ⟨⟩; omega)
      replace q := q.grown ba56 q.size (by rintro k ⟨⟩; omega)
      have ra46 := ra58
      clear ra58
      refine LL.nilS ?_
      refine CC.seq ?_
      refine CC.block ?_
      refine CC.seq ?_
      refine CC.region ?_
      refine LL.val (R.load rfl rfl (I.ldNc (vs := [Value.slice a n c, Value.int IntKind.u64 ↑left]) (RowL.cells ra46 rfl) (by rfl) (by rfl))) rfl rfl rfl ?_
      refine LL.call (R.call rfl rfl rfl) rfl rfl rfl (is_T _ _ _ _ _ (by first | assumption | omega)) ?_
      rintro e Wa77 ⟨rfl, ba76⟩
      refine ⟨_, rfl, ?_⟩
      have zba76 := ba76.size
      replace ba43 := ba43.trans (ba76.mono ba43.size)
      replace q := q.trans (ba76.mono q.size)
      replace ra46 := ra46.up ba76
      refine LL.val (R.not rfl rfl) rfl rfl rfl ?_
      refine LL.val (R.assign rfl rfl) rfl rfl rfl ?_
      refine LL.nilS ?_
      refine CC.no rfl ?_
      refine CC.seq ?_
      refine CC.region ?_
      refine LL.val (R.load rfl rfl (I.ldNc (vs := [Value.slice a n c, Value.int IntKind.u64 ↑left]) (RowL.cells ra46 rfl) (by rfl) (by rfl))) rfl rfl rfl ?_
      have la107 := ra46.lt
      (refine LL.call (R.call rfl rfl rfl) rfl rfl rfl (settled_T a n c left s _ (hvF _ q) hn h80 h2) ?_; rintro e Wa106 ⟨rfl, ba103⟩; refine ⟨_, rfl, ?_⟩)
      have zba103 := ba103.size
      replace ba76 := ba76.trans (ba103.mono ba76.size)
      replace ba43 := ba43.trans (ba103.mono ba43.size)
      replace q := q.trans (ba103.mono q.size)
      replace ra46 := ra46.up ba103
      refine LL.val (R.not rfl rfl) rfl rfl rfl ?_
      refine LL.val (R.assign rfl rfl) rfl rfl rfl ?_
      refine LL.nilS ?_
      refine CC.no rfl ?_
      refine CC.skip ?_
      refine EE.inN ?_
      refine EE.thenN ?_
      refine CC.seq ?_
      refine CC.region ?_
      refine LL.val (R.assign rfl rfl) rfl rfl rfl ?_
      refine LL.nilS ?_
      refine CC.ret ?_
      refine EE.ret _ rfl rfl ?_
      exact ⟨rfl, q⟩
    · rw [if_neg h2]
      refine X.fn Try.func45 rfl (n := 18) rfl rfl ?_
      refine CC.seq ?_
      refine CC.region ?_
      refine LL.val (R.assign rfl rfl) rfl rfl rfl ?_
      refine LL.nilS ?_
      refine CC.seq ?_
      refine CC.region ?_
      refine LL.val (R.move rfl rfl) rfl rfl rfl ?_
      refine LL.val (R.buildV rfl rfl (v := .agg #[Value.slice a n c]) (fun _ => by kernel_rfl)) rfl rfl rfl ?_
      refine LL.val (R.move rfl rfl) rfl rfl rfl ?_
      refine LL.val (R.buildV rfl rfl (v := .agg #[Value.slice a n c, Value.int IntKind.u64 ↑left]) (fun _ => by kernel_rfl)) rfl rfl rfl ?_
      refine LL.alloc ([Value.slice none 0 0, Value.int IntKind.u64 0]) rfl rfl rfl rfl rfl ?_
      intro Wb44 gb45 egb45 rb46 zb47 bb43
      replace q := q.trans (bb43.mono q.size)
      refine LL.storeN (vs := [Value.slice a n c, Value.int IntKind.u64 ↑left]) rfl rfl rfl rfl rb46 (by exact Nat.le_of_ble_eq_true rfl) (ones_of rfl) rfl rfl ?_
      intro Wb57 rb58 bb56 zb59
      have hlbb56 := rb46.lt
      replace rb58 : RowL Wb57 _ 96 [Value.slice a n c, Value.int IntKind.u64 ↑left] := rb58
      clear rb46
      replace bb43 := bb43.grown bb56 bb43.size (by rintro k ⟨⟩; omega)
      replace q := q.grown bb56 q.size (by rintro k ⟨⟩; omega)
      have rb46 := rb58
      clear rb58
      refine LL.nilS ?_
      refine CC.seq ?_
      refine CC.block ?_
      refine CC.seq ?_
      refine CC.region ?_
      refine LL.val (R.load rfl rfl (I.ldNc (vs := [Value.slice a n c, Value.int IntKind.u64 ↑left]) (RowL.cells rb46 rfl) (by rfl) (by rfl))) rfl rfl rfl ?_
      refine LL.call (R.call rfl rfl rfl) rfl rfl rfl (is_T _ _ _ _ _ (by first | assumption | omega)) ?_
      rintro e Wb77 ⟨rfl, bb76⟩
      refine ⟨_, rfl, ?_⟩
      have zbb76 := bb76.size
      replace bb43 := bb43.trans (bb76.mono bb43.size)
      replace q := q.trans (bb76.mono q.size)
      replace rb46 := rb46.up bb76
      refine LL.val (R.not rfl rfl) rfl rfl rfl ?_
      refine LL.val (R.assign rfl rfl) rfl rfl rfl ?_
      refine LL.nilS ?_
      refine CC.no rfl ?_
      refine CC.seq ?_
      refine CC.region ?_
      refine LL.val (R.load rfl rfl (I.ldNc (vs := [Value.slice a n c, Value.int IntKind.u64 ↑left]) (RowL.cells rb46 rfl) (by rfl) (by rfl))) rfl rfl rfl ?_
      have lb107 := rb46.lt
      (refine LL.call (R.call rfl rfl rfl) rfl rfl rfl (settled_F a n c left s _ (hvF _ q) hn h80 h2) ?_; rintro e Wb106 ⟨rfl, bb103⟩; refine ⟨_, rfl, ?_⟩)
      have zbb103 := bb103.size
      replace bb76 := bb76.trans (bb103.mono bb76.size)
      replace bb43 := bb43.trans (bb103.mono bb43.size)
      replace q := q.trans (bb103.mono q.size)
      replace rb46 := rb46.up bb103
      refine LL.val (R.not rfl rfl) rfl rfl rfl ?_
      refine LL.val (R.assign rfl rfl) rfl rfl rfl ?_
      refine LL.nilS ?_
      refine CC.yes rfl ?_
      refine CC.seq ?_
      refine CC.region ?_
      refine LL.val (R.assign rfl rfl) rfl rfl rfl ?_
      refine LL.nilS ?_
      refine CC.ret ?_
      refine EE.inR ?_
      refine EE.thenR ?_
      refine EE.ret _ rfl rfl ?_
      exact ⟨rfl, q⟩
end Go.Proofs.Ytfplilpefhhpnaa
/- A scope in which the run jumps ahead to a label. Over any program. -/
namespace Go.Proofs.Ytfplilpefhhpnaa
set_option linter.unusedVariables false
set_option linter.unusedSimpArgs false
open Go.RowKit Go.Shelf

section
variable {P : Program} {w : World} {n : Nat} {D : List Deferred} {M : Slots} {Q : Exit → Act → World → Prop}
theorem CC.fwd {α : Type} {l : Nat} {c rest : Code} (Dx : α → List Deferred) (L : α → List (Nat × Value)) (I : α → World → Prop) (hf : findLabel c l = some rest)
    (first : CC none P (Exit.jump l (fun a' w' => ∃ x, Fr n (Dx x) (sl (L x)) a' ∧ I x w') Q) n D M c w)
    (pass : ∀ x w, I x w → CC none P (Exit.jump l (fun _ _ => False) Q) n (Dx x) (sl (L x)) rest w) : CC none P Q n D M (.scope c) w := CC.mk fun a F => by
  refine (wpIn_wide (n := 3)).2 (wp_scope_jumps l (fun a' w' => ∃ x, Fr n (Dx x) (sl (L x)) a' ∧ I x w') (fun _ _ => 0) hf ((wpIn_wide (n := 3)).1 (first.h a F)) ?_)
  rintro a w ⟨x, hF, hI⟩
  refine (wpIn_wide (n := 3)).1 (Code.wpIn_mono ?_ ((pass x w hI).h a hF))
  intro e a' w' hq
  cases e <;> try exact hq
  exact hq.2.elim
theorem EE.jumpTo {α : Type} {l : Nat} {Dx : α → List Deferred} {L : α → List (Nat × Value)} {I : α → World → Prop} (x : α) (hD : D = Dx x) (hL : Fits M (L x)) (hI : I x w) : EE (Exit.jump l (fun a' w' => ∃ x, Fr n (Dx x) (sl (L x)) a' ∧ I x w') Q) n D M (.goto l) w := EE.mk fun _ F => ⟨rfl, x, by subst hD; exact F.keep _ hL, hI⟩
end
end Go.Proofs.Ytfplilpefhhpnaa
/- node: the rules; read (written by gennd2.py). -/
namespace Go.Proofs.Ytfplilpefhhpnaa
set_option linter.unusedVariables false
set_option linter.unusedSimpArgs false
open Go.RowKit Go.Shelf
set_option maxRecDepth 100000
set_option maxHeartbeats 8000000
theorem reads_uE {w : World} {v : Value} {ws : List Nat} (h : Reads w v (ints .u64 ws)) : ReadsT uE 1 w v ws := by
  obtain ⟨a, cap, e, hc, h⟩ := h
  have hl : (ints .u64 ws).length = ws.length := by simp [ints]
  rw [hl] at e hc
  exact ⟨a, cap, e, hc, fun hne => by
    obtain ⟨b, off, h1, h2, h3⟩ := h (by intro e; rw [e] at hl; exact hne (List.eq_nil_of_length_eq_zero hl.symm))
    exact ⟨b, off, h1, h2, fun j hj => by rw [flat_u]; exact h3 j (by omega)⟩⟩

theorem Reads.from {w : World} {b off len cap : Nat} {xs : List Value} (h : Reads w (.slice (some ⟨b, off, none⟩) len cap) xs) (j : Nat) (hj : j ≤ len) : Reads w (.slice (some ⟨b, off + j, none⟩) (len - j) (cap - j)) (xs.drop j) := by
  obtain ⟨a', cap', e, hc, h⟩ := h
  cases e
  refine ⟨some ⟨b, off + j, none⟩, cap - j, by simp, by simp; omega, fun hne => ?_⟩
  obtain ⟨b', off', ha, hlt, hcell⟩ := h (by intro e; simp [e] at hne)
  cases ha
  refine ⟨b, off + j, rfl, hlt, fun i hi => ?_⟩
  simp only [List.length_drop] at hi
  rw [Nat.add_assoc, hcell (j + i) (by omega)]
  simp

section
variable {P : Program} {w : World} {o : Oper} {n : Nat} {D : List Deferred} {M : Slots} {x y : Operand} {t u : TypeId}
theorem R.andNotE {a b z : Nat} (ho : o.op = .binOp .andNot t x y u) (hx : evM M x = some (.int .u64 (a : Int))) (hy : evM M y = some (.int .u64 (b : Int))) (ha : a < 18446744073709551616) (hb : b < 18446744073709551616) (hz : a &&& (18446744073709551615 - b) = z) : Runs P n D M o w (.value (.int .u64 (z : Int))) w := by
  subst hz
  exact R.bin ho hx hy (by
    have e1 : (BitVec.ofInt 64 (a : Int)).toNat = a := by
      rw [BitVec.toNat_ofInt]
      omega
    have e2 : (BitVec.ofInt 64 (b : Int)).toNat = b := by
      rw [BitVec.toNat_ofInt]
      omega
    have e3 : (BitVec.ofInt 64 (a : Int) &&& ~~~BitVec.ofInt 64 (b : Int)).toNat = a &&& (18446744073709551615 - b) := by
      rw [BitVec.toNat_and, BitVec.toNat_not, e1, e2]
    have hle : a &&& (18446744073709551615 - b) ≤ a := Nat.and_le_left
    have e4 : IntKind.u64.wrap ((a &&& (18446744073709551615 - b) : Nat) : Int) = ((a &&& (18446744073709551615 - b) : Nat) : Int) := IntWalk.u64_in _ (by omega)
    have e5 : (Op.intBits .andNot .u64 (a : Int) (b : Int)).run P w = .ok (.int .u64 ((a &&& (18446744073709551615 - b) : Nat) : Int)) w := by
      show (pure (Value.int .u64 (IntKind.u64.wrap ((BitVec.ofInt 64 (a : Int) &&& ~~~BitVec.ofInt 64 (b : Int)).toNat : Int))) : Sem Value).run P w = _
      rw [e3, e4]
      rfl
    simp only [eqGuard, binOp, Sem.run_bind]
    simpa using e5)
end
theorem and_lo (x : Nat) : x &&& (18446744073709551615 - 18446744073709551360) = x % 256 := Nat.and_two_pow_sub_one_eq_mod x 8
instance (v l : Nat) : Decidable (ru1 v l) := by unfold ru1; infer_instance
instance (v : Nat) : Decidable (ru2 v) := by unfold ru2; infer_instance
instance (v l : Nat) : Decidable (ru3 v l) := by unfold ru3; infer_instance
theorem ru1_d (v l : Nat) (hv : v < 18446744073709551616) (hl : l < 256) (w : World) : Calls Try.prog 66 #[.int .u64 (v : Int), .int .i64 (l : Int)] w fun e w' => e = .returned (.bool (decide (ru1 v l))) ∧ Below w.heap.size w w' := ru1_any v l _ decide_eq_true_iff hv hl w
theorem ru2_d (v l : Nat) (w : World) : Calls Try.prog 67 #[.int .u64 (v : Int), .int .i64 (l : Int)] w fun e w' => e = .returned (.bool (decide (v ≤ 2047))) ∧ Below w.heap.size w w' := ru2_any v l _ (by unfold ru2; exact decide_eq_true_iff) w
theorem ru3_d (v l : Nat) (w : World) : Calls Try.prog 69 #[.int .u64 (v : Int), .int .i64 (l : Int)] w fun e w' => e = .returned (.bool (decide (ru3 v l))) ∧ Below w.heap.size w w' := ru3_any v l _ decide_eq_true_iff w
theorem ru4_d (v l : Nat) (w : World) : Calls Try.prog 70 #[.int .u64 (v : Int), .int .i64 (l : Int)] w fun e w' => e = .returned (.bool (decide (v ≤ 2))) ∧ Below w.heap.size w w' := ru4_any v l _ decide_eq_true_iff w
theorem ru5_d (v l : Nat) (w : World) : Calls Try.prog 71 #[.int .u64 (v : Int), .int .i64 (l : Int)] w fun e w' => e = .returned (.bool (decide (v = 0))) ∧ Below w.heap.size w w' := ru5_any v l _ decide_eq_true_iff w
/-- Words of a node's head. -/
structure hdOk (x0 x1 x3 x4 x5 x6 x7 : Nat) : Prop where
  a : ru1 x0 (x0 % 256)
  b : x1 ≤ 2047
  c : ru3 x3 (x0 % 256)
  d : x4 ≤ 2
  e : x5 = 0
  f : x6 = 0
  g : x7 = 0
/-- A view of a node. -/
abbrev viewV (l s : Int) (lo le : Nat) (wy : Int) (ps ws : Value) : Value := .agg #[.int .i64 l, .int .i64 s, .int .u64 (lo : Int), .int .u64 (le : Int), .int .i64 wy, ps, ws]
abbrev nilV : Value := .slice none 0 0
abbrev viewL (l s : Int) (lo le : Nat) (wy : Int) (ps ws : Value) : List Value := [.int .i64 l, .int .i64 s, .int .u64 (lo : Int), .int .u64 (le : Int), .int .i64 wy, ps, ws]
abbrev nfnV (f : Nat) : Value := .func (.func f) #[] #[]
theorem rules_any (w : World) : Calls Try.prog 43 #[] w fun e w' => ∃ g, e = .returned (.slice (some ⟨g, 0, none⟩) 5 5) ∧ RowL w' g 88 [.int .i64 0, .int .i64 1, nfnV 66, .int .i64 1, .int .i64 2, nfnV 67, .int .i64 3, .int .i64 4, nfnV 69, .int .i64 4, .int .i64 5, nfnV 70, .int .i64 5, .int .i64 8, nfnV 71] ∧ w.heap.size ≤ g ∧ Below w.heap.size w w' := by
  have q := Below.refl w.heap.size w
  refine X.fn Try.func43 rfl (n := 7) rfl rfl ?_
  refine CC.seq ?_
  refine CC.region ?_
  refine LL.val (R.assign rfl rfl) rfl rfl rfl ?_
  refine LL.nilS ?_
  refine CC.seq ?_
  refine CC.region ?_
  refine LL.val (R.buildV rfl rfl (v := .agg #[Value.int IntKind.i64 0, Value.int IntKind.i64 1, Value.func (Fn.func 66) #[] #[]]) (fun _ => by kernel_rfl)) rfl rfl rfl ?_
  refine LL.val (R.buildV rfl rfl (v := .agg #[Value.int IntKind.i64 1, Value.int IntKind.i64 2, Value.func (Fn.func 67) #[] #[]]) (fun _ => by kernel_rfl)) rfl rfl rfl ?_
  refine LL.val (R.buildV rfl rfl (v := .agg #[Value.int IntKind.i64 3, Value.int IntKind.i64 4, Value.func (Fn.func 69) #[] #[]]) (fun _ => by kernel_rfl)) rfl rfl rfl ?_
  refine LL.val (R.buildV rfl rfl (v := .agg #[Value.int IntKind.i64 4, Value.int IntKind.i64 5, Value.func (Fn.func 70) #[] #[]]) (fun _ => by kernel_rfl)) rfl rfl rfl ?_
  refine LL.val (R.buildV rfl rfl (v := .agg #[Value.int IntKind.i64 5, Value.int IntKind.i64 8, Value.func (Fn.func 71) #[] #[]]) (fun _ => by kernel_rfl)) rfl rfl rfl ?_
  refine LL.lit (e := 88) [Value.int IntKind.i64 0, Value.int IntKind.i64 1, Value.func (Fn.func 66) #[] #[], Value.int IntKind.i64 1, Value.int IntKind.i64 2, Value.func (Fn.func 67) #[] #[], Value.int IntKind.i64 3, Value.int IntKind.i64 4, Value.func (Fn.func 69) #[] #[], Value.int IntKind.i64 4, Value.int IntKind.i64 5, Value.func (Fn.func 70) #[] #[], Value.int IntKind.i64 5, Value.int IntKind.i64 8, Value.func (Fn.func 71) #[] #[]] 5 rfl rfl (fun _ => by kernel_rfl) rfl rfl ?_
  intro W2 g3 eg3 r4 z5 b1
  replace q := q.trans (b1.mono q.size)
  refine LL.val (R.assign rfl rfl) rfl rfl rfl ?_
  refine LL.nilS ?_
  refine CC.ret ?_
  refine EE.ret _ rfl rfl ?_
  exact ⟨_, rfl, by assumption, by omega, q⟩
--C node_rules_1 | ru1_d _ _ (by assumption) (by omega) @w | DB
--C node_rules_2 | ru2_d _ _ @w | DB
--C node_rules_3 | ru3_d _ _ @w | DB
--C node_rules_4 | ru4_d _ _ @w | DB
--C node_rules_5 | ru5_d _ _ @w | DB
theorem read_all (bk off cap : Nat) (ws : List Nat) (w : World) (hv : Reads w (.slice (some ⟨bk, off, none⟩) 64 cap) (ints .u64 ws)) (hl : ws.length = 64) (hc : 64 ≤ cap) (hb : ∀ x ∈ ws, x < 18446744073709551616) (x0 x1 x2 x3 x4 x5 x6 x7 : Nat) (e0 : ws[0]? = some x0) (e1 : ws[1]? = some x1) (e2 : ws[2]? = some x2) (e3 : ws[3]? = some x3) (e4 : ws[4]? = some x4) (e5 : ws[5]? = some x5) (e6 : ws[6]? = some x6) (e7 : ws[7]? = some x7) : Calls Try.prog 28 #[.slice (some ⟨bk, off, none⟩) 64 cap] w fun e w' => (hdOk x0 x1 x3 x4 x5 x6 x7 → ∃ vo, e = .returned (.tuple #[viewV ((x0 % 256 : Nat) : Int) (x1 : Int) x2 x3 (x4 : Int) vo (.slice (some ⟨bk, off, none⟩) 64 cap), .int .i64 0]) ∧ OwnsT prE 2 w' w.heap.size 46 vo (readF x3 (ws.drop 8))) ∧ (¬hdOk x0 x1 x3 x4 x5 x6 x7 → e = .returned (.tuple #[viewV 0 0 0 0 0 nilV nilV, .int .i64 210])) ∧ Below w.heap.size w w' := by
  have q := Below.refl w.heap.size w
  have hm := fun {j x : Nat} (h : ws[j]? = some x) => hb x (List.mem_of_getElem? h)
  have m0 := hm e0
  have m1 := hm e1
  have m2 := hm e2
  have m3 := hm e3
  have m4 := hm e4
  have m5 := hm e5
  have m6 := hm e6
  have m7 := hm e7
  have lbk : bk < w.heap.size := by
    obtain ⟨_, _, h⟩ := hv.at
    obtain ⟨_, _, e, h2, _⟩ := h (by decide)
    cases e
    exact h2
  have c0 := reads_int hv e0
  have c1 := reads_int hv e1
  have c2 := reads_int hv e2
  have c3 := reads_int hv e3
  have c4 := reads_int hv e4
  have c5 := reads_int hv e5
  have c6 := reads_int hv e6
  have c7 := reads_int hv e7
  have hr8 := (hv.from 8 (by decide))
  rw [show (ints .u64 ws).drop 8 = ints .u64 (ws.drop 8) by simp [ints]] at hr8
  have hd8 : (ws.drop 8).length = 64 - 8 := by rw [List.length_drop, hl]
  have hrd := fun W (b : Below w.heap.size w W) => Go.Proofs.Ytfplilpefhhpnaa.read_any x3 (64 - 8) (.slice (some ⟨bk, off + 8 * 1, none⟩) (64 - 8) (cap - 8)) (ws.drop 8) W (reads_uE (hr8.below b)) hd8 (by decide)
  have hlo : x0 &&& (18446744073709551615 - 18446744073709551360) = x0 % 256 := and_lo x0
  clear hv hr8 hm hb
  refine X.fn Try.func28 rfl (n := 80) rfl rfl ?_
  refine CC.seq ?_
  refine CC.region ?_
  refine LL.alloc ([Value.int IntKind.i64 0, Value.int IntKind.i64 0, Value.int IntKind.u64 0, Value.int IntKind.u64 0, Value.int IntKind.i64 0, Value.slice none 0 0, Value.slice none 0 0]) rfl rfl rfl rfl rfl ?_
  intro W2 g3 eg3 r4 z5 b1
  replace q := q.trans (b1.mono q.size)
  replace c0 := cell_up c0 b1
  replace c1 := cell_up c1 b1
  replace c2 := cell_up c2 b1
  replace c3 := cell_up c3 b1
  replace c4 := cell_up c4 b1
  replace c5 := cell_up c5 b1
  replace c6 := cell_up c6 b1
  replace c7 := cell_up c7 b1
  refine LL.val (R.assign rfl rfl) rfl rfl rfl ?_
  refine LL.nilS ?_
  refine CC.fwd (l := 0) (α := Unit) (fun _ => []) (fun _ => [(2, .pointer (some ⟨g3, 0, none⟩))]) (fun _ W => Below w.heap.size w W ∧ ¬hdOk x0 x1 x3 x4 x5 x6 x7 ∧ RowL W g3 70 (viewL 0 0 0 0 0 nilV nilV)) rfl ?first ?pass
  case pass =>
    rintro _ W ⟨q, hne, r4⟩
    refine CC.seq ?_
    refine CC.skip ?_
    refine EE.thenN ?_
    refine CC.seq ?_
    refine CC.region ?_
    refine LL.val (R.buildV rfl rfl (v := .agg #[Value.int IntKind.i64 0, Value.int IntKind.i64 0, Value.int IntKind.u64 0, Value.int IntKind.u64 0, Value.int IntKind.i64 0, Value.slice none 0 0, Value.slice none 0 0]) (fun _ => by kernel_rfl)) rfl rfl rfl ?_
    refine LL.storeN (vs := [Value.int IntKind.i64 0, Value.int IntKind.i64 0, Value.int IntKind.u64 0, Value.int IntKind.u64 0, Value.int IntKind.i64 0, Value.slice none 0 0, Value.slice none 0 0]) rfl rfl rfl rfl r4 (by exact Nat.le_of_ble_eq_true rfl) (ones_of rfl) rfl rfl ?_
    intro Wa2 ra3 ba1 za4
    have hlba1 := r4.lt
    replace ra3 : RowL Wa2 _ 70 [Value.int IntKind.i64 0, Value.int IntKind.i64 0, Value.int IntKind.u64 0, Value.int IntKind.u64 0, Value.int IntKind.i64 0, Value.slice none 0 0, Value.slice none 0 0] := ra3
    clear r4
    replace q := q.grown ba1 q.size (by rintro k ⟨⟩; omega)
    have r4 := ra3
    clear ra3
    refine LL.val (R.assign rfl rfl) rfl rfl rfl ?_
    refine LL.nilS ?_
    refine CC.ret ?_
    refine EE.jumpR ?_
    refine EE.ret2 rfl ⟨_, rfl, lvNc (RowL.cells0 (by assumption)) (by rfl) (by rfl)⟩ rfl ?_
    exact ⟨fun h => absurd h hne, fun _ => rfl, q⟩
  case first =>
    refine CC.seq ?_
    refine CC.region ?_
    have lb17 := r4.lt
    refine LL.alloc ([Value.int IntKind.i64 0, Value.int IntKind.i64 0, Value.int IntKind.u64 0, Value.int IntKind.u64 0, Value.int IntKind.i64 0, Value.slice none 0 0, Value.slice none 0 0]) rfl rfl rfl rfl rfl ?_
    intro Wb19 gb20 egb20 rb21 zb22 bb18
    replace r4 := r4.up bb18
    replace b1 := b1.trans (bb18.mono b1.size)
    replace q := q.trans (bb18.mono q.size)
    replace c0 := cell_up c0 bb18
    replace c1 := cell_up c1 bb18
    replace c2 := cell_up c2 bb18
    replace c3 := cell_up c3 bb18
    replace c4 := cell_up c4 bb18
    replace c5 := cell_up c5 bb18
    replace c6 := cell_up c6 bb18
    replace c7 := cell_up c7 bb18
    refine LL.nilS ?_
    refine CC.seq ?_
    refine CC.region ?_
    refine LL.val (R.assign rfl rfl) rfl rfl rfl ?_
    refine LL.nilS ?_
    refine CC.seq ?_
    refine CC.seq ?_
    refine CC.region ?_
    refine LL.val (R.move rfl rfl) rfl rfl rfl ?_
    refine LL.val (R.len rfl rfl rfl rfl) rfl rfl rfl ?_
    refine LL.val (R.neF rfl rfl rfl (by omega)) rfl rfl rfl ?_
    refine LL.nilS ?_
    refine CC.no rfl ?_
    refine CC.skip ?_
    refine EE.thenN ?_
    refine CC.seq ?_
    refine CC.region ?_
    refine LL.val (R.move rfl rfl) rfl rfl rfl ?_
    refine LL.val (R.index rfl rfl rfl (I.ixS1c rfl rfl (by omega))) rfl rfl rfl ?_
    refine LL.val (R.load rfl rfl (I.ld1 rfl (by assumption))) rfl rfl rfl ?_
    refine LL.val (R.andNotE (a := x0) (b := 18446744073709551360) (z := x0 % 256) rfl rfl rfl m0 (by decide) hlo) rfl rfl rfl ?_
    refine LL.val (R.convI rfl rfl rfl rfl (wrapI (by omega) (by omega))) rfl rfl rfl ?_
    refine LL.val (R.assign rfl rfl) rfl rfl rfl ?_
    refine LL.nilS ?_
    refine CC.seq ?_
    refine CC.seq ?_
    refine CC.region ?_
    refine LL.call (R.call rfl rfl rfl) rfl rfl rfl (rules_any _) ?_
    rintro e Wb204 ⟨gb206, rfl, rb207, hb205, bb203⟩
    refine ⟨_, rfl, ?_⟩
    have zbb203 := bb203.size
    replace rb21 := rb21.up bb203
    replace bb18 := bb18.trans (bb203.mono bb18.size)
    replace r4 := r4.up bb203
    replace b1 := b1.trans (bb203.mono b1.size)
    replace q := q.trans (bb203.mono q.size)
    replace c0 := cell_up c0 bb203
    replace c1 := cell_up c1 bb203
    replace c2 := cell_up c2 bb203
    replace c3 := cell_up c3 bb203
    replace c4 := cell_up c4 bb203
    replace c5 := cell_up c5 bb203
    replace c6 := cell_up c6 bb203
    replace c7 := cell_up c7 bb203
    refine LL.val (R.len rfl rfl rfl rfl) rfl rfl rfl ?_
    refine LL.val (R.move rfl rfl) rfl rfl rfl ?_
    refine LL.nilS ?_
    refine CC.block ?_
    refine CC.loopN 6 ?_
    refine RN.step ?_
    refine CC.seq ?_
    refine CC.region ?_
    refine LL.val (R.ltT rfl rfl rfl (by omega)) rfl rfl rfl ?_
    refine LL.nilS ?_
    refine CC.seq ?_
    refine CC.yes rfl ?_
    refine CC.skip ?_
    refine EE.thenN ?_
    refine CC.seq ?_
    refine CC.block ?_
    refine CC.seq ?_
    refine CC.region ?_
    refine LL.val (R.index rfl rfl rfl (I.ixSc rfl rfl (by omega))) rfl rfl rfl ?_
    refine LL.val (R.load rfl rfl (I.ldNc (vs := [Value.int IntKind.i64 0, Value.int IntKind.i64 1, nfnV 66]) (RowL.cells rb207 rfl) (by rfl) (by rfl))) rfl rfl rfl ?_
    have lb329 := rb207.lt
    have lb330 := rb21.lt
    have lb331 := r4.lt
    refine LL.alloc ([Value.int IntKind.i64 0, Value.int IntKind.i64 0, Value.nilFunc]) rfl rfl rfl rfl rfl ?_
    intro Wb333 gb334 egb334 rb335 zb336 bb332
    replace rb207 := rb207.up bb332
    replace bb203 := bb203.trans (bb332.mono bb203.size)
    replace rb21 := rb21.up bb332
    replace bb18 := bb18.trans (bb332.mono bb18.size)
    replace r4 := r4.up bb332
    replace b1 := b1.trans (bb332.mono b1.size)
    replace q := q.trans (bb332.mono q.size)
    replace c0 := cell_up c0 bb332
    replace c1 := cell_up c1 bb332
    replace c2 := cell_up c2 bb332
    replace c3 := cell_up c3 bb332
    replace c4 := cell_up c4 bb332
    replace c5 := cell_up c5 bb332
    replace c6 := cell_up c6 bb332
    replace c7 := cell_up c7 bb332
    refine LL.storeN (vs := [Value.int IntKind.i64 0, Value.int IntKind.i64 1, nfnV 66]) rfl rfl rfl rfl rb335 (by exact Nat.le_of_ble_eq_true rfl) (ones_of rfl) rfl rfl ?_
    intro Wb360 rb361 bb359 zb362
    have hlbb359 := rb335.lt
    replace rb361 : RowL Wb360 _ 88 [Value.int IntKind.i64 0, Value.int IntKind.i64 1, nfnV 66] := rb361
    clear rb335
    replace bb332 := bb332.grown bb359 bb332.size (by rintro k ⟨⟩; omega)
    replace rb207 := rb207.gr bb359 (by have := rb207.lt; omega)
    replace bb203 := bb203.grown bb359 bb203.size (by rintro k ⟨⟩; omega)
    replace rb21 := rb21.gr bb359 (by have := rb21.lt; omega)
    replace bb18 := bb18.grown bb359 bb18.size (by rintro k ⟨⟩; omega)
    replace r4 := r4.gr bb359 (by have := r4.lt; omega)
    replace b1 := b1.grown bb359 b1.size (by rintro k ⟨⟩; omega)
    replace q := q.grown bb359 q.size (by rintro k ⟨⟩; omega)
    replace c0 := cell_gr c0 bb359 (by omega)
    replace c1 := cell_gr c1 bb359 (by omega)
    replace c2 := cell_gr c2 bb359 (by omega)
    replace c3 := cell_gr c3 bb359 (by omega)
    replace c4 := cell_gr c4 bb359 (by omega)
    replace c5 := cell_gr c5 bb359 (by omega)
    replace c6 := cell_gr c6 bb359 (by omega)
    replace c7 := cell_gr c7 bb359 (by omega)
    have rb335 := rb361
    clear rb361
    refine LL.nilS ?_
    refine CC.seq ?_
    refine CC.region ?_
    refine LL.val (R.move rfl rfl) rfl rfl rfl ?_
    refine LL.val (R.field rfl rfl (I.fld rfl)) rfl rfl rfl ?_
    refine LL.val (R.load rfl rfl (I.ld1 rfl (RowL.cell rb335 rfl))) rfl rfl rfl ?_
    refine LL.val (R.field rfl rfl (I.fld rfl)) rfl rfl rfl ?_
    refine LL.val (R.load rfl rfl (I.ld1 rfl (RowL.cell rb335 rfl))) rfl rfl rfl ?_
    refine LL.val (R.slice rfl rfl rfl rfl rfl (I.slSc rfl rfl rfl (by omega) (by omega) (by omega))) rfl rfl rfl ?_
    refine LL.val (R.len rfl rfl rfl rfl) rfl rfl rfl ?_
    refine LL.val (R.move rfl rfl) rfl rfl rfl ?_
    refine LL.nilS ?_
    refine CC.block ?_
    refine CC.loopN 6 ?_
    refine RN.step ?_
    refine CC.seq ?_
    refine CC.region ?_
    refine LL.val (R.ltT rfl rfl rfl (by omega)) rfl rfl rfl ?_
    refine LL.nilS ?_
    refine CC.seq ?_
    refine CC.yes rfl ?_
    refine CC.skip ?_
    refine EE.thenN ?_
    refine CC.seq ?_
    refine CC.block ?_
    refine CC.seq ?_
    refine CC.region ?_
    refine LL.val (R.index rfl rfl rfl (I.ixS1c rfl rfl (by omega))) rfl rfl rfl ?_
    refine LL.val (R.load rfl rfl (I.ld1 rfl (by assumption))) rfl rfl rfl ?_
    refine LL.val (R.assign rfl rfl) rfl rfl rfl ?_
    refine LL.nilS ?_
    refine CC.seq ?_
    refine CC.region ?_
    refine LL.val (R.field rfl rfl (I.fld rfl)) rfl rfl rfl ?_
    refine LL.val (R.load rfl rfl (I.ld1 rfl (RowL.cell rb335 rfl))) rfl rfl rfl ?_
    refine LL.val (R.move rfl rfl) rfl rfl rfl ?_
    refine LL.val (R.move rfl rfl) rfl rfl rfl ?_
    refine LL.callB (R.callV rfl rfl rfl rfl) rfl rfl rfl (ru1_d _ _ (by assumption) (by omega) _) (fun cb739 Wb738 bb737 => ?_) (fun cb739 Wb738 bb737 => ?nob740)
    have zbb737 := bb737.size
    replace bb332 := bb332.trans (bb737.mono bb332.size)
    replace rb207 := rb207.up bb737
    replace bb203 := bb203.trans (bb737.mono bb203.size)
    replace rb21 := rb21.up bb737
    replace bb18 := bb18.trans (bb737.mono bb18.size)
    replace r4 := r4.up bb737
    replace b1 := b1.trans (bb737.mono b1.size)
    replace q := q.trans (bb737.mono q.size)
    replace c0 := cell_up c0 bb737
    replace c1 := cell_up c1 bb737
    replace c2 := cell_up c2 bb737
    replace c3 := cell_up c3 bb737
    replace c4 := cell_up c4 bb737
    replace c5 := cell_up c5 bb737
    replace c6 := cell_up c6 bb737
    replace c7 := cell_up c7 bb737
    replace rb335 := rb335.up bb737
    case' nob740 =>
      have zbb737 := bb737.size
      replace bb332 := bb332.trans (bb737.mono bb332.size)
      replace rb207 := rb207.up bb737
      replace bb203 := bb203.trans (bb737.mono bb203.size)
      replace rb21 := rb21.up bb737
      replace bb18 := bb18.trans (bb737.mono bb18.size)
      replace r4 := r4.up bb737
      replace b1 := b1.trans (bb737.mono b1.size)
      replace q := q.trans (bb737.mono q.size)
      replace c0 := cell_up c0 bb737
      replace c1 := cell_up c1 bb737
      replace c2 := cell_up c2 bb737
      replace c3 := cell_up c3 bb737
      replace c4 := cell_up c4 bb737
      replace c5 := cell_up c5 bb737
      replace c6 := cell_up c6 bb737
      replace c7 := cell_up c7 bb737
      replace rb335 := rb335.up bb737
    refine LL.val (R.not rfl rfl) rfl rfl rfl ?_
    refine LL.nilS ?_
    refine CC.yes rfl ?_
    refine CC.goto ?_
    refine EE.inG ?_
    refine EE.thenG ?_
    refine EE.thenG ?_
    refine EE.inG ?_
    refine EE.inG ?_
    refine EE.thenG ?_
    refine EE.thenG ?_
    refine EE.inG ?_
    refine EE.thenG ?_
    (refine EE.jumpTo () rfl ?_ ⟨q, (fun h => by (obtain ⟨h1, h2, h3, h4, h5, h6, h7⟩ := h; first | exact absurd h1 (by assumption) | exact absurd h2 (by assumption) | exact absurd h3 (by assumption) | exact absurd h4 (by assumption) | exact absurd h5 (by assumption) | exact absurd h6 (by assumption) | exact absurd h7 (by assumption) | omega)), r4⟩; exact ⟨rfl, trivial⟩)
    refine LL.val (R.not rfl rfl) rfl rfl rfl ?_
    refine LL.nilS ?_
    refine CC.no rfl ?_
    refine CC.skip ?_
    refine EE.inN ?_
    refine EE.thenN ?_
    refine CC.region ?_
    refine LL.val (R.addIz (z := 1) rfl rfl rfl (by decide) (by decide)) rfl rfl rfl ?_
    refine LL.val (R.move rfl rfl) rfl rfl rfl ?_
    refine LL.nil ?_
    refine EE.again ?_
    refine RN.step ?_
    refine CC.seq ?_
    refine CC.region ?_
    refine LL.val (R.ltF rfl rfl rfl (by omega)) rfl rfl rfl ?_
    refine LL.nilS ?_
    refine CC.seq ?_
    refine CC.no rfl ?_
    refine CC.exit ?_
    refine EE.thenX ?_
    refine EE.thenX ?_
    refine EE.inX ?_
    refine EE.inN ?_
    refine EE.thenN ?_
    refine CC.region ?_
    refine LL.val (R.addIz (z := 1) rfl rfl rfl (by decide) (by decide)) rfl rfl rfl ?_
    refine LL.val (R.move rfl rfl) rfl rfl rfl ?_
    refine LL.nil ?_
    refine EE.again ?_
    refine RN.step ?_
    refine CC.seq ?_
    refine CC.region ?_
    refine LL.val (R.ltT rfl rfl rfl (by omega)) rfl rfl rfl ?_
    refine LL.nilS ?_
    refine CC.seq ?_
    refine CC.yes rfl ?_
    refine CC.skip ?_
    refine EE.thenN ?_
    refine CC.seq ?_
    refine CC.block ?_
    refine CC.seq ?_
    refine CC.region ?_
    refine LL.val (R.index rfl rfl rfl (I.ixSc rfl rfl (by omega))) rfl rfl rfl ?_
    refine LL.val (R.load rfl rfl (I.ldNc (vs := [Value.int IntKind.i64 1, Value.int IntKind.i64 2, nfnV 67]) (RowL.cells rb207 rfl) (by rfl) (by rfl))) rfl rfl rfl ?_
    have lb983 := rb207.lt
    have lb984 := rb21.lt
    have lb985 := r4.lt
    have lb986 := rb335.lt
    refine LL.alloc ([Value.int IntKind.i64 0, Value.int IntKind.i64 0, Value.nilFunc]) rfl rfl rfl rfl rfl ?_
    intro Wb988 gb989 egb989 rb990 zb991 bb987
    replace bb737 := bb737.trans (bb987.mono bb737.size)
    replace bb332 := bb332.trans (bb987.mono bb332.size)
    replace rb207 := rb207.up bb987
    replace bb203 := bb203.trans (bb987.mono bb203.size)
    replace rb21 := rb21.up bb987
    replace bb18 := bb18.trans (bb987.mono bb18.size)
    replace r4 := r4.up bb987
    replace b1 := b1.trans (bb987.mono b1.size)
    replace q := q.trans (bb987.mono q.size)
    replace c0 := cell_up c0 bb987
    replace c1 := cell_up c1 bb987
    replace c2 := cell_up c2 bb987
    replace c3 := cell_up c3 bb987
    replace c4 := cell_up c4 bb987
    replace c5 := cell_up c5 bb987
    replace c6 := cell_up c6 bb987
    replace c7 := cell_up c7 bb987
    replace rb335 := rb335.up bb987
    refine LL.storeN (vs := [Value.int IntKind.i64 1, Value.int IntKind.i64 2, nfnV 67]) rfl rfl rfl rfl rb990 (by exact Nat.le_of_ble_eq_true rfl) (ones_of rfl) rfl rfl ?_
    intro Wb1017 rb1018 bb1016 zb1019
    have hlbb1016 := rb990.lt
    replace rb1018 : RowL Wb1017 _ 88 [Value.int IntKind.i64 1, Value.int IntKind.i64 2, nfnV 67] := rb1018
    clear rb990
    replace bb987 := bb987.grown bb1016 bb987.size (by rintro k ⟨⟩; omega)
    replace bb737 := bb737.grown bb1016 bb737.size (by rintro k ⟨⟩; omega)
    replace bb332 := bb332.grown bb1016 bb332.size (by rintro k ⟨⟩; omega)
    replace rb207 := rb207.gr bb1016 (by have := rb207.lt; omega)
    replace bb203 := bb203.grown bb1016 bb203.size (by rintro k ⟨⟩; omega)
    replace rb21 := rb21.gr bb1016 (by have := rb21.lt; omega)
    replace bb18 := bb18.grown bb1016 bb18.size (by rintro k ⟨⟩; omega)
    replace r4 := r4.gr bb1016 (by have := r4.lt; omega)
    replace b1 := b1.grown bb1016 b1.size (by rintro k ⟨⟩; omega)
    replace q := q.grown bb1016 q.size (by rintro k ⟨⟩; omega)
    replace c0 := cell_gr c0 bb1016 (by omega)
    replace c1 := cell_gr c1 bb1016 (by omega)
    replace c2 := cell_gr c2 bb1016 (by omega)
    replace c3 := cell_gr c3 bb1016 (by omega)
    replace c4 := cell_gr c4 bb1016 (by omega)
    replace c5 := cell_gr c5 bb1016 (by omega)
    replace c6 := cell_gr c6 bb1016 (by omega)
    replace c7 := cell_gr c7 bb1016 (by omega)
    replace rb335 := rb335.gr bb1016 (by have := rb335.lt; omega)
    have rb990 := rb1018
    clear rb1018
    refine LL.nilS ?_
    refine CC.seq ?_
    refine CC.region ?_
    refine LL.val (R.move rfl rfl) rfl rfl rfl ?_
    refine LL.val (R.field rfl rfl (I.fld rfl)) rfl rfl rfl ?_
    refine LL.val (R.load rfl rfl (I.ld1 rfl (RowL.cell rb990 rfl))) rfl rfl rfl ?_
    refine LL.val (R.field rfl rfl (I.fld rfl)) rfl rfl rfl ?_
    refine LL.val (R.load rfl rfl (I.ld1 rfl (RowL.cell rb990 rfl))) rfl rfl rfl ?_
    refine LL.val (R.slice rfl rfl rfl rfl rfl (I.slSc rfl rfl rfl (by omega) (by omega) (by omega))) rfl rfl rfl ?_
    refine LL.val (R.len rfl rfl rfl rfl) rfl rfl rfl ?_
    refine LL.val (R.move rfl rfl) rfl rfl rfl ?_
    refine LL.nilS ?_
    refine CC.block ?_
    refine CC.loopN 6 ?_
    refine RN.step ?_
    refine CC.seq ?_
    refine CC.region ?_
    refine LL.val (R.ltT rfl rfl rfl (by omega)) rfl rfl rfl ?_
    refine LL.nilS ?_
    refine CC.seq ?_
    refine CC.yes rfl ?_
    refine CC.skip ?_
    refine EE.thenN ?_
    refine CC.seq ?_
    refine CC.block ?_
    refine CC.seq ?_
    refine CC.region ?_
    refine LL.val (R.index rfl rfl rfl (I.ixS1c rfl rfl (by omega))) rfl rfl rfl ?_
    refine LL.val (R.load rfl rfl (I.ld1 rfl (by assumption))) rfl rfl rfl ?_
    refine LL.val (R.assign rfl rfl) rfl rfl rfl ?_
    refine LL.nilS ?_
    refine CC.seq ?_
    refine CC.region ?_
    refine LL.val (R.field rfl rfl (I.fld rfl)) rfl rfl rfl ?_
    refine LL.val (R.load rfl rfl (I.ld1 rfl (RowL.cell rb990 rfl))) rfl rfl rfl ?_
    refine LL.val (R.move rfl rfl) rfl rfl rfl ?_
    refine LL.val (R.move rfl rfl) rfl rfl rfl ?_
    refine LL.callB (R.callV rfl rfl rfl rfl) rfl rfl rfl (ru2_d _ _ _) (fun cb1430 Wb1429 bb1428 => ?_) (fun cb1430 Wb1429 bb1428 => ?nob1431)
    have zbb1428 := bb1428.size
    replace bb987 := bb987.trans (bb1428.mono bb987.size)
    replace bb737 := bb737.trans (bb1428.mono bb737.size)
    replace bb332 := bb332.trans (bb1428.mono bb332.size)
    replace rb207 := rb207.up bb1428
    replace bb203 := bb203.trans (bb1428.mono bb203.size)
    replace rb21 := rb21.up bb1428
    replace bb18 := bb18.trans (bb1428.mono bb18.size)
    replace r4 := r4.up bb1428
    replace b1 := b1.trans (bb1428.mono b1.size)
    replace q := q.trans (bb1428.mono q.size)
    replace c0 := cell_up c0 bb1428
    replace c1 := cell_up c1 bb1428
    replace c2 := cell_up c2 bb1428
    replace c3 := cell_up c3 bb1428
    replace c4 := cell_up c4 bb1428
    replace c5 := cell_up c5 bb1428
    replace c6 := cell_up c6 bb1428
    replace c7 := cell_up c7 bb1428
    replace rb335 := rb335.up bb1428
    replace rb990 := rb990.up bb1428
    case' nob1431 =>
      have zbb1428 := bb1428.size
      replace bb987 := bb987.trans (bb1428.mono bb987.size)
      replace bb737 := bb737.trans (bb1428.mono bb737.size)
      replace bb332 := bb332.trans (bb1428.mono bb332.size)
      replace rb207 := rb207.up bb1428
      replace bb203 := bb203.trans (bb1428.mono bb203.size)
      replace rb21 := rb21.up bb1428
      replace bb18 := bb18.trans (bb1428.mono bb18.size)
      replace r4 := r4.up bb1428
      replace b1 := b1.trans (bb1428.mono b1.size)
      replace q := q.trans (bb1428.mono q.size)
      replace c0 := cell_up c0 bb1428
      replace c1 := cell_up c1 bb1428
      replace c2 := cell_up c2 bb1428
      replace c3 := cell_up c3 bb1428
      replace c4 := cell_up c4 bb1428
      replace c5 := cell_up c5 bb1428
      replace c6 := cell_up c6 bb1428
      replace c7 := cell_up c7 bb1428
      replace rb335 := rb335.up bb1428
      replace rb990 := rb990.up bb1428
    refine LL.val (R.not rfl rfl) rfl rfl rfl ?_
    refine LL.nilS ?_
    refine CC.yes rfl ?_
    refine CC.goto ?_
    refine EE.inG ?_
    refine EE.thenG ?_
    refine EE.thenG ?_
    refine EE.inG ?_
    refine EE.inG ?_
    refine EE.thenG ?_
    refine EE.thenG ?_
    refine EE.inG ?_
    refine EE.thenG ?_
    (refine EE.jumpTo () rfl ?_ ⟨q, (fun h => by (obtain ⟨h1, h2, h3, h4, h5, h6, h7⟩ := h; first | exact absurd h1 (by assumption) | exact absurd h2 (by assumption) | exact absurd h3 (by assumption) | exact absurd h4 (by assumption) | exact absurd h5 (by assumption) | exact absurd h6 (by assumption) | exact absurd h7 (by assumption) | omega)), r4⟩; exact ⟨rfl, trivial⟩)
    refine LL.val (R.not rfl rfl) rfl rfl rfl ?_
    refine LL.nilS ?_
    refine CC.no rfl ?_
    refine CC.skip ?_
    refine EE.inN ?_
    refine EE.thenN ?_
    refine CC.region ?_
    refine LL.val (R.addIz (z := 1) rfl rfl rfl (by decide) (by decide)) rfl rfl rfl ?_
    refine LL.val (R.move rfl rfl) rfl rfl rfl ?_
    refine LL.nil ?_
    refine EE.again ?_
    refine RN.step ?_
    refine CC.seq ?_
    refine CC.region ?_
    refine LL.val (R.ltF rfl rfl rfl (by omega)) rfl rfl rfl ?_
    refine LL.nilS ?_
    refine CC.seq ?_
    refine CC.no rfl ?_
    refine CC.exit ?_
    refine EE.thenX ?_
    refine EE.thenX ?_
    refine EE.inX ?_
    refine EE.inN ?_
    refine EE.thenN ?_
    refine CC.region ?_
    refine LL.val (R.addIz (z := 2) rfl rfl rfl (by decide) (by decide)) rfl rfl rfl ?_
    refine LL.val (R.move rfl rfl) rfl rfl rfl ?_
    refine LL.nil ?_
    refine EE.again ?_
    refine RN.step ?_
    refine CC.seq ?_
    refine CC.region ?_
    refine LL.val (R.ltT rfl rfl rfl (by omega)) rfl rfl rfl ?_
    refine LL.nilS ?_
    refine CC.seq ?_
    refine CC.yes rfl ?_
    refine CC.skip ?_
    refine EE.thenN ?_
    refine CC.seq ?_
    refine CC.block ?_
    refine CC.seq ?_
    refine CC.region ?_
    refine LL.val (R.index rfl rfl rfl (I.ixSc rfl rfl (by omega))) rfl rfl rfl ?_
    refine LL.val (R.load rfl rfl (I.ldNc (vs := [Value.int IntKind.i64 3, Value.int IntKind.i64 4, nfnV 69]) (RowL.cells rb207 rfl) (by rfl) (by rfl))) rfl rfl rfl ?_
    have lb1696 := rb207.lt
    have lb1697 := rb21.lt
    have lb1698 := r4.lt
    have lb1699 := rb335.lt
    have lb1700 := rb990.lt
    refine LL.alloc ([Value.int IntKind.i64 0, Value.int IntKind.i64 0, Value.nilFunc]) rfl rfl rfl rfl rfl ?_
    intro Wb1702 gb1703 egb1703 rb1704 zb1705 bb1701
    replace bb1428 := bb1428.trans (bb1701.mono bb1428.size)
    replace bb987 := bb987.trans (bb1701.mono bb987.size)
    replace bb737 := bb737.trans (bb1701.mono bb737.size)
    replace bb332 := bb332.trans (bb1701.mono bb332.size)
    replace rb207 := rb207.up bb1701
    replace bb203 := bb203.trans (bb1701.mono bb203.size)
    replace rb21 := rb21.up bb1701
    replace bb18 := bb18.trans (bb1701.mono bb18.size)
    replace r4 := r4.up bb1701
    replace b1 := b1.trans (bb1701.mono b1.size)
    replace q := q.trans (bb1701.mono q.size)
    replace c0 := cell_up c0 bb1701
    replace c1 := cell_up c1 bb1701
    replace c2 := cell_up c2 bb1701
    replace c3 := cell_up c3 bb1701
    replace c4 := cell_up c4 bb1701
    replace c5 := cell_up c5 bb1701
    replace c6 := cell_up c6 bb1701
    replace c7 := cell_up c7 bb1701
    replace rb335 := rb335.up bb1701
    replace rb990 := rb990.up bb1701
    refine LL.storeN (vs := [Value.int IntKind.i64 3, Value.int IntKind.i64 4, nfnV 69]) rfl rfl rfl rfl rb1704 (by exact Nat.le_of_ble_eq_true rfl) (ones_of rfl) rfl rfl ?_
    intro Wb1733 rb1734 bb1732 zb1735
    have hlbb1732 := rb1704.lt
    replace rb1734 : RowL Wb1733 _ 88 [Value.int IntKind.i64 3, Value.int IntKind.i64 4, nfnV 69] := rb1734
    clear rb1704
    replace bb1701 := bb1701.grown bb1732 bb1701.size (by rintro k ⟨⟩; omega)
    replace bb1428 := bb1428.grown bb1732 bb1428.size (by rintro k ⟨⟩; omega)
    replace bb987 := bb987.grown bb1732 bb987.size (by rintro k ⟨⟩; omega)
    replace bb737 := bb737.grown bb1732 bb737.size (by rintro k ⟨⟩; omega)
    replace bb332 := bb332.grown bb1732 bb332.size (by rintro k ⟨⟩; omega)
    replace rb207 := rb207.gr bb1732 (by have := rb207.lt; omega)
    replace bb203 := bb203.grown bb1732 bb203.size (by rintro k ⟨⟩; omega)
    replace rb21 := rb21.gr bb1732 (by have := rb21.lt; omega)
    replace bb18 := bb18.grown bb1732 bb18.size (by rintro k ⟨⟩; omega)
    replace r4 := r4.gr bb1732 (by have := r4.lt; omega)
    replace b1 := b1.grown bb1732 b1.size (by rintro k ⟨⟩; omega)
    replace q := q.grown bb1732 q.size (by rintro k ⟨⟩; omega)
    replace c0 := cell_gr c0 bb1732 (by omega)
    replace c1 := cell_gr c1 bb1732 (by omega)
    replace c2 := cell_gr c2 bb1732 (by omega)
    replace c3 := cell_gr c3 bb1732 (by omega)
    replace c4 := cell_gr c4 bb1732 (by omega)
    replace c5 := cell_gr c5 bb1732 (by omega)
    replace c6 := cell_gr c6 bb1732 (by omega)
    replace c7 := cell_gr c7 bb1732 (by omega)
    replace rb335 := rb335.gr bb1732 (by have := rb335.lt; omega)
    replace rb990 := rb990.gr bb1732 (by have := rb990.lt; omega)
    have rb1704 := rb1734
    clear rb1734
    refine LL.nilS ?_
    refine CC.seq ?_
    refine CC.region ?_
    refine LL.val (R.move rfl rfl) rfl rfl rfl ?_
    refine LL.val (R.field rfl rfl (I.fld rfl)) rfl rfl rfl ?_
    refine LL.val (R.load rfl rfl (I.ld1 rfl (RowL.cell rb1704 rfl))) rfl rfl rfl ?_
    refine LL.val (R.field rfl rfl (I.fld rfl)) rfl rfl rfl ?_
    refine LL.val (R.load rfl rfl (I.ld1 rfl (RowL.cell rb1704 rfl))) rfl rfl rfl ?_
    refine LL.val (R.slice rfl rfl rfl rfl rfl (I.slSc rfl rfl rfl (by omega) (by omega) (by omega))) rfl rfl rfl ?_
    refine LL.val (R.len rfl rfl rfl rfl) rfl rfl rfl ?_
    refine LL.val (R.move rfl rfl) rfl rfl rfl ?_
    refine LL.nilS ?_
    refine CC.block ?_
    refine CC.loopN 6 ?_
    refine RN.step ?_
    refine CC.seq ?_
    refine CC.region ?_
    refine LL.val (R.ltT rfl rfl rfl (by omega)) rfl rfl rfl ?_
    refine LL.nilS ?_
    refine CC.seq ?_
    refine CC.yes rfl ?_
    refine CC.skip ?_
    refine EE.thenN ?_
    refine CC.seq ?_
    refine CC.block ?_
    refine CC.seq ?_
    refine CC.region ?_
    refine LL.val (R.index rfl rfl rfl (I.ixS1c rfl rfl (by omega))) rfl rfl rfl ?_
    refine LL.val (R.load rfl rfl (I.ld1 rfl (by assumption))) rfl rfl rfl ?_
    refine LL.val (R.assign rfl rfl) rfl rfl rfl ?_
    refine LL.nilS ?_
    refine CC.seq ?_
    refine CC.region ?_
    refine LL.val (R.field rfl rfl (I.fld rfl)) rfl rfl rfl ?_
    refine LL.val (R.load rfl rfl (I.ld1 rfl (RowL.cell rb1704 rfl))) rfl rfl rfl ?_
    refine LL.val (R.move rfl rfl) rfl rfl rfl ?_
    refine LL.val (R.move rfl rfl) rfl rfl rfl ?_
    refine LL.callB (R.callV rfl rfl rfl rfl) rfl rfl rfl (ru3_d _ _ _) (fun cb2180 Wb2179 bb2178 => ?_) (fun cb2180 Wb2179 bb2178 => ?nob2181)
    have zbb2178 := bb2178.size
    replace bb1701 := bb1701.trans (bb2178.mono bb1701.size)
    replace bb1428 := bb1428.trans (bb2178.mono bb1428.size)
    replace bb987 := bb987.trans (bb2178.mono bb987.size)
    replace bb737 := bb737.trans (bb2178.mono bb737.size)
    replace bb332 := bb332.trans (bb2178.mono bb332.size)
    replace rb207 := rb207.up bb2178
    replace bb203 := bb203.trans (bb2178.mono bb203.size)
    replace rb21 := rb21.up bb2178
    replace bb18 := bb18.trans (bb2178.mono bb18.size)
    replace r4 := r4.up bb2178
    replace b1 := b1.trans (bb2178.mono b1.size)
    replace q := q.trans (bb2178.mono q.size)
    replace c0 := cell_up c0 bb2178
    replace c1 := cell_up c1 bb2178
    replace c2 := cell_up c2 bb2178
    replace c3 := cell_up c3 bb2178
    replace c4 := cell_up c4 bb2178
    replace c5 := cell_up c5 bb2178
    replace c6 := cell_up c6 bb2178
    replace c7 := cell_up c7 bb2178
    replace rb335 := rb335.up bb2178
    replace rb990 := rb990.up bb2178
    replace rb1704 := rb1704.up bb2178
    case' nob2181 =>
      have zbb2178 := bb2178.size
      replace bb1701 := bb1701.trans (bb2178.mono bb1701.size)
      replace bb1428 := bb1428.trans (bb2178.mono bb1428.size)
      replace bb987 := bb987.trans (bb2178.mono bb987.size)
      replace bb737 := bb737.trans (bb2178.mono bb737.size)
      replace bb332 := bb332.trans (bb2178.mono bb332.size)
      replace rb207 := rb207.up bb2178
      replace bb203 := bb203.trans (bb2178.mono bb203.size)
      replace rb21 := rb21.up bb2178
      replace bb18 := bb18.trans (bb2178.mono bb18.size)
      replace r4 := r4.up bb2178
      replace b1 := b1.trans (bb2178.mono b1.size)
      replace q := q.trans (bb2178.mono q.size)
      replace c0 := cell_up c0 bb2178
      replace c1 := cell_up c1 bb2178
      replace c2 := cell_up c2 bb2178
      replace c3 := cell_up c3 bb2178
      replace c4 := cell_up c4 bb2178
      replace c5 := cell_up c5 bb2178
      replace c6 := cell_up c6 bb2178
      replace c7 := cell_up c7 bb2178
      replace rb335 := rb335.up bb2178
      replace rb990 := rb990.up bb2178
      replace rb1704 := rb1704.up bb2178
    refine LL.val (R.not rfl rfl) rfl rfl rfl ?_
    refine LL.nilS ?_
    refine CC.yes rfl ?_
    refine CC.goto ?_
    refine EE.inG ?_
    refine EE.thenG ?_
    refine EE.thenG ?_
    refine EE.inG ?_
    refine EE.inG ?_
    refine EE.thenG ?_
    refine EE.thenG ?_
    refine EE.inG ?_
    refine EE.thenG ?_
    (refine EE.jumpTo () rfl ?_ ⟨q, (fun h => by (obtain ⟨h1, h2, h3, h4, h5, h6, h7⟩ := h; first | exact absurd h1 (by assumption) | exact absurd h2 (by assumption) | exact absurd h3 (by assumption) | exact absurd h4 (by assumption) | exact absurd h5 (by assumption) | exact absurd h6 (by assumption) | exact absurd h7 (by assumption) | omega)), r4⟩; exact ⟨rfl, trivial⟩)
    refine LL.val (R.not rfl rfl) rfl rfl rfl ?_
    refine LL.nilS ?_
    refine CC.no rfl ?_
    refine CC.skip ?_
    refine EE.inN ?_
    refine EE.thenN ?_
    refine CC.region ?_
    refine LL.val (R.addIz (z := 1) rfl rfl rfl (by decide) (by decide)) rfl rfl rfl ?_
    refine LL.val (R.move rfl rfl) rfl rfl rfl ?_
    refine LL.nil ?_
    refine EE.again ?_
    refine RN.step ?_
    refine CC.seq ?_
    refine CC.region ?_
    refine LL.val (R.ltF rfl rfl rfl (by omega)) rfl rfl rfl ?_
    refine LL.nilS ?_
    refine CC.seq ?_
    refine CC.no rfl ?_
    refine CC.exit ?_
    refine EE.thenX ?_
    refine EE.thenX ?_
    refine EE.inX ?_
    refine EE.inN ?_
    refine EE.thenN ?_
    refine CC.region ?_
    refine LL.val (R.addIz (z := 3) rfl rfl rfl (by decide) (by decide)) rfl rfl rfl ?_
    refine LL.val (R.move rfl rfl) rfl rfl rfl ?_
    refine LL.nil ?_
    refine EE.again ?_
    refine RN.step ?_
    refine CC.seq ?_
    refine CC.region ?_
    refine LL.val (R.ltT rfl rfl rfl (by omega)) rfl rfl rfl ?_
    refine LL.nilS ?_
    refine CC.seq ?_
    refine CC.yes rfl ?_
    refine CC.skip ?_
    refine EE.thenN ?_
    refine CC.seq ?_
    refine CC.block ?_
    refine CC.seq ?_
    refine CC.region ?_
    refine LL.val (R.index rfl rfl rfl (I.ixSc rfl rfl (by omega))) rfl rfl rfl ?_
    refine LL.val (R.load rfl rfl (I.ldNc (vs := [Value.int IntKind.i64 4, Value.int IntKind.i64 5, nfnV 70]) (RowL.cells rb207 rfl) (by rfl) (by rfl))) rfl rfl rfl ?_
    have lb2468 := rb207.lt
    have lb2469 := rb21.lt
    have lb2470 := r4.lt
    have lb2471 := rb335.lt
    have lb2472 := rb990.lt
    have lb2473 := rb1704.lt
    refine LL.alloc ([Value.int IntKind.i64 0, Value.int IntKind.i64 0, Value.nilFunc]) rfl rfl rfl rfl rfl ?_
    intro Wb2475 gb2476 egb2476 rb2477 zb2478 bb2474
    replace bb2178 := bb2178.trans (bb2474.mono bb2178.size)
    replace bb1701 := bb1701.trans (bb2474.mono bb1701.size)
    replace bb1428 := bb1428.trans (bb2474.mono bb1428.size)
    replace bb987 := bb987.trans (bb2474.mono bb987.size)
    replace bb737 := bb737.trans (bb2474.mono bb737.size)
    replace bb332 := bb332.trans (bb2474.mono bb332.size)
    replace rb207 := rb207.up bb2474
    replace bb203 := bb203.trans (bb2474.mono bb203.size)
    replace rb21 := rb21.up bb2474
    replace bb18 := bb18.trans (bb2474.mono bb18.size)
    replace r4 := r4.up bb2474
    replace b1 := b1.trans (bb2474.mono b1.size)
    replace q := q.trans (bb2474.mono q.size)
    replace c0 := cell_up c0 bb2474
    replace c1 := cell_up c1 bb2474
    replace c2 := cell_up c2 bb2474
    replace c3 := cell_up c3 bb2474
    replace c4 := cell_up c4 bb2474
    replace c5 := cell_up c5 bb2474
    replace c6 := cell_up c6 bb2474
    replace c7 := cell_up c7 bb2474
    replace rb335 := rb335.up bb2474
    replace rb990 := rb990.up bb2474
    replace rb1704 := rb1704.up bb2474
    refine LL.storeN (vs := [Value.int IntKind.i64 4, Value.int IntKind.i64 5, nfnV 70]) rfl rfl rfl rfl rb2477 (by exact Nat.le_of_ble_eq_true rfl) (ones_of rfl) rfl rfl ?_
    intro Wb2508 rb2509 bb2507 zb2510
    have hlbb2507 := rb2477.lt
    replace rb2509 : RowL Wb2508 _ 88 [Value.int IntKind.i64 4, Value.int IntKind.i64 5, nfnV 70] := rb2509
    clear rb2477
    replace bb2474 := bb2474.grown bb2507 bb2474.size (by rintro k ⟨⟩; omega)
    replace bb2178 := bb2178.grown bb2507 bb2178.size (by rintro k ⟨⟩; omega)
    replace bb1701 := bb1701.grown bb2507 bb1701.size (by rintro k ⟨⟩; omega)
    replace bb1428 := bb1428.grown bb2507 bb1428.size (by rintro k ⟨⟩; omega)
    replace bb987 := bb987.grown bb2507 bb987.size (by rintro k ⟨⟩; omega)
    replace bb737 := bb737.grown bb2507 bb737.size (by rintro k ⟨⟩; omega)
    replace bb332 := bb332.grown bb2507 bb332.size (by rintro k ⟨⟩; omega)
    replace rb207 := rb207.gr bb2507 (by have := rb207.lt; omega)
    replace bb203 := bb203.grown bb2507 bb203.size (by rintro k ⟨⟩; omega)
    replace rb21 := rb21.gr bb2507 (by have := rb21.lt; omega)
    replace bb18 := bb18.grown bb2507 bb18.size (by rintro k ⟨⟩; omega)
    replace r4 := r4.gr bb2507 (by have := r4.lt; omega)
    replace b1 := b1.grown bb2507 b1.size (by rintro k ⟨⟩; omega)
    replace q := q.grown bb2507 q.size (by rintro k ⟨⟩; omega)
    replace c0 := cell_gr c0 bb2507 (by omega)
    replace c1 := cell_gr c1 bb2507 (by omega)
    replace c2 := cell_gr c2 bb2507 (by omega)
    replace c3 := cell_gr c3 bb2507 (by omega)
    replace c4 := cell_gr c4 bb2507 (by omega)
    replace c5 := cell_gr c5 bb2507 (by omega)
    replace c6 := cell_gr c6 bb2507 (by omega)
    replace c7 := cell_gr c7 bb2507 (by omega)
    replace rb335 := rb335.gr bb2507 (by have := rb335.lt; omega)
    replace rb990 := rb990.gr bb2507 (by have := rb990.lt; omega)
    replace rb1704 := rb1704.gr bb2507 (by have := rb1704.lt; omega)
    have rb2477 := rb2509
    clear rb2509
    refine LL.nilS ?_
    refine CC.seq ?_
    refine CC.region ?_
    refine LL.val (R.move rfl rfl) rfl rfl rfl ?_
    refine LL.val (R.field rfl rfl (I.fld rfl)) rfl rfl rfl ?_
    refine LL.val (R.load rfl rfl (I.ld1 rfl (RowL.cell rb2477 rfl))) rfl rfl rfl ?_
    refine LL.val (R.field rfl rfl (I.fld rfl)) rfl rfl rfl ?_
    refine LL.val (R.load rfl rfl (I.ld1 rfl (RowL.cell rb2477 rfl))) rfl rfl rfl ?_
    refine LL.val (R.slice rfl rfl rfl rfl rfl (I.slSc rfl rfl rfl (by omega) (by omega) (by omega))) rfl rfl rfl ?_
    refine LL.val (R.len rfl rfl rfl rfl) rfl rfl rfl ?_
    refine LL.val (R.move rfl rfl) rfl rfl rfl ?_
    refine LL.nilS ?_
    refine CC.block ?_
    refine CC.loopN 6 ?_
    refine RN.step ?_
    refine CC.seq ?_
    refine CC.region ?_
    refine LL.val (R.ltT rfl rfl rfl (by omega)) rfl rfl rfl ?_
    refine LL.nilS ?_
    refine CC.seq ?_
    refine CC.yes rfl ?_
    refine CC.skip ?_
    refine EE.thenN ?_
    refine CC.seq ?_
    refine CC.block ?_
    refine CC.seq ?_
    refine CC.region ?_
    refine LL.val (R.index rfl rfl rfl (I.ixS1c rfl rfl (by omega))) rfl rfl rfl ?_
    refine LL.val (R.load rfl rfl (I.ld1 rfl (by assumption))) rfl rfl rfl ?_
    refine LL.val (R.assign rfl rfl) rfl rfl rfl ?_
    refine LL.nilS ?_
    refine CC.seq ?_
    refine CC.region ?_
    refine LL.val (R.field rfl rfl (I.fld rfl)) rfl rfl rfl ?_
    refine LL.val (R.load rfl rfl (I.ld1 rfl (RowL.cell rb2477 rfl))) rfl rfl rfl ?_
    refine LL.val (R.move rfl rfl) rfl rfl rfl ?_
    refine LL.val (R.move rfl rfl) rfl rfl rfl ?_
    refine LL.callB (R.callV rfl rfl rfl rfl) rfl rfl rfl (ru4_d _ _ _) (fun cb2989 Wb2988 bb2987 => ?_) (fun cb2989 Wb2988 bb2987 => ?nob2990)
    have zbb2987 := bb2987.size
    replace bb2474 := bb2474.trans (bb2987.mono bb2474.size)
    replace bb2178 := bb2178.trans (bb2987.mono bb2178.size)
    replace bb1701 := bb1701.trans (bb2987.mono bb1701.size)
    replace bb1428 := bb1428.trans (bb2987.mono bb1428.size)
    replace bb987 := bb987.trans (bb2987.mono bb987.size)
    replace bb737 := bb737.trans (bb2987.mono bb737.size)
    replace bb332 := bb332.trans (bb2987.mono bb332.size)
    replace rb207 := rb207.up bb2987
    replace bb203 := bb203.trans (bb2987.mono bb203.size)
    replace rb21 := rb21.up bb2987
    replace bb18 := bb18.trans (bb2987.mono bb18.size)
    replace r4 := r4.up bb2987
    replace b1 := b1.trans (bb2987.mono b1.size)
    replace q := q.trans (bb2987.mono q.size)
    replace c0 := cell_up c0 bb2987
    replace c1 := cell_up c1 bb2987
    replace c2 := cell_up c2 bb2987
    replace c3 := cell_up c3 bb2987
    replace c4 := cell_up c4 bb2987
    replace c5 := cell_up c5 bb2987
    replace c6 := cell_up c6 bb2987
    replace c7 := cell_up c7 bb2987
    replace rb335 := rb335.up bb2987
    replace rb990 := rb990.up bb2987
    replace rb1704 := rb1704.up bb2987
    replace rb2477 := rb2477.up bb2987
    case' nob2990 =>
      have zbb2987 := bb2987.size
      replace bb2474 := bb2474.trans (bb2987.mono bb2474.size)
      replace bb2178 := bb2178.trans (bb2987.mono bb2178.size)
      replace bb1701 := bb1701.trans (bb2987.mono bb1701.size)
      replace bb1428 := bb1428.trans (bb2987.mono bb1428.size)
      replace bb987 := bb987.trans (bb2987.mono bb987.size)
      replace bb737 := bb737.trans (bb2987.mono bb737.size)
      replace bb332 := bb332.trans (bb2987.mono bb332.size)
      replace rb207 := rb207.up bb2987
      replace bb203 := bb203.trans (bb2987.mono bb203.size)
      replace rb21 := rb21.up bb2987
      replace bb18 := bb18.trans (bb2987.mono bb18.size)
      replace r4 := r4.up bb2987
      replace b1 := b1.trans (bb2987.mono b1.size)
      replace q := q.trans (bb2987.mono q.size)
      replace c0 := cell_up c0 bb2987
      replace c1 := cell_up c1 bb2987
      replace c2 := cell_up c2 bb2987
      replace c3 := cell_up c3 bb2987
      replace c4 := cell_up c4 bb2987
      replace c5 := cell_up c5 bb2987
      replace c6 := cell_up c6 bb2987
      replace c7 := cell_up c7 bb2987
      replace rb335 := rb335.up bb2987
      replace rb990 := rb990.up bb2987
      replace rb1704 := rb1704.up bb2987
      replace rb2477 := rb2477.up bb2987
    refine LL.val (R.not rfl rfl) rfl rfl rfl ?_
    refine LL.nilS ?_
    refine CC.yes rfl ?_
    refine CC.goto ?_
    refine EE.inG ?_
    refine EE.thenG ?_
    refine EE.thenG ?_
    refine EE.inG ?_
    refine EE.inG ?_
    refine EE.thenG ?_
    refine EE.thenG ?_
    refine EE.inG ?_
    refine EE.thenG ?_
    (refine EE.jumpTo () rfl ?_ ⟨q, (fun h => by (obtain ⟨h1, h2, h3, h4, h5, h6, h7⟩ := h; first | exact absurd h1 (by assumption) | exact absurd h2 (by assumption) | exact absurd h3 (by assumption) | exact absurd h4 (by assumption) | exact absurd h5 (by assumption) | exact absurd h6 (by assumption) | exact absurd h7 (by assumption) | omega)), r4⟩; exact ⟨rfl, trivial⟩)
    refine LL.val (R.not rfl rfl) rfl rfl rfl ?_
    refine LL.nilS ?_
    refine CC.no rfl ?_
    refine CC.skip ?_
    refine EE.inN ?_
    refine EE.thenN ?_
    refine CC.region ?_
    refine LL.val (R.addIz (z := 1) rfl rfl rfl (by decide) (by decide)) rfl rfl rfl ?_
    refine LL.val (R.move rfl rfl) rfl rfl rfl ?_
    refine LL.nil ?_
    refine EE.again ?_
    refine RN.step ?_
    refine CC.seq ?_
    refine CC.region ?_
    refine LL.val (R.ltF rfl rfl rfl (by omega)) rfl rfl rfl ?_
    refine LL.nilS ?_
    refine CC.seq ?_
    refine CC.no rfl ?_
    refine CC.exit ?_
    refine EE.thenX ?_
    refine EE.thenX ?_
    refine EE.inX ?_
    refine EE.inN ?_
    refine EE.thenN ?_
    refine CC.region ?_
    refine LL.val (R.addIz (z := 4) rfl rfl rfl (by decide) (by decide)) rfl rfl rfl ?_
    refine LL.val (R.move rfl rfl) rfl rfl rfl ?_
    refine LL.nil ?_
    refine EE.again ?_
    refine RN.step ?_
    refine CC.seq ?_
    refine CC.region ?_
    refine LL.val (R.ltT rfl rfl rfl (by omega)) rfl rfl rfl ?_
    refine LL.nilS ?_
    refine CC.seq ?_
    refine CC.yes rfl ?_
    refine CC.skip ?_
    refine EE.thenN ?_
    refine CC.seq ?_
    refine CC.block ?_
    refine CC.seq ?_
    refine CC.region ?_
    refine LL.val (R.index rfl rfl rfl (I.ixSc rfl rfl (by omega))) rfl rfl rfl ?_
    refine LL.val (R.load rfl rfl (I.ldNc (vs := [Value.int IntKind.i64 5, Value.int IntKind.i64 8, nfnV 71]) (RowL.cells rb207 rfl) (by rfl) (by rfl))) rfl rfl rfl ?_
    have lb3299 := rb207.lt
    have lb3300 := rb21.lt
    have lb3301 := r4.lt
    have lb3302 := rb335.lt
    have lb3303 := rb990.lt
    have lb3304 := rb1704.lt
    have lb3305 := rb2477.lt
    refine LL.alloc ([Value.int IntKind.i64 0, Value.int IntKind.i64 0, Value.nilFunc]) rfl rfl rfl rfl rfl ?_
    intro Wb3307 gb3308 egb3308 rb3309 zb3310 bb3306
    replace bb2987 := bb2987.trans (bb3306.mono bb2987.size)
    replace bb2474 := bb2474.trans (bb3306.mono bb2474.size)
    replace bb2178 := bb2178.trans (bb3306.mono bb2178.size)
    replace bb1701 := bb1701.trans (bb3306.mono bb1701.size)
    replace bb1428 := bb1428.trans (bb3306.mono bb1428.size)
    replace bb987 := bb987.trans (bb3306.mono bb987.size)
    replace bb737 := bb737.trans (bb3306.mono bb737.size)
    replace bb332 := bb332.trans (bb3306.mono bb332.size)
    replace rb207 := rb207.up bb3306
    replace bb203 := bb203.trans (bb3306.mono bb203.size)
    replace rb21 := rb21.up bb3306
    replace bb18 := bb18.trans (bb3306.mono bb18.size)
    replace r4 := r4.up bb3306
    replace b1 := b1.trans (bb3306.mono b1.size)
    replace q := q.trans (bb3306.mono q.size)
    replace c0 := cell_up c0 bb3306
    replace c1 := cell_up c1 bb3306
    replace c2 := cell_up c2 bb3306
    replace c3 := cell_up c3 bb3306
    replace c4 := cell_up c4 bb3306
    replace c5 := cell_up c5 bb3306
    replace c6 := cell_up c6 bb3306
    replace c7 := cell_up c7 bb3306
    replace rb335 := rb335.up bb3306
    replace rb990 := rb990.up bb3306
    replace rb1704 := rb1704.up bb3306
    replace rb2477 := rb2477.up bb3306
    refine LL.storeN (vs := [Value.int IntKind.i64 5, Value.int IntKind.i64 8, nfnV 71]) rfl rfl rfl rfl rb3309 (by exact Nat.le_of_ble_eq_true rfl) (ones_of rfl) rfl rfl ?_
    intro Wb3342 rb3343 bb3341 zb3344
    have hlbb3341 := rb3309.lt
    replace rb3343 : RowL Wb3342 _ 88 [Value.int IntKind.i64 5, Value.int IntKind.i64 8, nfnV 71] := rb3343
    clear rb3309
    replace bb3306 := bb3306.grown bb3341 bb3306.size (by rintro k ⟨⟩; omega)
    replace bb2987 := bb2987.grown bb3341 bb2987.size (by rintro k ⟨⟩; omega)
    replace bb2474 := bb2474.grown bb3341 bb2474.size (by rintro k ⟨⟩; omega)
    replace bb2178 := bb2178.grown bb3341 bb2178.size (by rintro k ⟨⟩; omega)
    replace bb1701 := bb1701.grown bb3341 bb1701.size (by rintro k ⟨⟩; omega)
    replace bb1428 := bb1428.grown bb3341 bb1428.size (by rintro k ⟨⟩; omega)
    replace bb987 := bb987.grown bb3341 bb987.size (by rintro k ⟨⟩; omega)
    replace bb737 := bb737.grown bb3341 bb737.size (by rintro k ⟨⟩; omega)
    replace bb332 := bb332.grown bb3341 bb332.size (by rintro k ⟨⟩; omega)
    replace rb207 := rb207.gr bb3341 (by have := rb207.lt; omega)
    replace bb203 := bb203.grown bb3341 bb203.size (by rintro k ⟨⟩; omega)
    replace rb21 := rb21.gr bb3341 (by have := rb21.lt; omega)
    replace bb18 := bb18.grown bb3341 bb18.size (by rintro k ⟨⟩; omega)
    replace r4 := r4.gr bb3341 (by have := r4.lt; omega)
    replace b1 := b1.grown bb3341 b1.size (by rintro k ⟨⟩; omega)
    replace q := q.grown bb3341 q.size (by rintro k ⟨⟩; omega)
    replace c0 := cell_gr c0 bb3341 (by omega)
    replace c1 := cell_gr c1 bb3341 (by omega)
    replace c2 := cell_gr c2 bb3341 (by omega)
    replace c3 := cell_gr c3 bb3341 (by omega)
    replace c4 := cell_gr c4 bb3341 (by omega)
    replace c5 := cell_gr c5 bb3341 (by omega)
    replace c6 := cell_gr c6 bb3341 (by omega)
    replace c7 := cell_gr c7 bb3341 (by omega)
    replace rb335 := rb335.gr bb3341 (by have := rb335.lt; omega)
    replace rb990 := rb990.gr bb3341 (by have := rb990.lt; omega)
    replace rb1704 := rb1704.gr bb3341 (by have := rb1704.lt; omega)
    replace rb2477 := rb2477.gr bb3341 (by have := rb2477.lt; omega)
    have rb3309 := rb3343
    clear rb3343
    refine LL.nilS ?_
    refine CC.seq ?_
    refine CC.region ?_
    refine LL.val (R.move rfl rfl) rfl rfl rfl ?_
    refine LL.val (R.field rfl rfl (I.fld rfl)) rfl rfl rfl ?_
    refine LL.val (R.load rfl rfl (I.ld1 rfl (RowL.cell rb3309 rfl))) rfl rfl rfl ?_
    refine LL.val (R.field rfl rfl (I.fld rfl)) rfl rfl rfl ?_
    refine LL.val (R.load rfl rfl (I.ld1 rfl (RowL.cell rb3309 rfl))) rfl rfl rfl ?_
    refine LL.val (R.slice rfl rfl rfl rfl rfl (I.slSc rfl rfl rfl (by omega) (by omega) (by omega))) rfl rfl rfl ?_
    refine LL.val (R.len rfl rfl rfl rfl) rfl rfl rfl ?_
    refine LL.val (R.move rfl rfl) rfl rfl rfl ?_
    refine LL.nilS ?_
    refine CC.block ?_
    refine CC.loopN 6 ?_
    refine RN.step ?_
    refine CC.seq ?_
    refine CC.region ?_
    refine LL.val (R.ltT rfl rfl rfl (by omega)) rfl rfl rfl ?_
    refine LL.nilS ?_
    refine CC.seq ?_
    refine CC.yes rfl ?_
    refine CC.skip ?_
    refine EE.thenN ?_
    refine CC.seq ?_
    refine CC.block ?_
    refine CC.seq ?_
    refine CC.region ?_
    refine LL.val (R.index rfl rfl rfl (I.ixS1c rfl rfl (by omega))) rfl rfl rfl ?_
    refine LL.val (R.load rfl rfl (I.ld1 rfl (by assumption))) rfl rfl rfl ?_
    refine LL.val (R.assign rfl rfl) rfl rfl rfl ?_
    refine LL.nilS ?_
    refine CC.seq ?_
    refine CC.region ?_
    refine LL.val (R.field rfl rfl (I.fld rfl)) rfl rfl rfl ?_
    refine LL.val (R.load rfl rfl (I.ld1 rfl (RowL.cell rb3309 rfl))) rfl rfl rfl ?_
    refine LL.val (R.move rfl rfl) rfl rfl rfl ?_
    refine LL.val (R.move rfl rfl) rfl rfl rfl ?_
    refine LL.callB (R.callV rfl rfl rfl rfl) rfl rfl rfl (ru5_d _ _ _) (fun cb3857 Wb3856 bb3855 => ?_) (fun cb3857 Wb3856 bb3855 => ?nob3858)
    have zbb3855 := bb3855.size
    replace bb3306 := bb3306.trans (bb3855.mono bb3306.size)
    replace bb2987 := bb2987.trans (bb3855.mono bb2987.size)
    replace bb2474 := bb2474.trans (bb3855.mono bb2474.size)
    replace bb2178 := bb2178.trans (bb3855.mono bb2178.size)
    replace bb1701 := bb1701.trans (bb3855.mono bb1701.size)
    replace bb1428 := bb1428.trans (bb3855.mono bb1428.size)
    replace bb987 := bb987.trans (bb3855.mono bb987.size)
    replace bb737 := bb737.trans (bb3855.mono bb737.size)
    replace bb332 := bb332.trans (bb3855.mono bb332.size)
    replace rb207 := rb207.up bb3855
    replace bb203 := bb203.trans (bb3855.mono bb203.size)
    replace rb21 := rb21.up bb3855
    replace bb18 := bb18.trans (bb3855.mono bb18.size)
    replace r4 := r4.up bb3855
    replace b1 := b1.trans (bb3855.mono b1.size)
    replace q := q.trans (bb3855.mono q.size)
    replace c0 := cell_up c0 bb3855
    replace c1 := cell_up c1 bb3855
    replace c2 := cell_up c2 bb3855
    replace c3 := cell_up c3 bb3855
    replace c4 := cell_up c4 bb3855
    replace c5 := cell_up c5 bb3855
    replace c6 := cell_up c6 bb3855
    replace c7 := cell_up c7 bb3855
    replace rb335 := rb335.up bb3855
    replace rb990 := rb990.up bb3855
    replace rb1704 := rb1704.up bb3855
    replace rb2477 := rb2477.up bb3855
    replace rb3309 := rb3309.up bb3855
    case' nob3858 =>
      have zbb3855 := bb3855.size
      replace bb3306 := bb3306.trans (bb3855.mono bb3306.size)
      replace bb2987 := bb2987.trans (bb3855.mono bb2987.size)
      replace bb2474 := bb2474.trans (bb3855.mono bb2474.size)
      replace bb2178 := bb2178.trans (bb3855.mono bb2178.size)
      replace bb1701 := bb1701.trans (bb3855.mono bb1701.size)
      replace bb1428 := bb1428.trans (bb3855.mono bb1428.size)
      replace bb987 := bb987.trans (bb3855.mono bb987.size)
      replace bb737 := bb737.trans (bb3855.mono bb737.size)
      replace bb332 := bb332.trans (bb3855.mono bb332.size)
      replace rb207 := rb207.up bb3855
      replace bb203 := bb203.trans (bb3855.mono bb203.size)
      replace rb21 := rb21.up bb3855
      replace bb18 := bb18.trans (bb3855.mono bb18.size)
      replace r4 := r4.up bb3855
      replace b1 := b1.trans (bb3855.mono b1.size)
      replace q := q.trans (bb3855.mono q.size)
      replace c0 := cell_up c0 bb3855
      replace c1 := cell_up c1 bb3855
      replace c2 := cell_up c2 bb3855
      replace c3 := cell_up c3 bb3855
      replace c4 := cell_up c4 bb3855
      replace c5 := cell_up c5 bb3855
      replace c6 := cell_up c6 bb3855
      replace c7 := cell_up c7 bb3855
      replace rb335 := rb335.up bb3855
      replace rb990 := rb990.up bb3855
      replace rb1704 := rb1704.up bb3855
      replace rb2477 := rb2477.up bb3855
      replace rb3309 := rb3309.up bb3855
    refine LL.val (R.not rfl rfl) rfl rfl rfl ?_
    refine LL.nilS ?_
    refine CC.yes rfl ?_
    refine CC.goto ?_
    refine EE.inG ?_
    refine EE.thenG ?_
    refine EE.thenG ?_
    refine EE.inG ?_
    refine EE.inG ?_
    refine EE.thenG ?_
    refine EE.thenG ?_
    refine EE.inG ?_
    refine EE.thenG ?_
    (refine EE.jumpTo () rfl ?_ ⟨q, (fun h => by (obtain ⟨h1, h2, h3, h4, h5, h6, h7⟩ := h; first | exact absurd h1 (by assumption) | exact absurd h2 (by assumption) | exact absurd h3 (by assumption) | exact absurd h4 (by assumption) | exact absurd h5 (by assumption) | exact absurd h6 (by assumption) | exact absurd h7 (by assumption) | omega)), r4⟩; exact ⟨rfl, trivial⟩)
    refine LL.val (R.not rfl rfl) rfl rfl rfl ?_
    refine LL.nilS ?_
    refine CC.no rfl ?_
    refine CC.skip ?_
    refine EE.inN ?_
    refine EE.thenN ?_
    refine CC.region ?_
    refine LL.val (R.addIz (z := 1) rfl rfl rfl (by decide) (by decide)) rfl rfl rfl ?_
    refine LL.val (R.move rfl rfl) rfl rfl rfl ?_
    refine LL.nil ?_
    refine EE.again ?_
    refine RN.step ?_
    refine CC.seq ?_
    refine CC.region ?_
    refine LL.val (R.ltT rfl rfl rfl (by omega)) rfl rfl rfl ?_
    refine LL.nilS ?_
    refine CC.seq ?_
    refine CC.yes rfl ?_
    refine CC.skip ?_
    refine EE.thenN ?_
    refine CC.seq ?_
    refine CC.block ?_
    refine CC.seq ?_
    refine CC.region ?_
    refine LL.val (R.index rfl rfl rfl (I.ixS1c rfl rfl (by omega))) rfl rfl rfl ?_
    refine LL.val (R.load rfl rfl (I.ld1 rfl (by assumption))) rfl rfl rfl ?_
    refine LL.val (R.assign rfl rfl) rfl rfl rfl ?_
    refine LL.nilS ?_
    refine CC.seq ?_
    refine CC.region ?_
    refine LL.val (R.field rfl rfl (I.fld rfl)) rfl rfl rfl ?_
    refine LL.val (R.load rfl rfl (I.ld1 rfl (RowL.cell rb3309 rfl))) rfl rfl rfl ?_
    refine LL.val (R.move rfl rfl) rfl rfl rfl ?_
    refine LL.val (R.move rfl rfl) rfl rfl rfl ?_
    refine LL.callB (R.callV rfl rfl rfl rfl) rfl rfl rfl (ru5_d _ _ _) (fun cb4251 Wb4250 bb4249 => ?_) (fun cb4251 Wb4250 bb4249 => ?nob4252)
    have zbb4249 := bb4249.size
    replace bb3855 := bb3855.trans (bb4249.mono bb3855.size)
    replace bb3306 := bb3306.trans (bb4249.mono bb3306.size)
    replace bb2987 := bb2987.trans (bb4249.mono bb2987.size)
    replace bb2474 := bb2474.trans (bb4249.mono bb2474.size)
    replace bb2178 := bb2178.trans (bb4249.mono bb2178.size)
    replace bb1701 := bb1701.trans (bb4249.mono bb1701.size)
    replace bb1428 := bb1428.trans (bb4249.mono bb1428.size)
    replace bb987 := bb987.trans (bb4249.mono bb987.size)
    replace bb737 := bb737.trans (bb4249.mono bb737.size)
    replace bb332 := bb332.trans (bb4249.mono bb332.size)
    replace rb207 := rb207.up bb4249
    replace bb203 := bb203.trans (bb4249.mono bb203.size)
    replace rb21 := rb21.up bb4249
    replace bb18 := bb18.trans (bb4249.mono bb18.size)
    replace r4 := r4.up bb4249
    replace b1 := b1.trans (bb4249.mono b1.size)
    replace q := q.trans (bb4249.mono q.size)
    replace c0 := cell_up c0 bb4249
    replace c1 := cell_up c1 bb4249
    replace c2 := cell_up c2 bb4249
    replace c3 := cell_up c3 bb4249
    replace c4 := cell_up c4 bb4249
    replace c5 := cell_up c5 bb4249
    replace c6 := cell_up c6 bb4249
    replace c7 := cell_up c7 bb4249
    replace rb335 := rb335.up bb4249
    replace rb990 := rb990.up bb4249
    replace rb1704 := rb1704.up bb4249
    replace rb2477 := rb2477.up bb4249
    replace rb3309 := rb3309.up bb4249
    case' nob4252 =>
      have zbb4249 := bb4249.size
      replace bb3855 := bb3855.trans (bb4249.mono bb3855.size)
      replace bb3306 := bb3306.trans (bb4249.mono bb3306.size)
      replace bb2987 := bb2987.trans (bb4249.mono bb2987.size)
      replace bb2474 := bb2474.trans (bb4249.mono bb2474.size)
      replace bb2178 := bb2178.trans (bb4249.mono bb2178.size)
      replace bb1701 := bb1701.trans (bb4249.mono bb1701.size)
      replace bb1428 := bb1428.trans (bb4249.mono bb1428.size)
      replace bb987 := bb987.trans (bb4249.mono bb987.size)
      replace bb737 := bb737.trans (bb4249.mono bb737.size)
      replace bb332 := bb332.trans (bb4249.mono bb332.size)
      replace rb207 := rb207.up bb4249
      replace bb203 := bb203.trans (bb4249.mono bb203.size)
      replace rb21 := rb21.up bb4249
      replace bb18 := bb18.trans (bb4249.mono bb18.size)
      replace r4 := r4.up bb4249
      replace b1 := b1.trans (bb4249.mono b1.size)
      replace q := q.trans (bb4249.mono q.size)
      replace c0 := cell_up c0 bb4249
      replace c1 := cell_up c1 bb4249
      replace c2 := cell_up c2 bb4249
      replace c3 := cell_up c3 bb4249
      replace c4 := cell_up c4 bb4249
      replace c5 := cell_up c5 bb4249
      replace c6 := cell_up c6 bb4249
      replace c7 := cell_up c7 bb4249
      replace rb335 := rb335.up bb4249
      replace rb990 := rb990.up bb4249
      replace rb1704 := rb1704.up bb4249
      replace rb2477 := rb2477.up bb4249
      replace rb3309 := rb3309.up bb4249
    refine LL.val (R.not rfl rfl) rfl rfl rfl ?_
    refine LL.nilS ?_
    refine CC.yes rfl ?_
    refine CC.goto ?_
    refine EE.inG ?_
    refine EE.thenG ?_
    refine EE.thenG ?_
    refine EE.inG ?_
    refine EE.inG ?_
    refine EE.thenG ?_
    refine EE.thenG ?_
    refine EE.inG ?_
    refine EE.thenG ?_
    (refine EE.jumpTo () rfl ?_ ⟨q, (fun h => by (obtain ⟨h1, h2, h3, h4, h5, h6, h7⟩ := h; first | exact absurd h1 (by assumption) | exact absurd h2 (by assumption) | exact absurd h3 (by assumption) | exact absurd h4 (by assumption) | exact absurd h5 (by assumption) | exact absurd h6 (by assumption) | exact absurd h7 (by assumption) | omega)), r4⟩; exact ⟨rfl, trivial⟩)
    refine LL.val (R.not rfl rfl) rfl rfl rfl ?_
    refine LL.nilS ?_
    refine CC.no rfl ?_
    refine CC.skip ?_
    refine EE.inN ?_
    refine EE.thenN ?_
    refine CC.region ?_
    refine LL.val (R.addIz (z := 2) rfl rfl rfl (by decide) (by decide)) rfl rfl rfl ?_
    refine LL.val (R.move rfl rfl) rfl rfl rfl ?_
    refine LL.nil ?_
    refine EE.again ?_
    refine RN.step ?_
    refine CC.seq ?_
    refine CC.region ?_
    refine LL.val (R.ltT rfl rfl rfl (by omega)) rfl rfl rfl ?_
    refine LL.nilS ?_
    refine CC.seq ?_
    refine CC.yes rfl ?_
    refine CC.skip ?_
    refine EE.thenN ?_
    refine CC.seq ?_
    refine CC.block ?_
    refine CC.seq ?_
    refine CC.region ?_
    refine LL.val (R.index rfl rfl rfl (I.ixS1c rfl rfl (by omega))) rfl rfl rfl ?_
    refine LL.val (R.load rfl rfl (I.ld1 rfl (by assumption))) rfl rfl rfl ?_
    refine LL.val (R.assign rfl rfl) rfl rfl rfl ?_
    refine LL.nilS ?_
    refine CC.seq ?_
    refine CC.region ?_
    refine LL.val (R.field rfl rfl (I.fld rfl)) rfl rfl rfl ?_
    refine LL.val (R.load rfl rfl (I.ld1 rfl (RowL.cell rb3309 rfl))) rfl rfl rfl ?_
    refine LL.val (R.move rfl rfl) rfl rfl rfl ?_
    refine LL.val (R.move rfl rfl) rfl rfl rfl ?_
    refine LL.callB (R.callV rfl rfl rfl rfl) rfl rfl rfl (ru5_d _ _ _) (fun cb4645 Wb4644 bb4643 => ?_) (fun cb4645 Wb4644 bb4643 => ?nob4646)
    have zbb4643 := bb4643.size
    replace bb4249 := bb4249.trans (bb4643.mono bb4249.size)
    replace bb3855 := bb3855.trans (bb4643.mono bb3855.size)
    replace bb3306 := bb3306.trans (bb4643.mono bb3306.size)
    replace bb2987 := bb2987.trans (bb4643.mono bb2987.size)
    replace bb2474 := bb2474.trans (bb4643.mono bb2474.size)
    replace bb2178 := bb2178.trans (bb4643.mono bb2178.size)
    replace bb1701 := bb1701.trans (bb4643.mono bb1701.size)
    replace bb1428 := bb1428.trans (bb4643.mono bb1428.size)
    replace bb987 := bb987.trans (bb4643.mono bb987.size)
    replace bb737 := bb737.trans (bb4643.mono bb737.size)
    replace bb332 := bb332.trans (bb4643.mono bb332.size)
    replace rb207 := rb207.up bb4643
    replace bb203 := bb203.trans (bb4643.mono bb203.size)
    replace rb21 := rb21.up bb4643
    replace bb18 := bb18.trans (bb4643.mono bb18.size)
    replace r4 := r4.up bb4643
    replace b1 := b1.trans (bb4643.mono b1.size)
    replace q := q.trans (bb4643.mono q.size)
    replace c0 := cell_up c0 bb4643
    replace c1 := cell_up c1 bb4643
    replace c2 := cell_up c2 bb4643
    replace c3 := cell_up c3 bb4643
    replace c4 := cell_up c4 bb4643
    replace c5 := cell_up c5 bb4643
    replace c6 := cell_up c6 bb4643
    replace c7 := cell_up c7 bb4643
    replace rb335 := rb335.up bb4643
    replace rb990 := rb990.up bb4643
    replace rb1704 := rb1704.up bb4643
    replace rb2477 := rb2477.up bb4643
    replace rb3309 := rb3309.up bb4643
    case' nob4646 =>
      have zbb4643 := bb4643.size
      replace bb4249 := bb4249.trans (bb4643.mono bb4249.size)
      replace bb3855 := bb3855.trans (bb4643.mono bb3855.size)
      replace bb3306 := bb3306.trans (bb4643.mono bb3306.size)
      replace bb2987 := bb2987.trans (bb4643.mono bb2987.size)
      replace bb2474 := bb2474.trans (bb4643.mono bb2474.size)
      replace bb2178 := bb2178.trans (bb4643.mono bb2178.size)
      replace bb1701 := bb1701.trans (bb4643.mono bb1701.size)
      replace bb1428 := bb1428.trans (bb4643.mono bb1428.size)
      replace bb987 := bb987.trans (bb4643.mono bb987.size)
      replace bb737 := bb737.trans (bb4643.mono bb737.size)
      replace bb332 := bb332.trans (bb4643.mono bb332.size)
      replace rb207 := rb207.up bb4643
      replace bb203 := bb203.trans (bb4643.mono bb203.size)
      replace rb21 := rb21.up bb4643
      replace bb18 := bb18.trans (bb4643.mono bb18.size)
      replace r4 := r4.up bb4643
      replace b1 := b1.trans (bb4643.mono b1.size)
      replace q := q.trans (bb4643.mono q.size)
      replace c0 := cell_up c0 bb4643
      replace c1 := cell_up c1 bb4643
      replace c2 := cell_up c2 bb4643
      replace c3 := cell_up c3 bb4643
      replace c4 := cell_up c4 bb4643
      replace c5 := cell_up c5 bb4643
      replace c6 := cell_up c6 bb4643
      replace c7 := cell_up c7 bb4643
      replace rb335 := rb335.up bb4643
      replace rb990 := rb990.up bb4643
      replace rb1704 := rb1704.up bb4643
      replace rb2477 := rb2477.up bb4643
      replace rb3309 := rb3309.up bb4643
    refine LL.val (R.not rfl rfl) rfl rfl rfl ?_
    refine LL.nilS ?_
    refine CC.yes rfl ?_
    refine CC.goto ?_
    refine EE.inG ?_
    refine EE.thenG ?_
    refine EE.thenG ?_
    refine EE.inG ?_
    refine EE.inG ?_
    refine EE.thenG ?_
    refine EE.thenG ?_
    refine EE.inG ?_
    refine EE.thenG ?_
    (refine EE.jumpTo () rfl ?_ ⟨q, (fun h => by (obtain ⟨h1, h2, h3, h4, h5, h6, h7⟩ := h; first | exact absurd h1 (by assumption) | exact absurd h2 (by assumption) | exact absurd h3 (by assumption) | exact absurd h4 (by assumption) | exact absurd h5 (by assumption) | exact absurd h6 (by assumption) | exact absurd h7 (by assumption) | omega)), r4⟩; exact ⟨rfl, trivial⟩)
    refine LL.val (R.not rfl rfl) rfl rfl rfl ?_
    refine LL.nilS ?_
    refine CC.no rfl ?_
    refine CC.skip ?_
    refine EE.inN ?_
    refine EE.thenN ?_
    refine CC.region ?_
    refine LL.val (R.addIz (z := 3) rfl rfl rfl (by decide) (by decide)) rfl rfl rfl ?_
    refine LL.val (R.move rfl rfl) rfl rfl rfl ?_
    refine LL.nil ?_
    refine EE.again ?_
    refine RN.step ?_
    refine CC.seq ?_
    refine CC.region ?_
    refine LL.val (R.ltF rfl rfl rfl (by omega)) rfl rfl rfl ?_
    refine LL.nilS ?_
    refine CC.seq ?_
    refine CC.no rfl ?_
    refine CC.exit ?_
    refine EE.thenX ?_
    refine EE.thenX ?_
    refine EE.inX ?_
    refine EE.inN ?_
    refine EE.thenN ?_
    refine CC.region ?_
    refine LL.val (R.addIz (z := 5) rfl rfl rfl (by decide) (by decide)) rfl rfl rfl ?_
    refine LL.val (R.move rfl rfl) rfl rfl rfl ?_
    refine LL.nil ?_
    refine EE.again ?_
    refine RN.step ?_
    refine CC.seq ?_
    refine CC.region ?_
    refine LL.val (R.ltF rfl rfl rfl (by omega)) rfl rfl rfl ?_
    refine LL.nilS ?_
    refine CC.seq ?_
    refine CC.no rfl ?_
    refine CC.exit ?_
    refine EE.thenX ?_
    refine EE.thenX ?_
    refine EE.inX ?_
    refine EE.thenN ?_
    refine CC.seq ?_
    refine CC.region ?_
    refine LL.val (R.move rfl rfl) rfl rfl rfl ?_
    refine LL.val (R.field rfl rfl (I.fld rfl)) rfl rfl rfl ?_
    refine LL.val (R.field rfl rfl (I.fld rfl)) rfl rfl rfl ?_
    refine LL.store rfl rfl rfl rfl rb21 (by exact Nat.le_of_ble_eq_true rfl) rfl rfl rfl rfl ?_
    intro Wb5008 rb5009 bb5007 zb5010
    have hlbb5007 := rb21.lt
    replace rb5009 : RowL Wb5008 _ 70 [Value.int IntKind.i64 ↑(x0 % 256), Value.int IntKind.i64 0, Value.int IntKind.u64 0, Value.int IntKind.u64 0, Value.int IntKind.i64 0, Value.slice none 0 0, Value.slice none 0 0] := rb5009
    clear rb21
    replace rb207 := rb207.gr bb5007 (by have := rb207.lt; omega)
    replace bb18 := bb18.grown bb5007 bb18.size (by rintro k ⟨⟩; omega)
    replace r4 := r4.gr bb5007 (by have := r4.lt; omega)
    replace b1 := b1.grown bb5007 b1.size (by rintro k ⟨⟩; omega)
    replace q := q.grown bb5007 q.size (by rintro k ⟨⟩; omega)
    replace c0 := cell_gr c0 bb5007 (by omega)
    replace c1 := cell_gr c1 bb5007 (by omega)
    replace c2 := cell_gr c2 bb5007 (by omega)
    replace c3 := cell_gr c3 bb5007 (by omega)
    replace c4 := cell_gr c4 bb5007 (by omega)
    replace c5 := cell_gr c5 bb5007 (by omega)
    replace c6 := cell_gr c6 bb5007 (by omega)
    replace c7 := cell_gr c7 bb5007 (by omega)
    replace rb335 := rb335.gr bb5007 (by have := rb335.lt; omega)
    replace rb990 := rb990.gr bb5007 (by have := rb990.lt; omega)
    replace rb1704 := rb1704.gr bb5007 (by have := rb1704.lt; omega)
    replace rb2477 := rb2477.gr bb5007 (by have := rb2477.lt; omega)
    replace rb3309 := rb3309.gr bb5007 (by have := rb3309.lt; omega)
    have rb21 := rb5009
    clear rb5009
    refine LL.nilS ?_
    refine CC.seq ?_
    refine CC.region ?_
    refine LL.val (R.move rfl rfl) rfl rfl rfl ?_
    refine LL.val (R.index rfl rfl rfl (I.ixS1c rfl rfl (by omega))) rfl rfl rfl ?_
    refine LL.val (R.load rfl rfl (I.ld1 rfl (by assumption))) rfl rfl rfl ?_
    refine LL.val (R.convI rfl rfl rfl rfl (wrapI (by omega) (by omega))) rfl rfl rfl ?_
    refine LL.val (R.field rfl rfl (I.fld rfl)) rfl rfl rfl ?_
    refine LL.val (R.field rfl rfl (I.fld rfl)) rfl rfl rfl ?_
    refine LL.store rfl rfl rfl rfl rb21 (by exact Nat.le_of_ble_eq_true rfl) rfl rfl rfl rfl ?_
    intro Wb5222 rb5223 bb5221 zb5224
    have hlbb5221 := rb21.lt
    replace rb5223 : RowL Wb5222 _ 70 [Value.int IntKind.i64 ↑(x0 % 256), Value.int IntKind.i64 ↑x1, Value.int IntKind.u64 0, Value.int IntKind.u64 0, Value.int IntKind.i64 0, Value.slice none 0 0, Value.slice none 0 0] := rb5223
    clear rb21
    replace rb207 := rb207.gr bb5221 (by have := rb207.lt; omega)
    replace bb18 := bb18.grown bb5221 bb18.size (by rintro k ⟨⟩; omega)
    replace r4 := r4.gr bb5221 (by have := r4.lt; omega)
    replace b1 := b1.grown bb5221 b1.size (by rintro k ⟨⟩; omega)
    replace q := q.grown bb5221 q.size (by rintro k ⟨⟩; omega)
    replace c0 := cell_gr c0 bb5221 (by omega)
    replace c1 := cell_gr c1 bb5221 (by omega)
    replace c2 := cell_gr c2 bb5221 (by omega)
    replace c3 := cell_gr c3 bb5221 (by omega)
    replace c4 := cell_gr c4 bb5221 (by omega)
    replace c5 := cell_gr c5 bb5221 (by omega)
    replace c6 := cell_gr c6 bb5221 (by omega)
    replace c7 := cell_gr c7 bb5221 (by omega)
    replace rb335 := rb335.gr bb5221 (by have := rb335.lt; omega)
    replace rb990 := rb990.gr bb5221 (by have := rb990.lt; omega)
    replace rb1704 := rb1704.gr bb5221 (by have := rb1704.lt; omega)
    replace rb2477 := rb2477.gr bb5221 (by have := rb2477.lt; omega)
    replace rb3309 := rb3309.gr bb5221 (by have := rb3309.lt; omega)
    have rb21 := rb5223
    clear rb5223
    refine LL.nilS ?_
    refine CC.seq ?_
    refine CC.region ?_
    refine LL.val (R.move rfl rfl) rfl rfl rfl ?_
    refine LL.val (R.index rfl rfl rfl (I.ixS1c rfl rfl (by omega))) rfl rfl rfl ?_
    refine LL.val (R.load rfl rfl (I.ld1 rfl (by assumption))) rfl rfl rfl ?_
    refine LL.val (R.field rfl rfl (I.fld rfl)) rfl rfl rfl ?_
    refine LL.val (R.field rfl rfl (I.fld rfl)) rfl rfl rfl ?_
    refine LL.store rfl rfl rfl rfl rb21 (by exact Nat.le_of_ble_eq_true rfl) rfl rfl rfl rfl ?_
    intro Wb5406 rb5407 bb5405 zb5408
    have hlbb5405 := rb21.lt
    replace rb5407 : RowL Wb5406 _ 70 [Value.int IntKind.i64 ↑(x0 % 256), Value.int IntKind.i64 ↑x1, Value.int IntKind.u64 ↑x2, Value.int IntKind.u64 0, Value.int IntKind.i64 0, Value.slice none 0 0, Value.slice none 0 0] := rb5407
    clear rb21
    replace rb207 := rb207.gr bb5405 (by have := rb207.lt; omega)
    replace bb18 := bb18.grown bb5405 bb18.size (by rintro k ⟨⟩; omega)
    replace r4 := r4.gr bb5405 (by have := r4.lt; omega)
    replace b1 := b1.grown bb5405 b1.size (by rintro k ⟨⟩; omega)
    replace q := q.grown bb5405 q.size (by rintro k ⟨⟩; omega)
    replace c0 := cell_gr c0 bb5405 (by omega)
    replace c1 := cell_gr c1 bb5405 (by omega)
    replace c2 := cell_gr c2 bb5405 (by omega)
    replace c3 := cell_gr c3 bb5405 (by omega)
    replace c4 := cell_gr c4 bb5405 (by omega)
    replace c5 := cell_gr c5 bb5405 (by omega)
    replace c6 := cell_gr c6 bb5405 (by omega)
    replace c7 := cell_gr c7 bb5405 (by omega)
    replace rb335 := rb335.gr bb5405 (by have := rb335.lt; omega)
    replace rb990 := rb990.gr bb5405 (by have := rb990.lt; omega)
    replace rb1704 := rb1704.gr bb5405 (by have := rb1704.lt; omega)
    replace rb2477 := rb2477.gr bb5405 (by have := rb2477.lt; omega)
    replace rb3309 := rb3309.gr bb5405 (by have := rb3309.lt; omega)
    have rb21 := rb5407
    clear rb5407
    refine LL.nilS ?_
    refine CC.seq ?_
    refine CC.region ?_
    refine LL.val (R.move rfl rfl) rfl rfl rfl ?_
    refine LL.val (R.index rfl rfl rfl (I.ixS1c rfl rfl (by omega))) rfl rfl rfl ?_
    refine LL.val (R.load rfl rfl (I.ld1 rfl (by assumption))) rfl rfl rfl ?_
    refine LL.val (R.field rfl rfl (I.fld rfl)) rfl rfl rfl ?_
    refine LL.val (R.field rfl rfl (I.fld rfl)) rfl rfl rfl ?_
    refine LL.store rfl rfl rfl rfl rb21 (by exact Nat.le_of_ble_eq_true rfl) rfl rfl rfl rfl ?_
    intro Wb5590 rb5591 bb5589 zb5592
    have hlbb5589 := rb21.lt
    replace rb5591 : RowL Wb5590 _ 70 [Value.int IntKind.i64 ↑(x0 % 256), Value.int IntKind.i64 ↑x1, Value.int IntKind.u64 ↑x2, Value.int IntKind.u64 ↑x3, Value.int IntKind.i64 0, Value.slice none 0 0, Value.slice none 0 0] := rb5591
    clear rb21
    replace rb207 := rb207.gr bb5589 (by have := rb207.lt; omega)
    replace bb18 := bb18.grown bb5589 bb18.size (by rintro k ⟨⟩; omega)
    replace r4 := r4.gr bb5589 (by have := r4.lt; omega)
    replace b1 := b1.grown bb5589 b1.size (by rintro k ⟨⟩; omega)
    replace q := q.grown bb5589 q.size (by rintro k ⟨⟩; omega)
    replace c0 := cell_gr c0 bb5589 (by omega)
    replace c1 := cell_gr c1 bb5589 (by omega)
    replace c2 := cell_gr c2 bb5589 (by omega)
    replace c3 := cell_gr c3 bb5589 (by omega)
    replace c4 := cell_gr c4 bb5589 (by omega)
    replace c5 := cell_gr c5 bb5589 (by omega)
    replace c6 := cell_gr c6 bb5589 (by omega)
    replace c7 := cell_gr c7 bb5589 (by omega)
    replace rb335 := rb335.gr bb5589 (by have := rb335.lt; omega)
    replace rb990 := rb990.gr bb5589 (by have := rb990.lt; omega)
    replace rb1704 := rb1704.gr bb5589 (by have := rb1704.lt; omega)
    replace rb2477 := rb2477.gr bb5589 (by have := rb2477.lt; omega)
    replace rb3309 := rb3309.gr bb5589 (by have := rb3309.lt; omega)
    have rb21 := rb5591
    clear rb5591
    refine LL.nilS ?_
    refine CC.seq ?_
    refine CC.region ?_
    refine LL.val (R.move rfl rfl) rfl rfl rfl ?_
    refine LL.val (R.index rfl rfl rfl (I.ixS1c rfl rfl (by omega))) rfl rfl rfl ?_
    refine LL.val (R.load rfl rfl (I.ld1 rfl (by assumption))) rfl rfl rfl ?_
    refine LL.val (R.convI rfl rfl rfl rfl (wrapI (by omega) (by omega))) rfl rfl rfl ?_
    refine LL.val (R.field rfl rfl (I.fld rfl)) rfl rfl rfl ?_
    refine LL.val (R.field rfl rfl (I.fld rfl)) rfl rfl rfl ?_
    refine LL.store rfl rfl rfl rfl rb21 (by exact Nat.le_of_ble_eq_true rfl) rfl rfl rfl rfl ?_
    intro Wb5804 rb5805 bb5803 zb5806
    have hlbb5803 := rb21.lt
    replace rb5805 : RowL Wb5804 _ 70 [Value.int IntKind.i64 ↑(x0 % 256), Value.int IntKind.i64 ↑x1, Value.int IntKind.u64 ↑x2, Value.int IntKind.u64 ↑x3, Value.int IntKind.i64 ↑x4, Value.slice none 0 0, Value.slice none 0 0] := rb5805
    clear rb21
    replace rb207 := rb207.gr bb5803 (by have := rb207.lt; omega)
    replace bb18 := bb18.grown bb5803 bb18.size (by rintro k ⟨⟩; omega)
    replace r4 := r4.gr bb5803 (by have := r4.lt; omega)
    replace b1 := b1.grown bb5803 b1.size (by rintro k ⟨⟩; omega)
    replace q := q.grown bb5803 q.size (by rintro k ⟨⟩; omega)
    replace c0 := cell_gr c0 bb5803 (by omega)
    replace c1 := cell_gr c1 bb5803 (by omega)
    replace c2 := cell_gr c2 bb5803 (by omega)
    replace c3 := cell_gr c3 bb5803 (by omega)
    replace c4 := cell_gr c4 bb5803 (by omega)
    replace c5 := cell_gr c5 bb5803 (by omega)
    replace c6 := cell_gr c6 bb5803 (by omega)
    replace c7 := cell_gr c7 bb5803 (by omega)
    replace rb335 := rb335.gr bb5803 (by have := rb335.lt; omega)
    replace rb990 := rb990.gr bb5803 (by have := rb990.lt; omega)
    replace rb1704 := rb1704.gr bb5803 (by have := rb1704.lt; omega)
    replace rb2477 := rb2477.gr bb5803 (by have := rb2477.lt; omega)
    replace rb3309 := rb3309.gr bb5803 (by have := rb3309.lt; omega)
    have rb21 := rb5805
    clear rb5805
    refine LL.nilS ?_
    refine CC.seq ?_
    refine CC.growT 5 (by kernel_rfl) (by kernel_rfl) ?_
    refine GG.val (fun w' b' => R.field rfl rfl (I.fld rfl)) rfl rfl ?_
    refine GG.val (fun w' b' => R.field rfl rfl (I.fld rfl)) rfl rfl ?_
    refine GG.val (fun w' b' => R.load rfl rfl (I.ld1 rfl (RowL.cell (rb21.up b') rfl))) rfl rfl ?_
    refine GG.val (fun w' b' => R.move rfl rfl) rfl rfl ?_
    (refine GG.val (fun w' b' => R.slice rfl rfl rfl rfl rfl (I.slFrom (lo := 8) rfl (by omega) (by omega) (by omega))) rfl rfl ?_)
    refine GG.nil (fun Wb5867 bb5866 => ?_)
    have zbb5866 := bb5866.size
    replace rb207 := rb207.up bb5866
    replace bb18 := bb18.trans (bb5866.mono bb18.size)
    replace r4 := r4.up bb5866
    replace b1 := b1.trans (bb5866.mono b1.size)
    replace q := q.trans (bb5866.mono q.size)
    replace c0 := cell_up c0 bb5866
    replace c1 := cell_up c1 bb5866
    replace c2 := cell_up c2 bb5866
    replace c3 := cell_up c3 bb5866
    replace c4 := cell_up c4 bb5866
    replace c5 := cell_up c5 bb5866
    replace c6 := cell_up c6 bb5866
    replace c7 := cell_up c7 bb5866
    replace rb335 := rb335.up bb5866
    replace rb990 := rb990.up bb5866
    replace rb1704 := rb1704.up bb5866
    replace rb2477 := rb2477.up bb5866
    replace rb3309 := rb3309.up bb5866
    replace rb21 := rb21.up bb5866
    have lb5887 := rb207.lt
    have lb5888 := r4.lt
    have lb5889 := rb335.lt
    have lb5890 := rb990.lt
    have lb5891 := rb1704.lt
    have lb5892 := rb2477.lt
    have lb5893 := rb3309.lt
    have lb5894 := rb21.lt
    (refine LL.call (R.call rfl rfl rfl) rfl rfl rfl (hrd _ q) ?_; rintro e Wb5886 ⟨vo, rfl, oo, bb5883⟩; refine ⟨_, rfl, ?_⟩; obtain ⟨av, cv, rfl, hcv⟩ := (oo.reads prEnc).form rfl)
    have zbb5883 := bb5883.size
    replace bb5866 := bb5866.trans (bb5883.mono bb5866.size)
    replace rb207 := rb207.up bb5883
    replace bb18 := bb18.trans (bb5883.mono bb18.size)
    replace r4 := r4.up bb5883
    replace b1 := b1.trans (bb5883.mono b1.size)
    replace q := q.trans (bb5883.mono q.size)
    replace c0 := cell_up c0 bb5883
    replace c1 := cell_up c1 bb5883
    replace c2 := cell_up c2 bb5883
    replace c3 := cell_up c3 bb5883
    replace c4 := cell_up c4 bb5883
    replace c5 := cell_up c5 bb5883
    replace c6 := cell_up c6 bb5883
    replace c7 := cell_up c7 bb5883
    replace rb335 := rb335.up bb5883
    replace rb990 := rb990.up bb5883
    replace rb1704 := rb1704.up bb5883
    replace rb2477 := rb2477.up bb5883
    replace rb3309 := rb3309.up bb5883
    replace rb21 := rb21.up bb5883
    refine LL.val (R.field rfl rfl (I.fld rfl)) rfl rfl rfl ?_
    refine LL.val (R.field rfl rfl (I.fld rfl)) rfl rfl rfl ?_
    refine LL.store rfl rfl rfl rfl rb21 (by exact Nat.le_of_ble_eq_true rfl) rfl rfl rfl rfl ?_
    intro Wb5989 rb5990 bb5988 zb5991
    have hlbb5988 := rb21.lt
    replace rb5990 : RowL Wb5989 _ 70 [Value.int IntKind.i64 ↑(x0 % 256), Value.int IntKind.i64 ↑x1, Value.int IntKind.u64 ↑x2, Value.int IntKind.u64 ↑x3, Value.int IntKind.i64 ↑x4, Value.slice av (readF x3 (List.drop 8 ws)).length cv, Value.slice none 0 0] := rb5990
    clear rb21
    replace oo := oo.grown bb5988 (own_ne oo (by omega))
    replace rb207 := rb207.gr bb5988 (by have := rb207.lt; omega)
    replace bb18 := bb18.grown bb5988 bb18.size (by rintro k ⟨⟩; omega)
    replace r4 := r4.gr bb5988 (by have := r4.lt; omega)
    replace b1 := b1.grown bb5988 b1.size (by rintro k ⟨⟩; omega)
    replace q := q.grown bb5988 q.size (by rintro k ⟨⟩; omega)
    replace c0 := cell_gr c0 bb5988 (by omega)
    replace c1 := cell_gr c1 bb5988 (by omega)
    replace c2 := cell_gr c2 bb5988 (by omega)
    replace c3 := cell_gr c3 bb5988 (by omega)
    replace c4 := cell_gr c4 bb5988 (by omega)
    replace c5 := cell_gr c5 bb5988 (by omega)
    replace c6 := cell_gr c6 bb5988 (by omega)
    replace c7 := cell_gr c7 bb5988 (by omega)
    replace rb335 := rb335.gr bb5988 (by have := rb335.lt; omega)
    replace rb990 := rb990.gr bb5988 (by have := rb990.lt; omega)
    replace rb1704 := rb1704.gr bb5988 (by have := rb1704.lt; omega)
    replace rb2477 := rb2477.gr bb5988 (by have := rb2477.lt; omega)
    replace rb3309 := rb3309.gr bb5988 (by have := rb3309.lt; omega)
    have rb21 := rb5990
    clear rb5990
    refine LL.nilS ?_
    refine CC.seq ?_
    refine CC.region ?_
    refine LL.val (R.move rfl rfl) rfl rfl rfl ?_
    refine LL.val (R.field rfl rfl (I.fld rfl)) rfl rfl rfl ?_
    refine LL.store rfl rfl rfl rfl rb21 (by exact Nat.le_of_ble_eq_true rfl) rfl rfl rfl rfl ?_
    intro Wb6083 rb6084 bb6082 zb6085
    have hlbb6082 := rb21.lt
    replace rb6084 : RowL Wb6083 _ 70 [Value.int IntKind.i64 ↑(x0 % 256), Value.int IntKind.i64 ↑x1, Value.int IntKind.u64 ↑x2, Value.int IntKind.u64 ↑x3, Value.int IntKind.i64 ↑x4, Value.slice av (readF x3 (List.drop 8 ws)).length cv, Value.slice (some { block := bk, off := off }) 64 cap] := rb6084
    clear rb21
    replace oo := oo.grown bb6082 (own_ne oo (by omega))
    replace rb207 := rb207.gr bb6082 (by have := rb207.lt; omega)
    replace bb18 := bb18.grown bb6082 bb18.size (by rintro k ⟨⟩; omega)
    replace r4 := r4.gr bb6082 (by have := r4.lt; omega)
    replace b1 := b1.grown bb6082 b1.size (by rintro k ⟨⟩; omega)
    replace q := q.grown bb6082 q.size (by rintro k ⟨⟩; omega)
    replace c0 := cell_gr c0 bb6082 (by omega)
    replace c1 := cell_gr c1 bb6082 (by omega)
    replace c2 := cell_gr c2 bb6082 (by omega)
    replace c3 := cell_gr c3 bb6082 (by omega)
    replace c4 := cell_gr c4 bb6082 (by omega)
    replace c5 := cell_gr c5 bb6082 (by omega)
    replace c6 := cell_gr c6 bb6082 (by omega)
    replace c7 := cell_gr c7 bb6082 (by omega)
    replace rb335 := rb335.gr bb6082 (by have := rb335.lt; omega)
    replace rb990 := rb990.gr bb6082 (by have := rb990.lt; omega)
    replace rb1704 := rb1704.gr bb6082 (by have := rb1704.lt; omega)
    replace rb2477 := rb2477.gr bb6082 (by have := rb2477.lt; omega)
    replace rb3309 := rb3309.gr bb6082 (by have := rb3309.lt; omega)
    have rb21 := rb6084
    clear rb6084
    refine LL.nilS ?_
    refine CC.seq ?_
    refine CC.seq ?_
    refine CC.region ?_
    refine LL.val (R.load rfl rfl (I.ldNc (vs := [Value.int IntKind.i64 ↑(x0 % 256), Value.int IntKind.i64 ↑x1, Value.int IntKind.u64 ↑x2, Value.int IntKind.u64 ↑x3, Value.int IntKind.i64 ↑x4, Value.slice av (readF x3 (List.drop 8 ws)).length cv, Value.slice (some { block := bk, off := off }) 64 cap]) (RowL.cells rb21 rfl) (by rfl) (by rfl))) rfl rfl rfl ?_
    refine LL.storeN (vs := [Value.int IntKind.i64 ↑(x0 % 256), Value.int IntKind.i64 ↑x1, Value.int IntKind.u64 ↑x2, Value.int IntKind.u64 ↑x3, Value.int IntKind.i64 ↑x4, Value.slice av (readF x3 (List.drop 8 ws)).length cv, Value.slice (some { block := bk, off := off }) 64 cap]) rfl rfl rfl rfl r4 (by exact Nat.le_of_ble_eq_true rfl) (ones_of rfl) rfl rfl ?_
    intro Wb6147 rb6148 bb6146 zb6149
    have hlbb6146 := r4.lt
    replace rb6148 : RowL Wb6147 _ 70 [Value.int IntKind.i64 ↑(x0 % 256), Value.int IntKind.i64 ↑x1, Value.int IntKind.u64 ↑x2, Value.int IntKind.u64 ↑x3, Value.int IntKind.i64 ↑x4, Value.slice av (readF x3 (List.drop 8 ws)).length cv, Value.slice (some { block := bk, off := off }) 64 cap] := rb6148
    clear r4
    replace oo := oo.grown bb6146 (own_ne oo (by omega))
    replace rb207 := rb207.gr bb6146 (by have := rb207.lt; omega)
    replace b1 := b1.grown bb6146 b1.size (by rintro k ⟨⟩; omega)
    replace q := q.grown bb6146 q.size (by rintro k ⟨⟩; omega)
    replace c0 := cell_gr c0 bb6146 (by omega)
    replace c1 := cell_gr c1 bb6146 (by omega)
    replace c2 := cell_gr c2 bb6146 (by omega)
    replace c3 := cell_gr c3 bb6146 (by omega)
    replace c4 := cell_gr c4 bb6146 (by omega)
    replace c5 := cell_gr c5 bb6146 (by omega)
    replace c6 := cell_gr c6 bb6146 (by omega)
    replace c7 := cell_gr c7 bb6146 (by omega)
    replace rb335 := rb335.gr bb6146 (by have := rb335.lt; omega)
    replace rb990 := rb990.gr bb6146 (by have := rb990.lt; omega)
    replace rb1704 := rb1704.gr bb6146 (by have := rb1704.lt; omega)
    replace rb2477 := rb2477.gr bb6146 (by have := rb2477.lt; omega)
    replace rb3309 := rb3309.gr bb6146 (by have := rb3309.lt; omega)
    replace rb21 := rb21.gr bb6146 (by have := rb21.lt; omega)
    have r4 := rb6148
    clear rb6148
    refine LL.val (R.assign rfl rfl) rfl rfl rfl ?_
    refine LL.nilS ?_
    refine CC.ret ?_
    refine EE.thenR ?_
    refine EE.jumpR ?_
    refine EE.ret2 rfl ⟨_, rfl, lvNc (RowL.cells0 (by assumption)) (by rfl) (by rfl)⟩ rfl ?_
    exact ⟨fun _ => ⟨_, rfl, OwnsT.lower (by assumption) (by omega)⟩, fun h => absurd ⟨by assumption, by assumption, by assumption, by assumption, by assumption, by assumption, by assumption⟩ h, q⟩
end Go.Proofs.Ytfplilpefhhpnaa
/- node: pointer, key, settled (written by gennd3.py). -/
namespace Go.Proofs.Ytfplilpefhhpnaa
set_option linter.unusedVariables false
set_option linter.unusedSimpArgs false
open Go.RowKit Go.Shelf
set_option maxRecDepth 100000
set_option maxHeartbeats 8000000
theorem pairP_len (left : Nat) (s : List Nat) : (pairP left s).length ≤ s.length / 2 := by
  unfold pairP
  rw [List.length_map]
  exact pairS_len left s

theorem readF_len (left : Nat) (s : List Nat) : (readF left s).length ≤ s.length / 2 := by
  unfold readF
  split
  · simp
  · exact pairP_len left s

/-- Pointers, keys that may be in a node. -/
def okP (l p : Nat) : Prop := (l = 0 ∧ 1 ≤ p ∧ p ≤ 1099511627776) ∨ (0 < l ∧ 1 ≤ p ∧ p ≤ 2047)
def okK (l lo k : Nat) : Prop := lo < k ∨ (l = 0 ∧ k = lo)
instance (l p : Nat) : Decidable (okP l p) := by unfold okP; infer_instance
instance (l lo k : Nat) : Decidable (okK l lo k) := by unfold okK; infer_instance
section
variable (gv l : Nat) (s : Int) (lo le : Nat) (wy : Int) (ps vs : Value) (x : Nat) (w : World)
theorem vptr_d (r : RowL w gv 70 (viewL (l : Int) s lo le wy ps vs)) : Calls Try.prog 46 #[.pointer (some ⟨gv, 0, none⟩), .int .u64 (x : Int)] w fun e w' => e = .returned (.bool (decide (okP l x))) ∧ Below w.heap.size w w' := by
  have q := Below.refl w.heap.size w
  by_cases h : okP l x
  · rw [decide_eq_true h]
    unfold okP at h
    by_cases h0 : l = 0
    · refine X.fn Try.func46 rfl (n := 19) rfl rfl ?_
      refine CC.seq ?_
      refine CC.region ?_
      refine LL.val (R.assign rfl rfl) rfl rfl rfl ?_
      refine LL.nilS ?_
      refine CC.seq ?_
      refine CC.seq ?_
      refine CC.region ?_
      refine LL.val (R.move rfl rfl) rfl rfl rfl ?_
      refine LL.val (R.nil rfl rfl) rfl rfl rfl ?_
      refine LL.val (R.field rfl rfl (I.fld rfl)) rfl rfl rfl ?_
      refine LL.val (R.field rfl rfl (I.fld rfl)) rfl rfl rfl ?_
      refine LL.val (R.load rfl rfl (I.ld1 rfl (RowL.cell r rfl))) rfl rfl rfl ?_
      refine LL.val (R.eqT rfl rfl rfl (by omega)) rfl rfl rfl ?_
      refine LL.nilS ?_
      refine CC.yes rfl ?_
      refine CC.seq ?_
      refine CC.region ?_
      refine LL.val (R.move rfl rfl) rfl rfl rfl ?_
      refine LL.val (R.leT rfl rfl rfl (by omega)) rfl rfl rfl ?_
      refine LL.val (R.move rfl rfl) rfl rfl rfl ?_
      refine LL.val (R.move rfl rfl) rfl rfl rfl ?_
      refine LL.val (R.leT rfl rfl rfl (by omega)) rfl rfl rfl ?_
      refine LL.val (R.pick rfl rfl rfl) rfl rfl rfl ?_
      refine LL.val (R.assign rfl rfl) rfl rfl rfl ?_
      refine LL.nilS ?_
      refine CC.ret ?_
      refine EE.thenR ?_
      refine EE.ret _ rfl rfl ?_
      exact ⟨rfl, q⟩
    · refine X.fn Try.func46 rfl (n := 19) rfl rfl ?_
      refine CC.seq ?_
      refine CC.region ?_
      refine LL.val (R.assign rfl rfl) rfl rfl rfl ?_
      refine LL.nilS ?_
      refine CC.seq ?_
      refine CC.seq ?_
      refine CC.region ?_
      refine LL.val (R.move rfl rfl) rfl rfl rfl ?_
      refine LL.val (R.nil rfl rfl) rfl rfl rfl ?_
      refine LL.val (R.field rfl rfl (I.fld rfl)) rfl rfl rfl ?_
      refine LL.val (R.field rfl rfl (I.fld rfl)) rfl rfl rfl ?_
      refine LL.val (R.load rfl rfl (I.ld1 rfl (RowL.cell r rfl))) rfl rfl rfl ?_
      refine LL.val (R.eqF rfl rfl rfl (by omega)) rfl rfl rfl ?_
      refine LL.nilS ?_
      refine CC.no rfl ?_
      refine CC.skip ?_
      refine EE.thenN ?_
      refine CC.seq ?_
      refine CC.region ?_
      refine LL.val (R.move rfl rfl) rfl rfl rfl ?_
      refine LL.call (R.call rfl rfl rfl) rfl rfl rfl (blk_T _ _ (by first | assumption | omega)) ?_
      rintro e W' ⟨rfl, rfl⟩
      refine ⟨_, rfl, ?_⟩
      refine LL.val (R.assign rfl rfl) rfl rfl rfl ?_
      refine LL.nilS ?_
      refine CC.ret ?_
      refine EE.ret _ rfl rfl ?_
      exact ⟨rfl, q⟩
  · rw [decide_eq_false h]
    unfold okP at h
    by_cases h0 : l = 0
    · have h2 : x = 0 ∨ 1099511627776 < x := by omega
      clear h
      refine X.fn Try.func46 rfl (n := 19) rfl rfl ?_
      refine CC.seq ?_
      refine CC.region ?_
      refine LL.val (R.assign rfl rfl) rfl rfl rfl ?_
      refine LL.nilS ?_
      refine CC.seq ?_
      refine CC.seq ?_
      refine CC.region ?_
      refine LL.val (R.move rfl rfl) rfl rfl rfl ?_
      refine LL.val (R.nil rfl rfl) rfl rfl rfl ?_
      refine LL.val (R.field rfl rfl (I.fld rfl)) rfl rfl rfl ?_
      refine LL.val (R.field rfl rfl (I.fld rfl)) rfl rfl rfl ?_
      refine LL.val (R.load rfl rfl (I.ld1 rfl (RowL.cell r rfl))) rfl rfl rfl ?_
      refine LL.val (R.eqT rfl rfl rfl (by omega)) rfl rfl rfl ?_
      refine LL.nilS ?_
      refine CC.yes rfl ?_
      refine CC.seq ?_
      refine CC.region ?_
      refine LL.val (R.move rfl rfl) rfl rfl rfl ?_
      refine LL.vsplit (fun h => R.leT rfl rfl rfl h) (fun h => R.leF rfl rfl rfl (Int.not_le.1 h)) rfl rfl rfl (fun cb1 => ?_) (fun cb1 => ?_)
      refine LL.val (R.move rfl rfl) rfl rfl rfl ?_
      refine LL.val (R.move rfl rfl) rfl rfl rfl ?_
      refine LL.val (R.leF rfl rfl rfl (by omega)) rfl rfl rfl ?_
      refine LL.val (R.pick rfl rfl rfl) rfl rfl rfl ?_
      refine LL.val (R.assign rfl rfl) rfl rfl rfl ?_
      refine LL.nilS ?_
      refine CC.ret ?_
      refine EE.thenR ?_
      refine EE.ret _ rfl rfl ?_
      exact ⟨rfl, q⟩
      refine LL.val (R.move rfl rfl) rfl rfl rfl ?_
      refine LL.skip rfl rfl ?_
      refine LL.skip rfl rfl ?_
      refine LL.val (R.pick rfl rfl rfl) rfl rfl rfl ?_
      refine LL.val (R.assign rfl rfl) rfl rfl rfl ?_
      refine LL.nilS ?_
      refine CC.ret ?_
      refine EE.thenR ?_
      refine EE.ret _ rfl rfl ?_
      exact ⟨rfl, q⟩
    · have h2 : x = 0 ∨ 2048 ≤ x := by omega
      clear h
      refine X.fn Try.func46 rfl (n := 19) rfl rfl ?_
      refine CC.seq ?_
      refine CC.region ?_
      refine LL.val (R.assign rfl rfl) rfl rfl rfl ?_
      refine LL.nilS ?_
      refine CC.seq ?_
      refine CC.seq ?_
      refine CC.region ?_
      refine LL.val (R.move rfl rfl) rfl rfl rfl ?_
      refine LL.val (R.nil rfl rfl) rfl rfl rfl ?_
      refine LL.val (R.field rfl rfl (I.fld rfl)) rfl rfl rfl ?_
      refine LL.val (R.field rfl rfl (I.fld rfl)) rfl rfl rfl ?_
      refine LL.val (R.load rfl rfl (I.ld1 rfl (RowL.cell r rfl))) rfl rfl rfl ?_
      refine LL.val (R.eqF rfl rfl rfl (by omega)) rfl rfl rfl ?_
      refine LL.nilS ?_
      refine CC.no rfl ?_
      refine CC.skip ?_
      refine EE.thenN ?_
      refine CC.seq ?_
      refine CC.region ?_
      refine LL.val (R.move rfl rfl) rfl rfl rfl ?_
      refine LL.call (R.call rfl rfl rfl) rfl rfl rfl (blk_F _ _ (by first | assumption | omega)) ?_
      rintro e W' ⟨rfl, rfl⟩
      refine ⟨_, rfl, ?_⟩
      refine LL.val (R.assign rfl rfl) rfl rfl rfl ?_
      refine LL.nilS ?_
      refine CC.ret ?_
      refine EE.ret _ rfl rfl ?_
      exact ⟨rfl, q⟩
--C node_view_key | vkey_d _ _ _ _ _ _ _ _ _ @w (by assumption) | DB
theorem vkey_d (r : RowL w gv 70 (viewL (l : Int) s lo le wy ps vs)) : Calls Try.prog 47 #[.pointer (some ⟨gv, 0, none⟩), .int .u64 (x : Int)] w fun e w' => e = .returned (.bool (decide (okK l lo x))) ∧ Below w.heap.size w w' := by
  have q := Below.refl w.heap.size w
  by_cases h : okK l lo x
  · rw [decide_eq_true h]
    unfold okK at h
    by_cases h0 : lo < x
    · clear h
      refine X.fn Try.func47 rfl (n := 29) rfl rfl ?_
      refine CC.seq ?_
      refine CC.region ?_
      refine LL.val (R.assign rfl rfl) rfl rfl rfl ?_
      refine LL.nilS ?_
      refine CC.seq ?_
      refine CC.region ?_
      refine LL.val (R.move rfl rfl) rfl rfl rfl ?_
      refine LL.val (R.move rfl rfl) rfl rfl rfl ?_
      refine LL.val (R.nil rfl rfl) rfl rfl rfl ?_
      refine LL.val (R.field rfl rfl (I.fld rfl)) rfl rfl rfl ?_
      refine LL.val (R.field rfl rfl (I.fld rfl)) rfl rfl rfl ?_
      refine LL.val (R.load rfl rfl (I.ld1 rfl (RowL.cell r rfl))) rfl rfl rfl ?_
      refine LL.val (R.gtT rfl rfl rfl (by omega)) rfl rfl rfl ?_
      refine LL.val (R.move rfl rfl) rfl rfl rfl ?_
      refine LL.skip rfl rfl ?_
      refine LL.skip rfl rfl ?_
      refine LL.skip rfl rfl ?_
      refine LL.skip rfl rfl ?_
      refine LL.skip rfl rfl ?_
      refine LL.skip rfl rfl ?_
      refine LL.skip rfl rfl ?_
      refine LL.skip rfl rfl ?_
      refine LL.skip rfl rfl ?_
      refine LL.skip rfl rfl ?_
      refine LL.skip rfl rfl ?_
      refine LL.skip rfl rfl ?_
      refine LL.skip rfl rfl ?_
      refine LL.skip rfl rfl ?_
      refine LL.skip rfl rfl ?_
      refine LL.val (R.pick rfl rfl rfl) rfl rfl rfl ?_
      refine LL.val (R.assign rfl rfl) rfl rfl rfl ?_
      refine LL.nilS ?_
      refine CC.ret ?_
      refine EE.ret _ rfl rfl ?_
      exact ⟨rfl, q⟩
    · have h1 : l = 0 := by omega
      have h2 : x = lo := by omega
      clear h
      refine X.fn Try.func47 rfl (n := 29) rfl rfl ?_
      refine CC.seq ?_
      refine CC.region ?_
      refine LL.val (R.assign rfl rfl) rfl rfl rfl ?_
      refine LL.nilS ?_
      refine CC.seq ?_
      refine CC.region ?_
      refine LL.val (R.move rfl rfl) rfl rfl rfl ?_
      refine LL.val (R.move rfl rfl) rfl rfl rfl ?_
      refine LL.val (R.nil rfl rfl) rfl rfl rfl ?_
      refine LL.val (R.field rfl rfl (I.fld rfl)) rfl rfl rfl ?_
      refine LL.val (R.field rfl rfl (I.fld rfl)) rfl rfl rfl ?_
      refine LL.val (R.load rfl rfl (I.ld1 rfl (RowL.cell r rfl))) rfl rfl rfl ?_
      refine LL.val (R.gtF rfl rfl rfl (by omega)) rfl rfl rfl ?_
      refine LL.val (R.move rfl rfl) rfl rfl rfl ?_
      refine LL.val (R.move rfl rfl) rfl rfl rfl ?_
      refine LL.val (R.nil rfl rfl) rfl rfl rfl ?_
      refine LL.val (R.field rfl rfl (I.fld rfl)) rfl rfl rfl ?_
      refine LL.val (R.field rfl rfl (I.fld rfl)) rfl rfl rfl ?_
      refine LL.val (R.load rfl rfl (I.ld1 rfl (RowL.cell r rfl))) rfl rfl rfl ?_
      refine LL.val (R.eqT rfl rfl rfl (by omega)) rfl rfl rfl ?_
      refine LL.val (R.move rfl rfl) rfl rfl rfl ?_
      refine LL.val (R.move rfl rfl) rfl rfl rfl ?_
      refine LL.val (R.move rfl rfl) rfl rfl rfl ?_
      refine LL.val (R.nil rfl rfl) rfl rfl rfl ?_
      refine LL.val (R.field rfl rfl (I.fld rfl)) rfl rfl rfl ?_
      refine LL.val (R.field rfl rfl (I.fld rfl)) rfl rfl rfl ?_
      refine LL.val (R.load rfl rfl (I.ld1 rfl (RowL.cell r rfl))) rfl rfl rfl ?_
      refine LL.val (R.eqT rfl rfl rfl (by omega)) rfl rfl rfl ?_
      refine LL.val (R.pick rfl rfl rfl) rfl rfl rfl ?_
      refine LL.val (R.pick rfl rfl rfl) rfl rfl rfl ?_
      refine LL.val (R.assign rfl rfl) rfl rfl rfl ?_
      refine LL.nilS ?_
      refine CC.ret ?_
      refine EE.ret _ rfl rfl ?_
      exact ⟨rfl, q⟩
  · rw [decide_eq_false h]
    unfold okK at h
    have h1 : x ≤ lo := by omega
    by_cases h0 : l = 0
    · have h2 : x ≠ lo := by omega
      clear h
      refine X.fn Try.func47 rfl (n := 29) rfl rfl ?_
      refine CC.seq ?_
      refine CC.region ?_
      refine LL.val (R.assign rfl rfl) rfl rfl rfl ?_
      refine LL.nilS ?_
      refine CC.seq ?_
      refine CC.region ?_
      refine LL.val (R.move rfl rfl) rfl rfl rfl ?_
      refine LL.val (R.move rfl rfl) rfl rfl rfl ?_
      refine LL.val (R.nil rfl rfl) rfl rfl rfl ?_
      refine LL.val (R.field rfl rfl (I.fld rfl)) rfl rfl rfl ?_
      refine LL.val (R.field rfl rfl (I.fld rfl)) rfl rfl rfl ?_
      refine LL.val (R.load rfl rfl (I.ld1 rfl (RowL.cell r rfl))) rfl rfl rfl ?_
      refine LL.val (R.gtF rfl rfl rfl (by omega)) rfl rfl rfl ?_
      refine LL.val (R.move rfl rfl) rfl rfl rfl ?_
      refine LL.val (R.move rfl rfl) rfl rfl rfl ?_
      refine LL.val (R.nil rfl rfl) rfl rfl rfl ?_
      refine LL.val (R.field rfl rfl (I.fld rfl)) rfl rfl rfl ?_
      refine LL.val (R.field rfl rfl (I.fld rfl)) rfl rfl rfl ?_
      refine LL.val (R.load rfl rfl (I.ld1 rfl (RowL.cell r rfl))) rfl rfl rfl ?_
      refine LL.val (R.eqT rfl rfl rfl (by omega)) rfl rfl rfl ?_
      refine LL.val (R.move rfl rfl) rfl rfl rfl ?_
      refine LL.val (R.move rfl rfl) rfl rfl rfl ?_
      refine LL.val (R.move rfl rfl) rfl rfl rfl ?_
      refine LL.val (R.nil rfl rfl) rfl rfl rfl ?_
      refine LL.val (R.field rfl rfl (I.fld rfl)) rfl rfl rfl ?_
      refine LL.val (R.field rfl rfl (I.fld rfl)) rfl rfl rfl ?_
      refine LL.val (R.load rfl rfl (I.ld1 rfl (RowL.cell r rfl))) rfl rfl rfl ?_
      refine LL.val (R.eqF rfl rfl rfl (by omega)) rfl rfl rfl ?_
      refine LL.val (R.pick rfl rfl rfl) rfl rfl rfl ?_
      refine LL.val (R.pick rfl rfl rfl) rfl rfl rfl ?_
      refine LL.val (R.assign rfl rfl) rfl rfl rfl ?_
      refine LL.nilS ?_
      refine CC.ret ?_
      refine EE.ret _ rfl rfl ?_
      exact ⟨rfl, q⟩
    · clear h
      refine X.fn Try.func47 rfl (n := 29) rfl rfl ?_
      refine CC.seq ?_
      refine CC.region ?_
      refine LL.val (R.assign rfl rfl) rfl rfl rfl ?_
      refine LL.nilS ?_
      refine CC.seq ?_
      refine CC.region ?_
      refine LL.val (R.move rfl rfl) rfl rfl rfl ?_
      refine LL.val (R.move rfl rfl) rfl rfl rfl ?_
      refine LL.val (R.nil rfl rfl) rfl rfl rfl ?_
      refine LL.val (R.field rfl rfl (I.fld rfl)) rfl rfl rfl ?_
      refine LL.val (R.field rfl rfl (I.fld rfl)) rfl rfl rfl ?_
      refine LL.val (R.load rfl rfl (I.ld1 rfl (RowL.cell r rfl))) rfl rfl rfl ?_
      refine LL.val (R.gtF rfl rfl rfl (by omega)) rfl rfl rfl ?_
      refine LL.val (R.move rfl rfl) rfl rfl rfl ?_
      refine LL.val (R.move rfl rfl) rfl rfl rfl ?_
      refine LL.val (R.nil rfl rfl) rfl rfl rfl ?_
      refine LL.val (R.field rfl rfl (I.fld rfl)) rfl rfl rfl ?_
      refine LL.val (R.field rfl rfl (I.fld rfl)) rfl rfl rfl ?_
      refine LL.val (R.load rfl rfl (I.ld1 rfl (RowL.cell r rfl))) rfl rfl rfl ?_
      refine LL.val (R.eqF rfl rfl rfl (by omega)) rfl rfl rfl ?_
      refine LL.val (R.move rfl rfl) rfl rfl rfl ?_
      refine LL.skip rfl rfl ?_
      refine LL.skip rfl rfl ?_
      refine LL.skip rfl rfl ?_
      refine LL.skip rfl rfl ?_
      refine LL.skip rfl rfl ?_
      refine LL.skip rfl rfl ?_
      refine LL.skip rfl rfl ?_
      refine LL.val (R.pick rfl rfl rfl) rfl rfl rfl ?_
      refine LL.val (R.pick rfl rfl rfl) rfl rfl rfl ?_
      refine LL.val (R.assign rfl rfl) rfl rfl rfl ?_
      refine LL.nilS ?_
      refine CC.ret ?_
      refine EE.ret _ rfl rfl ?_
      exact ⟨rfl, q⟩
end
/-- A node's words are settled. -/
def ndSet (ws : List Nat) (x0 x2 x3 : Nat) : Prop := setP x3 (ws.drop 8) ∧ ∀ p ∈ readF x3 (ws.drop 8), okP (x0 % 256) p.2 ∧ okK (x0 % 256) x2 p.1
abbrev nzV : Value := viewV 0 0 0 0 0 nilV nilV
theorem hd_row {x0 x1 x3 x4 x5 x6 x7 n : Nat} (h : hdOk x0 x1 x3 x4 x5 x6 x7) (hn : n = 56) : ¬noRow x3 n := by
  have := h.c
  unfold ru3 at this
  unfold noRow
  omega
theorem settled_all (bk off cap : Nat) (ws : List Nat) (w : World) (hv : Reads w (.slice (some ⟨bk, off, none⟩) 64 cap) (ints .u64 ws)) (hl : ws.length = 64) (hc : 64 ≤ cap) (hb : ∀ x ∈ ws, x < 18446744073709551616) (x0 x1 x2 x3 x4 x5 x6 x7 : Nat) (e0 : ws[0]? = some x0) (e1 : ws[1]? = some x1) (e2 : ws[2]? = some x2) (e3 : ws[3]? = some x3) (e4 : ws[4]? = some x4) (e5 : ws[5]? = some x5) (e6 : ws[6]? = some x6) (e7 : ws[7]? = some x7) : Calls Try.prog 30 #[.slice (some ⟨bk, off, none⟩) 64 cap] w fun e w' => (hdOk x0 x1 x3 x4 x5 x6 x7 → ndSet ws x0 x2 x3 → ∃ vo, e = .returned (.tuple #[viewV ((x0 % 256 : Nat) : Int) (x1 : Int) x2 x3 (x4 : Int) vo (.slice (some ⟨bk, off, none⟩) 64 cap), .int .i64 0]) ∧ OwnsT prE 2 w' w.heap.size 46 vo (readF x3 (ws.drop 8))) ∧ (¬hdOk x0 x1 x3 x4 x5 x6 x7 → e = .returned (.tuple #[nzV, .int .i64 210])) ∧ (hdOk x0 x1 x3 x4 x5 x6 x7 → ¬ndSet ws x0 x2 x3 → e = .returned (.tuple #[nzV, .int .i64 190])) ∧ Below w.heap.size w w' := by
  have q := Below.refl w.heap.size w
  have hre := fun W (b : Below w.heap.size w W) => read_all bk off cap ws W (hv.below b) hl hc hb x0 x1 x2 x3 x4 x5 x6 x7 e0 e1 e2 e3 e4 e5 e6 e7
  have hr8 := (hv.from 8 (by decide))
  rw [show (ints .u64 ws).drop 8 = ints .u64 (ws.drop 8) by simp [ints]] at hr8
  have hd8 : (ws.drop 8).length = 64 - 8 := by rw [List.length_drop, hl]
  have hchk := fun W (b : Below w.heap.size w W) => check_any x3 (64 - 8) (.slice (some ⟨bk, off + 8 * 1, none⟩) (64 - 8) (cap - 8)) (ws.drop 8) W (reads_uE (hr8.below b)) hd8 (by decide)
  by_cases hH : hdOk x0 x1 x3 x4 x5 x6 x7
  case neg =>
    have hreN : ∀ W, Below w.heap.size w W → Calls Try.prog 28 #[.slice (some ⟨bk, off, none⟩) 64 cap] W fun e w' => e = .returned (.tuple #[nzV, .int .i64 210]) ∧ Below W.heap.size W w' := fun W b => (hre W b).mono fun e W' h => ⟨h.2.1 hH, h.2.2⟩
    clear hchk hr8 hv hre
    refine X.fn Try.func30 rfl (n := 46) rfl rfl ?_
    refine CC.seq ?_
    refine CC.region ?_
    refine LL.alloc ([Value.int IntKind.i64 0, Value.int IntKind.i64 0, Value.int IntKind.u64 0, Value.int IntKind.u64 0, Value.int IntKind.i64 0, Value.slice none 0 0, Value.slice none 0 0]) rfl rfl rfl rfl rfl ?_
    intro W9 g10 eg10 r11 z12 b8
    replace q := q.trans (b8.mono q.size)
    refine LL.val (R.assign rfl rfl) rfl rfl rfl ?_
    refine LL.nilS ?_
    refine CC.seq ?_
    refine CC.region ?_
    refine LL.val (R.move rfl rfl) rfl rfl rfl ?_
    have l33 := r11.lt
    (refine LL.call (R.call rfl rfl rfl) rfl rfl rfl (hreN _ q) ?_; rintro e W32 ⟨rfl, b29⟩; refine ⟨_, rfl, ?_⟩)
    have zb29 := b29.size
    replace r11 := r11.up b29
    replace b8 := b8.trans (b29.mono b8.size)
    replace q := q.trans (b29.mono q.size)
    refine LL.val (R.move rfl rfl) rfl rfl rfl ?_
    refine LL.val (R.extract rfl rfl rfl) rfl rfl rfl ?_
    refine LL.val (R.extract rfl rfl rfl) rfl rfl rfl ?_
    have l69 := r11.lt
    refine LL.alloc ([Value.int IntKind.i64 0, Value.int IntKind.i64 0, Value.int IntKind.u64 0, Value.int IntKind.u64 0, Value.int IntKind.i64 0, Value.slice none 0 0, Value.slice none 0 0]) rfl rfl rfl rfl rfl ?_
    intro W71 g72 eg72 r73 z74 b70
    replace b29 := b29.trans (b70.mono b29.size)
    replace r11 := r11.up b70
    replace b8 := b8.trans (b70.mono b8.size)
    replace q := q.trans (b70.mono q.size)
    refine LL.storeN (vs := [Value.int IntKind.i64 0, Value.int IntKind.i64 0, Value.int IntKind.u64 ↑0, Value.int IntKind.u64 ↑0, Value.int IntKind.i64 0, nilV, nilV]) rfl rfl rfl rfl r73 (by exact Nat.le_of_ble_eq_true rfl) (ones_of rfl) rfl rfl ?_
    intro W85 r86 b84 z87
    have hlb84 := r73.lt
    replace r86 : RowL W85 _ 70 [Value.int IntKind.i64 0, Value.int IntKind.i64 0, Value.int IntKind.u64 ↑0, Value.int IntKind.u64 ↑0, Value.int IntKind.i64 0, nilV, nilV] := r86
    clear r73
    replace b70 := b70.grown b84 b70.size (by rintro k ⟨⟩; omega)
    replace b29 := b29.grown b84 b29.size (by rintro k ⟨⟩; omega)
    replace r11 := r11.gr b84 (by have := r11.lt; omega)
    replace b8 := b8.grown b84 b8.size (by rintro k ⟨⟩; omega)
    replace q := q.grown b84 q.size (by rintro k ⟨⟩; omega)
    have r73 := r86
    clear r86
    refine LL.val (R.assign rfl rfl) rfl rfl rfl ?_
    refine LL.nilS ?_
    refine CC.seq ?_
    refine CC.seq ?_
    refine CC.region ?_
    refine LL.val (R.move rfl rfl) rfl rfl rfl ?_
    refine LL.val (R.neT rfl rfl rfl (by omega)) rfl rfl rfl ?_
    refine LL.nilS ?_
    refine CC.yes rfl ?_
    refine CC.seq ?_
    refine CC.region ?_
    refine LL.val (R.buildV rfl rfl (v := .agg #[Value.int IntKind.i64 0, Value.int IntKind.i64 0, Value.int IntKind.u64 0, Value.int IntKind.u64 0, Value.int IntKind.i64 0, Value.slice none 0 0, Value.slice none 0 0]) (fun _ => by kernel_rfl)) rfl rfl rfl ?_
    refine LL.val (R.move rfl rfl) rfl rfl rfl ?_
    refine LL.storeN (vs := [Value.int IntKind.i64 0, Value.int IntKind.i64 0, Value.int IntKind.u64 0, Value.int IntKind.u64 0, Value.int IntKind.i64 0, Value.slice none 0 0, Value.slice none 0 0]) rfl rfl rfl rfl r11 (by exact Nat.le_of_ble_eq_true rfl) (ones_of rfl) rfl rfl ?_
    intro W143 r144 b142 z145
    have hlb142 := r11.lt
    replace r144 : RowL W143 _ 70 [Value.int IntKind.i64 0, Value.int IntKind.i64 0, Value.int IntKind.u64 0, Value.int IntKind.u64 0, Value.int IntKind.i64 0, Value.slice none 0 0, Value.slice none 0 0] := r144
    clear r11
    replace b8 := b8.grown b142 b8.size (by rintro k ⟨⟩; omega)
    replace q := q.grown b142 q.size (by rintro k ⟨⟩; omega)
    replace r73 := r73.gr b142 (by have := r73.lt; omega)
    have r11 := r144
    clear r144
    refine LL.val (R.assign rfl rfl) rfl rfl rfl ?_
    refine LL.nilS ?_
    refine CC.ret ?_
    refine EE.thenR ?_
    refine EE.ret2 rfl ⟨_, rfl, lvNc (RowL.cells0 (by assumption)) (by rfl) (by rfl)⟩ rfl ?_
    exact ⟨fun h => absurd h hH, fun _ => rfl, fun h => absurd h hH, q⟩
  have hnr2 := hd_row hH hd8
  have hre : ∀ W, Below w.heap.size w W → Calls Try.prog 28 #[.slice (some ⟨bk, off, none⟩) 64 cap] W fun e w' => (∃ vo, e = .returned (.tuple #[viewV ((x0 % 256 : Nat) : Int) (x1 : Int) x2 x3 (x4 : Int) vo (.slice (some ⟨bk, off, none⟩) 64 cap), .int .i64 0]) ∧ OwnsT prE 2 w' W.heap.size 46 vo (readF x3 (ws.drop 8))) ∧ Below W.heap.size W w' := fun W b => (hre W b).mono fun e W' h => ⟨h.1 hH, h.2.2⟩
  by_cases hs : setP x3 (ws.drop 8)
  case neg =>
    have hcf : checkF x3 (ws.drop 8) = 190 := by
      unfold checkF
      rw [if_neg hnr2, if_neg hs]
    rw [hcf] at hchk
    have hns : ¬ndSet ws x0 x2 x3 := fun h => hs h.1
    clear hr8 hv hnr2 hcf hs
    refine X.fn Try.func30 rfl (n := 46) rfl rfl ?_
    refine CC.seq ?_
    refine CC.region ?_
    refine LL.alloc ([Value.int IntKind.i64 0, Value.int IntKind.i64 0, Value.int IntKind.u64 0, Value.int IntKind.u64 0, Value.int IntKind.i64 0, Value.slice none 0 0, Value.slice none 0 0]) rfl rfl rfl rfl rfl ?_
    intro Wa16 ga17 ega17 ra18 za19 ba15
    replace q := q.trans (ba15.mono q.size)
    refine LL.val (R.assign rfl rfl) rfl rfl rfl ?_
    refine LL.nilS ?_
    refine CC.seq ?_
    refine CC.region ?_
    refine LL.val (R.move rfl rfl) rfl rfl rfl ?_
    have la64 := ra18.lt
    (refine LL.call (R.call rfl rfl rfl) rfl rfl rfl (hre _ q) ?_; rintro e Wa63 ⟨⟨vo, rfl, oo⟩, ba60⟩; refine ⟨_, rfl, ?_⟩; obtain ⟨av, cv, rfl, hcv⟩ := (oo.reads prEnc).form rfl; clear oo)
    have zba60 := ba60.size
    replace ra18 := ra18.up ba60
    replace ba15 := ba15.trans (ba60.mono ba15.size)
    replace q := q.trans (ba60.mono q.size)
    refine LL.val (R.move rfl rfl) rfl rfl rfl ?_
    refine LL.val (R.extract rfl rfl rfl) rfl rfl rfl ?_
    refine LL.val (R.extract rfl rfl rfl) rfl rfl rfl ?_
    have la132 := ra18.lt
    refine LL.alloc ([Value.int IntKind.i64 0, Value.int IntKind.i64 0, Value.int IntKind.u64 0, Value.int IntKind.u64 0, Value.int IntKind.i64 0, Value.slice none 0 0, Value.slice none 0 0]) rfl rfl rfl rfl rfl ?_
    intro Wa134 ga135 ega135 ra136 za137 ba133
    replace ba60 := ba60.trans (ba133.mono ba60.size)
    replace ra18 := ra18.up ba133
    replace ba15 := ba15.trans (ba133.mono ba15.size)
    replace q := q.trans (ba133.mono q.size)
    refine LL.storeN (vs := [Value.int IntKind.i64 ↑(x0 % 256), Value.int IntKind.i64 ↑x1, Value.int IntKind.u64 ↑x2, Value.int IntKind.u64 ↑x3, Value.int IntKind.i64 ↑x4, Value.slice av (readF x3 (List.drop 8 ws)).length cv, Value.slice (some { block := bk, off := off }) 64 cap]) rfl rfl rfl rfl ra136 (by exact Nat.le_of_ble_eq_true rfl) (ones_of rfl) rfl rfl ?_
    intro Wa157 ra158 ba156 za159
    have hlba156 := ra136.lt
    replace ra158 : RowL Wa157 _ 70 [Value.int IntKind.i64 ↑(x0 % 256), Value.int IntKind.i64 ↑x1, Value.int IntKind.u64 ↑x2, Value.int IntKind.u64 ↑x3, Value.int IntKind.i64 ↑x4, Value.slice av (readF x3 (List.drop 8 ws)).length cv, Value.slice (some { block := bk, off := off }) 64 cap] := ra158
    clear ra136
    replace ba133 := ba133.grown ba156 ba133.size (by rintro k ⟨⟩; omega)
    replace ba60 := ba60.grown ba156 ba60.size (by rintro k ⟨⟩; omega)
    replace ra18 := ra18.gr ba156 (by have := ra18.lt; omega)
    replace ba15 := ba15.grown ba156 ba15.size (by rintro k ⟨⟩; omega)
    replace q := q.grown ba156 q.size (by rintro k ⟨⟩; omega)
    have ra136 := ra158
    clear ra158
    refine LL.val (R.assign rfl rfl) rfl rfl rfl ?_
    refine LL.nilS ?_
    refine CC.seq ?_
    refine CC.seq ?_
    refine CC.region ?_
    refine LL.val (R.move rfl rfl) rfl rfl rfl ?_
    refine LL.val (R.neF rfl rfl rfl (by omega)) rfl rfl rfl ?_
    refine LL.nilS ?_
    refine CC.no rfl ?_
    refine CC.skip ?_
    refine EE.thenN ?_
    refine CC.seq ?_
    refine CC.seq ?_
    refine CC.growT 5 (by kernel_rfl) (by kernel_rfl) ?_
    refine GG.val (fun w' b' => R.field rfl rfl (I.fld rfl)) rfl rfl ?_
    refine GG.val (fun w' b' => R.field rfl rfl (I.fld rfl)) rfl rfl ?_
    refine GG.val (fun w' b' => R.load rfl rfl (I.ld1 rfl (RowL.cell (ra136.up b') rfl))) rfl rfl ?_
    refine GG.val (fun w' b' => R.move rfl rfl) rfl rfl ?_
    (refine GG.val (fun w' b' => R.slice rfl rfl rfl rfl rfl (I.slFrom (lo := 8) rfl (by omega) (by omega) (by omega))) rfl rfl ?_)
    refine GG.nil (fun Wa281 ba280 => ?_)
    have zba280 := ba280.size
    replace ba133 := ba133.trans (ba280.mono ba133.size)
    replace ba60 := ba60.trans (ba280.mono ba60.size)
    replace ra18 := ra18.up ba280
    replace ba15 := ba15.trans (ba280.mono ba15.size)
    replace q := q.trans (ba280.mono q.size)
    replace ra136 := ra136.up ba280
    have la286 := ra18.lt
    have la287 := ra136.lt
    (refine LL.call (R.call rfl rfl rfl) rfl rfl rfl (hchk _ q) ?_; rintro e Wa285 ⟨rfl, ba282⟩; refine ⟨_, rfl, ?_⟩)
    have zba282 := ba282.size
    replace ba280 := ba280.trans (ba282.mono ba280.size)
    replace ba133 := ba133.trans (ba282.mono ba133.size)
    replace ba60 := ba60.trans (ba282.mono ba60.size)
    replace ra18 := ra18.up ba282
    replace ba15 := ba15.trans (ba282.mono ba15.size)
    replace q := q.trans (ba282.mono q.size)
    replace ra136 := ra136.up ba282
    refine LL.val (R.neT rfl rfl rfl (by omega)) rfl rfl rfl ?_
    refine LL.nilS ?_
    refine CC.yes rfl ?_
    refine CC.seq ?_
    refine CC.region ?_
    refine LL.val (R.buildV rfl rfl (v := .agg #[Value.int IntKind.i64 0, Value.int IntKind.i64 0, Value.int IntKind.u64 0, Value.int IntKind.u64 0, Value.int IntKind.i64 0, Value.slice none 0 0, Value.slice none 0 0]) (fun _ => by kernel_rfl)) rfl rfl rfl ?_
    refine LL.storeN (vs := [Value.int IntKind.i64 0, Value.int IntKind.i64 0, Value.int IntKind.u64 0, Value.int IntKind.u64 0, Value.int IntKind.i64 0, Value.slice none 0 0, Value.slice none 0 0]) rfl rfl rfl rfl ra18 (by exact Nat.le_of_ble_eq_true rfl) (ones_of rfl) rfl rfl ?_
    intro Wa346 ra347 ba345 za348
    have hlba345 := ra18.lt
    replace ra347 : RowL Wa346 _ 70 [Value.int IntKind.i64 0, Value.int IntKind.i64 0, Value.int IntKind.u64 0, Value.int IntKind.u64 0, Value.int IntKind.i64 0, Value.slice none 0 0, Value.slice none 0 0] := ra347
    clear ra18
    replace ba15 := ba15.grown ba345 ba15.size (by rintro k ⟨⟩; omega)
    replace q := q.grown ba345 q.size (by rintro k ⟨⟩; omega)
    replace ra136 := ra136.gr ba345 (by have := ra136.lt; omega)
    have ra18 := ra347
    clear ra347
    refine LL.val (R.assign rfl rfl) rfl rfl rfl ?_
    refine LL.nilS ?_
    refine CC.ret ?_
    refine EE.thenR ?_
    refine EE.ret2 rfl ⟨_, rfl, lvNc (RowL.cells0 (by assumption)) (by rfl) (by rfl)⟩ rfl ?_
    exact ⟨fun _ h => absurd h hns, fun h => absurd hH h, fun _ _ => rfl, q⟩
  have hcf : checkF x3 (ws.drop 8) = 0 := by
    unfold checkF
    rw [if_neg hnr2, if_pos hs]
  rw [hcf] at hchk
  have hpl := pairP_len x3 (ws.drop 8)
  obtain ⟨ps, eps⟩ : ∃ ps, readF x3 (ws.drop 8) = ps := ⟨_, rfl⟩
  have hps28 : ps.length ≤ 28 := by
    rw [← eps]
    have := readF_len x3 (ws.drop 8)
    omega
  have hset : ndSet ws x0 x2 x3 ↔ ∀ p ∈ ps, okP (x0 % 256) p.2 ∧ okK (x0 % 256) x2 p.1 := by
    unfold ndSet
    rw [eps]
    exact ⟨fun h => h.2, fun h => ⟨hs, h⟩⟩
  rw [eps] at hre ⊢
  obtain ⟨N, hN⟩ : ∃ N, ps.length = N := ⟨_, rfl⟩
  rw [hN] at hps28
  clear hr8 hv hnr2 hcf hs hpl eps
  refine X.fn Try.func30 rfl (n := 46) rfl rfl ?_
  refine CC.seq ?_
  refine CC.region ?_
  refine LL.alloc ([Value.int IntKind.i64 0, Value.int IntKind.i64 0, Value.int IntKind.u64 0, Value.int IntKind.u64 0, Value.int IntKind.i64 0, Value.slice none 0 0, Value.slice none 0 0]) rfl rfl rfl rfl rfl ?_
  intro Wb16 gb17 egb17 rb18 zb19 bb15
  replace q := q.trans (bb15.mono q.size)
  refine LL.val (R.assign rfl rfl) rfl rfl rfl ?_
  refine LL.nilS ?_
  refine CC.seq ?_
  refine CC.region ?_
  refine LL.val (R.move rfl rfl) rfl rfl rfl ?_
  have lb64 := rb18.lt
  (refine LL.call (R.call rfl rfl rfl) rfl rfl rfl (hre _ q) ?_; rintro e Wb63 ⟨⟨vo, rfl, oo⟩, bb60⟩; refine ⟨_, rfl, ?_⟩; obtain ⟨av, cv, rfl, hcv⟩ := (oo.reads prEnc).form hN; have ooF := fun X (b : Below Wb63.heap.size Wb63 X) => oo.up b; have qS := Below.refl Wb63.heap.size Wb63; clear oo)
  have zbb60 := bb60.size
  replace rb18 := rb18.up bb60
  replace bb15 := bb15.trans (bb60.mono bb15.size)
  replace q := q.trans (bb60.mono q.size)
  refine LL.val (R.move rfl rfl) rfl rfl rfl ?_
  refine LL.val (R.extract rfl rfl rfl) rfl rfl rfl ?_
  refine LL.val (R.extract rfl rfl rfl) rfl rfl rfl ?_
  have lb132 := rb18.lt
  refine LL.alloc ([Value.int IntKind.i64 0, Value.int IntKind.i64 0, Value.int IntKind.u64 0, Value.int IntKind.u64 0, Value.int IntKind.i64 0, Value.slice none 0 0, Value.slice none 0 0]) rfl rfl rfl rfl rfl ?_
  intro Wb134 gb135 egb135 rb136 zb137 bb133
  replace bb60 := bb60.trans (bb133.mono bb60.size)
  replace qS := qS.trans (bb133.mono qS.size)
  replace rb18 := rb18.up bb133
  replace bb15 := bb15.trans (bb133.mono bb15.size)
  replace q := q.trans (bb133.mono q.size)
  refine LL.storeN (vs := [Value.int IntKind.i64 ↑(x0 % 256), Value.int IntKind.i64 ↑x1, Value.int IntKind.u64 ↑x2, Value.int IntKind.u64 ↑x3, Value.int IntKind.i64 ↑x4, Value.slice av N cv, Value.slice (some { block := bk, off := off }) 64 cap]) rfl rfl rfl rfl rb136 (by exact Nat.le_of_ble_eq_true rfl) (ones_of rfl) rfl rfl ?_
  intro Wb157 rb158 bb156 zb159
  have hlbb156 := rb136.lt
  replace rb158 : RowL Wb157 _ 70 [Value.int IntKind.i64 ↑(x0 % 256), Value.int IntKind.i64 ↑x1, Value.int IntKind.u64 ↑x2, Value.int IntKind.u64 ↑x3, Value.int IntKind.i64 ↑x4, Value.slice av N cv, Value.slice (some { block := bk, off := off }) 64 cap] := rb158
  clear rb136
  replace bb133 := bb133.grown bb156 bb133.size (by rintro k ⟨⟩; omega)
  replace bb60 := bb60.grown bb156 bb60.size (by rintro k ⟨⟩; omega)
  replace qS := qS.grown bb156 qS.size (by rintro k ⟨⟩; omega)
  replace rb18 := rb18.gr bb156 (by have := rb18.lt; omega)
  replace bb15 := bb15.grown bb156 bb15.size (by rintro k ⟨⟩; omega)
  replace q := q.grown bb156 q.size (by rintro k ⟨⟩; omega)
  have rb136 := rb158
  clear rb158
  refine LL.val (R.assign rfl rfl) rfl rfl rfl ?_
  refine LL.nilS ?_
  refine CC.seq ?_
  refine CC.seq ?_
  refine CC.region ?_
  refine LL.val (R.move rfl rfl) rfl rfl rfl ?_
  refine LL.val (R.neF rfl rfl rfl (by omega)) rfl rfl rfl ?_
  refine LL.nilS ?_
  refine CC.no rfl ?_
  refine CC.skip ?_
  refine EE.thenN ?_
  refine CC.seq ?_
  refine CC.seq ?_
  refine CC.growT 5 (by kernel_rfl) (by kernel_rfl) ?_
  refine GG.val (fun w' b' => R.field rfl rfl (I.fld rfl)) rfl rfl ?_
  refine GG.val (fun w' b' => R.field rfl rfl (I.fld rfl)) rfl rfl ?_
  refine GG.val (fun w' b' => R.load rfl rfl (I.ld1 rfl (RowL.cell (rb136.up b') rfl))) rfl rfl ?_
  refine GG.val (fun w' b' => R.move rfl rfl) rfl rfl ?_
  (refine GG.val (fun w' b' => R.slice rfl rfl rfl rfl rfl (I.slFrom (lo := 8) rfl (by omega) (by omega) (by omega))) rfl rfl ?_)
  refine GG.nil (fun Wb281 bb280 => ?_)
  have zbb280 := bb280.size
  replace bb133 := bb133.trans (bb280.mono bb133.size)
  replace bb60 := bb60.trans (bb280.mono bb60.size)
  replace qS := qS.trans (bb280.mono qS.size)
  replace rb18 := rb18.up bb280
  replace bb15 := bb15.trans (bb280.mono bb15.size)
  replace q := q.trans (bb280.mono q.size)
  replace rb136 := rb136.up bb280
  have lb286 := rb18.lt
  have lb287 := rb136.lt
  (refine LL.call (R.call rfl rfl rfl) rfl rfl rfl (hchk _ q) ?_; rintro e Wb285 ⟨rfl, bb282⟩; refine ⟨_, rfl, ?_⟩)
  have zbb282 := bb282.size
  replace bb280 := bb280.trans (bb282.mono bb280.size)
  replace bb133 := bb133.trans (bb282.mono bb133.size)
  replace bb60 := bb60.trans (bb282.mono bb60.size)
  replace qS := qS.trans (bb282.mono qS.size)
  replace rb18 := rb18.up bb282
  replace bb15 := bb15.trans (bb282.mono bb15.size)
  replace q := q.trans (bb282.mono q.size)
  replace rb136 := rb136.up bb282
  refine LL.val (R.neF rfl rfl rfl (by omega)) rfl rfl rfl ?_
  refine LL.nilS ?_
  refine CC.no rfl ?_
  refine CC.skip ?_
  refine EE.thenN ?_
  refine CC.seq ?_
  refine CC.seq ?_
  refine CC.region ?_
  refine LL.val (R.field rfl rfl (I.fld rfl)) rfl rfl rfl ?_
  refine LL.val (R.field rfl rfl (I.fld rfl)) rfl rfl rfl ?_
  refine LL.val (R.load rfl rfl (I.ld1 rfl (RowL.cell rb136 rfl))) rfl rfl rfl ?_
  refine LL.val (R.len rfl rfl rfl rfl) rfl rfl rfl ?_
  refine LL.val (R.move rfl rfl) rfl rfl rfl ?_
  refine LL.nilS ?_
  refine CC.block ?_
  refine CC.loop (α := Nat) (fun i => [(2, .pointer (some ⟨gb17, 0, none⟩)), (4, .pointer (some ⟨gb135, 0, none⟩)), (27, .slice av N cv), (28, .int .i64 (N : Int)), (29, .int .i64 (i : Int))]) (fun i W => i ≤ N ∧ Below w.heap.size w W ∧ Below Wb63.heap.size Wb63 W ∧ RowL W gb17 70 (viewL 0 0 0 0 0 nilV nilV) ∧ RowL W gb135 70 (viewL ((x0 % 256 : Nat) : Int) (x1 : Int) x2 x3 (x4 : Int) (.slice av N cv) (.slice (some ⟨bk, off, none⟩) 64 cap)) ∧ ∀ j x, j < i → ps[j]? = some x → okP (x0 % 256) x.2 ∧ okK (x0 % 256) x2 x.1) (fun i => N - i) 0 ⟨rfl, rfl, rfl, rfl, rfl, trivial⟩ ⟨Nat.zero_le _, q, qS, by assumption, by assumption, fun j x h => by omega⟩ ?_
  clear q qS hre hchk rb18 rb136
  rintro i W ⟨hi, q, qS, ra, rb, ht⟩
  show CC none Try.prog _ 46 [] (sl [(2, .pointer (some ⟨gb17, 0, none⟩)), (4, .pointer (some ⟨gb135, 0, none⟩)), (27, .slice av N cv), (28, .int .i64 (N : Int)), (29, .int .i64 (i : Int))]) _ W
  by_cases hlt : i < N
  case neg =>
    obtain rfl : i = N := by omega
    have hnd : ndSet ws x0 x2 x3 := hset.2 fun p hp => by
      obtain ⟨j, hj⟩ := List.mem_iff_getElem?.1 hp
      exact ht j p (by have := (List.getElem?_eq_some_iff.1 hj).1; omega) hj
    have oo := ooF _ qS
    have lw := qS.size
    clear ht hset ooF qS
    refine CC.seq ?_
    refine CC.region ?_
    refine LL.val (R.ltF rfl rfl rfl (by omega)) rfl rfl rfl ?_
    refine LL.nilS ?_
    refine CC.seq ?_
    refine CC.no rfl ?_
    refine CC.exit ?_
    refine EE.thenX ?_
    refine EE.thenX ?_
    refine EE.inX ?_
    refine EE.thenN ?_
    refine CC.seq ?_
    refine CC.region ?_
    refine LL.val (R.load rfl rfl (I.ldNc (vs := [Value.int IntKind.i64 ↑(x0 % 256), Value.int IntKind.i64 ↑x1, Value.int IntKind.u64 ↑x2, Value.int IntKind.u64 ↑x3, Value.int IntKind.i64 ↑x4, Value.slice av i cv, Value.slice (some { block := bk, off := off }) 64 cap]) (RowL.cells rb rfl) (by rfl) (by rfl))) rfl rfl rfl ?_
    refine LL.storeN (vs := [Value.int IntKind.i64 ↑(x0 % 256), Value.int IntKind.i64 ↑x1, Value.int IntKind.u64 ↑x2, Value.int IntKind.u64 ↑x3, Value.int IntKind.i64 ↑x4, Value.slice av i cv, Value.slice (some { block := bk, off := off }) 64 cap]) rfl rfl rfl rfl ra (by exact Nat.le_of_ble_eq_true rfl) (ones_of rfl) rfl rfl ?_
    intro Wc2 rc3 bc1 zc4
    have hlbc1 := ra.lt
    replace rc3 : RowL Wc2 _ 70 [Value.int IntKind.i64 ↑(x0 % 256), Value.int IntKind.i64 ↑x1, Value.int IntKind.u64 ↑x2, Value.int IntKind.u64 ↑x3, Value.int IntKind.i64 ↑x4, Value.slice av i cv, Value.slice (some { block := bk, off := off }) 64 cap] := rc3
    clear ra
    replace q := q.grown bc1 q.size (by rintro k ⟨⟩; omega)
    replace rb := rb.gr bc1 (by have := rb.lt; omega)
    replace oo := oo.grown bc1 (own_ne oo (by omega))
    have ra := rc3
    clear rc3
    refine LL.val (R.assign rfl rfl) rfl rfl rfl ?_
    refine LL.nilS ?_
    refine CC.ret ?_
    refine EE.ret2 rfl ⟨_, rfl, lvNc (RowL.cells0 (by assumption)) (by rfl) (by rfl)⟩ rfl ?_
    exact ⟨fun _ _ => ⟨_, rfl, OwnsT.lower (by assumption) (by omega)⟩, fun h => absurd hH h, fun _ h => absurd hnd h, q⟩
  obtain ⟨⟨k1, p1⟩, hx⟩ : ∃ x, ps[i]? = some x := ⟨_, List.getElem?_eq_getElem (by omega)⟩
  have hm := List.mem_of_getElem? hx
  have rd := (ooF _ qS).reads prEnc
  obtain ⟨b1, o1, rfl, _, _⟩ := rd.get prEnc hx
  have m1 : CellsN W ⟨b1, o1 + i * 2, none⟩ 2 [.int .u64 (k1 : Int), .int .u64 (p1 : Int)] := rd.elemN prEnc hx
  have hno := fun (h : ¬okP (x0 % 256) p1 ∨ ¬okK (x0 % 256) x2 k1) (h2 : ndSet ws x0 x2 x3) => h.elim (fun h => h (hset.1 h2 _ hm).1) (fun h => h (hset.1 h2 _ hm).2)
  have ht' : okP (x0 % 256) p1 → okK (x0 % 256) x2 k1 → ∀ j x, j < i + 1 → ps[j]? = some x → okP (x0 % 256) x.2 ∧ okK (x0 % 256) x2 x.1 := fun a1 a2 j x hj hjx => by
    by_cases e : j = i
    · subst e; rw [hx] at hjx; cases hjx; exact ⟨a1, a2⟩
    · exact ht j x (by omega) hjx
  clear rd hset hm ht
  refine CC.seq ?_
  refine CC.region ?_
  refine LL.val (R.ltT rfl rfl rfl (by omega)) rfl rfl rfl ?_
  refine LL.nilS ?_
  refine CC.seq ?_
  refine CC.yes rfl ?_
  refine CC.skip ?_
  refine EE.thenN ?_
  refine CC.seq ?_
  refine CC.block ?_
  refine CC.seq ?_
  refine CC.region ?_
  refine LL.val (R.index rfl rfl rfl (I.ixS rfl (by omega))) rfl rfl rfl ?_
  refine LL.val (R.load rfl rfl (I.ldNc (by assumption) rfl rfl)) rfl rfl rfl ?_
  have ld1 := ra.lt
  have ld2 := rb.lt
  refine LL.alloc ([Value.int IntKind.u64 0, Value.int IntKind.u64 0]) rfl rfl rfl rfl rfl ?_
  intro Wd4 gd5 egd5 rd6 zd7 bd3
  replace q := q.trans (bd3.mono q.size)
  replace qS := qS.trans (bd3.mono qS.size)
  replace ra := ra.up bd3
  replace rb := rb.up bd3
  replace m1 := m1.up bd3
  refine LL.storeN (vs := [Value.int IntKind.u64 ↑k1, Value.int IntKind.u64 ↑p1]) rfl rfl rfl rfl rd6 (by exact Nat.le_of_ble_eq_true rfl) (ones_of rfl) rfl rfl ?_
  intro Wd9 rd10 bd8 zd11
  have hlbd8 := rd6.lt
  replace rd10 : RowL Wd9 _ 46 [Value.int IntKind.u64 ↑k1, Value.int IntKind.u64 ↑p1] := rd10
  clear rd6
  replace bd3 := bd3.grown bd8 bd3.size (by rintro k ⟨⟩; omega)
  replace q := q.grown bd8 q.size (by rintro k ⟨⟩; omega)
  replace qS := qS.grown bd8 qS.size (by rintro k ⟨⟩; omega)
  replace ra := ra.gr bd8 (by have := ra.lt; omega)
  replace rb := rb.gr bd8 (by have := rb.lt; omega)
  replace m1 := m1.gr bd8 (by have := m1.lt; omega)
  have rd6 := rd10
  clear rd10
  refine LL.nilS ?_
  refine CC.seq ?_
  refine CC.region ?_
  refine LL.val (R.field rfl rfl (I.fld rfl)) rfl rfl rfl ?_
  refine LL.val (R.load rfl rfl (I.ld1 rfl (RowL.cell rd6 rfl))) rfl rfl rfl ?_
  refine LL.callB (R.call rfl rfl rfl) rfl rfl rfl (vptr_d _ _ _ _ _ _ _ _ _ _ (by assumption)) (fun cd14 Wd13 bd12 => ?_) (fun cd14 Wd13 bd12 => ?nod15)
  have zbd12 := bd12.size
  replace bd3 := bd3.trans (bd12.mono bd3.size)
  replace q := q.trans (bd12.mono q.size)
  replace qS := qS.trans (bd12.mono qS.size)
  replace ra := ra.up bd12
  replace rb := rb.up bd12
  replace m1 := m1.up bd12
  replace rd6 := rd6.up bd12
  case' nod15 =>
    have zbd12 := bd12.size
    replace bd3 := bd3.trans (bd12.mono bd3.size)
    replace q := q.trans (bd12.mono q.size)
    replace qS := qS.trans (bd12.mono qS.size)
    replace ra := ra.up bd12
    replace rb := rb.up bd12
    replace m1 := m1.up bd12
    replace rd6 := rd6.up bd12
  refine LL.val (R.not rfl rfl) rfl rfl rfl ?_
  refine LL.val (R.move rfl rfl) rfl rfl rfl ?_
  refine LL.skip rfl rfl ?_
  refine LL.skip rfl rfl ?_
  refine LL.skip rfl rfl ?_
  refine LL.skip rfl rfl ?_
  refine LL.val (R.pick rfl rfl rfl) rfl rfl rfl ?_
  refine LL.nilS ?_
  refine CC.yes rfl ?_
  refine CC.seq ?_
  refine CC.region ?_
  refine LL.val (R.buildV rfl rfl (v := .agg #[Value.int IntKind.i64 0, Value.int IntKind.i64 0, Value.int IntKind.u64 0, Value.int IntKind.u64 0, Value.int IntKind.i64 0, Value.slice none 0 0, Value.slice none 0 0]) (fun _ => by kernel_rfl)) rfl rfl rfl ?_
  refine LL.storeN (vs := [Value.int IntKind.i64 0, Value.int IntKind.i64 0, Value.int IntKind.u64 0, Value.int IntKind.u64 0, Value.int IntKind.i64 0, Value.slice none 0 0, Value.slice none 0 0]) rfl rfl rfl rfl ra (by exact Nat.le_of_ble_eq_true rfl) (ones_of rfl) rfl rfl ?_
  intro Wd17 rd18 bd16 zd19
  have hlbd16 := ra.lt
  replace rd18 : RowL Wd17 _ 70 [Value.int IntKind.i64 0, Value.int IntKind.i64 0, Value.int IntKind.u64 0, Value.int IntKind.u64 0, Value.int IntKind.i64 0, Value.slice none 0 0, Value.slice none 0 0] := rd18
  clear ra
  replace q := q.grown bd16 q.size (by rintro k ⟨⟩; omega)
  replace rb := rb.gr bd16 (by have := rb.lt; omega)
  replace rd6 := rd6.gr bd16 (by have := rd6.lt; omega)
  have ra := rd18
  clear rd18
  refine LL.val (R.assign rfl rfl) rfl rfl rfl ?_
  refine LL.nilS ?_
  refine CC.ret ?_
  refine EE.inR ?_
  refine EE.thenR ?_
  refine EE.thenR ?_
  refine EE.inR ?_
  refine EE.thenR ?_
  refine EE.ret2 rfl ⟨_, rfl, lvNc (RowL.cells0 (by assumption)) (by rfl) (by rfl)⟩ rfl ?_
  exact ⟨fun _ h => absurd h (hno (by first | exact .inl (by assumption) | exact .inr (by assumption))), fun h => absurd hH h, fun _ _ => rfl, q⟩
  refine LL.val (R.not rfl rfl) rfl rfl rfl ?_
  refine LL.val (R.move rfl rfl) rfl rfl rfl ?_
  refine LL.val (R.field rfl rfl (I.fld rfl)) rfl rfl rfl ?_
  refine LL.val (R.load rfl rfl (I.ld1 rfl (RowL.cell rd6 rfl))) rfl rfl rfl ?_
  refine LL.callB (R.call rfl rfl rfl) rfl rfl rfl (vkey_d _ _ _ _ _ _ _ _ _ _ (by assumption)) (fun cd22 Wd21 bd20 => ?_) (fun cd22 Wd21 bd20 => ?nod23)
  have zbd20 := bd20.size
  replace bd12 := bd12.trans (bd20.mono bd12.size)
  replace bd3 := bd3.trans (bd20.mono bd3.size)
  replace q := q.trans (bd20.mono q.size)
  replace qS := qS.trans (bd20.mono qS.size)
  replace ra := ra.up bd20
  replace rb := rb.up bd20
  replace m1 := m1.up bd20
  replace rd6 := rd6.up bd20
  case' nod23 =>
    have zbd20 := bd20.size
    replace bd12 := bd12.trans (bd20.mono bd12.size)
    replace bd3 := bd3.trans (bd20.mono bd3.size)
    replace q := q.trans (bd20.mono q.size)
    replace qS := qS.trans (bd20.mono qS.size)
    replace ra := ra.up bd20
    replace rb := rb.up bd20
    replace m1 := m1.up bd20
    replace rd6 := rd6.up bd20
  refine LL.val (R.not rfl rfl) rfl rfl rfl ?_
  refine LL.val (R.pick rfl rfl rfl) rfl rfl rfl ?_
  refine LL.nilS ?_
  refine CC.yes rfl ?_
  refine CC.seq ?_
  refine CC.region ?_
  refine LL.val (R.buildV rfl rfl (v := .agg #[Value.int IntKind.i64 0, Value.int IntKind.i64 0, Value.int IntKind.u64 0, Value.int IntKind.u64 0, Value.int IntKind.i64 0, Value.slice none 0 0, Value.slice none 0 0]) (fun _ => by kernel_rfl)) rfl rfl rfl ?_
  refine LL.storeN (vs := [Value.int IntKind.i64 0, Value.int IntKind.i64 0, Value.int IntKind.u64 0, Value.int IntKind.u64 0, Value.int IntKind.i64 0, Value.slice none 0 0, Value.slice none 0 0]) rfl rfl rfl rfl ra (by exact Nat.le_of_ble_eq_true rfl) (ones_of rfl) rfl rfl ?_
  intro Wd25 rd26 bd24 zd27
  have hlbd24 := ra.lt
  replace rd26 : RowL Wd25 _ 70 [Value.int IntKind.i64 0, Value.int IntKind.i64 0, Value.int IntKind.u64 0, Value.int IntKind.u64 0, Value.int IntKind.i64 0, Value.slice none 0 0, Value.slice none 0 0] := rd26
  clear ra
  replace q := q.grown bd24 q.size (by rintro k ⟨⟩; omega)
  replace rb := rb.gr bd24 (by have := rb.lt; omega)
  replace rd6 := rd6.gr bd24 (by have := rd6.lt; omega)
  have ra := rd26
  clear rd26
  refine LL.val (R.assign rfl rfl) rfl rfl rfl ?_
  refine LL.nilS ?_
  refine CC.ret ?_
  refine EE.inR ?_
  refine EE.thenR ?_
  refine EE.thenR ?_
  refine EE.inR ?_
  refine EE.thenR ?_
  refine EE.ret2 rfl ⟨_, rfl, lvNc (RowL.cells0 (by assumption)) (by rfl) (by rfl)⟩ rfl ?_
  exact ⟨fun _ h => absurd h (hno (by first | exact .inl (by assumption) | exact .inr (by assumption))), fun h => absurd hH h, fun _ _ => rfl, q⟩
  refine LL.val (R.not rfl rfl) rfl rfl rfl ?_
  refine LL.val (R.pick rfl rfl rfl) rfl rfl rfl ?_
  refine LL.nilS ?_
  refine CC.no rfl ?_
  refine CC.skip ?_
  refine EE.inN ?_
  refine EE.thenN ?_
  refine CC.region ?_
  refine LL.val (R.addNc rfl rfl rfl rfl (by omega)) rfl rfl rfl ?_
  refine LL.val (R.move rfl rfl) rfl rfl rfl ?_
  refine LL.nil ?_
  exact EE.round (i + 1) ⟨rfl, rfl, rfl, rfl, rfl, trivial⟩ ⟨by show i + 1 ≤ N; omega, q, qS, by assumption, by assumption, ht' (by assumption) (by assumption)⟩ (by show N - (i + 1) < N - i; omega)
end Go.Proofs.Ytfplilpefhhpnaa
/- node: read and settled for any words; Of, Check (written by gennd4.py). -/
namespace Go.Proofs.Ytfplilpefhhpnaa
set_option linter.unusedVariables false
set_option linter.unusedSimpArgs false
open Go.RowKit Go.Shelf
set_option maxRecDepth 100000
set_option maxHeartbeats 8000000
theorem uE_reads {w : World} {v : Value} {ws : List Nat} (h : ReadsT uE 1 w v ws) : Reads w v (ints .u64 ws) := by
  obtain ⟨a, cap, e, hc, h⟩ := h
  have hl : (ints .u64 ws).length = ws.length := by simp [ints]
  exact ⟨a, cap, by rw [hl]; exact e, by rw [hl]; exact hc, fun hne => by
    obtain ⟨b, off, h1, h2, h3⟩ := h (by intro e; exact hne (by rw [e]; rfl))
    exact ⟨b, off, h1, h2, fun j hj => by rw [← flat_u]; exact h3 j (by omega)⟩⟩
theorem OwnsT.kept {α : Type} {enc : α → List Value} {k base e : Nat} {K : Nat → Prop} {w w' : World} {v : Value} {ts : List α} (h : OwnsT enc k w base e v ts) (hk : Kept K w w') (hK : ∀ j, base ≤ j → j < w.heap.size → K j) : OwnsT enc k w' base e v ts :=
  h.same hk.size fun g cs hg hx => by
    have hj : K g := by
      rcases h.above with h2 | ⟨b, h2, h3, h4⟩
      · rw [hg] at h2
        cases h2
      · rw [hg] at h2
        cases h2
        exact hK g h3 h4
    exact (hk.block g hj).trans hx
/-- A word. -/
def gw (ws : List Nat) (i : Nat) : Nat := ws.getD i 0
theorem gw_get {ws : List Nat} {i : Nat} (h : i < ws.length) : ws[i]? = some (gw ws i) := by
  unfold gw
  rw [List.getD_eq_getElem?_getD, List.getElem?_eq_getElem h]
  rfl
theorem gw_lt {ws : List Nat} (hb : ∀ x ∈ ws, x < 18446744073709551616) (i : Nat) : gw ws i < 18446744073709551616 := by
  by_cases h : i < ws.length
  · exact hb _ (List.mem_of_getElem? (gw_get h))
  · unfold gw
    rw [List.getD_eq_getElem?_getD, List.getElem?_eq_none (by omega)]
    decide
/-- Words that are a node's; a settled node's. -/
def nodeP (ws : List Nat) : Prop := ws.length = 64 ∧ hdOk (gw ws 0) (gw ws 1) (gw ws 3) (gw ws 4) (gw ws 5) (gw ws 6) (gw ws 7)
def nodeS (ws : List Nat) : Prop := nodeP ws ∧ ndSet ws (gw ws 0) (gw ws 2) (gw ws 3)
abbrev vwV (ws : List Nat) (vo v : Value) : Value := viewV ((gw ws 0 % 256 : Nat) : Int) (gw ws 1 : Int) (gw ws 2) (gw ws 3) (gw ws 4 : Int) vo v
abbrev nodeV (l s : Int) (lo le : Nat) (wy : Int) (ps : Value) : Value := .agg #[.int .i64 l, .int .i64 s, .int .u64 (lo : Int), .int .u64 (le : Int), .int .i64 wy, ps]
abbrev ndV (ws : List Nat) (vo : Value) : Value := nodeV ((gw ws 0 % 256 : Nat) : Int) (gw ws 1 : Int) (gw ws 2) (gw ws 3) (gw ws 4 : Int) vo
noncomputable def chkN (ws : List Nat) : Nat := by
  classical
  exact if nodeP ws then if ndSet ws (gw ws 0) (gw ws 2) (gw ws 3) then 0 else 190 else 210
theorem sl64 {v : Value} {ws : List Nat} {w : World} (hv : ReadsT uE 1 w v ws) (hn : ws.length = 64) : ∃ bk off c, v = .slice (some ⟨bk, off, none⟩) 64 c ∧ 64 ≤ c := by
  obtain ⟨a, c, rfl, hc⟩ := hv.form hn
  obtain ⟨b, off, e, _, _⟩ := hv.get uEnc (i := 0) (gw_get (by omega))
  exact ⟨b, off, c, by rw [e], hc⟩
theorem nread_any (n : Nat) (v : Value) (ws : List Nat) (w : World) (hv : ReadsT uE 1 w v ws) (hn : ws.length = n) (hb : ∀ x ∈ ws, x < 18446744073709551616) : Calls Try.prog 28 #[v] w fun e w' => (nodeP ws → ∃ vo, e = .returned (.tuple #[vwV ws vo v, .int .i64 0]) ∧ OwnsT prE 2 w' w.heap.size 46 vo (readF (gw ws 3) (ws.drop 8))) ∧ (¬nodeP ws → e = .returned (.tuple #[nzV, .int .i64 210])) ∧ Below w.heap.size w w' := by
  have q := Below.refl w.heap.size w
  by_cases h64 : n = 64
  · subst h64
    obtain ⟨bk, off, c, rfl, hc⟩ := sl64 hv hn
    exact (read_all bk off c ws w (uE_reads hv) hn hc hb _ _ _ _ _ _ _ _ (gw_get (by omega)) (gw_get (by omega)) (gw_get (by omega)) (gw_get (by omega)) (gw_get (by omega)) (gw_get (by omega)) (gw_get (by omega)) (gw_get (by omega))).mono fun e w' h => ⟨fun hp => h.1 hp.2, fun hp => h.2.1 (fun h => hp ⟨hn, h⟩), h.2.2⟩
  · obtain ⟨a, c, rfl, hc⟩ := hv.form hn
    have hno : ¬nodeP ws := fun h => h64 (hn.symm.trans h.1)
    clear hv hb
    refine X.fn Try.func28 rfl (n := 80) rfl rfl ?_
    refine CC.seq ?_
    refine CC.region ?_
    refine LL.alloc ([Value.int IntKind.i64 0, Value.int IntKind.i64 0, Value.int IntKind.u64 0, Value.int IntKind.u64 0, Value.int IntKind.i64 0, Value.slice none 0 0, Value.slice none 0 0]) rfl rfl rfl rfl rfl ?_
    intro W2 g3 eg3 r4 z5 b1
    replace q := q.trans (b1.mono q.size)
    refine LL.val (R.assign rfl rfl) rfl rfl rfl ?_
    refine LL.nilS ?_
    refine CC.fwd (l := 0) (α := Unit) (fun _ => []) (fun _ => [(2, .pointer (some ⟨g3, 0, none⟩))]) (fun _ W => Below w.heap.size w W ∧ RowL W g3 70 (viewL 0 0 0 0 0 nilV nilV)) rfl ?first ?pass
    case pass =>
      rintro _ W ⟨q, r4⟩
      refine CC.seq ?_
      refine CC.skip ?_
      refine EE.thenN ?_
      refine CC.seq ?_
      refine CC.region ?_
      refine LL.val (R.buildV rfl rfl (v := .agg #[Value.int IntKind.i64 0, Value.int IntKind.i64 0, Value.int IntKind.u64 0, Value.int IntKind.u64 0, Value.int IntKind.i64 0, Value.slice none 0 0, Value.slice none 0 0]) (fun _ => by kernel_rfl)) rfl rfl rfl ?_
      refine LL.storeN (vs := [Value.int IntKind.i64 0, Value.int IntKind.i64 0, Value.int IntKind.u64 0, Value.int IntKind.u64 0, Value.int IntKind.i64 0, Value.slice none 0 0, Value.slice none 0 0]) rfl rfl rfl rfl r4 (by exact Nat.le_of_ble_eq_true rfl) (ones_of rfl) rfl rfl ?_
      intro Wa2 ra3 ba1 za4
      have hlba1 := r4.lt
      replace ra3 : RowL Wa2 _ 70 [Value.int IntKind.i64 0, Value.int IntKind.i64 0, Value.int IntKind.u64 0, Value.int IntKind.u64 0, Value.int IntKind.i64 0, Value.slice none 0 0, Value.slice none 0 0] := ra3
      clear r4
      replace q := q.grown ba1 q.size (by rintro k ⟨⟩; omega)
      have r4 := ra3
      clear ra3
      refine LL.val (R.assign rfl rfl) rfl rfl rfl ?_
      refine LL.nilS ?_
      refine CC.ret ?_
      refine EE.jumpR ?_
      refine EE.ret2 rfl ⟨_, rfl, lvNc (RowL.cells0 (by assumption)) (by rfl) (by rfl)⟩ rfl ?_
      exact ⟨fun h => absurd h hno, fun _ => rfl, q⟩
    case first =>
      refine CC.seq ?_
      refine CC.region ?_
      have lb1 := r4.lt
      refine LL.alloc ([Value.int IntKind.i64 0, Value.int IntKind.i64 0, Value.int IntKind.u64 0, Value.int IntKind.u64 0, Value.int IntKind.i64 0, Value.slice none 0 0, Value.slice none 0 0]) rfl rfl rfl rfl rfl ?_
      intro Wb3 gb4 egb4 rb5 zb6 bb2
      replace r4 := r4.up bb2
      replace b1 := b1.trans (bb2.mono b1.size)
      replace q := q.trans (bb2.mono q.size)
      refine LL.nilS ?_
      refine CC.seq ?_
      refine CC.region ?_
      refine LL.val (R.assign rfl rfl) rfl rfl rfl ?_
      refine LL.nilS ?_
      refine CC.seq ?_
      refine CC.seq ?_
      refine CC.region ?_
      refine LL.val (R.move rfl rfl) rfl rfl rfl ?_
      refine LL.val (R.len rfl rfl rfl rfl) rfl rfl rfl ?_
      refine LL.val (R.neT rfl rfl rfl (by omega)) rfl rfl rfl ?_
      refine LL.nilS ?_
      refine CC.yes rfl ?_
      refine CC.goto ?_
      refine EE.thenG ?_
      (refine EE.jumpTo () rfl ?_ ⟨q, r4⟩; exact ⟨rfl, trivial⟩)
theorem nsettled_any (n : Nat) (v : Value) (ws : List Nat) (w : World) (hv : ReadsT uE 1 w v ws) (hn : ws.length = n) (hb : ∀ x ∈ ws, x < 18446744073709551616) : Calls Try.prog 30 #[v] w fun e w' => (nodeS ws → ∃ vo, e = .returned (.tuple #[vwV ws vo v, .int .i64 0]) ∧ OwnsT prE 2 w' w.heap.size 46 vo (readF (gw ws 3) (ws.drop 8))) ∧ (¬nodeP ws → e = .returned (.tuple #[nzV, .int .i64 210])) ∧ (nodeP ws → ¬nodeS ws → e = .returned (.tuple #[nzV, .int .i64 190])) ∧ Below w.heap.size w w' := by
  have q := Below.refl w.heap.size w
  by_cases h64 : n = 64
  · subst h64
    obtain ⟨bk, off, c, rfl, hc⟩ := sl64 hv hn
    exact (settled_all bk off c ws w (uE_reads hv) hn hc hb _ _ _ _ _ _ _ _ (gw_get (by omega)) (gw_get (by omega)) (gw_get (by omega)) (gw_get (by omega)) (gw_get (by omega)) (gw_get (by omega)) (gw_get (by omega)) (gw_get (by omega))).mono fun e w' h => ⟨fun hp => h.1 hp.1.2 hp.2, fun hp => h.2.1 (fun h => hp ⟨hn, h⟩), fun hp hs => h.2.2.1 hp.2 (fun h => hs ⟨hp, h⟩), h.2.2.2⟩
  · obtain ⟨a, c, rfl, hc⟩ := hv.form hn
    have hno : ¬nodeP ws := fun h => h64 (hn.symm.trans h.1)
    have hre : ∀ W, Below w.heap.size w W → Calls Try.prog 28 #[.slice a n c] W fun e w' => e = .returned (.tuple #[nzV, .int .i64 210]) ∧ Below W.heap.size W w' := fun W b => (nread_any n _ ws W (hv.up b) hn hb).mono fun e w' h => ⟨h.2.1 hno, h.2.2⟩
    clear hv hb
    refine X.fn Try.func30 rfl (n := 46) rfl rfl ?_
    refine CC.seq ?_
    refine CC.region ?_
    refine LL.alloc ([Value.int IntKind.i64 0, Value.int IntKind.i64 0, Value.int IntKind.u64 0, Value.int IntKind.u64 0, Value.int IntKind.i64 0, Value.slice none 0 0, Value.slice none 0 0]) rfl rfl rfl rfl rfl ?_
    intro W9 g10 eg10 r11 z12 b8
    replace q := q.trans (b8.mono q.size)
    refine LL.val (R.assign rfl rfl) rfl rfl rfl ?_
    refine LL.nilS ?_
    refine CC.seq ?_
    refine CC.region ?_
    refine LL.val (R.move rfl rfl) rfl rfl rfl ?_
    have l33 := r11.lt
    (refine LL.call (R.call rfl rfl rfl) rfl rfl rfl (hre _ q) ?_; rintro e W32 ⟨rfl, b29⟩; refine ⟨_, rfl, ?_⟩)
    have zb29 := b29.size
    replace r11 := r11.up b29
    replace b8 := b8.trans (b29.mono b8.size)
    replace q := q.trans (b29.mono q.size)
    refine LL.val (R.move rfl rfl) rfl rfl rfl ?_
    refine LL.val (R.extract rfl rfl rfl) rfl rfl rfl ?_
    refine LL.val (R.extract rfl rfl rfl) rfl rfl rfl ?_
    have l69 := r11.lt
    refine LL.alloc ([Value.int IntKind.i64 0, Value.int IntKind.i64 0, Value.int IntKind.u64 0, Value.int IntKind.u64 0, Value.int IntKind.i64 0, Value.slice none 0 0, Value.slice none 0 0]) rfl rfl rfl rfl rfl ?_
    intro W71 g72 eg72 r73 z74 b70
    replace b29 := b29.trans (b70.mono b29.size)
    replace r11 := r11.up b70
    replace b8 := b8.trans (b70.mono b8.size)
    replace q := q.trans (b70.mono q.size)
    refine LL.storeN (vs := [Value.int IntKind.i64 0, Value.int IntKind.i64 0, Value.int IntKind.u64 ↑0, Value.int IntKind.u64 ↑0, Value.int IntKind.i64 0, nilV, nilV]) rfl rfl rfl rfl r73 (by exact Nat.le_of_ble_eq_true rfl) (ones_of rfl) rfl rfl ?_
    intro W85 r86 b84 z87
    have hlb84 := r73.lt
    replace r86 : RowL W85 _ 70 [Value.int IntKind.i64 0, Value.int IntKind.i64 0, Value.int IntKind.u64 ↑0, Value.int IntKind.u64 ↑0, Value.int IntKind.i64 0, nilV, nilV] := r86
    clear r73
    replace b70 := b70.grown b84 b70.size (by rintro k ⟨⟩; omega)
    replace b29 := b29.grown b84 b29.size (by rintro k ⟨⟩; omega)
    replace r11 := r11.gr b84 (by have := r11.lt; omega)
    replace b8 := b8.grown b84 b8.size (by rintro k ⟨⟩; omega)
    replace q := q.grown b84 q.size (by rintro k ⟨⟩; omega)
    have r73 := r86
    clear r86
    refine LL.val (R.assign rfl rfl) rfl rfl rfl ?_
    refine LL.nilS ?_
    refine CC.seq ?_
    refine CC.seq ?_
    refine CC.region ?_
    refine LL.val (R.move rfl rfl) rfl rfl rfl ?_
    refine LL.val (R.neT rfl rfl rfl (by omega)) rfl rfl rfl ?_
    refine LL.nilS ?_
    refine CC.yes rfl ?_
    refine CC.seq ?_
    refine CC.region ?_
    refine LL.val (R.buildV rfl rfl (v := .agg #[Value.int IntKind.i64 0, Value.int IntKind.i64 0, Value.int IntKind.u64 0, Value.int IntKind.u64 0, Value.int IntKind.i64 0, Value.slice none 0 0, Value.slice none 0 0]) (fun _ => by kernel_rfl)) rfl rfl rfl ?_
    refine LL.val (R.move rfl rfl) rfl rfl rfl ?_
    refine LL.storeN (vs := [Value.int IntKind.i64 0, Value.int IntKind.i64 0, Value.int IntKind.u64 0, Value.int IntKind.u64 0, Value.int IntKind.i64 0, Value.slice none 0 0, Value.slice none 0 0]) rfl rfl rfl rfl r11 (by exact Nat.le_of_ble_eq_true rfl) (ones_of rfl) rfl rfl ?_
    intro W143 r144 b142 z145
    have hlb142 := r11.lt
    replace r144 : RowL W143 _ 70 [Value.int IntKind.i64 0, Value.int IntKind.i64 0, Value.int IntKind.u64 0, Value.int IntKind.u64 0, Value.int IntKind.i64 0, Value.slice none 0 0, Value.slice none 0 0] := r144
    clear r11
    replace b8 := b8.grown b142 b8.size (by rintro k ⟨⟩; omega)
    replace q := q.grown b142 q.size (by rintro k ⟨⟩; omega)
    replace r73 := r73.gr b142 (by have := r73.lt; omega)
    have r11 := r144
    clear r144
    refine LL.val (R.assign rfl rfl) rfl rfl rfl ?_
    refine LL.nilS ?_
    refine CC.ret ?_
    refine EE.thenR ?_
    refine EE.ret2 rfl ⟨_, rfl, lvNc (RowL.cells0 (by assumption)) (by rfl) (by rfl)⟩ rfl ?_
    exact ⟨fun h => absurd h.1 hno, fun _ => rfl, fun h => absurd h hno, q⟩
theorem nOf_yes (n : Nat) (v : Value) (ws : List Nat) (w : World) (hv : ReadsT uE 1 w v ws) (hn : ws.length = n) (hb : ∀ x ∈ ws, x < 18446744073709551616) (hp : nodeP ws) : Calls Try.prog 9 #[v] w fun e w' => (∃ vo, e = .returned (.tuple #[ndV ws vo, .int .i64 0]) ∧ OwnsT prE 2 w' w.heap.size 46 vo (readF (gw ws 3) (ws.drop 8))) ∧ Below w.heap.size w w' := by
  have q := Below.refl w.heap.size w
  obtain ⟨a, c, rfl, hc⟩ := hv.form hn
  have hre : ∀ W, Below w.heap.size w W → Calls Try.prog 28 #[.slice a n c] W fun e w' => (∃ vo, e = .returned (.tuple #[vwV ws vo (.slice a n c), .int .i64 0]) ∧ OwnsT prE 2 w' W.heap.size 46 vo (readF (gw ws 3) (ws.drop 8))) ∧ Below W.heap.size W w' := fun W b => (nread_any n _ ws W (hv.up b) hn hb).mono fun e w' h => ⟨h.1 hp, h.2.2⟩
  clear hv hb
  refine X.fn Try.func9 rfl (n := 14) rfl rfl ?_
  refine CC.seq ?_
  refine CC.region ?_
  refine LL.alloc ([Value.int IntKind.i64 0, Value.int IntKind.i64 0, Value.int IntKind.u64 0, Value.int IntKind.u64 0, Value.int IntKind.i64 0, Value.slice none 0 0]) rfl rfl rfl rfl rfl ?_
  intro W9 g10 eg10 r11 z12 b8
  replace q := q.trans (b8.mono q.size)
  refine LL.val (R.assign rfl rfl) rfl rfl rfl ?_
  refine LL.nilS ?_
  refine CC.seq ?_
  refine CC.region ?_
  refine LL.val (R.move rfl rfl) rfl rfl rfl ?_
  have l33 := r11.lt
  (refine LL.call (R.call rfl rfl rfl) rfl rfl rfl (hre _ q) ?_; rintro e W32 ⟨⟨vo, rfl, oo⟩, b29⟩; refine ⟨_, rfl, ?_⟩; obtain ⟨av, cv, rfl, hcv⟩ := (oo.reads prEnc).form rfl; have hkk := Kept.refl (fun j => j < W32.heap.size ∧ w.heap.size < j) W32; have ooF := fun X (b : Kept (fun j => j < W32.heap.size ∧ w.heap.size < j) W32 X) => oo.kept b fun j h1 h2 => ⟨h2, by omega⟩; clear oo)
  have zb29 := b29.size
  replace r11 := r11.up b29
  replace b8 := b8.trans (b29.mono b8.size)
  replace q := q.trans (b29.mono q.size)
  refine LL.val (R.move rfl rfl) rfl rfl rfl ?_
  refine LL.val (R.extract rfl rfl rfl) rfl rfl rfl ?_
  refine LL.val (R.extract rfl rfl rfl) rfl rfl rfl ?_
  have l69 := r11.lt
  refine LL.alloc ([Value.int IntKind.i64 0, Value.int IntKind.i64 0, Value.int IntKind.u64 0, Value.int IntKind.u64 0, Value.int IntKind.i64 0, Value.slice none 0 0, Value.slice none 0 0]) rfl rfl rfl rfl rfl ?_
  intro W71 g72 eg72 r73 z74 b70
  replace b29 := b29.trans (b70.mono b29.size)
  replace hkk := hkk.trans (bkept b70 (fun j h => by have := h.1; have := hkk.size; omega))
  have y75 := hkk.size
  replace r11 := r11.up b70
  replace b8 := b8.trans (b70.mono b8.size)
  replace q := q.trans (b70.mono q.size)
  refine LL.storeN (vs := [Value.int IntKind.i64 ↑(gw ws 0 % 256), Value.int IntKind.i64 ↑(gw ws 1), Value.int IntKind.u64 ↑(gw ws 2), Value.int IntKind.u64 ↑(gw ws 3), Value.int IntKind.i64 ↑(gw ws 4), Value.slice av (readF (gw ws 3) (List.drop 8 ws)).length cv, Value.slice a n c]) rfl rfl rfl rfl r73 (by exact Nat.le_of_ble_eq_true rfl) (ones_of rfl) rfl rfl ?_
  intro W86 r87 b85 z88
  have hlb85 := r73.lt
  replace r87 : RowL W86 _ 70 [Value.int IntKind.i64 ↑(gw ws 0 % 256), Value.int IntKind.i64 ↑(gw ws 1), Value.int IntKind.u64 ↑(gw ws 2), Value.int IntKind.u64 ↑(gw ws 3), Value.int IntKind.i64 ↑(gw ws 4), Value.slice av (readF (gw ws 3) (List.drop 8 ws)).length cv, Value.slice a n c] := r87
  clear r73
  replace b70 := b70.grown b85 b70.size (by rintro k ⟨⟩; omega)
  replace b29 := b29.grown b85 b29.size (by rintro k ⟨⟩; omega)
  replace hkk := hkk.trans (grown_kept b85 (fun j h => by have := h.1; have := hkk.size; omega) (fun j h e => by cases e; have h2 := h.1; have h3 := h.2; omega))
  replace r11 := r11.gr b85 (by have := r11.lt; omega)
  replace b8 := b8.grown b85 b8.size (by rintro k ⟨⟩; omega)
  replace q := q.grown b85 q.size (by rintro k ⟨⟩; omega)
  have r73 := r87
  clear r87
  refine LL.val (R.assign rfl rfl) rfl rfl rfl ?_
  refine LL.nilS ?_
  refine CC.seq ?_
  refine CC.region ?_
  refine LL.val (R.field rfl rfl (I.fld rfl)) rfl rfl rfl ?_
  refine LL.val (R.load rfl rfl (I.ldNc (vs := [Value.int IntKind.i64 ↑(gw ws 0 % 256), Value.int IntKind.i64 ↑(gw ws 1), Value.int IntKind.u64 ↑(gw ws 2), Value.int IntKind.u64 ↑(gw ws 3), Value.int IntKind.i64 ↑(gw ws 4), Value.slice av (readF (gw ws 3) (List.drop 8 ws)).length cv]) (RowL.cells r73 rfl) (by rfl) (by rfl))) rfl rfl rfl ?_
  refine LL.val (R.move rfl rfl) rfl rfl rfl ?_
  refine LL.storeN (vs := [Value.int IntKind.i64 ↑(gw ws 0 % 256), Value.int IntKind.i64 ↑(gw ws 1), Value.int IntKind.u64 ↑(gw ws 2), Value.int IntKind.u64 ↑(gw ws 3), Value.int IntKind.i64 ↑(gw ws 4), Value.slice av (readF (gw ws 3) (List.drop 8 ws)).length cv]) rfl rfl rfl rfl r11 (by exact Nat.le_of_ble_eq_true rfl) (ones_of rfl) rfl rfl ?_
  intro W135 r136 b134 z137
  have hlb134 := r11.lt
  replace r136 : RowL W135 _ 29 [Value.int IntKind.i64 ↑(gw ws 0 % 256), Value.int IntKind.i64 ↑(gw ws 1), Value.int IntKind.u64 ↑(gw ws 2), Value.int IntKind.u64 ↑(gw ws 3), Value.int IntKind.i64 ↑(gw ws 4), Value.slice av (readF (gw ws 3) (List.drop 8 ws)).length cv] := r136
  clear r11
  replace hkk := hkk.trans (grown_kept b134 (fun j h => by have := h.1; have := hkk.size; omega) (fun j h e => by cases e; have h2 := h.1; have h3 := h.2; omega))
  replace b8 := b8.grown b134 b8.size (by rintro k ⟨⟩; omega)
  replace q := q.grown b134 q.size (by rintro k ⟨⟩; omega)
  replace r73 := r73.gr b134 (by have := r73.lt; omega)
  have r11 := r136
  clear r136
  refine LL.val (R.assign rfl rfl) rfl rfl rfl ?_
  refine LL.nilS ?_
  refine CC.ret ?_
  refine EE.ret2 rfl ⟨_, rfl, lvNc (RowL.cells0 (by assumption)) (by rfl) (by rfl)⟩ rfl ?_
  exact ⟨⟨_, rfl, OwnsT.lower (ooF _ hkk) (by omega)⟩, q⟩
theorem nOf_no (n : Nat) (v : Value) (ws : List Nat) (w : World) (hv : ReadsT uE 1 w v ws) (hn : ws.length = n) (hb : ∀ x ∈ ws, x < 18446744073709551616) (hp : ¬nodeP ws) : Calls Try.prog 9 #[v] w fun e w' => e = .returned (.tuple #[nodeV 0 0 0 0 0 nilV, .int .i64 210]) ∧ Below w.heap.size w w' := by
  have q := Below.refl w.heap.size w
  have hre : ∀ W, Below w.heap.size w W → Calls Try.prog 28 #[v] W fun e w' => e = .returned (.tuple #[nzV, .int .i64 210]) ∧ Below W.heap.size W w' := fun W b => (nread_any n _ ws W (hv.up b) hn hb).mono fun e w' h => ⟨h.2.1 hp, h.2.2⟩
  clear hv hb
  refine X.fn Try.func9 rfl (n := 14) rfl rfl ?_
  refine CC.seq ?_
  refine CC.region ?_
  refine LL.alloc ([Value.int IntKind.i64 0, Value.int IntKind.i64 0, Value.int IntKind.u64 0, Value.int IntKind.u64 0, Value.int IntKind.i64 0, Value.slice none 0 0]) rfl rfl rfl rfl rfl ?_
  intro W9 g10 eg10 r11 z12 b8
  replace q := q.trans (b8.mono q.size)
  refine LL.val (R.assign rfl rfl) rfl rfl rfl ?_
  refine LL.nilS ?_
  refine CC.seq ?_
  refine CC.region ?_
  refine LL.val (R.move rfl rfl) rfl rfl rfl ?_
  have l33 := r11.lt
  (refine LL.call (R.call rfl rfl rfl) rfl rfl rfl (hre _ q) ?_; rintro e W32 ⟨rfl, b29⟩; refine ⟨_, rfl, ?_⟩)
  have zb29 := b29.size
  replace r11 := r11.up b29
  replace b8 := b8.trans (b29.mono b8.size)
  replace q := q.trans (b29.mono q.size)
  refine LL.val (R.move rfl rfl) rfl rfl rfl ?_
  refine LL.val (R.extract rfl rfl rfl) rfl rfl rfl ?_
  refine LL.val (R.extract rfl rfl rfl) rfl rfl rfl ?_
  have l69 := r11.lt
  refine LL.alloc ([Value.int IntKind.i64 0, Value.int IntKind.i64 0, Value.int IntKind.u64 0, Value.int IntKind.u64 0, Value.int IntKind.i64 0, Value.slice none 0 0, Value.slice none 0 0]) rfl rfl rfl rfl rfl ?_
  intro W71 g72 eg72 r73 z74 b70
  replace b29 := b29.trans (b70.mono b29.size)
  replace r11 := r11.up b70
  replace b8 := b8.trans (b70.mono b8.size)
  replace q := q.trans (b70.mono q.size)
  refine LL.storeN (vs := [Value.int IntKind.i64 0, Value.int IntKind.i64 0, Value.int IntKind.u64 ↑0, Value.int IntKind.u64 ↑0, Value.int IntKind.i64 0, nilV, nilV]) rfl rfl rfl rfl r73 (by exact Nat.le_of_ble_eq_true rfl) (ones_of rfl) rfl rfl ?_
  intro W85 r86 b84 z87
  have hlb84 := r73.lt
  replace r86 : RowL W85 _ 70 [Value.int IntKind.i64 0, Value.int IntKind.i64 0, Value.int IntKind.u64 ↑0, Value.int IntKind.u64 ↑0, Value.int IntKind.i64 0, nilV, nilV] := r86
  clear r73
  replace b70 := b70.grown b84 b70.size (by rintro k ⟨⟩; omega)
  replace b29 := b29.grown b84 b29.size (by rintro k ⟨⟩; omega)
  replace r11 := r11.gr b84 (by have := r11.lt; omega)
  replace b8 := b8.grown b84 b8.size (by rintro k ⟨⟩; omega)
  replace q := q.grown b84 q.size (by rintro k ⟨⟩; omega)
  have r73 := r86
  clear r86
  refine LL.val (R.assign rfl rfl) rfl rfl rfl ?_
  refine LL.nilS ?_
  refine CC.seq ?_
  refine CC.region ?_
  refine LL.val (R.field rfl rfl (I.fld rfl)) rfl rfl rfl ?_
  refine LL.val (R.load rfl rfl (I.ldNc (vs := [Value.int IntKind.i64 0, Value.int IntKind.i64 0, Value.int IntKind.u64 0, Value.int IntKind.u64 0, Value.int IntKind.i64 0, nilV]) (RowL.cells r73 rfl) (by rfl) (by rfl))) rfl rfl rfl ?_
  refine LL.val (R.move rfl rfl) rfl rfl rfl ?_
  refine LL.storeN (vs := [Value.int IntKind.i64 0, Value.int IntKind.i64 0, Value.int IntKind.u64 0, Value.int IntKind.u64 0, Value.int IntKind.i64 0, nilV]) rfl rfl rfl rfl r11 (by exact Nat.le_of_ble_eq_true rfl) (ones_of rfl) rfl rfl ?_
  intro W134 r135 b133 z136
  have hlb133 := r11.lt
  replace r135 : RowL W134 _ 29 [Value.int IntKind.i64 0, Value.int IntKind.i64 0, Value.int IntKind.u64 0, Value.int IntKind.u64 0, Value.int IntKind.i64 0, nilV] := r135
  clear r11
  replace b8 := b8.grown b133 b8.size (by rintro k ⟨⟩; omega)
  replace q := q.grown b133 q.size (by rintro k ⟨⟩; omega)
  replace r73 := r73.gr b133 (by have := r73.lt; omega)
  have r11 := r135
  clear r135
  refine LL.val (R.assign rfl rfl) rfl rfl rfl ?_
  refine LL.nilS ?_
  refine CC.ret ?_
  refine EE.ret2 rfl ⟨_, rfl, lvNc (RowL.cells0 (by assumption)) (by rfl) (by rfl)⟩ rfl ?_
  exact ⟨rfl, q⟩
theorem nCheck_any (n : Nat) (v : Value) (ws : List Nat) (w : World) (hv : ReadsT uE 1 w v ws) (hn : ws.length = n) (hb : ∀ x ∈ ws, x < 18446744073709551616) : Calls Try.prog 13 #[v] w fun e w' => e = .returned (.int .i64 (chkN ws : Int)) ∧ Below w.heap.size w w' := by
  have q := Below.refl w.heap.size w
  have hre : ∀ W, Below w.heap.size w W → Calls Try.prog 30 #[v] W fun e w' => (∃ (l s : Int) (lo le : Nat) (wy : Int) (a1 a2 : Option Addr) (n1 c1 n2 c2 : Nat), e = .returned (.tuple #[viewV l s lo le wy (.slice a1 n1 c1) (.slice a2 n2 c2), .int .i64 (chkN ws : Int)])) ∧ Below W.heap.size W w' := fun W b => (nsettled_any n _ ws W (hv.up b) hn hb).mono fun e w' h => by
    unfold chkN
    by_cases hp : nodeP ws
    · by_cases hs : ndSet ws (gw ws 0) (gw ws 2) (gw ws 3)
      · obtain ⟨vo, e, oo⟩ := h.1 ⟨hp, hs⟩
        obtain ⟨av, cv, rfl, hcv⟩ := (oo.reads prEnc).form rfl
        obtain ⟨a, c, rfl, hc⟩ := hv.form hn
        rw [if_pos hp, if_pos hs]
        exact ⟨⟨_, _, _, _, _, _, _, _, _, _, _, e⟩, h.2.2.2⟩
      · rw [if_pos hp, if_neg hs]
        exact ⟨⟨0, 0, 0, 0, 0, none, none, 0, 0, 0, 0, h.2.2.1 hp (fun h => hs h.2)⟩, h.2.2.2⟩
    · rw [if_neg hp]
      exact ⟨⟨0, 0, 0, 0, 0, none, none, 0, 0, 0, 0, h.2.1 hp⟩, h.2.2.2⟩
  clear hv hb
  refine X.fn Try.func13 rfl (n := 11) rfl rfl ?_
  refine CC.seq ?_
  refine CC.region ?_
  refine LL.val (R.assign rfl rfl) rfl rfl rfl ?_
  refine LL.nilS ?_
  refine CC.seq ?_
  refine CC.region ?_
  refine LL.val (R.move rfl rfl) rfl rfl rfl ?_
  (refine LL.call (R.call rfl rfl rfl) rfl rfl rfl (hre _ q) ?_; rintro e W18 ⟨⟨l, s, lo, le, wy, a1, a2, n1, c1, n2, c2, rfl⟩, b15⟩; refine ⟨_, rfl, ?_⟩)
  have zb15 := b15.size
  replace q := q.trans (b15.mono q.size)
  refine LL.val (R.move rfl rfl) rfl rfl rfl ?_
  refine LL.val (R.extract rfl rfl rfl) rfl rfl rfl ?_
  refine LL.val (R.extract rfl rfl rfl) rfl rfl rfl ?_
  refine LL.alloc ([Value.int IntKind.i64 0, Value.int IntKind.i64 0, Value.int IntKind.u64 0, Value.int IntKind.u64 0, Value.int IntKind.i64 0, Value.slice none 0 0, Value.slice none 0 0]) rfl rfl rfl rfl rfl ?_
  intro W51 g52 eg52 r53 z54 b50
  replace b15 := b15.trans (b50.mono b15.size)
  replace q := q.trans (b50.mono q.size)
  refine LL.storeN (vs := [Value.int IntKind.i64 l, Value.int IntKind.i64 s, Value.int IntKind.u64 ↑lo, Value.int IntKind.u64 ↑le, Value.int IntKind.i64 wy, Value.slice a1 n1 c1, Value.slice a2 n2 c2]) rfl rfl rfl rfl r53 (by exact Nat.le_of_ble_eq_true rfl) (ones_of rfl) rfl rfl ?_
  intro W64 r65 b63 z66
  have hlb63 := r53.lt
  replace r65 : RowL W64 _ 70 [Value.int IntKind.i64 l, Value.int IntKind.i64 s, Value.int IntKind.u64 ↑lo, Value.int IntKind.u64 ↑le, Value.int IntKind.i64 wy, Value.slice a1 n1 c1, Value.slice a2 n2 c2] := r65
  clear r53
  replace b50 := b50.grown b63 b50.size (by rintro k ⟨⟩; omega)
  replace b15 := b15.grown b63 b15.size (by rintro k ⟨⟩; omega)
  replace q := q.grown b63 q.size (by rintro k ⟨⟩; omega)
  have r53 := r65
  clear r65
  refine LL.val (R.assign rfl rfl) rfl rfl rfl ?_
  refine LL.nilS ?_
  refine CC.seq ?_
  refine CC.region ?_
  refine LL.val (R.move rfl rfl) rfl rfl rfl ?_
  refine LL.val (R.assign rfl rfl) rfl rfl rfl ?_
  refine LL.nilS ?_
  refine CC.ret ?_
  refine EE.ret _ rfl rfl ?_
  exact ⟨rfl, q⟩
end Go.Proofs.Ytfplilpefhhpnaa
