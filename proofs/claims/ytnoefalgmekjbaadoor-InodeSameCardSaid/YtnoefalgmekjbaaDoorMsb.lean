/- What the statements' walks use: Ea, Arr, Eb, Ec, Ed, Ee, Wd6, EqA, Ef, Eg, Eh, Ex22, Ex23, Ex24, Ex25, Ex26, Ex29, Ex30, Ex31, Pan, Map, Bs, CellE, Shelf, In1, In2. -/
import Derived.Test.YtnoefalgmekjbaaDoorProg
import Derived.Laws.StructEq
import Derived.ChangeKeysEq
import Derived.WalkKit
import Derived.IntWalk
import Derived.Lib.Hide
import Derived.Deep.QuietTactic
import Derived.BigQuiet
import Derived.RecoverIn
import Derived.Laws.Build
import Derived.Maps.RangeRun
import Derived.Shelf.Small.Strs
import Derived.Shelf.Strings.Search1
import Derived.Test.YtnoefalgmekjbaaDoorMsa
/- extents: which extents may be; which ones stand beside one another. extents: may, Check. extents: Check. -/
namespace Go.Proofs.YtnoefalgmekjbaaDoor
set_option linter.unusedVariables false
set_option linter.unusedSimpArgs false
open Go.RowKit Go.Shelf
theorem info_parts_t {P : Program} {T e : TypeId} {z : Value} {k bytes : Nat} (hu : P.underlying T = some (.slice e)) (h : (P.info? e).map (fun i => (i.zero, i.size, i.bytes)) = some (some z, k, bytes)) (hz : z.cells.size = k) : ElT P T e z k bytes := by
  refine ⟨hu, ?_, hz⟩
  cases hi : P.info? e with
  | none => rw [hi] at h; cases h
  | some i =>
    rw [hi] at h
    simp only [Option.map_some, Option.some.injEq, Prod.mk.injEq] at h
    exact ⟨i, rfl, h.1, h.2.1, h.2.2⟩

def eE (x : Ex) : List Value := [.int .i64 x.1, .int .i64 x.2.1, .int .i64 x.2.2]
abbrev exV (x : Ex) : Value := .agg #[.int .i64 x.1, .int .i64 x.2.1, .int .i64 x.2.2]
theorem eEnc : Enc eE 3 := ⟨fun _ => rfl, fun t u hu => by
  simp only [eE, List.mem_cons, List.not_mem_nil, or_false] at hu
  rcases hu with rfl | rfl | rfl <;> rfl, by decide⟩
def exF (g : Nat → Int) : Ex := (g 0, g 1, g 2)
def f1E (x : Ex) : Prop := x.1 < 0 ∨ x.2.1 < 1 ∨ x.2.2 < 1
def f2E (x : Ex) : Prop := x.2.2 > 128 ∨ x.1 > 128 - x.2.2
def f3E (x : Ex) : Prop := x.2.1 > 2048 - x.2.2
instance (x : Ex) : Decidable (f1E x) := by unfold f1E; infer_instance
instance (x : Ex) : Decidable (f2E x) := by unfold f2E; infer_instance
instance (x : Ex) : Decidable (f3E x) := by unfold f3E; infer_instance
set_option maxRecDepth 100000 in
theorem faults1_any (x : Ex) (w : World) : Calls Tryd.prog 96 #[exV x] w fun e w' => e = .returned (.bool (decide (f1E x))) ∧ Below w.heap.size w w' := by
  have q := Below.refl w.heap.size w
  by_cases h1 : x.1 < 0
  · rw [decide_eq_true (by unfold f1E; omega)]
    refine X.fn Tryd.func96 rfl (n := 16) rfl rfl ?_
    refine CC.seq ?_
    refine CC.region ?_
    refine LL.box [Value.int IntKind.i64 x.1, Value.int IntKind.i64 x.2.1, Value.int IntKind.i64 x.2.2] rfl rfl rfl rfl rfl ?_
    intro W2 g3 eg3 r4 z5 b1
    replace q := q.trans (b1.mono q.size)
    refine LL.val (R.assign rfl rfl) rfl rfl rfl ?_
    refine LL.nilS ?_
    refine CC.seq ?_
    refine CC.region ?_
    refine LL.val (R.field rfl rfl (I.fld rfl)) rfl rfl rfl ?_
    refine LL.val (R.load rfl rfl (I.ld1 rfl (RowL.cell r4 rfl))) rfl rfl rfl ?_
    refine LL.val (R.ltT rfl rfl rfl (by omega)) rfl rfl rfl ?_
    refine LL.val (R.move rfl rfl) rfl rfl rfl ?_
    refine LL.skip rfl rfl ?_
    refine LL.skip rfl rfl ?_
    refine LL.skip rfl rfl ?_
    refine LL.val (R.pick rfl rfl rfl) rfl rfl rfl ?_
    refine LL.val (R.move rfl rfl) rfl rfl rfl ?_
    refine LL.skip rfl rfl ?_
    refine LL.skip rfl rfl ?_
    refine LL.skip rfl rfl ?_
    refine LL.val (R.pick rfl rfl rfl) rfl rfl rfl ?_
    refine LL.val (R.assign rfl rfl) rfl rfl rfl ?_
    refine LL.nilS ?_
    refine CC.ret ?_
    refine EE.ret _ rfl rfl ?_
    exact ⟨rfl, q⟩
  by_cases h2 : x.2.1 < 1
  · rw [decide_eq_true (by unfold f1E; omega)]
    refine X.fn Tryd.func96 rfl (n := 16) rfl rfl ?_
    refine CC.seq ?_
    refine CC.region ?_
    refine LL.box [Value.int IntKind.i64 x.1, Value.int IntKind.i64 x.2.1, Value.int IntKind.i64 x.2.2] rfl rfl rfl rfl rfl ?_
    intro Wa2 ga3 ega3 ra4 za5 ba1
    replace q := q.trans (ba1.mono q.size)
    refine LL.val (R.assign rfl rfl) rfl rfl rfl ?_
    refine LL.nilS ?_
    refine CC.seq ?_
    refine CC.region ?_
    refine LL.val (R.field rfl rfl (I.fld rfl)) rfl rfl rfl ?_
    refine LL.val (R.load rfl rfl (I.ld1 rfl (RowL.cell ra4 rfl))) rfl rfl rfl ?_
    refine LL.val (R.ltF rfl rfl rfl (by omega)) rfl rfl rfl ?_
    refine LL.val (R.move rfl rfl) rfl rfl rfl ?_
    refine LL.val (R.field rfl rfl (I.fld rfl)) rfl rfl rfl ?_
    refine LL.val (R.load rfl rfl (I.ld1 rfl (RowL.cell ra4 rfl))) rfl rfl rfl ?_
    refine LL.val (R.ltT rfl rfl rfl (by omega)) rfl rfl rfl ?_
    refine LL.val (R.pick rfl rfl rfl) rfl rfl rfl ?_
    refine LL.val (R.move rfl rfl) rfl rfl rfl ?_
    refine LL.skip rfl rfl ?_
    refine LL.skip rfl rfl ?_
    refine LL.skip rfl rfl ?_
    refine LL.val (R.pick rfl rfl rfl) rfl rfl rfl ?_
    refine LL.val (R.assign rfl rfl) rfl rfl rfl ?_
    refine LL.nilS ?_
    refine CC.ret ?_
    refine EE.ret _ rfl rfl ?_
    exact ⟨rfl, q⟩
  by_cases h3 : x.2.2 < 1
  · rw [decide_eq_true (by unfold f1E; omega)]
    refine X.fn Tryd.func96 rfl (n := 16) rfl rfl ?_
    refine CC.seq ?_
    refine CC.region ?_
    refine LL.box [Value.int IntKind.i64 x.1, Value.int IntKind.i64 x.2.1, Value.int IntKind.i64 x.2.2] rfl rfl rfl rfl rfl ?_
    intro Wb2 gb3 egb3 rb4 zb5 bb1
    replace q := q.trans (bb1.mono q.size)
    refine LL.val (R.assign rfl rfl) rfl rfl rfl ?_
    refine LL.nilS ?_
    refine CC.seq ?_
    refine CC.region ?_
    refine LL.val (R.field rfl rfl (I.fld rfl)) rfl rfl rfl ?_
    refine LL.val (R.load rfl rfl (I.ld1 rfl (RowL.cell rb4 rfl))) rfl rfl rfl ?_
    refine LL.val (R.ltF rfl rfl rfl (by omega)) rfl rfl rfl ?_
    refine LL.val (R.move rfl rfl) rfl rfl rfl ?_
    refine LL.val (R.field rfl rfl (I.fld rfl)) rfl rfl rfl ?_
    refine LL.val (R.load rfl rfl (I.ld1 rfl (RowL.cell rb4 rfl))) rfl rfl rfl ?_
    refine LL.val (R.ltF rfl rfl rfl (by omega)) rfl rfl rfl ?_
    refine LL.val (R.pick rfl rfl rfl) rfl rfl rfl ?_
    refine LL.val (R.move rfl rfl) rfl rfl rfl ?_
    refine LL.val (R.field rfl rfl (I.fld rfl)) rfl rfl rfl ?_
    refine LL.val (R.load rfl rfl (I.ld1 rfl (RowL.cell rb4 rfl))) rfl rfl rfl ?_
    refine LL.val (R.ltT rfl rfl rfl (by omega)) rfl rfl rfl ?_
    refine LL.val (R.pick rfl rfl rfl) rfl rfl rfl ?_
    refine LL.val (R.assign rfl rfl) rfl rfl rfl ?_
    refine LL.nilS ?_
    refine CC.ret ?_
    refine EE.ret _ rfl rfl ?_
    exact ⟨rfl, q⟩
  · rw [decide_eq_false (by unfold f1E; omega)]
    refine X.fn Tryd.func96 rfl (n := 16) rfl rfl ?_
    refine CC.seq ?_
    refine CC.region ?_
    refine LL.box [Value.int IntKind.i64 x.1, Value.int IntKind.i64 x.2.1, Value.int IntKind.i64 x.2.2] rfl rfl rfl rfl rfl ?_
    intro Wc2 gc3 egc3 rc4 zc5 bc1
    replace q := q.trans (bc1.mono q.size)
    refine LL.val (R.assign rfl rfl) rfl rfl rfl ?_
    refine LL.nilS ?_
    refine CC.seq ?_
    refine CC.region ?_
    refine LL.val (R.field rfl rfl (I.fld rfl)) rfl rfl rfl ?_
    refine LL.val (R.load rfl rfl (I.ld1 rfl (RowL.cell rc4 rfl))) rfl rfl rfl ?_
    refine LL.val (R.ltF rfl rfl rfl (by omega)) rfl rfl rfl ?_
    refine LL.val (R.move rfl rfl) rfl rfl rfl ?_
    refine LL.val (R.field rfl rfl (I.fld rfl)) rfl rfl rfl ?_
    refine LL.val (R.load rfl rfl (I.ld1 rfl (RowL.cell rc4 rfl))) rfl rfl rfl ?_
    refine LL.val (R.ltF rfl rfl rfl (by omega)) rfl rfl rfl ?_
    refine LL.val (R.pick rfl rfl rfl) rfl rfl rfl ?_
    refine LL.val (R.move rfl rfl) rfl rfl rfl ?_
    refine LL.val (R.field rfl rfl (I.fld rfl)) rfl rfl rfl ?_
    refine LL.val (R.load rfl rfl (I.ld1 rfl (RowL.cell rc4 rfl))) rfl rfl rfl ?_
    refine LL.val (R.ltF rfl rfl rfl (by omega)) rfl rfl rfl ?_
    refine LL.val (R.pick rfl rfl rfl) rfl rfl rfl ?_
    refine LL.val (R.assign rfl rfl) rfl rfl rfl ?_
    refine LL.nilS ?_
    refine CC.ret ?_
    refine EE.ret _ rfl rfl ?_
    exact ⟨rfl, q⟩
set_option maxRecDepth 100000 in
theorem faults2_any (x : Ex) (w : World) (hs : 1 ≤ x.2.2) : Calls Tryd.prog 97 #[exV x] w fun e w' => e = .returned (.bool (decide (f2E x))) ∧ Below w.heap.size w w' := by
  have q := Below.refl w.heap.size w
  by_cases h1 : x.2.2 > 128
  · rw [decide_eq_true (by unfold f2E; omega)]
    refine X.fn Tryd.func97 rfl (n := 14) rfl rfl ?_
    refine CC.seq ?_
    refine CC.region ?_
    refine LL.box [Value.int IntKind.i64 x.1, Value.int IntKind.i64 x.2.1, Value.int IntKind.i64 x.2.2] rfl rfl rfl rfl rfl ?_
    intro W2 g3 eg3 r4 z5 b1
    replace q := q.trans (b1.mono q.size)
    refine LL.val (R.assign rfl rfl) rfl rfl rfl ?_
    refine LL.nilS ?_
    refine CC.seq ?_
    refine CC.region ?_
    refine LL.val (R.field rfl rfl (I.fld rfl)) rfl rfl rfl ?_
    refine LL.val (R.load rfl rfl (I.ld1 rfl (RowL.cell r4 rfl))) rfl rfl rfl ?_
    refine LL.val (R.gtT rfl rfl rfl (by omega)) rfl rfl rfl ?_
    refine LL.val (R.move rfl rfl) rfl rfl rfl ?_
    refine LL.skip rfl rfl ?_
    refine LL.skip rfl rfl ?_
    refine LL.skip rfl rfl ?_
    refine LL.skip rfl rfl ?_
    refine LL.skip rfl rfl ?_
    refine LL.skip rfl rfl ?_
    refine LL.val (R.pick rfl rfl rfl) rfl rfl rfl ?_
    refine LL.val (R.assign rfl rfl) rfl rfl rfl ?_
    refine LL.nilS ?_
    refine CC.ret ?_
    refine EE.ret _ rfl rfl ?_
    exact ⟨rfl, q⟩
  by_cases h2 : x.1 > 128 - x.2.2
  · rw [decide_eq_true (by unfold f2E; omega)]
    refine X.fn Tryd.func97 rfl (n := 14) rfl rfl ?_
    refine CC.seq ?_
    refine CC.region ?_
    refine LL.box [Value.int IntKind.i64 x.1, Value.int IntKind.i64 x.2.1, Value.int IntKind.i64 x.2.2] rfl rfl rfl rfl rfl ?_
    intro Wa2 ga3 ega3 ra4 za5 ba1
    replace q := q.trans (ba1.mono q.size)
    refine LL.val (R.assign rfl rfl) rfl rfl rfl ?_
    refine LL.nilS ?_
    refine CC.seq ?_
    refine CC.region ?_
    refine LL.val (R.field rfl rfl (I.fld rfl)) rfl rfl rfl ?_
    refine LL.val (R.load rfl rfl (I.ld1 rfl (RowL.cell ra4 rfl))) rfl rfl rfl ?_
    refine LL.val (R.gtF rfl rfl rfl (by omega)) rfl rfl rfl ?_
    refine LL.val (R.move rfl rfl) rfl rfl rfl ?_
    refine LL.val (R.field rfl rfl (I.fld rfl)) rfl rfl rfl ?_
    refine LL.val (R.load rfl rfl (I.ld1 rfl (RowL.cell ra4 rfl))) rfl rfl rfl ?_
    refine LL.val (R.field rfl rfl (I.fld rfl)) rfl rfl rfl ?_
    refine LL.val (R.load rfl rfl (I.ld1 rfl (RowL.cell ra4 rfl))) rfl rfl rfl ?_
    refine LL.val (R.subI rfl rfl rfl (by omega)) rfl rfl rfl ?_
    refine LL.val (R.gtT rfl rfl rfl (by omega)) rfl rfl rfl ?_
    refine LL.val (R.pick rfl rfl rfl) rfl rfl rfl ?_
    refine LL.val (R.assign rfl rfl) rfl rfl rfl ?_
    refine LL.nilS ?_
    refine CC.ret ?_
    refine EE.ret _ rfl rfl ?_
    exact ⟨rfl, q⟩
  · rw [decide_eq_false (by unfold f2E; omega)]
    refine X.fn Tryd.func97 rfl (n := 14) rfl rfl ?_
    refine CC.seq ?_
    refine CC.region ?_
    refine LL.box [Value.int IntKind.i64 x.1, Value.int IntKind.i64 x.2.1, Value.int IntKind.i64 x.2.2] rfl rfl rfl rfl rfl ?_
    intro Wb2 gb3 egb3 rb4 zb5 bb1
    replace q := q.trans (bb1.mono q.size)
    refine LL.val (R.assign rfl rfl) rfl rfl rfl ?_
    refine LL.nilS ?_
    refine CC.seq ?_
    refine CC.region ?_
    refine LL.val (R.field rfl rfl (I.fld rfl)) rfl rfl rfl ?_
    refine LL.val (R.load rfl rfl (I.ld1 rfl (RowL.cell rb4 rfl))) rfl rfl rfl ?_
    refine LL.val (R.gtF rfl rfl rfl (by omega)) rfl rfl rfl ?_
    refine LL.val (R.move rfl rfl) rfl rfl rfl ?_
    refine LL.val (R.field rfl rfl (I.fld rfl)) rfl rfl rfl ?_
    refine LL.val (R.load rfl rfl (I.ld1 rfl (RowL.cell rb4 rfl))) rfl rfl rfl ?_
    refine LL.val (R.field rfl rfl (I.fld rfl)) rfl rfl rfl ?_
    refine LL.val (R.load rfl rfl (I.ld1 rfl (RowL.cell rb4 rfl))) rfl rfl rfl ?_
    refine LL.val (R.subI rfl rfl rfl (by omega)) rfl rfl rfl ?_
    refine LL.val (R.gtF rfl rfl rfl (by omega)) rfl rfl rfl ?_
    refine LL.val (R.pick rfl rfl rfl) rfl rfl rfl ?_
    refine LL.val (R.assign rfl rfl) rfl rfl rfl ?_
    refine LL.nilS ?_
    refine CC.ret ?_
    refine EE.ret _ rfl rfl ?_
    exact ⟨rfl, q⟩
set_option maxRecDepth 100000 in
theorem faults3_any (x : Ex) (w : World) (hs : 1 ≤ x.2.2) (h : x.2.2 ≤ 128) : Calls Tryd.prog 98 #[exV x] w fun e w' => e = .returned (.bool (decide (f3E x))) ∧ Below w.heap.size w w' := by
  have q := Below.refl w.heap.size w
  by_cases h1 : x.2.1 > 2048 - x.2.2
  · rw [decide_eq_true (by unfold f3E; omega)]
    refine X.fn Tryd.func98 rfl (n := 9) rfl rfl ?_
    refine CC.seq ?_
    refine CC.region ?_
    refine LL.box [Value.int IntKind.i64 x.1, Value.int IntKind.i64 x.2.1, Value.int IntKind.i64 x.2.2] rfl rfl rfl rfl rfl ?_
    intro W2 g3 eg3 r4 z5 b1
    replace q := q.trans (b1.mono q.size)
    refine LL.val (R.assign rfl rfl) rfl rfl rfl ?_
    refine LL.nilS ?_
    refine CC.seq ?_
    refine CC.region ?_
    refine LL.val (R.field rfl rfl (I.fld rfl)) rfl rfl rfl ?_
    refine LL.val (R.load rfl rfl (I.ld1 rfl (RowL.cell r4 rfl))) rfl rfl rfl ?_
    refine LL.val (R.field rfl rfl (I.fld rfl)) rfl rfl rfl ?_
    refine LL.val (R.load rfl rfl (I.ld1 rfl (RowL.cell r4 rfl))) rfl rfl rfl ?_
    refine LL.val (R.subI rfl rfl rfl (by omega)) rfl rfl rfl ?_
    refine LL.val (R.gtT rfl rfl rfl (by omega)) rfl rfl rfl ?_
    refine LL.val (R.assign rfl rfl) rfl rfl rfl ?_
    refine LL.nilS ?_
    refine CC.ret ?_
    refine EE.ret _ rfl rfl ?_
    exact ⟨rfl, q⟩
  · rw [decide_eq_false (by unfold f3E; omega)]
    refine X.fn Tryd.func98 rfl (n := 9) rfl rfl ?_
    refine CC.seq ?_
    refine CC.region ?_
    refine LL.box [Value.int IntKind.i64 x.1, Value.int IntKind.i64 x.2.1, Value.int IntKind.i64 x.2.2] rfl rfl rfl rfl rfl ?_
    intro Wa2 ga3 ega3 ra4 za5 ba1
    replace q := q.trans (ba1.mono q.size)
    refine LL.val (R.assign rfl rfl) rfl rfl rfl ?_
    refine LL.nilS ?_
    refine CC.seq ?_
    refine CC.region ?_
    refine LL.val (R.field rfl rfl (I.fld rfl)) rfl rfl rfl ?_
    refine LL.val (R.load rfl rfl (I.ld1 rfl (RowL.cell ra4 rfl))) rfl rfl rfl ?_
    refine LL.val (R.field rfl rfl (I.fld rfl)) rfl rfl rfl ?_
    refine LL.val (R.load rfl rfl (I.ld1 rfl (RowL.cell ra4 rfl))) rfl rfl rfl ?_
    refine LL.val (R.subI rfl rfl rfl (by omega)) rfl rfl rfl ?_
    refine LL.val (R.gtF rfl rfl rfl (by omega)) rfl rfl rfl ?_
    refine LL.val (R.assign rfl rfl) rfl rfl rfl ?_
    refine LL.nilS ?_
    refine CC.ret ?_
    refine EE.ret _ rfl rfl ?_
    exact ⟨rfl, q⟩
set_option maxRecDepth 100000 in
theorem faults_any (w : World) : Calls Tryd.prog 94 #[] w fun e w' => ∃ g, e = .returned (.slice (some ⟨g, 0, none⟩) 3 3) ∧ RowL w' g 104 [.func (.func 96) #[] #[], .func (.func 97) #[] #[], .func (.func 98) #[] #[]] ∧ w.heap.size ≤ g ∧ Below w.heap.size w w' := by
  have q := Below.refl w.heap.size w
  refine X.fn Tryd.func94 rfl (n := 2) rfl rfl ?_
  refine CC.seq ?_
  refine CC.region ?_
  refine LL.val (R.assign rfl rfl) rfl rfl rfl ?_
  refine LL.nilS ?_
  refine CC.seq ?_
  refine CC.region ?_
  refine LL.lit (e := 104) [Value.func (Fn.func 96) #[] #[], Value.func (Fn.func 97) #[] #[], Value.func (Fn.func 98) #[] #[]] 3 rfl rfl (fun _ => by kernel_rfl) rfl rfl ?_
  intro W2 g3 eg3 r4 z5 b1
  replace q := q.trans (b1.mono q.size)
  refine LL.val (R.assign rfl rfl) rfl rfl rfl ?_
  refine LL.nilS ?_
  refine CC.ret ?_
  refine EE.ret _ rfl rfl ?_
  exact ⟨_, rfl, by assumption, by omega, q⟩
set_option maxRecDepth 100000 in
theorem apart_any (x y : Ex) (w : World) (hx : mayE x) (hy : mayE y) : Calls Tryd.prog 88 #[exV x, exV y] w fun e w' => e = .returned (.bool (decide (apartE x y))) ∧ Below w.heap.size w w' := by
  have q := Below.refl w.heap.size w
  unfold mayE at hx hy
  by_cases h1 : x.2.1 + x.2.2 ≤ y.2.1
  · rw [decide_eq_true (by unfold apartE; omega)]
    refine X.fn Tryd.func88 rfl (n := 23) rfl rfl ?_
    refine CC.seq ?_
    refine CC.region ?_
    refine LL.box [Value.int IntKind.i64 x.1, Value.int IntKind.i64 x.2.1, Value.int IntKind.i64 x.2.2] rfl rfl rfl rfl rfl ?_
    intro W2 g3 eg3 r4 z5 b1
    replace q := q.trans (b1.mono q.size)
    have l6 := r4.lt
    refine LL.box [Value.int IntKind.i64 y.1, Value.int IntKind.i64 y.2.1, Value.int IntKind.i64 y.2.2] rfl rfl rfl rfl rfl ?_
    intro W8 g9 eg9 r10 z11 b7
    replace r4 := r4.up b7
    replace b1 := b1.trans (b7.mono b1.size)
    replace q := q.trans (b7.mono q.size)
    refine LL.val (R.assign rfl rfl) rfl rfl rfl ?_
    refine LL.nilS ?_
    refine CC.seq ?_
    refine CC.region ?_
    refine LL.val (R.field rfl rfl (I.fld rfl)) rfl rfl rfl ?_
    refine LL.val (R.load rfl rfl (I.ld1 rfl (RowL.cell r4 rfl))) rfl rfl rfl ?_
    refine LL.val (R.field rfl rfl (I.fld rfl)) rfl rfl rfl ?_
    refine LL.val (R.load rfl rfl (I.ld1 rfl (RowL.cell r4 rfl))) rfl rfl rfl ?_
    refine LL.val (R.addI rfl rfl rfl (by omega)) rfl rfl rfl ?_
    refine LL.val (R.field rfl rfl (I.fld rfl)) rfl rfl rfl ?_
    refine LL.val (R.load rfl rfl (I.ld1 rfl (RowL.cell r10 rfl))) rfl rfl rfl ?_
    refine LL.val (R.leT rfl rfl rfl (by omega)) rfl rfl rfl ?_
    refine LL.val (R.move rfl rfl) rfl rfl rfl ?_
    refine LL.skip rfl rfl ?_
    refine LL.skip rfl rfl ?_
    refine LL.skip rfl rfl ?_
    refine LL.skip rfl rfl ?_
    refine LL.skip rfl rfl ?_
    refine LL.skip rfl rfl ?_
    refine LL.skip rfl rfl ?_
    refine LL.skip rfl rfl ?_
    refine LL.val (R.pick rfl rfl rfl) rfl rfl rfl ?_
    refine LL.val (R.assign rfl rfl) rfl rfl rfl ?_
    refine LL.nilS ?_
    refine CC.ret ?_
    refine EE.ret _ rfl rfl ?_
    exact ⟨rfl, q⟩
  by_cases h2 : y.2.1 + y.2.2 ≤ x.2.1
  · rw [decide_eq_true (by unfold apartE; omega)]
    refine X.fn Tryd.func88 rfl (n := 23) rfl rfl ?_
    refine CC.seq ?_
    refine CC.region ?_
    refine LL.box [Value.int IntKind.i64 x.1, Value.int IntKind.i64 x.2.1, Value.int IntKind.i64 x.2.2] rfl rfl rfl rfl rfl ?_
    intro Wa2 ga3 ega3 ra4 za5 ba1
    replace q := q.trans (ba1.mono q.size)
    have la6 := ra4.lt
    refine LL.box [Value.int IntKind.i64 y.1, Value.int IntKind.i64 y.2.1, Value.int IntKind.i64 y.2.2] rfl rfl rfl rfl rfl ?_
    intro Wa8 ga9 ega9 ra10 za11 ba7
    replace ra4 := ra4.up ba7
    replace ba1 := ba1.trans (ba7.mono ba1.size)
    replace q := q.trans (ba7.mono q.size)
    refine LL.val (R.assign rfl rfl) rfl rfl rfl ?_
    refine LL.nilS ?_
    refine CC.seq ?_
    refine CC.region ?_
    refine LL.val (R.field rfl rfl (I.fld rfl)) rfl rfl rfl ?_
    refine LL.val (R.load rfl rfl (I.ld1 rfl (RowL.cell ra4 rfl))) rfl rfl rfl ?_
    refine LL.val (R.field rfl rfl (I.fld rfl)) rfl rfl rfl ?_
    refine LL.val (R.load rfl rfl (I.ld1 rfl (RowL.cell ra4 rfl))) rfl rfl rfl ?_
    refine LL.val (R.addI rfl rfl rfl (by omega)) rfl rfl rfl ?_
    refine LL.val (R.field rfl rfl (I.fld rfl)) rfl rfl rfl ?_
    refine LL.val (R.load rfl rfl (I.ld1 rfl (RowL.cell ra10 rfl))) rfl rfl rfl ?_
    refine LL.val (R.leF rfl rfl rfl (by omega)) rfl rfl rfl ?_
    refine LL.val (R.move rfl rfl) rfl rfl rfl ?_
    refine LL.val (R.field rfl rfl (I.fld rfl)) rfl rfl rfl ?_
    refine LL.val (R.load rfl rfl (I.ld1 rfl (RowL.cell ra10 rfl))) rfl rfl rfl ?_
    refine LL.val (R.field rfl rfl (I.fld rfl)) rfl rfl rfl ?_
    refine LL.val (R.load rfl rfl (I.ld1 rfl (RowL.cell ra10 rfl))) rfl rfl rfl ?_
    refine LL.val (R.addI rfl rfl rfl (by omega)) rfl rfl rfl ?_
    refine LL.val (R.field rfl rfl (I.fld rfl)) rfl rfl rfl ?_
    refine LL.val (R.load rfl rfl (I.ld1 rfl (RowL.cell ra4 rfl))) rfl rfl rfl ?_
    refine LL.val (R.leT rfl rfl rfl (by omega)) rfl rfl rfl ?_
    refine LL.val (R.pick rfl rfl rfl) rfl rfl rfl ?_
    refine LL.val (R.assign rfl rfl) rfl rfl rfl ?_
    refine LL.nilS ?_
    refine CC.ret ?_
    refine EE.ret _ rfl rfl ?_
    exact ⟨rfl, q⟩
  · rw [decide_eq_false (by unfold apartE; omega)]
    refine X.fn Tryd.func88 rfl (n := 23) rfl rfl ?_
    refine CC.seq ?_
    refine CC.region ?_
    refine LL.box [Value.int IntKind.i64 x.1, Value.int IntKind.i64 x.2.1, Value.int IntKind.i64 x.2.2] rfl rfl rfl rfl rfl ?_
    intro Wb2 gb3 egb3 rb4 zb5 bb1
    replace q := q.trans (bb1.mono q.size)
    have lb6 := rb4.lt
    refine LL.box [Value.int IntKind.i64 y.1, Value.int IntKind.i64 y.2.1, Value.int IntKind.i64 y.2.2] rfl rfl rfl rfl rfl ?_
    intro Wb8 gb9 egb9 rb10 zb11 bb7
    replace rb4 := rb4.up bb7
    replace bb1 := bb1.trans (bb7.mono bb1.size)
    replace q := q.trans (bb7.mono q.size)
    refine LL.val (R.assign rfl rfl) rfl rfl rfl ?_
    refine LL.nilS ?_
    refine CC.seq ?_
    refine CC.region ?_
    refine LL.val (R.field rfl rfl (I.fld rfl)) rfl rfl rfl ?_
    refine LL.val (R.load rfl rfl (I.ld1 rfl (RowL.cell rb4 rfl))) rfl rfl rfl ?_
    refine LL.val (R.field rfl rfl (I.fld rfl)) rfl rfl rfl ?_
    refine LL.val (R.load rfl rfl (I.ld1 rfl (RowL.cell rb4 rfl))) rfl rfl rfl ?_
    refine LL.val (R.addI rfl rfl rfl (by omega)) rfl rfl rfl ?_
    refine LL.val (R.field rfl rfl (I.fld rfl)) rfl rfl rfl ?_
    refine LL.val (R.load rfl rfl (I.ld1 rfl (RowL.cell rb10 rfl))) rfl rfl rfl ?_
    refine LL.val (R.leF rfl rfl rfl (by omega)) rfl rfl rfl ?_
    refine LL.val (R.move rfl rfl) rfl rfl rfl ?_
    refine LL.val (R.field rfl rfl (I.fld rfl)) rfl rfl rfl ?_
    refine LL.val (R.load rfl rfl (I.ld1 rfl (RowL.cell rb10 rfl))) rfl rfl rfl ?_
    refine LL.val (R.field rfl rfl (I.fld rfl)) rfl rfl rfl ?_
    refine LL.val (R.load rfl rfl (I.ld1 rfl (RowL.cell rb10 rfl))) rfl rfl rfl ?_
    refine LL.val (R.addI rfl rfl rfl (by omega)) rfl rfl rfl ?_
    refine LL.val (R.field rfl rfl (I.fld rfl)) rfl rfl rfl ?_
    refine LL.val (R.load rfl rfl (I.ld1 rfl (RowL.cell rb4 rfl))) rfl rfl rfl ?_
    refine LL.val (R.leF rfl rfl rfl (by omega)) rfl rfl rfl ?_
    refine LL.val (R.pick rfl rfl rfl) rfl rfl rfl ?_
    refine LL.val (R.assign rfl rfl) rfl rfl rfl ?_
    refine LL.nilS ?_
    refine CC.ret ?_
    refine EE.ret _ rfl rfl ?_
    exact ⟨rfl, q⟩
set_option maxRecDepth 100000 in
theorem follow_any (x y : Ex) (w : World) (hx : mayE x) (hy : mayE y) : Calls Tryd.prog 89 #[exV x, exV y] w fun e w' => e = .returned (.bool (decide (followE x y))) ∧ Below w.heap.size w w' := by
  have q := Below.refl w.heap.size w
  unfold mayE at hx hy
  by_cases h1 : x.1 + x.2.2 ≤ y.1
  case neg =>
    rw [decide_eq_false (by unfold followE; omega)]
    refine X.fn Tryd.func89 rfl (n := 29) rfl rfl ?_
    refine CC.seq ?_
    refine CC.region ?_
    refine LL.box [Value.int IntKind.i64 x.1, Value.int IntKind.i64 x.2.1, Value.int IntKind.i64 x.2.2] rfl rfl rfl rfl rfl ?_
    intro W2 g3 eg3 r4 z5 b1
    replace q := q.trans (b1.mono q.size)
    have l6 := r4.lt
    refine LL.box [Value.int IntKind.i64 y.1, Value.int IntKind.i64 y.2.1, Value.int IntKind.i64 y.2.2] rfl rfl rfl rfl rfl ?_
    intro W8 g9 eg9 r10 z11 b7
    replace r4 := r4.up b7
    replace b1 := b1.trans (b7.mono b1.size)
    replace q := q.trans (b7.mono q.size)
    refine LL.val (R.assign rfl rfl) rfl rfl rfl ?_
    refine LL.nilS ?_
    refine CC.seq ?_
    refine CC.region ?_
    refine LL.val (R.field rfl rfl (I.fld rfl)) rfl rfl rfl ?_
    refine LL.val (R.load rfl rfl (I.ld1 rfl (RowL.cell r4 rfl))) rfl rfl rfl ?_
    refine LL.val (R.field rfl rfl (I.fld rfl)) rfl rfl rfl ?_
    refine LL.val (R.load rfl rfl (I.ld1 rfl (RowL.cell r4 rfl))) rfl rfl rfl ?_
    refine LL.val (R.addI rfl rfl rfl (by omega)) rfl rfl rfl ?_
    refine LL.val (R.field rfl rfl (I.fld rfl)) rfl rfl rfl ?_
    refine LL.val (R.load rfl rfl (I.ld1 rfl (RowL.cell r4 rfl))) rfl rfl rfl ?_
    refine LL.val (R.field rfl rfl (I.fld rfl)) rfl rfl rfl ?_
    refine LL.val (R.load rfl rfl (I.ld1 rfl (RowL.cell r4 rfl))) rfl rfl rfl ?_
    refine LL.val (R.addI rfl rfl rfl (by omega)) rfl rfl rfl ?_
    refine LL.val (R.field rfl rfl (I.fld rfl)) rfl rfl rfl ?_
    refine LL.val (R.load rfl rfl (I.ld1 rfl (RowL.cell r10 rfl))) rfl rfl rfl ?_
    refine LL.val (R.buildV rfl rfl (v := .agg #[Value.int IntKind.i64 (x.1 + x.2.2), Value.int IntKind.i64 (x.2.1 + x.2.2), Value.int IntKind.i64 y.2.2]) (fun _ => by kernel_rfl)) rfl rfl rfl ?_
    have l12 := r10.lt
    have l13 := r4.lt
    refine LL.alloc ([Value.int IntKind.i64 0, Value.int IntKind.i64 0, Value.int IntKind.i64 0]) rfl rfl rfl rfl rfl ?_
    intro W15 g16 eg16 r17 z18 b14
    replace r10 := r10.up b14
    replace b7 := b7.trans (b14.mono b7.size)
    replace r4 := r4.up b14
    replace b1 := b1.trans (b14.mono b1.size)
    replace q := q.trans (b14.mono q.size)
    refine LL.storeN (vs := [Value.int IntKind.i64 (x.1 + x.2.2), Value.int IntKind.i64 (x.2.1 + x.2.2), Value.int IntKind.i64 y.2.2]) rfl rfl rfl rfl r17 (by exact Nat.le_of_ble_eq_true rfl) (ones_of rfl) rfl rfl ?_
    intro W20 r21 b19 z22
    have hlb19 := r17.lt
    replace r21 : RowL W20 _ 98 [Value.int IntKind.i64 (x.1 + x.2.2), Value.int IntKind.i64 (x.2.1 + x.2.2), Value.int IntKind.i64 y.2.2] := r21
    clear r17
    replace b14 := b14.grown b19 b14.size (by rintro k ⟨⟩; omega)
    replace r10 := r10.gr b19 (by have := r10.lt; omega)
    replace b7 := b7.grown b19 b7.size (by rintro k ⟨⟩; omega)
    replace r4 := r4.gr b19 (by have := r4.lt; omega)
    replace b1 := b1.grown b19 b1.size (by rintro k ⟨⟩; omega)
    replace q := q.grown b19 q.size (by rintro k ⟨⟩; omega)
    have r17 := r21
    clear r21
    refine LL.nilS ?_
    refine CC.seq ?_
    refine CC.region ?_
    refine LL.val (R.field rfl rfl (I.fld rfl)) rfl rfl rfl ?_
    refine LL.val (R.load rfl rfl (I.ld1 rfl (RowL.cell r10 rfl))) rfl rfl rfl ?_
    refine LL.val (R.field rfl rfl (I.fld rfl)) rfl rfl rfl ?_
    refine LL.val (R.load rfl rfl (I.ld1 rfl (RowL.cell r17 rfl))) rfl rfl rfl ?_
    refine LL.val (R.geF rfl rfl rfl (by omega)) rfl rfl rfl ?_
    refine LL.val (R.move rfl rfl) rfl rfl rfl ?_
    refine LL.skip rfl rfl ?_
    refine LL.skip rfl rfl ?_
    refine LL.skip rfl rfl ?_
    refine LL.val (R.pick rfl rfl rfl) rfl rfl rfl ?_
    refine LL.val (R.assign rfl rfl) rfl rfl rfl ?_
    refine LL.nilS ?_
    refine CC.ret ?_
    refine EE.ret _ rfl rfl ?_
    exact ⟨rfl, q⟩
  by_cases h2 : y.1 = x.1 + x.2.2 ∧ y.2.1 = x.2.1 + x.2.2
  · rw [decide_eq_false (by unfold followE; omega)]
    refine X.fn Tryd.func89 rfl (n := 29) rfl rfl ?_
    refine CC.seq ?_
    refine CC.region ?_
    refine LL.box [Value.int IntKind.i64 x.1, Value.int IntKind.i64 x.2.1, Value.int IntKind.i64 x.2.2] rfl rfl rfl rfl rfl ?_
    intro Wa2 ga3 ega3 ra4 za5 ba1
    replace q := q.trans (ba1.mono q.size)
    have la6 := ra4.lt
    refine LL.box [Value.int IntKind.i64 y.1, Value.int IntKind.i64 y.2.1, Value.int IntKind.i64 y.2.2] rfl rfl rfl rfl rfl ?_
    intro Wa8 ga9 ega9 ra10 za11 ba7
    replace ra4 := ra4.up ba7
    replace ba1 := ba1.trans (ba7.mono ba1.size)
    replace q := q.trans (ba7.mono q.size)
    refine LL.val (R.assign rfl rfl) rfl rfl rfl ?_
    refine LL.nilS ?_
    refine CC.seq ?_
    refine CC.region ?_
    refine LL.val (R.field rfl rfl (I.fld rfl)) rfl rfl rfl ?_
    refine LL.val (R.load rfl rfl (I.ld1 rfl (RowL.cell ra4 rfl))) rfl rfl rfl ?_
    refine LL.val (R.field rfl rfl (I.fld rfl)) rfl rfl rfl ?_
    refine LL.val (R.load rfl rfl (I.ld1 rfl (RowL.cell ra4 rfl))) rfl rfl rfl ?_
    refine LL.val (R.addI rfl rfl rfl (by omega)) rfl rfl rfl ?_
    refine LL.val (R.field rfl rfl (I.fld rfl)) rfl rfl rfl ?_
    refine LL.val (R.load rfl rfl (I.ld1 rfl (RowL.cell ra4 rfl))) rfl rfl rfl ?_
    refine LL.val (R.field rfl rfl (I.fld rfl)) rfl rfl rfl ?_
    refine LL.val (R.load rfl rfl (I.ld1 rfl (RowL.cell ra4 rfl))) rfl rfl rfl ?_
    refine LL.val (R.addI rfl rfl rfl (by omega)) rfl rfl rfl ?_
    refine LL.val (R.field rfl rfl (I.fld rfl)) rfl rfl rfl ?_
    refine LL.val (R.load rfl rfl (I.ld1 rfl (RowL.cell ra10 rfl))) rfl rfl rfl ?_
    refine LL.val (R.buildV rfl rfl (v := .agg #[Value.int IntKind.i64 (x.1 + x.2.2), Value.int IntKind.i64 (x.2.1 + x.2.2), Value.int IntKind.i64 y.2.2]) (fun _ => by kernel_rfl)) rfl rfl rfl ?_
    have la12 := ra10.lt
    have la13 := ra4.lt
    refine LL.alloc ([Value.int IntKind.i64 0, Value.int IntKind.i64 0, Value.int IntKind.i64 0]) rfl rfl rfl rfl rfl ?_
    intro Wa15 ga16 ega16 ra17 za18 ba14
    replace ra10 := ra10.up ba14
    replace ba7 := ba7.trans (ba14.mono ba7.size)
    replace ra4 := ra4.up ba14
    replace ba1 := ba1.trans (ba14.mono ba1.size)
    replace q := q.trans (ba14.mono q.size)
    refine LL.storeN (vs := [Value.int IntKind.i64 (x.1 + x.2.2), Value.int IntKind.i64 (x.2.1 + x.2.2), Value.int IntKind.i64 y.2.2]) rfl rfl rfl rfl ra17 (by exact Nat.le_of_ble_eq_true rfl) (ones_of rfl) rfl rfl ?_
    intro Wa20 ra21 ba19 za22
    have hlba19 := ra17.lt
    replace ra21 : RowL Wa20 _ 98 [Value.int IntKind.i64 (x.1 + x.2.2), Value.int IntKind.i64 (x.2.1 + x.2.2), Value.int IntKind.i64 y.2.2] := ra21
    clear ra17
    replace ba14 := ba14.grown ba19 ba14.size (by rintro k ⟨⟩; omega)
    replace ra10 := ra10.gr ba19 (by have := ra10.lt; omega)
    replace ba7 := ba7.grown ba19 ba7.size (by rintro k ⟨⟩; omega)
    replace ra4 := ra4.gr ba19 (by have := ra4.lt; omega)
    replace ba1 := ba1.grown ba19 ba1.size (by rintro k ⟨⟩; omega)
    replace q := q.grown ba19 q.size (by rintro k ⟨⟩; omega)
    have ra17 := ra21
    clear ra21
    refine LL.nilS ?_
    refine CC.seq ?_
    refine CC.region ?_
    refine LL.val (R.field rfl rfl (I.fld rfl)) rfl rfl rfl ?_
    refine LL.val (R.load rfl rfl (I.ld1 rfl (RowL.cell ra10 rfl))) rfl rfl rfl ?_
    refine LL.val (R.field rfl rfl (I.fld rfl)) rfl rfl rfl ?_
    refine LL.val (R.load rfl rfl (I.ld1 rfl (RowL.cell ra17 rfl))) rfl rfl rfl ?_
    refine LL.val (R.geT rfl rfl rfl (by omega)) rfl rfl rfl ?_
    refine LL.val (R.move rfl rfl) rfl rfl rfl ?_
    refine LL.val (R.load rfl rfl (I.ldNc (vs := [Value.int IntKind.i64 y.1, Value.int IntKind.i64 y.2.1, Value.int IntKind.i64 y.2.2]) (RowL.cells ra10 rfl) (by rfl) (by rfl))) rfl rfl rfl ?_
    refine LL.val (R.load rfl rfl (I.ldNc (vs := [Value.int IntKind.i64 (x.1 + x.2.2), Value.int IntKind.i64 (x.2.1 + x.2.2), Value.int IntKind.i64 y.2.2]) (RowL.cells ra17 rfl) (by rfl) (by rfl))) rfl rfl rfl ?_
    refine LL.val (R.neST (p := (y.1 : Int) = x.1 + x.2.2 ∧ (y.2.1 : Int) = x.2.1 + x.2.2 ∧ (y.2.2 : Int) = y.2.2) (bs := [decide ((y.1 : Int) = x.1 + x.2.2), decide ((y.2.1 : Int) = x.2.1 + x.2.2), decide ((y.2.2 : Int) = y.2.2)]) rfl rfl rfl rfl (by kernel_rfl) (by kernel_rfl) (by simp) (by first | assumption | omega | exact ⟨rfl, rfl⟩ | exact fun h => h ⟨rfl, rfl⟩)) rfl rfl rfl ?_
    refine LL.val (R.pick rfl rfl rfl) rfl rfl rfl ?_
    refine LL.val (R.assign rfl rfl) rfl rfl rfl ?_
    refine LL.nilS ?_
    refine CC.ret ?_
    refine EE.ret _ rfl rfl ?_
    exact ⟨rfl, q⟩
  · rw [decide_eq_true (by unfold followE; omega)]
    refine X.fn Tryd.func89 rfl (n := 29) rfl rfl ?_
    refine CC.seq ?_
    refine CC.region ?_
    refine LL.box [Value.int IntKind.i64 x.1, Value.int IntKind.i64 x.2.1, Value.int IntKind.i64 x.2.2] rfl rfl rfl rfl rfl ?_
    intro Wb2 gb3 egb3 rb4 zb5 bb1
    replace q := q.trans (bb1.mono q.size)
    have lb6 := rb4.lt
    refine LL.box [Value.int IntKind.i64 y.1, Value.int IntKind.i64 y.2.1, Value.int IntKind.i64 y.2.2] rfl rfl rfl rfl rfl ?_
    intro Wb8 gb9 egb9 rb10 zb11 bb7
    replace rb4 := rb4.up bb7
    replace bb1 := bb1.trans (bb7.mono bb1.size)
    replace q := q.trans (bb7.mono q.size)
    refine LL.val (R.assign rfl rfl) rfl rfl rfl ?_
    refine LL.nilS ?_
    refine CC.seq ?_
    refine CC.region ?_
    refine LL.val (R.field rfl rfl (I.fld rfl)) rfl rfl rfl ?_
    refine LL.val (R.load rfl rfl (I.ld1 rfl (RowL.cell rb4 rfl))) rfl rfl rfl ?_
    refine LL.val (R.field rfl rfl (I.fld rfl)) rfl rfl rfl ?_
    refine LL.val (R.load rfl rfl (I.ld1 rfl (RowL.cell rb4 rfl))) rfl rfl rfl ?_
    refine LL.val (R.addI rfl rfl rfl (by omega)) rfl rfl rfl ?_
    refine LL.val (R.field rfl rfl (I.fld rfl)) rfl rfl rfl ?_
    refine LL.val (R.load rfl rfl (I.ld1 rfl (RowL.cell rb4 rfl))) rfl rfl rfl ?_
    refine LL.val (R.field rfl rfl (I.fld rfl)) rfl rfl rfl ?_
    refine LL.val (R.load rfl rfl (I.ld1 rfl (RowL.cell rb4 rfl))) rfl rfl rfl ?_
    refine LL.val (R.addI rfl rfl rfl (by omega)) rfl rfl rfl ?_
    refine LL.val (R.field rfl rfl (I.fld rfl)) rfl rfl rfl ?_
    refine LL.val (R.load rfl rfl (I.ld1 rfl (RowL.cell rb10 rfl))) rfl rfl rfl ?_
    refine LL.val (R.buildV rfl rfl (v := .agg #[Value.int IntKind.i64 (x.1 + x.2.2), Value.int IntKind.i64 (x.2.1 + x.2.2), Value.int IntKind.i64 y.2.2]) (fun _ => by kernel_rfl)) rfl rfl rfl ?_
    have lb12 := rb10.lt
    have lb13 := rb4.lt
    refine LL.alloc ([Value.int IntKind.i64 0, Value.int IntKind.i64 0, Value.int IntKind.i64 0]) rfl rfl rfl rfl rfl ?_
    intro Wb15 gb16 egb16 rb17 zb18 bb14
    replace rb10 := rb10.up bb14
    replace bb7 := bb7.trans (bb14.mono bb7.size)
    replace rb4 := rb4.up bb14
    replace bb1 := bb1.trans (bb14.mono bb1.size)
    replace q := q.trans (bb14.mono q.size)
    refine LL.storeN (vs := [Value.int IntKind.i64 (x.1 + x.2.2), Value.int IntKind.i64 (x.2.1 + x.2.2), Value.int IntKind.i64 y.2.2]) rfl rfl rfl rfl rb17 (by exact Nat.le_of_ble_eq_true rfl) (ones_of rfl) rfl rfl ?_
    intro Wb20 rb21 bb19 zb22
    have hlbb19 := rb17.lt
    replace rb21 : RowL Wb20 _ 98 [Value.int IntKind.i64 (x.1 + x.2.2), Value.int IntKind.i64 (x.2.1 + x.2.2), Value.int IntKind.i64 y.2.2] := rb21
    clear rb17
    replace bb14 := bb14.grown bb19 bb14.size (by rintro k ⟨⟩; omega)
    replace rb10 := rb10.gr bb19 (by have := rb10.lt; omega)
    replace bb7 := bb7.grown bb19 bb7.size (by rintro k ⟨⟩; omega)
    replace rb4 := rb4.gr bb19 (by have := rb4.lt; omega)
    replace bb1 := bb1.grown bb19 bb1.size (by rintro k ⟨⟩; omega)
    replace q := q.grown bb19 q.size (by rintro k ⟨⟩; omega)
    have rb17 := rb21
    clear rb21
    refine LL.nilS ?_
    refine CC.seq ?_
    refine CC.region ?_
    refine LL.val (R.field rfl rfl (I.fld rfl)) rfl rfl rfl ?_
    refine LL.val (R.load rfl rfl (I.ld1 rfl (RowL.cell rb10 rfl))) rfl rfl rfl ?_
    refine LL.val (R.field rfl rfl (I.fld rfl)) rfl rfl rfl ?_
    refine LL.val (R.load rfl rfl (I.ld1 rfl (RowL.cell rb17 rfl))) rfl rfl rfl ?_
    refine LL.val (R.geT rfl rfl rfl (by omega)) rfl rfl rfl ?_
    refine LL.val (R.move rfl rfl) rfl rfl rfl ?_
    refine LL.val (R.load rfl rfl (I.ldNc (vs := [Value.int IntKind.i64 y.1, Value.int IntKind.i64 y.2.1, Value.int IntKind.i64 y.2.2]) (RowL.cells rb10 rfl) (by rfl) (by rfl))) rfl rfl rfl ?_
    refine LL.val (R.load rfl rfl (I.ldNc (vs := [Value.int IntKind.i64 (x.1 + x.2.2), Value.int IntKind.i64 (x.2.1 + x.2.2), Value.int IntKind.i64 y.2.2]) (RowL.cells rb17 rfl) (by rfl) (by rfl))) rfl rfl rfl ?_
    refine LL.val (R.neSF (p := (y.1 : Int) = x.1 + x.2.2 ∧ (y.2.1 : Int) = x.2.1 + x.2.2 ∧ (y.2.2 : Int) = y.2.2) (bs := [decide ((y.1 : Int) = x.1 + x.2.2), decide ((y.2.1 : Int) = x.2.1 + x.2.2), decide ((y.2.2 : Int) = y.2.2)]) rfl rfl rfl rfl (by kernel_rfl) (by kernel_rfl) (by simp) (by first | assumption | omega | exact ⟨rfl, rfl⟩ | exact fun h => h ⟨rfl, rfl⟩)) rfl rfl rfl ?_
    refine LL.val (R.pick rfl rfl rfl) rfl rfl rfl ?_
    refine LL.val (R.assign rfl rfl) rfl rfl rfl ?_
    refine LL.nilS ?_
    refine CC.ret ?_
    refine EE.ret _ rfl rfl ?_
    exact ⟨rfl, q⟩
--C extents_faults_1 | faults1_any _ @w | DB
--C extents_faults_2 | faults2_any _ @w (by assumption) | DB
--C extents_faults_3 | faults3_any _ @w (by assumption) (by assumption) | DB
set_option maxRecDepth 100000 in
set_option maxHeartbeats 4000000 in
theorem may_any (x : Ex) (w : World) : Calls Tryd.prog 87 #[exV x] w fun e w' => e = .returned (.bool (decide (mayE x))) ∧ Below w.heap.size w w' := by
  have q := Below.refl w.heap.size w
  by_cases h1 : f1E x
  · rw [decide_eq_false (by unfold mayE; unfold f1E at h1; omega)]
    refine X.fn Tryd.func87 rfl (n := 15) rfl rfl ?_
    refine CC.seq ?_
    refine CC.region ?_
    refine LL.box [Value.int IntKind.i64 x.1, Value.int IntKind.i64 x.2.1, Value.int IntKind.i64 x.2.2] rfl rfl rfl rfl rfl ?_
    intro W2 g3 eg3 r4 z5 b1
    replace q := q.trans (b1.mono q.size)
    refine LL.val (R.assign rfl rfl) rfl rfl rfl ?_
    refine LL.nilS ?_
    refine CC.seq ?_
    refine CC.seq ?_
    refine CC.region ?_
    refine LL.call (R.call rfl rfl rfl) rfl rfl rfl (faults_any _) ?_
    rintro e W7 ⟨g8, rfl, r9, l10, b6⟩
    refine ⟨_, rfl, ?_⟩
    have zb6 := b6.size
    replace r4 := r4.up b6
    replace b1 := b1.trans (b6.mono b1.size)
    replace q := q.trans (b6.mono q.size)
    refine LL.val (R.len rfl rfl rfl rfl) rfl rfl rfl ?_
    refine LL.val (R.move rfl rfl) rfl rfl rfl ?_
    refine LL.nilS ?_
    refine CC.block ?_
    refine CC.loopN 6 ?_
    refine RN.step ?_
    refine CC.seq ?_
    refine CC.region ?_
    refine LL.val (R.ltT rfl rfl rfl (by omega)) rfl rfl rfl ?_
    refine LL.nilS ?_
    refine CC.seq ?_
    refine CC.yes rfl ?_
    refine CC.skip ?_
    refine EE.thenN ?_
    refine CC.seq ?_
    refine CC.block ?_
    refine CC.seq ?_
    refine CC.region ?_
    refine LL.val (R.index rfl rfl rfl (I.ixS1c rfl rfl (by omega))) rfl rfl rfl ?_
    refine LL.val (R.load rfl rfl (I.ld1 rfl (RowL.cell r9 rfl))) rfl rfl rfl ?_
    refine LL.val (R.assign rfl rfl) rfl rfl rfl ?_
    refine LL.nilS ?_
    refine CC.seq ?_
    refine CC.region ?_
    refine LL.val (R.move rfl rfl) rfl rfl rfl ?_
    refine LL.val (R.load rfl rfl (I.ldNc (vs := [Value.int IntKind.i64 x.1, Value.int IntKind.i64 x.2.1, Value.int IntKind.i64 x.2.2]) (RowL.cells r4 rfl) (by rfl) (by rfl))) rfl rfl rfl ?_
    refine LL.callBT (R.callV rfl rfl rfl rfl) rfl rfl rfl (faults1_any _ _) (by first | assumption | omega) (fun W13 b12 => ?_)
    have zb12 := b12.size
    replace r9 := r9.up b12
    replace b6 := b6.trans (b12.mono b6.size)
    replace r4 := r4.up b12
    replace b1 := b1.trans (b12.mono b1.size)
    replace q := q.trans (b12.mono q.size)
    refine LL.nilS ?_
    refine CC.yes rfl ?_
    refine CC.seq ?_
    refine CC.region ?_
    refine LL.val (R.assign rfl rfl) rfl rfl rfl ?_
    refine LL.nilS ?_
    refine CC.ret ?_
    refine EE.inR ?_
    refine EE.thenR ?_
    refine EE.thenR ?_
    refine EE.inR ?_
    refine EE.thenR ?_
    refine EE.ret _ rfl rfl ?_
    exact ⟨rfl, q⟩
  have h11 : 1 ≤ x.2.2 := by unfold f1E at h1; omega
  by_cases h2 : f2E x
  · rw [decide_eq_false (by unfold mayE; unfold f2E at h2; omega)]
    refine X.fn Tryd.func87 rfl (n := 15) rfl rfl ?_
    refine CC.seq ?_
    refine CC.region ?_
    refine LL.box [Value.int IntKind.i64 x.1, Value.int IntKind.i64 x.2.1, Value.int IntKind.i64 x.2.2] rfl rfl rfl rfl rfl ?_
    intro Wa2 ga3 ega3 ra4 za5 ba1
    replace q := q.trans (ba1.mono q.size)
    refine LL.val (R.assign rfl rfl) rfl rfl rfl ?_
    refine LL.nilS ?_
    refine CC.seq ?_
    refine CC.seq ?_
    refine CC.region ?_
    refine LL.call (R.call rfl rfl rfl) rfl rfl rfl (faults_any _) ?_
    rintro e Wa7 ⟨ga8, rfl, ra9, la10, ba6⟩
    refine ⟨_, rfl, ?_⟩
    have zba6 := ba6.size
    replace ra4 := ra4.up ba6
    replace ba1 := ba1.trans (ba6.mono ba1.size)
    replace q := q.trans (ba6.mono q.size)
    refine LL.val (R.len rfl rfl rfl rfl) rfl rfl rfl ?_
    refine LL.val (R.move rfl rfl) rfl rfl rfl ?_
    refine LL.nilS ?_
    refine CC.block ?_
    refine CC.loopN 6 ?_
    refine RN.step ?_
    refine CC.seq ?_
    refine CC.region ?_
    refine LL.val (R.ltT rfl rfl rfl (by omega)) rfl rfl rfl ?_
    refine LL.nilS ?_
    refine CC.seq ?_
    refine CC.yes rfl ?_
    refine CC.skip ?_
    refine EE.thenN ?_
    refine CC.seq ?_
    refine CC.block ?_
    refine CC.seq ?_
    refine CC.region ?_
    refine LL.val (R.index rfl rfl rfl (I.ixS1c rfl rfl (by omega))) rfl rfl rfl ?_
    refine LL.val (R.load rfl rfl (I.ld1 rfl (RowL.cell ra9 rfl))) rfl rfl rfl ?_
    refine LL.val (R.assign rfl rfl) rfl rfl rfl ?_
    refine LL.nilS ?_
    refine CC.seq ?_
    refine CC.region ?_
    refine LL.val (R.move rfl rfl) rfl rfl rfl ?_
    refine LL.val (R.load rfl rfl (I.ldNc (vs := [Value.int IntKind.i64 x.1, Value.int IntKind.i64 x.2.1, Value.int IntKind.i64 x.2.2]) (RowL.cells ra4 rfl) (by rfl) (by rfl))) rfl rfl rfl ?_
    refine LL.callBF (R.callV rfl rfl rfl rfl) rfl rfl rfl (faults1_any _ _) (by first | assumption | omega) (fun Wa13 ba12 => ?_)
    have zba12 := ba12.size
    replace ra9 := ra9.up ba12
    replace ba6 := ba6.trans (ba12.mono ba6.size)
    replace ra4 := ra4.up ba12
    replace ba1 := ba1.trans (ba12.mono ba1.size)
    replace q := q.trans (ba12.mono q.size)
    refine LL.nilS ?_
    refine CC.no rfl ?_
    refine CC.skip ?_
    refine EE.inN ?_
    refine EE.thenN ?_
    refine CC.region ?_
    refine LL.val (R.addIz (z := 1) rfl rfl rfl (by decide) (by decide)) rfl rfl rfl ?_
    refine LL.val (R.move rfl rfl) rfl rfl rfl ?_
    refine LL.nil ?_
    refine EE.again ?_
    refine RN.step ?_
    refine CC.seq ?_
    refine CC.region ?_
    refine LL.val (R.ltT rfl rfl rfl (by omega)) rfl rfl rfl ?_
    refine LL.nilS ?_
    refine CC.seq ?_
    refine CC.yes rfl ?_
    refine CC.skip ?_
    refine EE.thenN ?_
    refine CC.seq ?_
    refine CC.block ?_
    refine CC.seq ?_
    refine CC.region ?_
    refine LL.val (R.index rfl rfl rfl (I.ixS1c rfl rfl (by omega))) rfl rfl rfl ?_
    refine LL.val (R.load rfl rfl (I.ld1 rfl (RowL.cell ra9 rfl))) rfl rfl rfl ?_
    refine LL.val (R.assign rfl rfl) rfl rfl rfl ?_
    refine LL.nilS ?_
    refine CC.seq ?_
    refine CC.region ?_
    refine LL.val (R.move rfl rfl) rfl rfl rfl ?_
    refine LL.val (R.load rfl rfl (I.ldNc (vs := [Value.int IntKind.i64 x.1, Value.int IntKind.i64 x.2.1, Value.int IntKind.i64 x.2.2]) (RowL.cells ra4 rfl) (by rfl) (by rfl))) rfl rfl rfl ?_
    refine LL.callBT (R.callV rfl rfl rfl rfl) rfl rfl rfl (faults2_any _ _ (by assumption)) (by first | assumption | omega) (fun Wa15 ba14 => ?_)
    have zba14 := ba14.size
    replace ba12 := ba12.trans (ba14.mono ba12.size)
    replace ra9 := ra9.up ba14
    replace ba6 := ba6.trans (ba14.mono ba6.size)
    replace ra4 := ra4.up ba14
    replace ba1 := ba1.trans (ba14.mono ba1.size)
    replace q := q.trans (ba14.mono q.size)
    refine LL.nilS ?_
    refine CC.yes rfl ?_
    refine CC.seq ?_
    refine CC.region ?_
    refine LL.val (R.assign rfl rfl) rfl rfl rfl ?_
    refine LL.nilS ?_
    refine CC.ret ?_
    refine EE.inR ?_
    refine EE.thenR ?_
    refine EE.thenR ?_
    refine EE.inR ?_
    refine EE.thenR ?_
    refine EE.ret _ rfl rfl ?_
    exact ⟨rfl, q⟩
  have h21 : x.2.2 ≤ 128 := by unfold f2E at h2; omega
  by_cases h3 : f3E x
  · rw [decide_eq_false (by unfold mayE; unfold f3E at h3; omega)]
    refine X.fn Tryd.func87 rfl (n := 15) rfl rfl ?_
    refine CC.seq ?_
    refine CC.region ?_
    refine LL.box [Value.int IntKind.i64 x.1, Value.int IntKind.i64 x.2.1, Value.int IntKind.i64 x.2.2] rfl rfl rfl rfl rfl ?_
    intro Wb2 gb3 egb3 rb4 zb5 bb1
    replace q := q.trans (bb1.mono q.size)
    refine LL.val (R.assign rfl rfl) rfl rfl rfl ?_
    refine LL.nilS ?_
    refine CC.seq ?_
    refine CC.seq ?_
    refine CC.region ?_
    refine LL.call (R.call rfl rfl rfl) rfl rfl rfl (faults_any _) ?_
    rintro e Wb7 ⟨gb8, rfl, rb9, lb10, bb6⟩
    refine ⟨_, rfl, ?_⟩
    have zbb6 := bb6.size
    replace rb4 := rb4.up bb6
    replace bb1 := bb1.trans (bb6.mono bb1.size)
    replace q := q.trans (bb6.mono q.size)
    refine LL.val (R.len rfl rfl rfl rfl) rfl rfl rfl ?_
    refine LL.val (R.move rfl rfl) rfl rfl rfl ?_
    refine LL.nilS ?_
    refine CC.block ?_
    refine CC.loopN 6 ?_
    refine RN.step ?_
    refine CC.seq ?_
    refine CC.region ?_
    refine LL.val (R.ltT rfl rfl rfl (by omega)) rfl rfl rfl ?_
    refine LL.nilS ?_
    refine CC.seq ?_
    refine CC.yes rfl ?_
    refine CC.skip ?_
    refine EE.thenN ?_
    refine CC.seq ?_
    refine CC.block ?_
    refine CC.seq ?_
    refine CC.region ?_
    refine LL.val (R.index rfl rfl rfl (I.ixS1c rfl rfl (by omega))) rfl rfl rfl ?_
    refine LL.val (R.load rfl rfl (I.ld1 rfl (RowL.cell rb9 rfl))) rfl rfl rfl ?_
    refine LL.val (R.assign rfl rfl) rfl rfl rfl ?_
    refine LL.nilS ?_
    refine CC.seq ?_
    refine CC.region ?_
    refine LL.val (R.move rfl rfl) rfl rfl rfl ?_
    refine LL.val (R.load rfl rfl (I.ldNc (vs := [Value.int IntKind.i64 x.1, Value.int IntKind.i64 x.2.1, Value.int IntKind.i64 x.2.2]) (RowL.cells rb4 rfl) (by rfl) (by rfl))) rfl rfl rfl ?_
    refine LL.callBF (R.callV rfl rfl rfl rfl) rfl rfl rfl (faults1_any _ _) (by first | assumption | omega) (fun Wb13 bb12 => ?_)
    have zbb12 := bb12.size
    replace rb9 := rb9.up bb12
    replace bb6 := bb6.trans (bb12.mono bb6.size)
    replace rb4 := rb4.up bb12
    replace bb1 := bb1.trans (bb12.mono bb1.size)
    replace q := q.trans (bb12.mono q.size)
    refine LL.nilS ?_
    refine CC.no rfl ?_
    refine CC.skip ?_
    refine EE.inN ?_
    refine EE.thenN ?_
    refine CC.region ?_
    refine LL.val (R.addIz (z := 1) rfl rfl rfl (by decide) (by decide)) rfl rfl rfl ?_
    refine LL.val (R.move rfl rfl) rfl rfl rfl ?_
    refine LL.nil ?_
    refine EE.again ?_
    refine RN.step ?_
    refine CC.seq ?_
    refine CC.region ?_
    refine LL.val (R.ltT rfl rfl rfl (by omega)) rfl rfl rfl ?_
    refine LL.nilS ?_
    refine CC.seq ?_
    refine CC.yes rfl ?_
    refine CC.skip ?_
    refine EE.thenN ?_
    refine CC.seq ?_
    refine CC.block ?_
    refine CC.seq ?_
    refine CC.region ?_
    refine LL.val (R.index rfl rfl rfl (I.ixS1c rfl rfl (by omega))) rfl rfl rfl ?_
    refine LL.val (R.load rfl rfl (I.ld1 rfl (RowL.cell rb9 rfl))) rfl rfl rfl ?_
    refine LL.val (R.assign rfl rfl) rfl rfl rfl ?_
    refine LL.nilS ?_
    refine CC.seq ?_
    refine CC.region ?_
    refine LL.val (R.move rfl rfl) rfl rfl rfl ?_
    refine LL.val (R.load rfl rfl (I.ldNc (vs := [Value.int IntKind.i64 x.1, Value.int IntKind.i64 x.2.1, Value.int IntKind.i64 x.2.2]) (RowL.cells rb4 rfl) (by rfl) (by rfl))) rfl rfl rfl ?_
    refine LL.callBF (R.callV rfl rfl rfl rfl) rfl rfl rfl (faults2_any _ _ (by assumption)) (by first | assumption | omega) (fun Wb15 bb14 => ?_)
    have zbb14 := bb14.size
    replace bb12 := bb12.trans (bb14.mono bb12.size)
    replace rb9 := rb9.up bb14
    replace bb6 := bb6.trans (bb14.mono bb6.size)
    replace rb4 := rb4.up bb14
    replace bb1 := bb1.trans (bb14.mono bb1.size)
    replace q := q.trans (bb14.mono q.size)
    refine LL.nilS ?_
    refine CC.no rfl ?_
    refine CC.skip ?_
    refine EE.inN ?_
    refine EE.thenN ?_
    refine CC.region ?_
    refine LL.val (R.addIz (z := 2) rfl rfl rfl (by decide) (by decide)) rfl rfl rfl ?_
    refine LL.val (R.move rfl rfl) rfl rfl rfl ?_
    refine LL.nil ?_
    refine EE.again ?_
    refine RN.step ?_
    refine CC.seq ?_
    refine CC.region ?_
    refine LL.val (R.ltT rfl rfl rfl (by omega)) rfl rfl rfl ?_
    refine LL.nilS ?_
    refine CC.seq ?_
    refine CC.yes rfl ?_
    refine CC.skip ?_
    refine EE.thenN ?_
    refine CC.seq ?_
    refine CC.block ?_
    refine CC.seq ?_
    refine CC.region ?_
    refine LL.val (R.index rfl rfl rfl (I.ixS1c rfl rfl (by omega))) rfl rfl rfl ?_
    refine LL.val (R.load rfl rfl (I.ld1 rfl (RowL.cell rb9 rfl))) rfl rfl rfl ?_
    refine LL.val (R.assign rfl rfl) rfl rfl rfl ?_
    refine LL.nilS ?_
    refine CC.seq ?_
    refine CC.region ?_
    refine LL.val (R.move rfl rfl) rfl rfl rfl ?_
    refine LL.val (R.load rfl rfl (I.ldNc (vs := [Value.int IntKind.i64 x.1, Value.int IntKind.i64 x.2.1, Value.int IntKind.i64 x.2.2]) (RowL.cells rb4 rfl) (by rfl) (by rfl))) rfl rfl rfl ?_
    refine LL.callBT (R.callV rfl rfl rfl rfl) rfl rfl rfl (faults3_any _ _ (by assumption) (by assumption)) (by first | assumption | omega) (fun Wb17 bb16 => ?_)
    have zbb16 := bb16.size
    replace bb14 := bb14.trans (bb16.mono bb14.size)
    replace bb12 := bb12.trans (bb16.mono bb12.size)
    replace rb9 := rb9.up bb16
    replace bb6 := bb6.trans (bb16.mono bb6.size)
    replace rb4 := rb4.up bb16
    replace bb1 := bb1.trans (bb16.mono bb1.size)
    replace q := q.trans (bb16.mono q.size)
    refine LL.nilS ?_
    refine CC.yes rfl ?_
    refine CC.seq ?_
    refine CC.region ?_
    refine LL.val (R.assign rfl rfl) rfl rfl rfl ?_
    refine LL.nilS ?_
    refine CC.ret ?_
    refine EE.inR ?_
    refine EE.thenR ?_
    refine EE.thenR ?_
    refine EE.inR ?_
    refine EE.thenR ?_
    refine EE.ret _ rfl rfl ?_
    exact ⟨rfl, q⟩
  · rw [decide_eq_true (by unfold mayE; unfold f1E at h1; unfold f2E at h2; unfold f3E at h3; omega)]
    refine X.fn Tryd.func87 rfl (n := 15) rfl rfl ?_
    refine CC.seq ?_
    refine CC.region ?_
    refine LL.box [Value.int IntKind.i64 x.1, Value.int IntKind.i64 x.2.1, Value.int IntKind.i64 x.2.2] rfl rfl rfl rfl rfl ?_
    intro Wc2 gc3 egc3 rc4 zc5 bc1
    replace q := q.trans (bc1.mono q.size)
    refine LL.val (R.assign rfl rfl) rfl rfl rfl ?_
    refine LL.nilS ?_
    refine CC.seq ?_
    refine CC.seq ?_
    refine CC.region ?_
    refine LL.call (R.call rfl rfl rfl) rfl rfl rfl (faults_any _) ?_
    rintro e Wc7 ⟨gc8, rfl, rc9, lc10, bc6⟩
    refine ⟨_, rfl, ?_⟩
    have zbc6 := bc6.size
    replace rc4 := rc4.up bc6
    replace bc1 := bc1.trans (bc6.mono bc1.size)
    replace q := q.trans (bc6.mono q.size)
    refine LL.val (R.len rfl rfl rfl rfl) rfl rfl rfl ?_
    refine LL.val (R.move rfl rfl) rfl rfl rfl ?_
    refine LL.nilS ?_
    refine CC.block ?_
    refine CC.loopN 6 ?_
    refine RN.step ?_
    refine CC.seq ?_
    refine CC.region ?_
    refine LL.val (R.ltT rfl rfl rfl (by omega)) rfl rfl rfl ?_
    refine LL.nilS ?_
    refine CC.seq ?_
    refine CC.yes rfl ?_
    refine CC.skip ?_
    refine EE.thenN ?_
    refine CC.seq ?_
    refine CC.block ?_
    refine CC.seq ?_
    refine CC.region ?_
    refine LL.val (R.index rfl rfl rfl (I.ixS1c rfl rfl (by omega))) rfl rfl rfl ?_
    refine LL.val (R.load rfl rfl (I.ld1 rfl (RowL.cell rc9 rfl))) rfl rfl rfl ?_
    refine LL.val (R.assign rfl rfl) rfl rfl rfl ?_
    refine LL.nilS ?_
    refine CC.seq ?_
    refine CC.region ?_
    refine LL.val (R.move rfl rfl) rfl rfl rfl ?_
    refine LL.val (R.load rfl rfl (I.ldNc (vs := [Value.int IntKind.i64 x.1, Value.int IntKind.i64 x.2.1, Value.int IntKind.i64 x.2.2]) (RowL.cells rc4 rfl) (by rfl) (by rfl))) rfl rfl rfl ?_
    refine LL.callBF (R.callV rfl rfl rfl rfl) rfl rfl rfl (faults1_any _ _) (by first | assumption | omega) (fun Wc13 bc12 => ?_)
    have zbc12 := bc12.size
    replace rc9 := rc9.up bc12
    replace bc6 := bc6.trans (bc12.mono bc6.size)
    replace rc4 := rc4.up bc12
    replace bc1 := bc1.trans (bc12.mono bc1.size)
    replace q := q.trans (bc12.mono q.size)
    refine LL.nilS ?_
    refine CC.no rfl ?_
    refine CC.skip ?_
    refine EE.inN ?_
    refine EE.thenN ?_
    refine CC.region ?_
    refine LL.val (R.addIz (z := 1) rfl rfl rfl (by decide) (by decide)) rfl rfl rfl ?_
    refine LL.val (R.move rfl rfl) rfl rfl rfl ?_
    refine LL.nil ?_
    refine EE.again ?_
    refine RN.step ?_
    refine CC.seq ?_
    refine CC.region ?_
    refine LL.val (R.ltT rfl rfl rfl (by omega)) rfl rfl rfl ?_
    refine LL.nilS ?_
    refine CC.seq ?_
    refine CC.yes rfl ?_
    refine CC.skip ?_
    refine EE.thenN ?_
    refine CC.seq ?_
    refine CC.block ?_
    refine CC.seq ?_
    refine CC.region ?_
    refine LL.val (R.index rfl rfl rfl (I.ixS1c rfl rfl (by omega))) rfl rfl rfl ?_
    refine LL.val (R.load rfl rfl (I.ld1 rfl (RowL.cell rc9 rfl))) rfl rfl rfl ?_
    refine LL.val (R.assign rfl rfl) rfl rfl rfl ?_
    refine LL.nilS ?_
    refine CC.seq ?_
    refine CC.region ?_
    refine LL.val (R.move rfl rfl) rfl rfl rfl ?_
    refine LL.val (R.load rfl rfl (I.ldNc (vs := [Value.int IntKind.i64 x.1, Value.int IntKind.i64 x.2.1, Value.int IntKind.i64 x.2.2]) (RowL.cells rc4 rfl) (by rfl) (by rfl))) rfl rfl rfl ?_
    refine LL.callBF (R.callV rfl rfl rfl rfl) rfl rfl rfl (faults2_any _ _ (by assumption)) (by first | assumption | omega) (fun Wc15 bc14 => ?_)
    have zbc14 := bc14.size
    replace bc12 := bc12.trans (bc14.mono bc12.size)
    replace rc9 := rc9.up bc14
    replace bc6 := bc6.trans (bc14.mono bc6.size)
    replace rc4 := rc4.up bc14
    replace bc1 := bc1.trans (bc14.mono bc1.size)
    replace q := q.trans (bc14.mono q.size)
    refine LL.nilS ?_
    refine CC.no rfl ?_
    refine CC.skip ?_
    refine EE.inN ?_
    refine EE.thenN ?_
    refine CC.region ?_
    refine LL.val (R.addIz (z := 2) rfl rfl rfl (by decide) (by decide)) rfl rfl rfl ?_
    refine LL.val (R.move rfl rfl) rfl rfl rfl ?_
    refine LL.nil ?_
    refine EE.again ?_
    refine RN.step ?_
    refine CC.seq ?_
    refine CC.region ?_
    refine LL.val (R.ltT rfl rfl rfl (by omega)) rfl rfl rfl ?_
    refine LL.nilS ?_
    refine CC.seq ?_
    refine CC.yes rfl ?_
    refine CC.skip ?_
    refine EE.thenN ?_
    refine CC.seq ?_
    refine CC.block ?_
    refine CC.seq ?_
    refine CC.region ?_
    refine LL.val (R.index rfl rfl rfl (I.ixS1c rfl rfl (by omega))) rfl rfl rfl ?_
    refine LL.val (R.load rfl rfl (I.ld1 rfl (RowL.cell rc9 rfl))) rfl rfl rfl ?_
    refine LL.val (R.assign rfl rfl) rfl rfl rfl ?_
    refine LL.nilS ?_
    refine CC.seq ?_
    refine CC.region ?_
    refine LL.val (R.move rfl rfl) rfl rfl rfl ?_
    refine LL.val (R.load rfl rfl (I.ldNc (vs := [Value.int IntKind.i64 x.1, Value.int IntKind.i64 x.2.1, Value.int IntKind.i64 x.2.2]) (RowL.cells rc4 rfl) (by rfl) (by rfl))) rfl rfl rfl ?_
    refine LL.callBF (R.callV rfl rfl rfl rfl) rfl rfl rfl (faults3_any _ _ (by assumption) (by assumption)) (by first | assumption | omega) (fun Wc17 bc16 => ?_)
    have zbc16 := bc16.size
    replace bc14 := bc14.trans (bc16.mono bc14.size)
    replace bc12 := bc12.trans (bc16.mono bc12.size)
    replace rc9 := rc9.up bc16
    replace bc6 := bc6.trans (bc16.mono bc6.size)
    replace rc4 := rc4.up bc16
    replace bc1 := bc1.trans (bc16.mono bc1.size)
    replace q := q.trans (bc16.mono q.size)
    refine LL.nilS ?_
    refine CC.no rfl ?_
    refine CC.skip ?_
    refine EE.inN ?_
    refine EE.thenN ?_
    refine CC.region ?_
    refine LL.val (R.addIz (z := 3) rfl rfl rfl (by decide) (by decide)) rfl rfl rfl ?_
    refine LL.val (R.move rfl rfl) rfl rfl rfl ?_
    refine LL.nil ?_
    refine EE.again ?_
    refine RN.step ?_
    refine CC.seq ?_
    refine CC.region ?_
    refine LL.val (R.ltF rfl rfl rfl (by omega)) rfl rfl rfl ?_
    refine LL.nilS ?_
    refine CC.seq ?_
    refine CC.no rfl ?_
    refine CC.exit ?_
    refine EE.thenX ?_
    refine EE.thenX ?_
    refine EE.inX ?_
    refine EE.thenN ?_
    refine CC.seq ?_
    refine CC.region ?_
    refine LL.val (R.assign rfl rfl) rfl rfl rfl ?_
    refine LL.nilS ?_
    refine CC.ret ?_
    refine EE.ret _ rfl rfl ?_
    exact ⟨rfl, q⟩
/-- The list as far as it was looked at may be a map's. -/
structure preV (l : List Ex) (i : Nat) : Prop where
  may : ∀ j x, j < i → l[j]? = some x → mayE x
  apart : ∀ j k x y, j < k → k < i → l[j]? = some x → l[k]? = some y → apartE x y
  follow : ∀ j x y, j + 1 < i → l[j]? = some x → l[j + 1]? = some y → followE x y
theorem preV_zero (l : List Ex) : preV l 0 := ⟨fun _ _ h => by omega, fun _ _ _ _ _ h => by omega, fun _ _ _ h => by omega⟩
theorem preV_succ {l : List Ex} {i : Nat} {x : Ex} (h : preV l i) (hx : l[i]? = some x) (hm : mayE x) (ha : ∀ j y, j < i → l[j]? = some y → apartE y x) (hf : ∀ y, 0 < i → l[i - 1]? = some y → followE y x) : preV l (i + 1) := by
  refine ⟨fun j y hj hy => ?_, fun j k y z hjk hk hy hz => ?_, fun j y z hj hy hz => ?_⟩
  · by_cases e : j = i
    · subst e; rw [hx] at hy; cases hy; exact hm
    · exact h.may j y (by omega) hy
  · by_cases e : k = i
    · subst e; rw [hx] at hz; cases hz; exact ha j y hjk hy
    · exact h.apart j k y z hjk (by omega) hy hz
  · by_cases e : j + 1 = i
    · subst e; rw [hx] at hz; cases hz; exact hf y (by omega) (by simpa using hy)
    · exact h.follow j y z (by omega) hy hz
theorem preV_of {l : List Ex} (h : vL l) : preV l l.length := by
  refine ⟨fun j x _ hx => h.2.1 x (List.mem_of_getElem? hx), fun j k x y hjk hk hx hy => ?_, fun j x y _ hx hy => chE_at.1 h.2.2.2 j x y hx hy⟩
  obtain ⟨hj, rfl⟩ := List.getElem?_eq_some_iff.1 hx
  obtain ⟨hk, rfl⟩ := List.getElem?_eq_some_iff.1 hy
  exact List.pairwise_iff_getElem.1 h.2.2.1 j k hj hk hjk
theorem vL_of {l : List Ex} (hl : l.length ≤ 10) (h : preV l l.length) : vL l := by
  refine ⟨hl, fun x hx => ?_, List.pairwise_iff_getElem.2 fun j k hj hk hjk => h.apart j k _ _ hjk hk (List.getElem?_eq_getElem hj) (List.getElem?_eq_getElem hk), chE_at.2 fun j x y hx hy => h.follow j x y (List.getElem?_eq_some_iff.1 hy).1 hx hy⟩
  obtain ⟨j, hj, rfl⟩ := List.mem_iff_getElem.1 hx
  exact h.may j _ hj (List.getElem?_eq_getElem hj)
set_option maxRecDepth 100000 in
set_option maxHeartbeats 8000000 in
theorem check_any (v : Value) (l : List Ex) (w : World) (hv : ReadsT eE 3 w v l) (hlen : l.length ≤ 1048576) : Calls Tryd.prog 80 #[v] w fun e w' => (∃ n : Int, e = .returned (.int .i64 n) ∧ ((n = 0 ∧ vL l) ∨ (n = 2 ∧ ¬vL l))) ∧ Below w.heap.size w w' := by
  have q := Below.refl w.heap.size w
  obtain ⟨N, hN⟩ : ∃ N, l.length = N := ⟨_, rfl⟩
  rw [hN] at hlen
  obtain ⟨a, cap, rfl, hcap⟩ := hv.form hN
  refine X.fn Tryd.func80 rfl (n := 46) rfl rfl ?_
  refine CC.seq ?_
  refine CC.region ?_
  refine LL.val (R.assign rfl rfl) rfl rfl rfl ?_
  refine LL.nilS ?_
  refine CC.fwd (l := 0) (α := Unit) (fun _ => []) (fun _ => []) (fun _ W => Below w.heap.size w W ∧ ¬vL l) rfl ?first ?pass
  case pass =>
    rintro _ W ⟨q, hno⟩
    refine CC.seq ?_
    refine CC.skip ?_
    refine EE.thenN ?_
    refine CC.seq ?_
    refine CC.region ?_
    refine LL.val (R.assign rfl rfl) rfl rfl rfl ?_
    refine LL.nilS ?_
    refine CC.ret ?_
    refine EE.jumpR ?_
    refine EE.ret _ rfl rfl ?_
    exact ⟨⟨2, rfl, .inr ⟨rfl, hno⟩⟩, q⟩
  case first =>
    by_cases h10 : 10 < N
    · have hno : ¬vL l := fun h => by have := h.1; omega
      refine CC.seq ?_
      refine CC.seq ?_
      refine CC.region ?_
      refine LL.val (R.move rfl rfl) rfl rfl rfl ?_
      refine LL.val (R.len rfl rfl rfl rfl) rfl rfl rfl ?_
      refine LL.val (R.gtT rfl rfl rfl (by omega)) rfl rfl rfl ?_
      refine LL.nilS ?_
      refine CC.yes rfl ?_
      refine CC.goto ?_
      refine EE.thenG ?_
      (refine EE.jumpTo () rfl ?_ ⟨q, hno⟩; exact trivial)
    refine CC.seq ?_
    refine CC.seq ?_
    refine CC.region ?_
    refine LL.val (R.move rfl rfl) rfl rfl rfl ?_
    refine LL.val (R.len rfl rfl rfl rfl) rfl rfl rfl ?_
    refine LL.val (R.gtF rfl rfl rfl (by omega)) rfl rfl rfl ?_
    refine LL.nilS ?_
    refine CC.no rfl ?_
    refine CC.skip ?_
    refine EE.thenN ?_
    refine CC.seq ?_
    refine CC.seq ?_
    refine CC.region ?_
    refine LL.val (R.move rfl rfl) rfl rfl rfl ?_
    refine LL.val (R.len rfl rfl rfl rfl) rfl rfl rfl ?_
    refine LL.val (R.move rfl rfl) rfl rfl rfl ?_
    refine LL.nilS ?_
    refine CC.block ?_
    refine CC.loop (α := Nat) (fun i => [(0, .slice a N cap), (10, .slice a N cap), (11, .int .i64 (N : Int)), (12, .int .i64 (i : Int))]) (fun i W => i ≤ N ∧ Below w.heap.size w W ∧ preV l i) (fun i => N - i) 0 ⟨rfl, rfl, rfl, rfl, trivial⟩ ⟨by omega, q, preV_zero l⟩ ?_
    clear q
    rintro i W ⟨hi, q, hp⟩
    show CC none Tryd.prog _ 46 [] (sl [(0, .slice a N cap), (10, .slice a N cap), (11, .int .i64 (N : Int)), (12, .int .i64 (i : Int))]) _ W
    by_cases hlt : i < N
    case neg =>
      obtain rfl : i = N := by omega
      have hy : vL l := vL_of (by omega) (by rw [hN]; exact hp)
      refine CC.seq ?_
      refine CC.region ?_
      refine LL.val (R.ltF rfl rfl rfl (by omega)) rfl rfl rfl ?_
      refine LL.nilS ?_
      refine CC.seq ?_
      refine CC.no rfl ?_
      refine CC.exit ?_
      refine EE.thenX ?_
      refine EE.thenX ?_
      refine EE.inX ?_
      refine EE.thenN ?_
      refine CC.seq ?_
      refine CC.seq ?_
      refine CC.region ?_
      refine LL.val (R.assign rfl rfl) rfl rfl rfl ?_
      refine LL.nilS ?_
      refine CC.ret ?_
      refine EE.thenR ?_
      refine EE.jumpR ?_
      refine EE.ret _ rfl rfl ?_
      exact ⟨⟨0, rfl, .inl ⟨rfl, hy⟩⟩, q⟩
    obtain ⟨x, hx⟩ : ∃ x, l[i]? = some x := ⟨_, List.getElem?_eq_getElem (by omega)⟩
    have hvW := hv.up q
    have yq := q.size
    obtain ⟨bk, off, rfl, hbk, hcs⟩ := hvW.get eEnc hx
    have hcs : Cells W ⟨bk, off + i * 3, none⟩ [.int .i64 x.1, .int .i64 x.2.1, .int .i64 x.2.2] := hcs
    by_cases hm : mayE x
    case neg =>
      have hno : ¬vL l := fun h => hm ((preV_of h).may i x (by omega) hx)
      refine CC.seq ?_
      refine CC.region ?_
      refine LL.val (R.ltT rfl rfl rfl (by omega)) rfl rfl rfl ?_
      refine LL.nilS ?_
      refine CC.seq ?_
      refine CC.yes rfl ?_
      refine CC.skip ?_
      refine EE.thenN ?_
      refine CC.seq ?_
      refine CC.block ?_
      refine CC.seq ?_
      refine CC.region ?_
      refine LL.val (R.move rfl rfl) rfl rfl rfl ?_
      refine LL.val (R.index rfl rfl rfl (I.ixS rfl (by omega))) rfl rfl rfl ?_
      refine LL.val (R.load rfl rfl (I.ldNc (by assumption) rfl rfl)) rfl rfl rfl ?_
      refine LL.alloc ([Value.int IntKind.i64 0, Value.int IntKind.i64 0, Value.int IntKind.i64 0]) rfl rfl rfl rfl rfl ?_
      intro We2 ge3 ege3 re4 ze5 be1
      replace q := q.trans (be1.mono q.size)
      replace hvW := hvW.up be1
      replace hcs := hcs.up be1
      refine LL.val (R.assign rfl rfl) rfl rfl rfl ?_
      refine LL.storeN (vs := [Value.int IntKind.i64 x.1, Value.int IntKind.i64 x.2.1, Value.int IntKind.i64 x.2.2]) rfl rfl rfl rfl re4 (by exact Nat.le_of_ble_eq_true rfl) (ones_of rfl) rfl rfl ?_
      intro We7 re8 be6 ze9
      have hlbe6 := re4.lt
      replace re8 : RowL We7 _ 98 [Value.int IntKind.i64 x.1, Value.int IntKind.i64 x.2.1, Value.int IntKind.i64 x.2.2] := re8
      clear re4
      replace be1 := be1.grown be6 be1.size (by rintro k ⟨⟩; omega)
      replace q := q.grown be6 q.size (by rintro k ⟨⟩; omega)
      replace hvW := hvW.gr be6 (by omega)
      replace hcs := hcs.gr be6 (by omega)
      have re4 := re8
      clear re8
      refine LL.nilS ?_
      refine CC.seq ?_
      refine CC.seq ?_
      refine CC.region ?_
      refine LL.val (R.load rfl rfl (I.ldNc (vs := [Value.int IntKind.i64 x.1, Value.int IntKind.i64 x.2.1, Value.int IntKind.i64 x.2.2]) (RowL.cells re4 rfl) (by rfl) (by rfl))) rfl rfl rfl ?_
      refine LL.callBF (R.call rfl rfl rfl) rfl rfl rfl (may_any _ _) (by first | assumption | omega) (fun We11 be10 => ?_)
      have zbe10 := be10.size
      replace be1 := be1.trans (be10.mono be1.size)
      replace q := q.trans (be10.mono q.size)
      replace hvW := hvW.up be10
      replace hcs := hcs.up be10
      replace re4 := re4.up be10
      refine LL.val (R.not rfl rfl) rfl rfl rfl ?_
      refine LL.nilS ?_
      refine CC.yes rfl ?_
      refine CC.goto ?_
      refine EE.thenG ?_
      refine EE.inG ?_
      refine EE.thenG ?_
      refine EE.thenG ?_
      refine EE.inG ?_
      refine EE.thenG ?_
      (refine EE.jumpTo () rfl ?_ ⟨q, hno⟩; exact trivial)
    refine CC.seq ?_
    refine CC.region ?_
    refine LL.val (R.ltT rfl rfl rfl (by omega)) rfl rfl rfl ?_
    refine LL.nilS ?_
    refine CC.seq ?_
    refine CC.yes rfl ?_
    refine CC.skip ?_
    refine EE.thenN ?_
    refine CC.seq ?_
    refine CC.block ?_
    refine CC.seq ?_
    refine CC.region ?_
    refine LL.val (R.move rfl rfl) rfl rfl rfl ?_
    refine LL.val (R.index rfl rfl rfl (I.ixS rfl (by omega))) rfl rfl rfl ?_
    refine LL.val (R.load rfl rfl (I.ldNc (by assumption) rfl rfl)) rfl rfl rfl ?_
    refine LL.alloc ([Value.int IntKind.i64 0, Value.int IntKind.i64 0, Value.int IntKind.i64 0]) rfl rfl rfl rfl rfl ?_
    intro Wf2 gf3 egf3 rf4 zf5 bf1
    replace q := q.trans (bf1.mono q.size)
    replace hvW := hvW.up bf1
    replace hcs := hcs.up bf1
    refine LL.val (R.assign rfl rfl) rfl rfl rfl ?_
    refine LL.storeN (vs := [Value.int IntKind.i64 x.1, Value.int IntKind.i64 x.2.1, Value.int IntKind.i64 x.2.2]) rfl rfl rfl rfl rf4 (by exact Nat.le_of_ble_eq_true rfl) (ones_of rfl) rfl rfl ?_
    intro Wf7 rf8 bf6 zf9
    have hlbf6 := rf4.lt
    replace rf8 : RowL Wf7 _ 98 [Value.int IntKind.i64 x.1, Value.int IntKind.i64 x.2.1, Value.int IntKind.i64 x.2.2] := rf8
    clear rf4
    replace bf1 := bf1.grown bf6 bf1.size (by rintro k ⟨⟩; omega)
    replace q := q.grown bf6 q.size (by rintro k ⟨⟩; omega)
    replace hvW := hvW.gr bf6 (by omega)
    replace hcs := hcs.gr bf6 (by omega)
    have rf4 := rf8
    clear rf8
    refine LL.nilS ?_
    refine CC.seq ?_
    refine CC.seq ?_
    refine CC.region ?_
    refine LL.val (R.load rfl rfl (I.ldNc (vs := [Value.int IntKind.i64 x.1, Value.int IntKind.i64 x.2.1, Value.int IntKind.i64 x.2.2]) (RowL.cells rf4 rfl) (by rfl) (by rfl))) rfl rfl rfl ?_
    refine LL.callBT (R.call rfl rfl rfl) rfl rfl rfl (may_any _ _) (by first | assumption | omega) (fun Wf11 bf10 => ?_)
    have zbf10 := bf10.size
    replace bf1 := bf1.trans (bf10.mono bf1.size)
    replace q := q.trans (bf10.mono q.size)
    replace hvW := hvW.up bf10
    replace hcs := hcs.up bf10
    replace rf4 := rf4.up bf10
    refine LL.val (R.not rfl rfl) rfl rfl rfl ?_
    refine LL.nilS ?_
    refine CC.no rfl ?_
    refine CC.skip ?_
    refine EE.thenN ?_
    refine CC.seq ?_
    refine CC.seq ?_
    refine CC.region ?_
    refine LL.val (R.move rfl rfl) rfl rfl rfl ?_
    refine LL.val (R.move rfl rfl) rfl rfl rfl ?_
    refine LL.val (R.slice rfl rfl rfl rfl rfl (I.slTo rfl (by omega))) rfl rfl rfl ?_
    refine LL.val (R.len rfl rfl rfl rfl) rfl rfl rfl ?_
    refine LL.val (R.move rfl rfl) rfl rfl rfl ?_
    refine LL.nilS ?_
    refine CC.block ?_
    have yB : W.heap.size ≤ Wf11.heap.size := by omega
    have lf3 := rf4.lt
    refine CC.loop (α := Nat) (fun k => [(0, .slice (some ⟨bk, off, none⟩) N cap), (3, .int .i64 (i : Int)), (4, .pointer (some ⟨gf3, 0, none⟩)), (10, .slice (some ⟨bk, off, none⟩) N cap), (11, .int .i64 (N : Int)), (12, .int .i64 (i : Int)), (22, .slice (some ⟨bk, off, none⟩) i cap), (23, .int .i64 (i : Int)), (24, .int .i64 (k : Int))]) (fun k W' => k ≤ i ∧ Below w.heap.size w W' ∧ W.heap.size ≤ W'.heap.size ∧ RowL W' gf3 98 [.int .i64 x.1, .int .i64 x.2.1, .int .i64 x.2.2] ∧ ∀ j y, j < k → l[j]? = some y → apartE y x) (fun k => i - k) 0 ⟨rfl, rfl, rfl, rfl, rfl, rfl, rfl, rfl, rfl, trivial⟩ ⟨by omega, q, by omega, rf4, fun j y h => by omega⟩ ?_
    clear q rf4 hcs
    rintro k W' ⟨hk, q, yB, rf4, ha⟩
    show CC none Tryd.prog _ 46 [] (sl [(0, .slice (some ⟨bk, off, none⟩) N cap), (3, .int .i64 (i : Int)), (4, .pointer (some ⟨gf3, 0, none⟩)), (10, .slice (some ⟨bk, off, none⟩) N cap), (11, .int .i64 (N : Int)), (12, .int .i64 (i : Int)), (22, .slice (some ⟨bk, off, none⟩) i cap), (23, .int .i64 (i : Int)), (24, .int .i64 (k : Int))]) _ W'
    have yq := q.size
    have lf3 := rf4.lt
    have hvW := hv.up q
    by_cases hlk : k < i
    · obtain ⟨y, hy⟩ : ∃ y, l[k]? = some y := ⟨_, List.getElem?_eq_getElem (by omega)⟩
      obtain ⟨_, _, e1, hbk', hcs⟩ := hvW.get eEnc hy
      cases e1
      have hcs : Cells W' ⟨bk, off + k * 3, none⟩ [.int .i64 y.1, .int .i64 y.2.1, .int .i64 y.2.2] := hcs
      have hmy := hp.may k y hlk hy
      by_cases hap : apartE y x
      case neg =>
        have hno : ¬vL l := fun h => hap ((preV_of h).apart k i y x hlk (by omega) hy hx)
        refine CC.seq ?_
        refine CC.region ?_
        refine LL.val (R.ltT rfl rfl rfl (by omega)) rfl rfl rfl ?_
        refine LL.nilS ?_
        refine CC.seq ?_
        refine CC.yes rfl ?_
        refine CC.skip ?_
        refine EE.thenN ?_
        refine CC.seq ?_
        refine CC.block ?_
        refine CC.seq ?_
        refine CC.region ?_
        refine LL.val (R.index rfl rfl rfl (I.ixS rfl (by omega))) rfl rfl rfl ?_
        refine LL.val (R.load rfl rfl (I.ldNc (by assumption) rfl rfl)) rfl rfl rfl ?_
        have lg1 := rf4.lt
        refine LL.alloc ([Value.int IntKind.i64 0, Value.int IntKind.i64 0, Value.int IntKind.i64 0]) rfl rfl rfl rfl rfl ?_
        intro Wg3 gg4 egg4 rg5 zg6 bg2
        replace q := q.trans (bg2.mono q.size)
        replace rf4 := rf4.up bg2
        replace hvW := hvW.up bg2
        replace hcs := hcs.up bg2
        refine LL.storeN (vs := [Value.int IntKind.i64 y.1, Value.int IntKind.i64 y.2.1, Value.int IntKind.i64 y.2.2]) rfl rfl rfl rfl rg5 (by exact Nat.le_of_ble_eq_true rfl) (ones_of rfl) rfl rfl ?_
        intro Wg8 rg9 bg7 zg10
        have hlbg7 := rg5.lt
        replace rg9 : RowL Wg8 _ 98 [Value.int IntKind.i64 y.1, Value.int IntKind.i64 y.2.1, Value.int IntKind.i64 y.2.2] := rg9
        clear rg5
        replace bg2 := bg2.grown bg7 bg2.size (by rintro k ⟨⟩; omega)
        replace q := q.grown bg7 q.size (by rintro k ⟨⟩; omega)
        replace rf4 := rf4.gr bg7 (by have := rf4.lt; omega)
        replace hvW := hvW.gr bg7 (by omega)
        replace hcs := hcs.gr bg7 (by omega)
        have rg5 := rg9
        clear rg9
        refine LL.nilS ?_
        refine CC.seq ?_
        refine CC.region ?_
        refine LL.val (R.load rfl rfl (I.ldNc (vs := [Value.int IntKind.i64 y.1, Value.int IntKind.i64 y.2.1, Value.int IntKind.i64 y.2.2]) (RowL.cells rg5 rfl) (by rfl) (by rfl))) rfl rfl rfl ?_
        refine LL.val (R.load rfl rfl (I.ldNc (vs := [Value.int IntKind.i64 x.1, Value.int IntKind.i64 x.2.1, Value.int IntKind.i64 x.2.2]) (RowL.cells rf4 rfl) (by rfl) (by rfl))) rfl rfl rfl ?_
        refine LL.callBF (R.call rfl rfl rfl) rfl rfl rfl (apart_any _ _ _ (by first | assumption | omega) (by first | assumption | omega)) (by first | assumption | omega) (fun Wg12 bg11 => ?_)
        have zbg11 := bg11.size
        replace bg2 := bg2.trans (bg11.mono bg2.size)
        replace q := q.trans (bg11.mono q.size)
        replace rf4 := rf4.up bg11
        replace hvW := hvW.up bg11
        replace hcs := hcs.up bg11
        replace rg5 := rg5.up bg11
        refine LL.val (R.not rfl rfl) rfl rfl rfl ?_
        refine LL.nilS ?_
        refine CC.yes rfl ?_
        refine CC.goto ?_
        refine EE.inG ?_
        refine EE.thenG ?_
        refine EE.thenG ?_
        refine EE.inG ?_
        refine EE.thenG ?_
        refine EE.inG ?_
        refine EE.thenG ?_
        refine EE.thenG ?_
        refine EE.inG ?_
        refine EE.thenG ?_
        (refine EE.jumpTo () rfl ?_ ⟨q, hno⟩; exact trivial)
      have ha' : ∀ j z, j < k + 1 → l[j]? = some z → apartE z x := fun j z hj hz => by
        by_cases e : j = k
        · subst e; rw [hy] at hz; cases hz; exact hap
        · exact ha j z (by omega) hz
      refine CC.seq ?_
      refine CC.region ?_
      refine LL.val (R.ltT rfl rfl rfl (by omega)) rfl rfl rfl ?_
      refine LL.nilS ?_
      refine CC.seq ?_
      refine CC.yes rfl ?_
      refine CC.skip ?_
      refine EE.thenN ?_
      refine CC.seq ?_
      refine CC.block ?_
      refine CC.seq ?_
      refine CC.region ?_
      refine LL.val (R.index rfl rfl rfl (I.ixS rfl (by omega))) rfl rfl rfl ?_
      refine LL.val (R.load rfl rfl (I.ldNc (by assumption) rfl rfl)) rfl rfl rfl ?_
      have lh1 := rf4.lt
      refine LL.alloc ([Value.int IntKind.i64 0, Value.int IntKind.i64 0, Value.int IntKind.i64 0]) rfl rfl rfl rfl rfl ?_
      intro Wh3 gh4 egh4 rh5 zh6 bh2
      replace q := q.trans (bh2.mono q.size)
      replace rf4 := rf4.up bh2
      replace hvW := hvW.up bh2
      replace hcs := hcs.up bh2
      refine LL.storeN (vs := [Value.int IntKind.i64 y.1, Value.int IntKind.i64 y.2.1, Value.int IntKind.i64 y.2.2]) rfl rfl rfl rfl rh5 (by exact Nat.le_of_ble_eq_true rfl) (ones_of rfl) rfl rfl ?_
      intro Wh8 rh9 bh7 zh10
      have hlbh7 := rh5.lt
      replace rh9 : RowL Wh8 _ 98 [Value.int IntKind.i64 y.1, Value.int IntKind.i64 y.2.1, Value.int IntKind.i64 y.2.2] := rh9
      clear rh5
      replace bh2 := bh2.grown bh7 bh2.size (by rintro k ⟨⟩; omega)
      replace q := q.grown bh7 q.size (by rintro k ⟨⟩; omega)
      replace rf4 := rf4.gr bh7 (by have := rf4.lt; omega)
      replace hvW := hvW.gr bh7 (by omega)
      replace hcs := hcs.gr bh7 (by omega)
      have rh5 := rh9
      clear rh9
      refine LL.nilS ?_
      refine CC.seq ?_
      refine CC.region ?_
      refine LL.val (R.load rfl rfl (I.ldNc (vs := [Value.int IntKind.i64 y.1, Value.int IntKind.i64 y.2.1, Value.int IntKind.i64 y.2.2]) (RowL.cells rh5 rfl) (by rfl) (by rfl))) rfl rfl rfl ?_
      refine LL.val (R.load rfl rfl (I.ldNc (vs := [Value.int IntKind.i64 x.1, Value.int IntKind.i64 x.2.1, Value.int IntKind.i64 x.2.2]) (RowL.cells rf4 rfl) (by rfl) (by rfl))) rfl rfl rfl ?_
      refine LL.callBT (R.call rfl rfl rfl) rfl rfl rfl (apart_any _ _ _ (by first | assumption | omega) (by first | assumption | omega)) (by first | assumption | omega) (fun Wh12 bh11 => ?_)
      have zbh11 := bh11.size
      replace bh2 := bh2.trans (bh11.mono bh2.size)
      replace q := q.trans (bh11.mono q.size)
      replace rf4 := rf4.up bh11
      replace hvW := hvW.up bh11
      replace hcs := hcs.up bh11
      replace rh5 := rh5.up bh11
      refine LL.val (R.not rfl rfl) rfl rfl rfl ?_
      refine LL.nilS ?_
      refine CC.no rfl ?_
      refine CC.skip ?_
      refine EE.inN ?_
      refine EE.thenN ?_
      refine CC.region ?_
      refine LL.val (R.addNc rfl rfl rfl rfl (by omega)) rfl rfl rfl ?_
      refine LL.val (R.move rfl rfl) rfl rfl rfl ?_
      refine LL.nil ?_
      exact EE.round (k + 1) ⟨rfl, rfl, rfl, rfl, rfl, rfl, rfl, rfl, rfl, trivial⟩ ⟨by omega, q, by omega, rf4, ha'⟩ (by omega)
    obtain rfl : k = i := by omega
    by_cases h0 : 0 < k
    case neg =>
      obtain rfl : k = 0 := by omega
      have hp' := preV_succ hp hx hm ha fun y h => by omega
      refine CC.seq ?_
      refine CC.region ?_
      refine LL.val (R.ltF rfl rfl rfl (by omega)) rfl rfl rfl ?_
      refine LL.nilS ?_
      refine CC.seq ?_
      refine CC.no rfl ?_
      refine CC.exit ?_
      refine EE.thenX ?_
      refine EE.thenX ?_
      refine EE.inX ?_
      refine EE.thenN ?_
      refine CC.seq ?_
      refine CC.grow (by kernel_rfl) (by kernel_rfl) ?_
      refine GG.val (fun w' b' => R.move rfl rfl) rfl rfl ?_
      refine GG.val (fun w' b' => R.gtF rfl rfl rfl (by omega)) rfl rfl ?_
      refine GG.val (fun w' b' => R.move rfl rfl) rfl rfl ?_
      refine GG.skip rfl rfl ?_
      refine GG.skip rfl rfl ?_
      refine GG.skip rfl rfl ?_
      refine GG.skip rfl rfl ?_
      refine GG.skip rfl rfl ?_
      refine GG.skip rfl rfl ?_
      refine GG.skip rfl rfl ?_
      refine GG.skip rfl rfl ?_
      refine GG.val (fun w' b' => R.pick rfl rfl rfl) rfl rfl ?_
      refine GG.nilQ (fun Wi5 bi4 => ?_)
      have zbi4 := bi4.size
      replace q := q.trans (bi4.mono q.size)
      replace rf4 := rf4.up bi4
      replace hvW := hvW.up bi4
      refine EE.thenN ?_
      refine CC.no rfl ?_
      refine CC.skip ?_
      refine EE.inN ?_
      refine EE.thenN ?_
      refine CC.region ?_
      refine LL.val (R.addIz (z := 1) rfl rfl rfl (by decide) (by decide)) rfl rfl rfl ?_
      refine LL.val (R.move rfl rfl) rfl rfl rfl ?_
      refine LL.nil ?_
      exact EE.round (0 + 1) ⟨rfl, rfl, rfl, rfl, trivial⟩ ⟨by omega, q, hp'⟩ (by omega)
    obtain ⟨y, hy⟩ : ∃ y, l[k - 1]? = some y := ⟨_, List.getElem?_eq_getElem (by omega)⟩
    obtain ⟨_, _, e1, hbk', hcs⟩ := hvW.get eEnc hy
    cases e1
    have hcs : Cells W' ⟨bk, off + (k - 1) * 3, none⟩ [.int .i64 y.1, .int .i64 y.2.1, .int .i64 y.2.2] := hcs
    have hmy := hp.may (k - 1) y (by omega) hy
    by_cases hf : followE y x
    case neg =>
      have hno : ¬vL l := fun h => hf ((preV_of h).follow (k - 1) y x (by omega) hy (by rw [show k - 1 + 1 = k by omega]; exact hx))
      refine CC.seq ?_
      refine CC.region ?_
      refine LL.val (R.ltF rfl rfl rfl (by omega)) rfl rfl rfl ?_
      refine LL.nilS ?_
      refine CC.seq ?_
      refine CC.no rfl ?_
      refine CC.exit ?_
      refine EE.thenX ?_
      refine EE.thenX ?_
      refine EE.inX ?_
      refine EE.thenN ?_
      refine CC.seq ?_
      refine CC.grow (by kernel_rfl) (by kernel_rfl) ?_
      refine GG.val (fun w' b' => R.move rfl rfl) rfl rfl ?_
      refine GG.val (fun w' b' => R.gtT rfl rfl rfl (by omega)) rfl rfl ?_
      refine GG.val (fun w' b' => R.move rfl rfl) rfl rfl ?_
      refine GG.val (fun w' b' => R.move rfl rfl) rfl rfl ?_
      refine GG.val (fun w' b' => R.move rfl rfl) rfl rfl ?_
      refine GG.val (fun w' b' => R.subNc rfl rfl rfl rfl (by omega) (by omega)) rfl rfl ?_
      refine GG.val (fun w' b' => R.index rfl rfl rfl (I.ixS rfl (by omega))) rfl rfl ?_
      refine GG.val (fun w' b' => R.load rfl rfl (I.ldNc (hcs.up b') rfl rfl)) rfl rfl ?_
      refine GG.val (fun w' b' => R.load rfl rfl (I.ldNc (vs := [Value.int IntKind.i64 x.1, Value.int IntKind.i64 x.2.1, Value.int IntKind.i64 x.2.2]) (RowL.cells (rf4.up b') rfl) (by rfl) (by rfl))) rfl rfl ?_
      refine GG.callDF (fun w' => (R.call rfl rfl rfl)) rfl rfl (fun w' b' => (follow_any _ _ w' (by first | assumption | omega) (by first | assumption | omega)).mono fun e W' h => ⟨h.1, b'.trans (h.2.mono b'.size)⟩) (by first | assumption | omega) ?_
      refine GG.val (fun w' b' => R.not rfl rfl) rfl rfl ?_
      refine GG.val (fun w' b' => R.pick rfl rfl rfl) rfl rfl ?_
      refine GG.nilQ (fun Wj5 bj4 => ?_)
      have zbj4 := bj4.size
      replace q := q.trans (bj4.mono q.size)
      replace rf4 := rf4.up bj4
      replace hvW := hvW.up bj4
      replace hcs := hcs.up bj4
      refine EE.thenN ?_
      refine CC.yes rfl ?_
      refine CC.goto ?_
      refine EE.inG ?_
      refine EE.thenG ?_
      refine EE.thenG ?_
      refine EE.inG ?_
      refine EE.thenG ?_
      (refine EE.jumpTo () rfl ?_ ⟨q, hno⟩; exact trivial)
    have hp' := preV_succ hp hx hm ha fun z _ hz => by rw [hy] at hz; cases hz; exact hf
    refine CC.seq ?_
    refine CC.region ?_
    refine LL.val (R.ltF rfl rfl rfl (by omega)) rfl rfl rfl ?_
    refine LL.nilS ?_
    refine CC.seq ?_
    refine CC.no rfl ?_
    refine CC.exit ?_
    refine EE.thenX ?_
    refine EE.thenX ?_
    refine EE.inX ?_
    refine EE.thenN ?_
    refine CC.seq ?_
    refine CC.grow (by kernel_rfl) (by kernel_rfl) ?_
    refine GG.val (fun w' b' => R.move rfl rfl) rfl rfl ?_
    refine GG.val (fun w' b' => R.gtT rfl rfl rfl (by omega)) rfl rfl ?_
    refine GG.val (fun w' b' => R.move rfl rfl) rfl rfl ?_
    refine GG.val (fun w' b' => R.move rfl rfl) rfl rfl ?_
    refine GG.val (fun w' b' => R.move rfl rfl) rfl rfl ?_
    refine GG.val (fun w' b' => R.subNc rfl rfl rfl rfl (by omega) (by omega)) rfl rfl ?_
    refine GG.val (fun w' b' => R.index rfl rfl rfl (I.ixS rfl (by omega))) rfl rfl ?_
    refine GG.val (fun w' b' => R.load rfl rfl (I.ldNc (hcs.up b') rfl rfl)) rfl rfl ?_
    refine GG.val (fun w' b' => R.load rfl rfl (I.ldNc (vs := [Value.int IntKind.i64 x.1, Value.int IntKind.i64 x.2.1, Value.int IntKind.i64 x.2.2]) (RowL.cells (rf4.up b') rfl) (by rfl) (by rfl))) rfl rfl ?_
    refine GG.callDT (fun w' => (R.call rfl rfl rfl)) rfl rfl (fun w' b' => (follow_any _ _ w' (by first | assumption | omega) (by first | assumption | omega)).mono fun e W' h => ⟨h.1, b'.trans (h.2.mono b'.size)⟩) (by first | assumption | omega) ?_
    refine GG.val (fun w' b' => R.not rfl rfl) rfl rfl ?_
    refine GG.val (fun w' b' => R.pick rfl rfl rfl) rfl rfl ?_
    refine GG.nilQ (fun Wk5 bk4 => ?_)
    have zbk4 := bk4.size
    replace q := q.trans (bk4.mono q.size)
    replace rf4 := rf4.up bk4
    replace hvW := hvW.up bk4
    replace hcs := hcs.up bk4
    refine EE.thenN ?_
    refine CC.no rfl ?_
    refine CC.skip ?_
    refine EE.inN ?_
    refine EE.thenN ?_
    refine CC.region ?_
    refine LL.val (R.addNc rfl rfl rfl rfl (by omega)) rfl rfl rfl ?_
    refine LL.val (R.move rfl rfl) rfl rfl rfl ?_
    refine LL.nil ?_
    exact EE.round (k + 1) ⟨rfl, rfl, rfl, rfl, trivial⟩ ⟨by omega, q, hp'⟩ (by omega)
end Go.Proofs.YtnoefalgmekjbaaDoor


/- Arrays of numbers, in a row and as values. Over any program. -/
namespace Go.Proofs.YtnoefalgmekjbaaDoor
set_option linter.unusedVariables false
set_option linter.unusedSimpArgs false
open Go.RowKit Go.Shelf
/-- Whole numbers of a kind. -/
abbrev intsZ (k : IntKind) (ns : List Int) : List Value := ns.map fun z : Int => Value.int k z
section
variable {P : Program} {w w' : World} {t : TypeId} {o : Oper} {x y : Operand} {n : Nat} {D : List Deferred} {M : Slots} {r : Option Nat} {ops : Array Oper} {Q : Exit → Act → World → Prop} {rest : List Oper}
/-- All of an array's row. -/
theorem R.loadZ {g e m : Nat} {k : IntKind} {ns : List Int} (ho : o.op = .load t x) (hx : evM M x = some (.pointer (some ⟨g, 0, none⟩))) (hr : RowL w g e (intsZ k ns)) (ha : aggB P t = true) (hz : szB P t = some m) (hl : ns.length = m) : Runs P n D M o w (.value (.agg (intsZ k ns).toArray)) w :=
  R.load ho hx (I.ldNc (RowL.cells0 hr) ha (by rw [hz, List.length_map, hl]))
/-- A store into an array's row. -/
theorem LL.storeZ {g off e i : Nat} {k : IntKind} {ns : List Int} {z : Int} (ho : o.op = .store t x y) (hx : evM M x = some (.pointer (some ⟨g, off, none⟩))) (hoff : off = i) (hy : evM M y = some (.int k z)) (hz : szB P t = some 1) (hr : RowL w g e (intsZ k ns)) (hi : i < ns.length) (hd : o.dst = none) (hg : wantB ops M o.guard = some true)
    (kk : ∀ w', RowL w' g e (intsZ k (ns.set i z)) → w.grownBy w' (some g) → w'.heap.size = w.heap.size → LL r P ops Q n D M rest w') : LL r P ops Q n D M (o :: rest) w := by
  subst hoff
  refine LL.store ho hx hy hz hr (by rw [List.length_map]; exact hi) rfl rfl hd hg ?_
  intro w' r' g' z'
  refine kk w' ?_ g' z'
  rw [show intsZ k (ns.set off z) = (intsZ k ns).set off (.int k z) from List.map_set ..]
  exact r'
/-- A store of a whole array. -/
theorem LL.storeAZ {g e m : Nat} {k : IntKind} {ns : List Int} {xs : List Value} (ho : o.op = .store t x y) (hx : evM M x = some (.pointer (some ⟨g, 0, none⟩))) (hy : evM M y = some (.agg (intsZ k ns).toArray)) (hz : szB P t = some m) (hl : ns.length = m) (hr : RowL w g e xs) (hxl : xs.length = m) (hd : o.dst = none) (hg : wantB ops M o.guard = some true)
    (kk : ∀ w', RowL w' g e (intsZ k ns) → w.grownBy w' (some g) → w'.heap.size = w.heap.size → LL r P ops Q n D M rest w') : LL r P ops Q n D M (o :: rest) w := by
  refine LL.storeN (vs := intsZ k ns) ho hx hy (by rw [hz, List.length_map, hl]) hr (by rw [List.length_map]; omega) (fun u hu => by simp only [List.mem_map] at hu; obtain ⟨z, _, rfl⟩ := hu; rfl) hd hg ?_
  intro w' r' g' z'
  refine kk w' ?_ g' z'
  have e1 : xs.take 0 ++ (intsZ k ns) ++ xs.drop (0 + (intsZ k ns).length) = intsZ k ns := by
    rw [List.drop_of_length_le (by rw [List.length_map]; omega)]
    simp
  first
    | (rw [← e1]; exact r')
    | (have := r'; simp only [List.take_zero, List.nil_append, Nat.zero_add, List.length_map] at this; rw [List.drop_of_length_le (by omega), List.append_nil] at this; exact this)
theorem ZR.storeZ {ok : World → Prop} {j : Nat} {K : Slots → World → Prop} {g off e i : Nat} {k : IntKind} {ns : List Int} {z : Int} (hj : ops[j]? = some o) (ho : o.op = .store t x y) (hx : evM M x = some (.pointer (some ⟨g, off, none⟩))) (hoff : off = i) (hy : evM M y = some (.int k z)) (hz : szB P t = some 1) (hr : RowL w g e (intsZ k ns)) (hi : i < ns.length) (hd : o.dst = none) (hg : wantB ops M o.guard = some true)
    (kk : ∀ w', RowL w' g e (intsZ k (ns.set i z)) → w.grownBy w' (some g) → w'.heap.size = w.heap.size → ok w' ∧ K M w') : SR P ops ok j K n D M w := by
  subst hoff
  refine ZR.store hj ho hx hy hz hr (by rw [List.length_map]; exact hi) rfl rfl hd hg ?_
  intro w' r' g' z'
  refine kk w' ?_ g' z'
  rw [show intsZ k (ns.set off z) = (intsZ k ns).set off (.int k z) from List.map_set ..]
  exact r'
theorem ZR.storeAZ {ok : World → Prop} {j : Nat} {K : Slots → World → Prop} {g e m : Nat} {k : IntKind} {ns : List Int} {xs : List Value} (hj : ops[j]? = some o) (ho : o.op = .store t x y) (hx : evM M x = some (.pointer (some ⟨g, 0, none⟩))) (hy : evM M y = some (.agg (intsZ k ns).toArray)) (hz : szB P t = some m) (hl : ns.length = m) (hr : RowL w g e xs) (hxl : xs.length = m) (hd : o.dst = none) (hg : wantB ops M o.guard = some true)
    (kk : ∀ w', RowL w' g e (intsZ k ns) → w.grownBy w' (some g) → w'.heap.size = w.heap.size → ok w' ∧ K M w') : SR P ops ok j K n D M w := by
  refine ZR.storeN (vs := intsZ k ns) hj ho hx hy (by rw [hz, List.length_map, hl]) hr (by rw [List.length_map]; omega) (fun u hu => by simp only [List.mem_map] at hu; obtain ⟨z, _, rfl⟩ := hu; rfl) hd hg ?_
  intro w' r' g' z'
  refine kk w' ?_ g' z'
  have e1 : xs.take 0 ++ (intsZ k ns) ++ xs.drop (0 + (intsZ k ns).length) = intsZ k ns := by
    rw [List.drop_of_length_le (by rw [List.length_map]; omega)]
    simp
  rw [← e1]
  exact r'
theorem lvZ {g e m : Nat} {k : IntKind} {ns : List Int} (hr : RowL w g e (intsZ k ns)) (ha : aggB P t = true) (hz : szB P t = some m) (hl : ns.length = m) : (loadVar t ⟨g, 0, none⟩).run P w = .ok (.agg (intsZ k ns).toArray) w :=
  lvNc (RowL.cells0 hr) ha (by rw [hz, List.length_map, hl])
end
end Go.Proofs.YtnoefalgmekjbaaDoor


/- extents: the blocks of a map, one by one. extents: the places of a map. -/
namespace Go.Proofs.YtnoefalgmekjbaaDoor
set_option linter.unusedVariables false
set_option linter.unusedSimpArgs false
open Go.RowKit Go.Shelf
abbrev plV (p : List Int) : Value := .agg (intsZ .i64 p).toArray
end Go.Proofs.YtnoefalgmekjbaaDoor


/- extents: runs that are joined. extents: runs of blocks that are joined; gather, gone. -/
namespace Go.Proofs.YtnoefalgmekjbaaDoor
set_option linter.unusedVariables false
set_option linter.unusedSimpArgs false
open Go.RowKit Go.Shelf
end Go.Proofs.YtnoefalgmekjbaaDoor


/- extents: gather, gone. extents: Each, Blocks. extents: Find, Blocks. -/
namespace Go.Proofs.YtnoefalgmekjbaaDoor
set_option linter.unusedVariables false
set_option linter.unusedSimpArgs false
open Go.RowKit Go.Shelf
/-- Places with small numbers. -/
def smP (p : List Int) : Prop := p.length = 128 ∧ ∀ (i : Nat) (z : Int), p[i]? = some z → 0 ≤ z ∧ z < 2048
theorem okP.small {p : List Int} (h : okP p) : smP p := ⟨h.len, fun i z hz => h.at hz⟩
theorem check_T (v : Value) (l : List Ex) (w : World) (hv : ReadsT eE 3 w v l) (hlen : l.length ≤ 1048576) (h : vL l) : Calls Tryd.prog 80 #[v] w fun e w' => e = .returned (.int .i64 0) ∧ Below w.heap.size w w' :=
  (check_any v l w hv hlen).mono fun e w' ⟨⟨n, he, hn⟩, hb⟩ => by
    rcases hn with ⟨rfl, _⟩ | ⟨rfl, hn⟩
    · exact ⟨he, hb⟩
    · exact absurd h hn
/-- The list, if it is a map; or none. -/
noncomputable def eL (l : List Ex) : List Ex := @ite _ (vL l) (Classical.propDecidable _) l []
end Go.Proofs.YtnoefalgmekjbaaDoor


/- extents: Put. extents: Put, Cut. extents: Cut. -/
namespace Go.Proofs.YtnoefalgmekjbaaDoor
set_option linter.unusedVariables false
set_option linter.unusedSimpArgs false
open Go.RowKit Go.Shelf
end Go.Proofs.YtnoefalgmekjbaaDoor


/- words: fields in this seat. -/
namespace Go.Proofs.YtnoefalgmekjbaaDoor
set_option linter.unusedVariables false
set_option linter.unusedSimpArgs false
open Go.RowKit
theorem within_int {n lo hi : Int} {w : World} (b : Bool) (h : (decide (lo ≤ n) && decide (n ≤ hi)) = b) : Calls Tryd.prog 79 #[.int .i64 n, .int .i64 lo, .int .i64 hi] w fun e w' => e = .returned (.bool b) ∧ w = w' := by
  subst h
  by_cases h1 : lo ≤ n
  · go_enter Tryd.func79, Tryd.ntmps79
    go_wp2
    go_ret
    exact ⟨by simp [h1], rfl⟩
  · go_enter Tryd.func79, Tryd.ntmps79
    go_wp2
    go_ret
    exact ⟨by simp; omega, rfl⟩

theorem within_u64 {n lo hi : Int} {w : World} (b : Bool) (h : (decide (lo ≤ n) && decide (n ≤ hi)) = b) : Calls Tryd.prog 77 #[.int .u64 n, .int .u64 lo, .int .u64 hi] w fun e w' => e = .returned (.bool b) ∧ w = w' := by
  subst h
  by_cases h1 : lo ≤ n
  · go_enter Tryd.func77, Tryd.ntmps77
    go_wp2
    go_ret
    exact ⟨by simp [h1], rfl⟩
  · go_enter Tryd.func77, Tryd.ntmps77
    go_wp2
    go_ret
    exact ⟨by simp; omega, rfl⟩

/-- A callee that leaves the world alone, in a region that draws its order. -/
theorem quiet_same {P : Program} {f : FuncId} {args : Array Value} {w : World} {n : Nat} {v : Value}
    (h : Calls P f args (w.drewN n) fun e w' => e = .returned v ∧ w.drewN n = w') : Calls P f args (w.drewN n) fun e w'' => e = .returned v ∧ ∃ m, w'' = w.drewN m :=
  h.mono fun _ _ ⟨he, hm⟩ => ⟨he, n, hm.symm⟩

theorem mask_int (a k : Nat) (h1 : 1 ≤ k) (h2 : k + a ≤ 64) : IntKind.u64.wrap (18446744073709551615 / 2 ^ (64 - (k : Int)).toNat * 2 ^ (a : Int).toNat) = (((2 ^ k - 1) * 2 ^ a : Nat) : Int) := by
  have e := mask_val a k h2
  rw [show (64 - (k : Int)).toNat = 64 - k by omega, Int.toNat_natCast, IntKind.wrap_u64, ← e]
  simp

theorem fieldMask_ok (a k : Nat) (h1 : 1 ≤ k) (h2 : k + a ≤ 64) (w : World) : Calls Tryd.prog 55 #[.int .i64 a, .int .i64 k] w fun e w' => e = .returned (.tuple #[.int .u64 ((2 ^ k - 1) * 2 ^ a : Nat), .bool true]) ∧ w = w' := by
  have m := mask_int a k h1 h2
  rw [show (64 - (k : Int)).toNat = 64 - k by omega, Int.toNat_natCast] at m
  have M := Lib.hid m
  clear m
  go_enter Tryd.func55, Tryd.ntmps55
  go_wp2_with (first | (go_at_call 79; refine (within_int true (by simp; omega)).mono ?_; rintro e w' ⟨rfl, rfl⟩))
  go_ret2
  exact ⟨by simp only [← M.out]; rfl, rfl⟩

theorem of_any (x m : Nat) (hx : x < 18446744073709551616) (hm : m < 18446744073709551616) (w : World) : Calls Tryd.prog 56 #[.int .u64 m, .int .u64 x] w fun e w' => e = .returned (.int .u64 (x &&& m : Nat)) ∧ w = w' := by
  have e := Lib.hid (u64_and_nat x m hx hm)
  go_enter Tryd.func56, Tryd.ntmps56
  go_wp2
  go_ret
  exact ⟨ret1 (int_eq e.out), rfl⟩

theorem without_any (x m : Nat) (hx : x < 18446744073709551616) (hm : m < 18446744073709551616) (w : World) : Calls Tryd.prog 78 #[.int .u64 m, .int .u64 x] w fun e w' => e = .returned (.int .u64 (x &&& (18446744073709551615 - m) : Nat)) ∧ w = w' := by
  have e := Lib.hid (u64_andNot_nat x m hx hm)
  go_enter Tryd.func78, Tryd.ntmps78
  go_wp2
  go_ret
  exact ⟨ret1 (int_eq e.out), rfl⟩

theorem field_ok (x a k : Nat) (hx : x < 18446744073709551616) (h1 : 1 ≤ k) (h2 : k + a ≤ 64) (w : World) : Calls Tryd.prog 39 #[.int .u64 x, .int .i64 a, .int .i64 k] w fun e w' => e = .returned (.tuple #[.int .u64 (x / 2 ^ a % 2 ^ k : Nat), .int .i64 0]) ∧ w = w' := by
  have e := Lib.hid (and_mask_div x a k)
  have hm := mask_lt a k h2
  obtain ⟨M, hM⟩ : ∃ M, (2 ^ k - 1) * 2 ^ a = M := ⟨_, rfl⟩
  have f := fieldMask_ok a k h1 h2 w
  rw [hM] at f e hm
  clear hM
  have F := Lib.hid f
  clear f
  go_enter Tryd.func39, Tryd.ntmps39
  go_wp2_with (first | (go_at_call 55; refine F.out.mono ?_; rintro e w' ⟨rfl, rfl⟩) | (go_at_call 56; refine (of_any x M hx hm _).mono ?_; rintro e w' ⟨rfl, rfl⟩))
  go_ret2
  exact ⟨by simp [← e.out], rfl⟩

theorem mask_down (a k : Nat) : (2 ^ k - 1) * 2 ^ a / 2 ^ a = 2 ^ k - 1 := Nat.mul_div_cancel _ (Nat.two_pow_pos a)

theorem with_ok (x a k v : Nat) (hx : x < 18446744073709551616) (h1 : 1 ≤ k) (h2 : k + a ≤ 64) (hv : v < 2 ^ k) (w : World) : Calls Tryd.prog 47 #[.int .u64 x, .int .i64 a, .int .i64 k, .int .u64 v] w fun e w' => e = .returned (.tuple #[.int .u64 (x - x / 2 ^ a % 2 ^ k * 2 ^ a + v * 2 ^ a : Nat), .int .i64 0]) ∧ ∃ n, w' = w.drewN n := by
  have e := Lib.hid (with_val x a k v hx h2 hv)
  have hd := mask_down a k
  have hm := mask_lt a k h2
  have hq : 1 ≤ 2 ^ k := Nat.one_le_two_pow
  have f := fieldMask_ok a k h1 h2 w
  obtain ⟨M, hM⟩ : ∃ M, (2 ^ k - 1) * 2 ^ a = M := ⟨_, rfl⟩
  rw [hM] at f hm hd e
  have hf : (M : Int) / 2 ^ a = ((2 ^ k - 1 : Nat) : Int) := by
    have e : (M : Int) / 2 ^ a = ((M / 2 ^ a : Nat) : Int) := by simp
    rw [e, hd]
  clear hM hd
  have F := Lib.hid f
  have HF := Lib.hid hf
  clear f hf
  go_enter Tryd.func47, Tryd.ntmps47
  go_wp2_with (first | (go_at_call 55; refine F.out.mono ?_; rintro e w' ⟨rfl, rfl⟩) | (go_at_call 77; refine (within_u64 true (by rw [HF.out]; simp; omega)).mono ?_; rintro e w' ⟨rfl, rfl⟩))
  go_quiet ((go_at_call 78; exact quiet_same (without_any x M hx hm _)))
  go_wp2
  go_ret2
  refine ⟨ret1 (congrArg Value.tuple ?_), _, rfl⟩
  have eo := u64_or_nat (x &&& (18446744073709551615 - M)) (v * 2 ^ a % 18446744073709551616) (Nat.lt_of_le_of_lt Nat.and_le_left hx) (Nat.mod_lt _ (by decide))
  have ew : IntKind.u64.wrap (↑v * 2 ^ a) = ((v * 2 ^ a % 18446744073709551616 : Nat) : Int) := by rw [IntKind.wrap_u64]; simp
  rw [e.out] at eo
  rw [← ew] at eo
  rw [← eo]
  rfl

end Go.Proofs.YtnoefalgmekjbaaDoor


/- Equal arrays of numbers. Over any program. -/
namespace Go.Proofs.YtnoefalgmekjbaaDoor
set_option linter.unusedVariables false
set_option linter.unusedSimpArgs false
open Go.RowKit Go.Shelf
section
variable {P : Program} {w : World} {n : Nat} {D : List Deferred} {M : Slots} {o : Oper} {x y : Operand} {t u : TypeId}
end
end Go.Proofs.YtnoefalgmekjbaaDoor


/- extents: a map's words. extents: Words. extents: Of. -/
namespace Go.Proofs.YtnoefalgmekjbaaDoor
set_option linter.unusedVariables false
set_option linter.unusedSimpArgs false
open Go.RowKit Go.Shelf
theorem Below.drewN {B : Nat} {a w : World} (h : Below B a w) (n : Nat) : Below B a (w.drewN n) := ⟨h.os, h.tape, h.output, h.size, h.block⟩

/-- What the package's variable holds: the widths of an extent's fields. -/
structure Start (W : World) : Prop where
  c0 : W.cell? ⟨0, 0, none⟩ = some (.int .i64 16)
  c1 : W.cell? ⟨0, 1, none⟩ = some (.int .i64 24)
  c2 : W.cell? ⟨0, 2, none⟩ = some (.int .i64 16)
  pos : 0 < W.heap.size
theorem Start.up {w w' : World} (h : Start w) (b : Below w.heap.size w w') : Start w' := ⟨cell_up h.c0 b, cell_up h.c1 b, cell_up h.c2 b, Nat.lt_of_lt_of_le h.pos b.size⟩
theorem Start.gr {w w' : World} {g : Nat} (h : Start w) (b : w.grownBy w' (some g)) (hne : 0 < g) : Start w' := ⟨cell_gr h.c0 b (by omega), cell_gr h.c1 b (by omega), cell_gr h.c2 b (by omega), Nat.lt_of_lt_of_le h.pos b.size⟩
theorem Start.cells {w : World} (h : Start w) : Cells w ⟨0, 0, none⟩ [.int .i64 16, .int .i64 24, .int .i64 16] := fun j u hu => by
  rw [Addr.add_lit]
  match j, hu with
  | 0, hu => cases hu; exact h.c0
  | 1, hu => cases hu; exact h.c1
  | 2, hu => cases hu; exact h.c2
theorem with_a (f : Nat) (w : World) (hf : f < 65536) : Calls Tryd.prog 47 #[.int .u64 0, .int .i64 0, .int .i64 16, .int .u64 (f : Int)] w fun e w' => e = .returned (.tuple #[.int .u64 (f : Int), .int .i64 0]) ∧ Below w.heap.size w w' :=
  (with_ok 0 0 16 f (by omega) (by omega) (by omega) (by omega) w).mono fun e w' ⟨h, n, hw⟩ => by
    subst hw
    refine ⟨?_, Below.drewN (Below.refl _ _) n⟩
    rw [h]
    simp
theorem with_b (x d : Nat) (w : World) (hx : x < 65536) (hd : d < 16777216) : Calls Tryd.prog 47 #[.int .u64 (x : Int), .int .i64 16, .int .i64 24, .int .u64 (d : Int)] w fun e w' => e = .returned (.tuple #[.int .u64 ((x + d * 65536 : Nat) : Int), .int .i64 0]) ∧ Below w.heap.size w w' :=
  (with_ok x 16 24 d (by omega) (by omega) (by omega) (by omega) w).mono fun e w' ⟨h, n, hw⟩ => by
    subst hw
    refine ⟨?_, Below.drewN (Below.refl _ _) n⟩
    rw [h, show x / 2 ^ 16 % 2 ^ 24 = 0 by omega]
    simp
theorem with_c (x k : Nat) (w : World) (hx : x < 1099511627776) (hk : k < 65536) : Calls Tryd.prog 47 #[.int .u64 (x : Int), .int .i64 40, .int .i64 16, .int .u64 (k : Int)] w fun e w' => e = .returned (.tuple #[.int .u64 ((x + k * 1099511627776 : Nat) : Int), .int .i64 0]) ∧ Below w.heap.size w w' :=
  (with_ok x 40 16 k (by omega) (by omega) (by omega) (by omega) w).mono fun e w' ⟨h, n, hw⟩ => by
    subst hw
    refine ⟨?_, Below.drewN (Below.refl _ _) n⟩
    rw [h, show x / 2 ^ 40 % 2 ^ 16 = 0 by omega]
    simp
/-- An extent's word. -/
def packN (f d k : Nat) : Nat := f + d * 65536 + k * 1099511627776
set_option maxRecDepth 100000 in
set_option maxHeartbeats 8000000 in
theorem pack_any (f d k g : Nat) (w : World) (hs : Start w) (hr : RowL w g 3 [.int .i64 (f : Int), .int .i64 (d : Int), .int .i64 (k : Int)]) (hb : f < 65536 ∧ d < 16777216 ∧ k < 65536) : Calls Tryd.prog 90 #[.slice (some ⟨g, 0, none⟩) 3 3] w fun e w' => e = .returned (.int .u64 (packN f d k : Int)) ∧ Below w.heap.size w w' := by
  have q := Below.refl w.heap.size w
  obtain ⟨c0, c1, c2, hp⟩ := hs
  refine X.fn Tryd.func90 rfl (n := 32) rfl rfl ?_
  refine CC.seq ?_
  refine CC.region ?_
  refine LL.val (R.assign rfl rfl) rfl rfl rfl ?_
  refine LL.nilS ?_
  refine CC.seq ?_
  refine CC.region ?_
  refine LL.val (R.assign rfl rfl) rfl rfl rfl ?_
  refine LL.val (R.assign rfl rfl) rfl rfl rfl ?_
  refine LL.nilS ?_
  refine CC.seq ?_
  refine CC.seq ?_
  refine CC.region ?_
  refine LL.val (R.move rfl rfl) rfl rfl rfl ?_
  refine LL.val (R.len rfl rfl rfl rfl) rfl rfl rfl ?_
  refine LL.val (R.move rfl rfl) rfl rfl rfl ?_
  refine LL.nilS ?_
  refine CC.block ?_
  refine CC.loopN 6 ?_
  refine RN.step ?_
  refine CC.seq ?_
  refine CC.region ?_
  refine LL.val (R.ltT rfl rfl rfl (by omega)) rfl rfl rfl ?_
  refine LL.nilS ?_
  refine CC.seq ?_
  refine CC.yes rfl ?_
  refine CC.skip ?_
  refine EE.thenN ?_
  refine CC.seq ?_
  refine CC.block ?_
  refine CC.seq ?_
  refine CC.region ?_
  refine LL.val (R.move rfl rfl) rfl rfl rfl ?_
  refine LL.val (R.index rfl rfl rfl (I.ixS1c rfl rfl (by omega))) rfl rfl rfl ?_
  refine LL.val (R.load rfl rfl (I.ld1 rfl (RowL.cell hr rfl))) rfl rfl rfl ?_
  refine LL.val (R.assign rfl rfl) rfl rfl rfl ?_
  refine LL.val (R.assign rfl rfl) rfl rfl rfl ?_
  refine LL.nilS ?_
  refine CC.seq ?_
  refine CC.region ?_
  refine LL.val (R.move rfl rfl) rfl rfl rfl ?_
  refine LL.val (R.move rfl rfl) rfl rfl rfl ?_
  refine LL.val (R.move rfl rfl) rfl rfl rfl ?_
  refine LL.val (R.index rfl rfl rfl (I.ixA1c rfl rfl (by first | omega | decide))) rfl rfl rfl ?_
  refine LL.val (R.load rfl rfl (I.ld1 rfl (by assumption))) rfl rfl rfl ?_
  refine LL.val (R.move rfl rfl) rfl rfl rfl ?_
  refine LL.val (R.convI rfl rfl rfl rfl (wrapU (by omega) (by omega))) rfl rfl rfl ?_
  refine LL.call (R.call rfl rfl rfl) rfl rfl rfl (with_a _ _ (by first | assumption | omega)) ?_
  rintro e W2 ⟨rfl, b1⟩
  refine ⟨_, rfl, ?_⟩
  have zb1 := b1.size
  replace hr := hr.up b1
  replace q := q.trans (b1.mono q.size)
  replace c0 := cell_up c0 b1
  replace c1 := cell_up c1 b1
  replace c2 := cell_up c2 b1
  refine LL.val (R.move rfl rfl) rfl rfl rfl ?_
  refine LL.val (R.extract rfl rfl rfl) rfl rfl rfl ?_
  refine LL.val (R.extract rfl rfl rfl) rfl rfl rfl ?_
  refine LL.val (R.assign rfl rfl) rfl rfl rfl ?_
  refine LL.nilS ?_
  refine CC.region ?_
  refine LL.val (R.move rfl rfl) rfl rfl rfl ?_
  refine LL.val (R.move rfl rfl) rfl rfl rfl ?_
  refine LL.val (R.index rfl rfl rfl (I.ixA1c rfl rfl (by first | omega | decide))) rfl rfl rfl ?_
  refine LL.val (R.load rfl rfl (I.ld1 rfl (by assumption))) rfl rfl rfl ?_
  refine LL.val (R.addIz (z := 16) rfl rfl rfl (by decide) (by decide)) rfl rfl rfl ?_
  refine LL.val (R.assign rfl rfl) rfl rfl rfl ?_
  refine LL.nil ?_
  refine EE.inN ?_
  refine EE.thenN ?_
  refine CC.region ?_
  refine LL.val (R.addIz (z := 1) rfl rfl rfl (by decide) (by decide)) rfl rfl rfl ?_
  refine LL.val (R.move rfl rfl) rfl rfl rfl ?_
  refine LL.nil ?_
  refine EE.again ?_
  refine RN.step ?_
  refine CC.seq ?_
  refine CC.region ?_
  refine LL.val (R.ltT rfl rfl rfl (by omega)) rfl rfl rfl ?_
  refine LL.nilS ?_
  refine CC.seq ?_
  refine CC.yes rfl ?_
  refine CC.skip ?_
  refine EE.thenN ?_
  refine CC.seq ?_
  refine CC.block ?_
  refine CC.seq ?_
  refine CC.region ?_
  refine LL.val (R.move rfl rfl) rfl rfl rfl ?_
  refine LL.val (R.index rfl rfl rfl (I.ixS1c rfl rfl (by omega))) rfl rfl rfl ?_
  refine LL.val (R.load rfl rfl (I.ld1 rfl (RowL.cell hr rfl))) rfl rfl rfl ?_
  refine LL.val (R.assign rfl rfl) rfl rfl rfl ?_
  refine LL.val (R.assign rfl rfl) rfl rfl rfl ?_
  refine LL.nilS ?_
  refine CC.seq ?_
  refine CC.region ?_
  refine LL.val (R.move rfl rfl) rfl rfl rfl ?_
  refine LL.val (R.move rfl rfl) rfl rfl rfl ?_
  refine LL.val (R.move rfl rfl) rfl rfl rfl ?_
  refine LL.val (R.index rfl rfl rfl (I.ixA1c rfl rfl (by first | omega | decide))) rfl rfl rfl ?_
  refine LL.val (R.load rfl rfl (I.ld1 rfl (by assumption))) rfl rfl rfl ?_
  refine LL.val (R.move rfl rfl) rfl rfl rfl ?_
  refine LL.val (R.convI rfl rfl rfl rfl (wrapU (by omega) (by omega))) rfl rfl rfl ?_
  refine LL.call (R.call rfl rfl rfl) rfl rfl rfl (with_b _ _ _ (by first | assumption | omega) (by first | assumption | omega)) ?_
  rintro e W5 ⟨rfl, b4⟩
  refine ⟨_, rfl, ?_⟩
  have zb4 := b4.size
  replace b1 := b1.trans (b4.mono b1.size)
  replace hr := hr.up b4
  replace q := q.trans (b4.mono q.size)
  replace c0 := cell_up c0 b4
  replace c1 := cell_up c1 b4
  replace c2 := cell_up c2 b4
  refine LL.val (R.move rfl rfl) rfl rfl rfl ?_
  refine LL.val (R.extract rfl rfl rfl) rfl rfl rfl ?_
  refine LL.val (R.extract rfl rfl rfl) rfl rfl rfl ?_
  refine LL.val (R.assign rfl rfl) rfl rfl rfl ?_
  refine LL.nilS ?_
  refine CC.region ?_
  refine LL.val (R.move rfl rfl) rfl rfl rfl ?_
  refine LL.val (R.move rfl rfl) rfl rfl rfl ?_
  refine LL.val (R.index rfl rfl rfl (I.ixA1c rfl rfl (by first | omega | decide))) rfl rfl rfl ?_
  refine LL.val (R.load rfl rfl (I.ld1 rfl (by assumption))) rfl rfl rfl ?_
  refine LL.val (R.addIz (z := 40) rfl rfl rfl (by decide) (by decide)) rfl rfl rfl ?_
  refine LL.val (R.assign rfl rfl) rfl rfl rfl ?_
  refine LL.nil ?_
  refine EE.inN ?_
  refine EE.thenN ?_
  refine CC.region ?_
  refine LL.val (R.addIz (z := 2) rfl rfl rfl (by decide) (by decide)) rfl rfl rfl ?_
  refine LL.val (R.move rfl rfl) rfl rfl rfl ?_
  refine LL.nil ?_
  refine EE.again ?_
  refine RN.step ?_
  refine CC.seq ?_
  refine CC.region ?_
  refine LL.val (R.ltT rfl rfl rfl (by omega)) rfl rfl rfl ?_
  refine LL.nilS ?_
  refine CC.seq ?_
  refine CC.yes rfl ?_
  refine CC.skip ?_
  refine EE.thenN ?_
  refine CC.seq ?_
  refine CC.block ?_
  refine CC.seq ?_
  refine CC.region ?_
  refine LL.val (R.move rfl rfl) rfl rfl rfl ?_
  refine LL.val (R.index rfl rfl rfl (I.ixS1c rfl rfl (by omega))) rfl rfl rfl ?_
  refine LL.val (R.load rfl rfl (I.ld1 rfl (RowL.cell hr rfl))) rfl rfl rfl ?_
  refine LL.val (R.assign rfl rfl) rfl rfl rfl ?_
  refine LL.val (R.assign rfl rfl) rfl rfl rfl ?_
  refine LL.nilS ?_
  refine CC.seq ?_
  refine CC.region ?_
  refine LL.val (R.move rfl rfl) rfl rfl rfl ?_
  refine LL.val (R.move rfl rfl) rfl rfl rfl ?_
  refine LL.val (R.move rfl rfl) rfl rfl rfl ?_
  refine LL.val (R.index rfl rfl rfl (I.ixA1c rfl rfl (by first | omega | decide))) rfl rfl rfl ?_
  refine LL.val (R.load rfl rfl (I.ld1 rfl (by assumption))) rfl rfl rfl ?_
  refine LL.val (R.move rfl rfl) rfl rfl rfl ?_
  refine LL.val (R.convI rfl rfl rfl rfl (wrapU (by omega) (by omega))) rfl rfl rfl ?_
  refine LL.call (R.call rfl rfl rfl) rfl rfl rfl (with_c _ _ _ (by first | assumption | omega) (by first | assumption | omega)) ?_
  rintro e W8 ⟨rfl, b7⟩
  refine ⟨_, rfl, ?_⟩
  have zb7 := b7.size
  replace b4 := b4.trans (b7.mono b4.size)
  replace b1 := b1.trans (b7.mono b1.size)
  replace hr := hr.up b7
  replace q := q.trans (b7.mono q.size)
  replace c0 := cell_up c0 b7
  replace c1 := cell_up c1 b7
  replace c2 := cell_up c2 b7
  refine LL.val (R.move rfl rfl) rfl rfl rfl ?_
  refine LL.val (R.extract rfl rfl rfl) rfl rfl rfl ?_
  refine LL.val (R.extract rfl rfl rfl) rfl rfl rfl ?_
  refine LL.val (R.assign rfl rfl) rfl rfl rfl ?_
  refine LL.nilS ?_
  refine CC.region ?_
  refine LL.val (R.move rfl rfl) rfl rfl rfl ?_
  refine LL.val (R.move rfl rfl) rfl rfl rfl ?_
  refine LL.val (R.index rfl rfl rfl (I.ixA1c rfl rfl (by first | omega | decide))) rfl rfl rfl ?_
  refine LL.val (R.load rfl rfl (I.ld1 rfl (by assumption))) rfl rfl rfl ?_
  refine LL.val (R.addIz (z := 56) rfl rfl rfl (by decide) (by decide)) rfl rfl rfl ?_
  refine LL.val (R.assign rfl rfl) rfl rfl rfl ?_
  refine LL.nil ?_
  refine EE.inN ?_
  refine EE.thenN ?_
  refine CC.region ?_
  refine LL.val (R.addIz (z := 3) rfl rfl rfl (by decide) (by decide)) rfl rfl rfl ?_
  refine LL.val (R.move rfl rfl) rfl rfl rfl ?_
  refine LL.nil ?_
  refine EE.again ?_
  refine RN.step ?_
  refine CC.seq ?_
  refine CC.region ?_
  refine LL.val (R.ltF rfl rfl rfl (by omega)) rfl rfl rfl ?_
  refine LL.nilS ?_
  refine CC.seq ?_
  refine CC.no rfl ?_
  refine CC.exit ?_
  refine EE.thenX ?_
  refine EE.thenX ?_
  refine EE.inX ?_
  refine EE.thenN ?_
  refine CC.seq ?_
  refine CC.region ?_
  refine LL.val (R.move rfl rfl) rfl rfl rfl ?_
  refine LL.val (R.assign rfl rfl) rfl rfl rfl ?_
  refine LL.nilS ?_
  refine CC.ret ?_
  refine EE.ret _ rfl rfl ?_
  exact ⟨rfl, q⟩
--C words_Field | {1=0} fld_a _ @w @p | S
theorem fld_a (x : Nat) (w : World) (hx : x < 18446744073709551616) : Calls Tryd.prog 39 #[.int .u64 (x : Int), .int .i64 0, .int .i64 16] w fun e w' => e = .returned (.tuple #[.int .u64 ((x % 65536 : Nat) : Int), .int .i64 0]) ∧ w = w' := by
  have h := field_ok x 0 16 hx (by omega) (by omega) w
  rw [show x / 2 ^ 0 % 2 ^ 16 = x % 65536 by simp] at h
  exact h
/-- The extent that a word tells. -/
def unpE (x : Nat) : Ex := (((x % 65536 : Nat) : Int), ((x / 65536 % 16777216 : Nat) : Int), ((x / 1099511627776 % 65536 : Nat) : Int))
/-- A map's words. -/
def pkZ (x : Ex) : Int := x.1 + x.2.1 * 65536 + x.2.2 * 1099511627776
def wrdZ (l : List Ex) : List Int := l.map pkZ ++ List.replicate (10 - l.length) 0
theorem wrdZ_len {l : List Ex} (h : l.length ≤ 10) : (wrdZ l).length = 10 := by simp [wrdZ]; omega
theorem wrdZ_set {l : List Ex} {i : Nat} {x : Ex} (hl : l.length ≤ 10) (hx : l[i]? = some x) : (wrdZ (l.take i)).set i (pkZ x) = wrdZ (l.take (i + 1)) := by
  have hi := (List.getElem?_eq_some_iff.1 hx).1
  unfold wrdZ
  have e1 : (l.take i).length = i := by simp; omega
  have e2 : (l.take (i + 1)).length = i + 1 := by simp; omega
  rw [e1, e2, List.set_append_right _ _ (by simp; omega), List.length_map, e1, Nat.sub_self, show 10 - i = (10 - (i + 1)) + 1 by omega, List.replicate_succ, List.set_cons_zero, List.take_add_one, hx]
  simp
theorem pkZ_nat {x : Ex} (h : mayE x) : ∃ f d k : Nat, x = ((f : Int), (d : Int), (k : Int)) ∧ f < 65536 ∧ d < 16777216 ∧ k < 65536 := by
  unfold mayE at h
  refine ⟨x.1.toNat, x.2.1.toNat, x.2.2.toNat, ?_, by omega, by omega, by omega⟩
  obtain ⟨a, b, c⟩ := x
  simp only at h
  refine Prod.ext ?_ (Prod.ext ?_ ?_) <;> simp only <;> omega
abbrev wdV (ws : List Int) : Value := .agg (intsZ .u64 ws).toArray
set_option maxRecDepth 100000 in
set_option maxHeartbeats 8000000 in
theorem words_T (l : List Ex) (v : Value) (w : World) (hs : Start w) (hv : ReadsT eE 3 w v l) (h : vL l) : Calls Tryd.prog 81 #[v] w fun e w' => e = .returned (.tuple #[wdV (wrdZ l), .int .i64 0]) ∧ Below w.heap.size w w' := by
  have q := Below.refl w.heap.size w
  have hlen : l.length ≤ 1048576 := by have := h.1; omega
  obtain ⟨N, hN⟩ : ∃ N, l.length = N := ⟨_, rfl⟩
  have hN10 : N ≤ 10 := by have := h.1; omega
  obtain ⟨a, cap, rfl, hcap⟩ := hv.form hN
  have hvF : ∀ W, Below w.heap.size w W → ReadsT eE 3 W (.slice a N cap) l := fun W hb => hv.up hb
  have hp := hs.pos
  have hsF : ∀ W, Below w.heap.size w W → Start W := fun W hb => hs.up hb
  clear hs
  refine X.fn Tryd.func81 rfl (n := 30) rfl rfl ?_
  refine CC.seq ?_
  refine CC.region ?_
  refine LL.alloc (intsZ .u64 (List.replicate 10 0)) rfl rfl rfl rfl rfl ?_
  intro W2 g3 eg3 r4 z5 b1
  replace q := q.trans (b1.mono q.size)
  replace hv := hv.up b1
  refine LL.val (R.assign rfl rfl) rfl rfl rfl ?_
  refine LL.nilS ?_
  refine CC.seq ?_
  refine CC.region ?_
  have l6 := r4.lt
  refine LL.alloc (intsZ .u64 (List.replicate 10 0)) rfl rfl rfl rfl rfl ?_
  intro W8 g9 eg9 r10 z11 b7
  replace r4 := r4.up b7
  replace b1 := b1.trans (b7.mono b1.size)
  replace q := q.trans (b7.mono q.size)
  replace hv := hv.up b7
  refine LL.nilS ?_
  refine CC.seq ?_
  refine CC.seq ?_
  refine CC.region ?_
  refine LL.val (R.move rfl rfl) rfl rfl rfl ?_
  refine LL.call (R.call rfl rfl rfl) rfl rfl rfl (check_T _ _ _ (by first | assumption | omega) (by first | assumption | omega) (by first | assumption | omega)) ?_
  rintro e W13 ⟨rfl, b12⟩
  refine ⟨_, rfl, ?_⟩
  have zb12 := b12.size
  replace r10 := r10.up b12
  replace b7 := b7.trans (b12.mono b7.size)
  replace r4 := r4.up b12
  replace b1 := b1.trans (b12.mono b1.size)
  replace q := q.trans (b12.mono q.size)
  replace hv := hv.up b12
  refine LL.val (R.neF rfl rfl rfl (by omega)) rfl rfl rfl ?_
  refine LL.nilS ?_
  refine CC.no rfl ?_
  refine CC.skip ?_
  refine EE.thenN ?_
  refine CC.seq ?_
  refine CC.seq ?_
  refine CC.region ?_
  refine LL.val (R.move rfl rfl) rfl rfl rfl ?_
  refine LL.val (R.len rfl rfl rfl rfl) rfl rfl rfl ?_
  refine LL.val (R.move rfl rfl) rfl rfl rfl ?_
  refine LL.nilS ?_
  refine CC.block ?_
  have yq := q.size
  have rc : RowL W13 g9 74 (intsZ .u64 (wrdZ (l.take 0))) := r10
  refine CC.loop (α := Nat) (fun i => [(2, .pointer (some ⟨g3, 0, none⟩)), (4, .pointer (some ⟨g9, 0, none⟩)), (11, .slice a N cap), (12, .int .i64 (N : Int)), (13, .int .i64 (i : Int))]) (fun i W => i ≤ N ∧ Below w.heap.size w W ∧ g9 < W.heap.size ∧ RowL W g3 74 (intsZ .u64 (List.replicate 10 0)) ∧ RowL W g9 74 (intsZ .u64 (wrdZ (l.take i)))) (fun i => N - i) 0 ⟨rfl, rfl, rfl, rfl, rfl, trivial⟩ ⟨by omega, q, rc.lt, r4, rc⟩ ?_
  clear q r4 r10 rc hv
  rintro i W ⟨hi, q, l9, r4, r10⟩
  show CC none Tryd.prog _ 30 [] (sl [(2, .pointer (some ⟨g3, 0, none⟩)), (4, .pointer (some ⟨g9, 0, none⟩)), (11, .slice a N cap), (12, .int .i64 (N : Int)), (13, .int .i64 (i : Int))]) _ W
  have yq := q.size
  have hwl : (wrdZ (l.take i)).length = 10 := wrdZ_len (by simp; omega)
  by_cases hlt : i < N
  case neg =>
    obtain rfl : i = N := by omega
    rw [show l.take i = l from List.take_of_length_le (by omega)] at r10 hwl
    refine CC.seq ?_
    refine CC.region ?_
    refine LL.val (R.ltF rfl rfl rfl (by omega)) rfl rfl rfl ?_
    refine LL.nilS ?_
    refine CC.seq ?_
    refine CC.no rfl ?_
    refine CC.exit ?_
    refine EE.thenX ?_
    refine EE.thenX ?_
    refine EE.inX ?_
    refine EE.thenN ?_
    refine CC.seq ?_
    refine CC.region ?_
    refine LL.val (R.loadZ rfl rfl r10 rfl rfl (by first | assumption | exact List.length_replicate | exact plL_len _ | exact plOf_len _ | simp)) rfl rfl rfl ?_
    refine LL.storeAZ rfl rfl rfl rfl (by first | assumption | exact List.length_replicate | exact plL_len _ | exact plOf_len _ | simp) r4 (by first | (rw [List.length_map]; exact (by first | assumption | exact List.length_replicate | exact plL_len _ | exact plOf_len _ | simp)) | simp) rfl rfl ?_
    intro Wa2 ra3 ba1 za4
    have hlba1 := r4.lt
    clear r4
    replace q := q.grown ba1 q.size (by rintro k ⟨⟩; omega)
    replace r10 := r10.gr ba1 (by have := r10.lt; omega)
    have r4 := ra3
    clear ra3
    refine LL.val (R.assign rfl rfl) rfl rfl rfl ?_
    refine LL.nilS ?_
    refine CC.ret ?_
    refine EE.ret2 rfl ⟨_, rfl, lvZ (by assumption) rfl rfl (by first | assumption | exact List.length_replicate | exact plL_len _ | exact plOf_len _ | simp)⟩ rfl ?_
    exact ⟨rfl, q⟩
  obtain ⟨x, hx⟩ : ∃ x, l[i]? = some x := ⟨_, List.getElem?_eq_getElem (by omega)⟩
  have hmx := h.2.1 x (List.mem_of_getElem? hx)
  obtain ⟨bk, off, rfl, hbk, hcs⟩ := (hvF W q).get eEnc hx
  have hset := wrdZ_set h.1 hx
  obtain ⟨f, d, k, rfl, hf, hd, hk⟩ := pkZ_nat hmx
  have hpk : pkZ ((f : Int), (d : Int), (k : Int)) = ((packN f d k : Nat) : Int) := by unfold pkZ packN; simp only; omega
  rw [hpk] at hset
  have hcs : Cells W ⟨bk, off + i * 3, none⟩ [.int .i64 (f : Int), .int .i64 (d : Int), .int .i64 (k : Int)] := hcs
  have hs := hsF W q
  have hb3 : f < 65536 ∧ d < 16777216 ∧ k < 65536 := ⟨hf, hd, hk⟩
  have hp2 := hs.pos
  refine CC.seq ?_
  refine CC.region ?_
  refine LL.val (R.ltT rfl rfl rfl (by omega)) rfl rfl rfl ?_
  refine LL.nilS ?_
  refine CC.seq ?_
  refine CC.yes rfl ?_
  refine CC.skip ?_
  refine EE.thenN ?_
  refine CC.seq ?_
  refine CC.block ?_
  refine CC.seq ?_
  refine CC.region ?_
  refine LL.val (R.move rfl rfl) rfl rfl rfl ?_
  refine LL.val (R.index rfl rfl rfl (I.ixS rfl (by omega))) rfl rfl rfl ?_
  refine LL.val (R.load rfl rfl (I.ldNc (by assumption) rfl rfl)) rfl rfl rfl ?_
  have lb1 := r4.lt
  have lb2 := r10.lt
  refine LL.alloc ([Value.int IntKind.i64 0, Value.int IntKind.i64 0, Value.int IntKind.i64 0]) rfl rfl rfl rfl rfl ?_
  intro Wb4 gb5 egb5 rb6 zb7 bb3
  replace q := q.trans (bb3.mono q.size)
  replace r4 := r4.up bb3
  replace r10 := r10.up bb3
  replace hcs := hcs.up bb3
  replace hs := hs.up bb3
  refine LL.val (R.assign rfl rfl) rfl rfl rfl ?_
  refine LL.storeN (vs := [Value.int IntKind.i64 ↑f, Value.int IntKind.i64 ↑d, Value.int IntKind.i64 ↑k]) rfl rfl rfl rfl rb6 (by exact Nat.le_of_ble_eq_true rfl) (ones_of rfl) rfl rfl ?_
  intro Wb9 rb10 bb8 zb11
  have hlbb8 := rb6.lt
  replace rb10 : RowL Wb9 _ 98 [Value.int IntKind.i64 ↑f, Value.int IntKind.i64 ↑d, Value.int IntKind.i64 ↑k] := rb10
  clear rb6
  replace bb3 := bb3.grown bb8 bb3.size (by rintro k ⟨⟩; omega)
  replace q := q.grown bb8 q.size (by rintro k ⟨⟩; omega)
  replace r4 := r4.gr bb8 (by have := r4.lt; omega)
  replace r10 := r10.gr bb8 (by have := r10.lt; omega)
  replace hcs := hcs.gr bb8 (by omega)
  replace hs := hs.gr bb8 (by omega)
  have rb6 := rb10
  clear rb10
  refine LL.nilS ?_
  refine CC.region ?_
  refine LL.val (R.move rfl rfl) rfl rfl rfl ?_
  refine LL.val (R.field rfl rfl (I.fld rfl)) rfl rfl rfl ?_
  refine LL.val (R.load rfl rfl (I.ld1 rfl (RowL.cell rb6 rfl))) rfl rfl rfl ?_
  refine LL.val (R.field rfl rfl (I.fld rfl)) rfl rfl rfl ?_
  refine LL.val (R.load rfl rfl (I.ld1 rfl (RowL.cell rb6 rfl))) rfl rfl rfl ?_
  refine LL.val (R.field rfl rfl (I.fld rfl)) rfl rfl rfl ?_
  refine LL.val (R.load rfl rfl (I.ld1 rfl (RowL.cell rb6 rfl))) rfl rfl rfl ?_
  have lb12 := r4.lt
  have lb13 := r10.lt
  have lb14 := rb6.lt
  refine LL.lit (e := 3) [Value.int IntKind.i64 ↑f, Value.int IntKind.i64 ↑d, Value.int IntKind.i64 ↑k] 3 rfl rfl (fun _ => by kernel_rfl) rfl rfl ?_
  intro Wb16 gb17 egb17 rb18 zb19 bb15
  replace bb3 := bb3.trans (bb15.mono bb3.size)
  replace q := q.trans (bb15.mono q.size)
  replace r4 := r4.up bb15
  replace r10 := r10.up bb15
  replace hcs := hcs.up bb15
  replace hs := hs.up bb15
  replace rb6 := rb6.up bb15
  refine LL.call (R.call rfl rfl rfl) rfl rfl rfl (pack_any _ _ _ _ _ (by first | assumption | omega) (by first | assumption | omega) (by first | assumption | omega)) ?_
  rintro e Wb21 ⟨rfl, bb20⟩
  refine ⟨_, rfl, ?_⟩
  have zbb20 := bb20.size
  replace rb18 := rb18.up bb20
  replace bb15 := bb15.trans (bb20.mono bb15.size)
  replace bb3 := bb3.trans (bb20.mono bb3.size)
  replace q := q.trans (bb20.mono q.size)
  replace r4 := r4.up bb20
  replace r10 := r10.up bb20
  replace hcs := hcs.up bb20
  replace hs := hs.up bb20
  replace rb6 := rb6.up bb20
  refine LL.val (R.index rfl rfl rfl (I.ixA1 rfl (by omega))) rfl rfl rfl ?_
  refine LL.storeZ rfl rfl (Nat.zero_add _) rfl rfl r10 (by first | omega | (simp only [List.length_set, List.length_replicate]; omega) | (rw [plOf_len]; omega)) rfl rfl ?_
  intro Wb24 rb25 bb23 zb26
  have hlbb23 := r10.lt
  clear r10
  replace rb18 := rb18.gr bb23 (by have := rb18.lt; omega)
  replace q := q.grown bb23 q.size (by rintro k ⟨⟩; omega)
  replace r4 := r4.gr bb23 (by have := r4.lt; omega)
  replace hs := hs.gr bb23 (by omega)
  replace rb6 := rb6.gr bb23 (by have := rb6.lt; omega)
  have r10 := rb25
  clear rb25
  refine LL.nil ?_
  refine EE.inN ?_
  refine EE.thenN ?_
  refine CC.region ?_
  refine LL.val (R.addNc rfl rfl rfl rfl (by omega)) rfl rfl rfl ?_
  refine LL.val (R.move rfl rfl) rfl rfl rfl ?_
  refine LL.nil ?_
  exact EE.round (i + 1) ⟨rfl, rfl, rfl, rfl, rfl, trivial⟩ ⟨by omega, q, by omega, r4, by rw [← hset]; exact r10⟩ (by omega)
end Go.Proofs.YtnoefalgmekjbaaDoor


/- extents: equal lists; the statements' small functions. extents: is a block in one of some runs; the rows of the statements. -/
namespace Go.Proofs.YtnoefalgmekjbaaDoor
set_option linter.unusedVariables false
set_option linter.unusedSimpArgs false
open Go.RowKit Go.Shelf
set_option maxRecDepth 100000 in
set_option maxHeartbeats 8000000 in
theorem slist_any (va vb : Value) (xs ys : List Ex) (w : World) (ha : ReadsT eE 3 w va xs) (hb : ReadsT eE 3 w vb ys) (hlx : xs.length ≤ 1048576) (hly : ys.length ≤ 1048576) :
    Calls Tryd.prog 42 #[va, vb] w fun e w' => e = .returned (.bool (decide (xs = ys))) ∧ Below w.heap.size w w' := by
  have q := Below.refl w.heap.size w
  obtain ⟨N, hN⟩ : ∃ N, xs.length = N := ⟨_, rfl⟩
  obtain ⟨N2, hN2⟩ : ∃ N, ys.length = N := ⟨_, rfl⟩
  obtain ⟨a, cap, rfl, hc⟩ := ha.form hN
  obtain ⟨a2, cap2, rfl, hc2⟩ := hb.form hN2
  rw [hN] at hlx
  rw [hN2] at hly
  have haF : ∀ W, Below w.heap.size w W → ReadsT eE 3 W (.slice a N cap) xs := fun W h => ha.up h
  have hbF : ∀ W, Below w.heap.size w W → ReadsT eE 3 W (.slice a2 N2 cap2) ys := fun W h => hb.up h
  clear ha hb
  by_cases hne : N = N2
  case neg =>
    rw [decide_eq_false (fun e => hne (by rw [← hN, ← hN2, e]))]
    refine X.fn Tryd.func42 rfl (n := 26) rfl rfl ?_
    refine CC.seq ?_
    refine CC.region ?_
    refine LL.val (R.assign rfl rfl) rfl rfl rfl ?_
    refine LL.nilS ?_
    refine CC.seq ?_
    refine CC.seq ?_
    refine CC.region ?_
    refine LL.val (R.move rfl rfl) rfl rfl rfl ?_
    refine LL.val (R.len rfl rfl rfl rfl) rfl rfl rfl ?_
    refine LL.val (R.move rfl rfl) rfl rfl rfl ?_
    refine LL.val (R.len rfl rfl rfl rfl) rfl rfl rfl ?_
    refine LL.val (R.neT rfl rfl rfl (by omega)) rfl rfl rfl ?_
    refine LL.nilS ?_
    refine CC.yes rfl ?_
    refine CC.seq ?_
    refine CC.region ?_
    refine LL.val (R.assign rfl rfl) rfl rfl rfl ?_
    refine LL.nilS ?_
    refine CC.ret ?_
    refine EE.thenR ?_
    refine EE.ret _ rfl rfl ?_
    exact ⟨rfl, q⟩
  subst hne
  refine X.fn Tryd.func42 rfl (n := 26) rfl rfl ?_
  refine CC.seq ?_
  refine CC.region ?_
  refine LL.val (R.assign rfl rfl) rfl rfl rfl ?_
  refine LL.nilS ?_
  refine CC.seq ?_
  refine CC.seq ?_
  refine CC.region ?_
  refine LL.val (R.move rfl rfl) rfl rfl rfl ?_
  refine LL.val (R.len rfl rfl rfl rfl) rfl rfl rfl ?_
  refine LL.val (R.move rfl rfl) rfl rfl rfl ?_
  refine LL.val (R.len rfl rfl rfl rfl) rfl rfl rfl ?_
  refine LL.val (R.neF rfl rfl rfl (by omega)) rfl rfl rfl ?_
  refine LL.nilS ?_
  refine CC.no rfl ?_
  refine CC.skip ?_
  refine EE.thenN ?_
  refine CC.seq ?_
  refine CC.seq ?_
  refine CC.region ?_
  refine LL.val (R.assign rfl rfl) rfl rfl rfl ?_
  refine LL.nilS ?_
  refine CC.block ?_
  refine CC.loop (α := Nat) (fun i => [(0, .slice a N cap), (1, .slice a2 N cap2), (5, .int .i64 (i : Int))]) (fun i W => i ≤ N ∧ Below w.heap.size w W ∧ xs.take i = ys.take i) (fun i => N - i) 0 ⟨rfl, rfl, rfl, trivial⟩ ⟨by omega, q, by simp⟩ ?_
  clear q
  rintro i W ⟨hi, q, ht⟩
  show CC none Tryd.prog _ 26 [] (sl [(0, .slice a N cap), (1, .slice a2 N cap2), (5, .int .i64 (i : Int))]) _ W
  have yq := q.size
  by_cases hlt : i < N
  case neg =>
    obtain rfl : i = N := by omega
    rw [List.take_of_length_le (by omega), List.take_of_length_le (by omega)] at ht
    rw [decide_eq_true ht]
    refine CC.seq ?_
    refine CC.seq ?_
    refine CC.region ?_
    refine LL.val (R.move rfl rfl) rfl rfl rfl ?_
    refine LL.val (R.move rfl rfl) rfl rfl rfl ?_
    refine LL.val (R.len rfl rfl rfl rfl) rfl rfl rfl ?_
    refine LL.val (R.ltF rfl rfl rfl (by omega)) rfl rfl rfl ?_
    refine LL.nilS ?_
    refine CC.no rfl ?_
    refine CC.exit ?_
    refine EE.thenX ?_
    refine EE.thenX ?_
    refine EE.inX ?_
    refine EE.thenN ?_
    refine CC.seq ?_
    refine CC.region ?_
    refine LL.val (R.assign rfl rfl) rfl rfl rfl ?_
    refine LL.nilS ?_
    refine CC.ret ?_
    refine EE.ret _ rfl rfl ?_
    exact ⟨rfl, q⟩
  obtain ⟨x, hx⟩ : ∃ x, xs[i]? = some x := ⟨_, List.getElem?_eq_getElem (by omega)⟩
  obtain ⟨y, hy⟩ : ∃ y, ys[i]? = some y := ⟨_, List.getElem?_eq_getElem (by omega)⟩
  obtain ⟨bk, off, rfl, hbk, hcs⟩ := (haF W q).get eEnc hx
  obtain ⟨bk2, off2, rfl, hbk2, hcs2⟩ := (hbF W q).get eEnc hy
  have hcs : Cells W ⟨bk, off + i * 3, none⟩ [.int .i64 x.1, .int .i64 x.2.1, .int .i64 x.2.2] := hcs
  have hcs2 : Cells W ⟨bk2, off2 + i * 3, none⟩ [.int .i64 y.1, .int .i64 y.2.1, .int .i64 y.2.2] := hcs2
  by_cases he : x.1 = y.1 ∧ x.2.1 = y.2.1 ∧ x.2.2 = y.2.2
  · have hxy : x = y := Prod.ext he.1 (Prod.ext he.2.1 he.2.2)
    have ht' : xs.take (i + 1) = ys.take (i + 1) := by rw [List.take_add_one, List.take_add_one, ht, hx, hy, hxy]
    refine CC.seq ?_
    refine CC.seq ?_
    refine CC.region ?_
    refine LL.val (R.move rfl rfl) rfl rfl rfl ?_
    refine LL.val (R.move rfl rfl) rfl rfl rfl ?_
    refine LL.val (R.len rfl rfl rfl rfl) rfl rfl rfl ?_
    refine LL.val (R.ltT rfl rfl rfl (by omega)) rfl rfl rfl ?_
    refine LL.nilS ?_
    refine CC.yes rfl ?_
    refine CC.skip ?_
    refine EE.thenN ?_
    refine CC.seq ?_
    refine CC.block ?_
    refine CC.seq ?_
    refine CC.quietB (by kernel_rfl) (by kernel_rfl) (fun Wc2 bc1 zc3 => ?_)
    replace q := q.trans (bc1.mono q.size)
    replace hcs := hcs.up bc1
    replace hcs2 := hcs2.up bc1
    refine SS.val (R.move rfl rfl) rfl rfl ?_
    refine SS.val (R.move rfl rfl) rfl rfl ?_
    refine SS.val (R.index rfl rfl rfl (I.ixS rfl (by omega))) rfl rfl ?_
    refine SS.val (R.load rfl rfl (I.ldNc (by assumption) rfl rfl)) rfl rfl ?_
    refine SS.val (R.move rfl rfl) rfl rfl ?_
    refine SS.val (R.move rfl rfl) rfl rfl ?_
    refine SS.val (R.index rfl rfl rfl (I.ixS rfl (by omega))) rfl rfl ?_
    refine SS.val (R.load rfl rfl (I.ldNc (by assumption) rfl rfl)) rfl rfl ?_
    refine SS.val (R.neST (p := (x.1 : Int) = y.1 ∧ (x.2.1 : Int) = y.2.1 ∧ (x.2.2 : Int) = y.2.2) (bs := [decide ((x.1 : Int) = y.1), decide ((x.2.1 : Int) = y.2.1), decide ((x.2.2 : Int) = y.2.2)]) rfl rfl rfl rfl (by kernel_rfl) (by kernel_rfl) (by simp) (by first | assumption | omega | exact ⟨rfl, rfl⟩ | exact fun h => h ⟨rfl, rfl⟩)) rfl rfl ?_
    refine SS.nilQ ?_
    refine EE.thenN ?_
    refine CC.no rfl ?_
    refine CC.skip ?_
    refine EE.inN ?_
    refine EE.thenN ?_
    refine CC.region ?_
    refine LL.val (R.move rfl rfl) rfl rfl rfl ?_
    refine LL.val (R.addNc rfl rfl rfl rfl (by omega)) rfl rfl rfl ?_
    refine LL.val (R.assign rfl rfl) rfl rfl rfl ?_
    refine LL.nil ?_
    exact EE.round (i + 1) ⟨rfl, rfl, rfl, trivial⟩ ⟨by omega, q, ht'⟩ (by omega)
  · rw [decide_eq_false (fun e => he (by rw [e, hy] at hx; cases hx; exact ⟨rfl, rfl, rfl⟩))]
    refine CC.seq ?_
    refine CC.seq ?_
    refine CC.region ?_
    refine LL.val (R.move rfl rfl) rfl rfl rfl ?_
    refine LL.val (R.move rfl rfl) rfl rfl rfl ?_
    refine LL.val (R.len rfl rfl rfl rfl) rfl rfl rfl ?_
    refine LL.val (R.ltT rfl rfl rfl (by omega)) rfl rfl rfl ?_
    refine LL.nilS ?_
    refine CC.yes rfl ?_
    refine CC.skip ?_
    refine EE.thenN ?_
    refine CC.seq ?_
    refine CC.block ?_
    refine CC.seq ?_
    refine CC.quietB (by kernel_rfl) (by kernel_rfl) (fun Wd2 bd1 zd3 => ?_)
    replace q := q.trans (bd1.mono q.size)
    replace hcs := hcs.up bd1
    replace hcs2 := hcs2.up bd1
    refine SS.val (R.move rfl rfl) rfl rfl ?_
    refine SS.val (R.move rfl rfl) rfl rfl ?_
    refine SS.val (R.index rfl rfl rfl (I.ixS rfl (by omega))) rfl rfl ?_
    refine SS.val (R.load rfl rfl (I.ldNc (by assumption) rfl rfl)) rfl rfl ?_
    refine SS.val (R.move rfl rfl) rfl rfl ?_
    refine SS.val (R.move rfl rfl) rfl rfl ?_
    refine SS.val (R.index rfl rfl rfl (I.ixS rfl (by omega))) rfl rfl ?_
    refine SS.val (R.load rfl rfl (I.ldNc (by assumption) rfl rfl)) rfl rfl ?_
    refine SS.val (R.neSF (p := (x.1 : Int) = y.1 ∧ (x.2.1 : Int) = y.2.1 ∧ (x.2.2 : Int) = y.2.2) (bs := [decide ((x.1 : Int) = y.1), decide ((x.2.1 : Int) = y.2.1), decide ((x.2.2 : Int) = y.2.2)]) rfl rfl rfl rfl (by kernel_rfl) (by kernel_rfl) (by simp) (by first | assumption | omega | exact ⟨rfl, rfl⟩ | exact fun h => h ⟨rfl, rfl⟩)) rfl rfl ?_
    refine SS.nilQ ?_
    refine EE.thenN ?_
    refine CC.yes rfl ?_
    refine CC.seq ?_
    refine CC.region ?_
    refine LL.val (R.assign rfl rfl) rfl rfl rfl ?_
    refine LL.nilS ?_
    refine CC.ret ?_
    refine EE.inR ?_
    refine EE.thenR ?_
    refine EE.thenR ?_
    refine EE.inR ?_
    refine EE.thenR ?_
    refine EE.ret _ rfl rfl ?_
    exact ⟨rfl, q⟩
end Go.Proofs.YtnoefalgmekjbaaDoor


/- extents: what Put and Cut leave: the reckoning. ExtentsHolds: the walk. ExtentsHolds: the walk, where all is done. -/
namespace Go.Proofs.YtnoefalgmekjbaaDoor
set_option linter.unusedVariables false
set_option linter.unusedSimpArgs false
open Go.RowKit Go.Shelf
end Go.Proofs.YtnoefalgmekjbaaDoor


/- The document's extents: Right, has, List. -/
namespace Go.Proofs.YtnoefalgmekjbaaDoor
set_option linter.unusedVariables false
set_option linter.unusedSimpArgs false
open Go.RowKit Go.Shelf
/-- Do places have a block of the device? -/
def hasP (p : List Int) (d : Int) : Prop := ∃ i : Nat, p[i]? = some d
set_option maxRecDepth 100000 in
set_option maxHeartbeats 8000000 in
theorem has_any (p : List Int) (d : Int) (w : World) (hp : p.length = 128) : Calls Tryd.prog 53 #[plV p, .int .i64 d] w fun e w' => (∃ b : Bool, e = .returned (.bool b) ∧ (b = true ↔ hasP p d)) ∧ Below w.heap.size w w' := by
  have q := Below.refl w.heap.size w
  refine X.fn Tryd.func53 rfl (n := 15) rfl rfl ?_
  refine CC.seq ?_
  refine CC.region ?_
  refine LL.box _ rfl rfl rfl rfl rfl ?_
  intro W2 g3 eg3 r4 z5 b1
  replace q := q.trans (b1.mono q.size)
  refine LL.val (R.assign rfl rfl) rfl rfl rfl ?_
  refine LL.nilS ?_
  refine CC.seq ?_
  refine CC.seq ?_
  refine CC.region ?_
  refine LL.val (R.assign rfl rfl) rfl rfl rfl ?_
  refine LL.nilS ?_
  refine CC.block ?_
  refine CC.loop (α := Nat) (fun i => [(1, .int .i64 d), (2, .pointer (some ⟨g3, 0, none⟩)), (5, .int .i64 (i : Int))]) (fun i W => i ≤ 128 ∧ Below w.heap.size w W ∧ RowL W g3 80 (intsZ .i64 p) ∧ ∀ j, j < i → p[j]? ≠ some d) (fun i => 128 - i) 0 ⟨rfl, rfl, rfl, trivial⟩ ⟨by omega, q, r4, fun j h => by omega⟩ ?_
  clear q r4
  rintro i W ⟨hi, q, r4, ht⟩
  show CC none Tryd.prog _ 15 [] (sl [(1, .int .i64 d), (2, .pointer (some ⟨g3, 0, none⟩)), (5, .int .i64 (i : Int))]) _ W
  by_cases hlt : i < 128
  case neg =>
    have hno : ¬hasP p d := fun ⟨j, hj⟩ => ht j (by have := (List.getElem?_eq_some_iff.1 hj).1; omega) hj
    refine CC.seq ?_
    refine CC.seq ?_
    refine CC.region ?_
    refine LL.val (R.move rfl rfl) rfl rfl rfl ?_
    refine LL.val (R.ltF rfl rfl rfl (by omega)) rfl rfl rfl ?_
    refine LL.nilS ?_
    refine CC.no rfl ?_
    refine CC.exit ?_
    refine EE.thenX ?_
    refine EE.thenX ?_
    refine EE.inX ?_
    refine EE.thenN ?_
    refine CC.seq ?_
    refine CC.region ?_
    refine LL.val (R.assign rfl rfl) rfl rfl rfl ?_
    refine LL.nilS ?_
    refine CC.ret ?_
    refine EE.ret _ rfl rfl ?_
    exact ⟨⟨false, rfl, by simp [hno]⟩, q⟩
  obtain ⟨z, hz⟩ : ∃ z, p[i]? = some z := ⟨_, List.getElem?_eq_getElem (by omega)⟩
  have c1 : W.cell? ⟨g3, 0 + i, none⟩ = some (.int .i64 z) := RowL.cell r4 (by rw [show 0 + i = i by omega]; simp [hz])
  by_cases hd : z = d
  · have hyes : hasP p d := ⟨i, by rw [hz, hd]⟩
    refine CC.seq ?_
    refine CC.seq ?_
    refine CC.region ?_
    refine LL.val (R.move rfl rfl) rfl rfl rfl ?_
    refine LL.val (R.ltT rfl rfl rfl (by omega)) rfl rfl rfl ?_
    refine LL.nilS ?_
    refine CC.yes rfl ?_
    refine CC.skip ?_
    refine EE.thenN ?_
    refine CC.seq ?_
    refine CC.block ?_
    refine CC.seq ?_
    refine CC.region ?_
    refine LL.val (R.move rfl rfl) rfl rfl rfl ?_
    refine LL.val (R.index rfl rfl rfl (I.ixA1 rfl (by omega))) rfl rfl rfl ?_
    refine LL.val (R.load rfl rfl (I.ld1 rfl (by assumption))) rfl rfl rfl ?_
    refine LL.val (R.move rfl rfl) rfl rfl rfl ?_
    refine LL.val (R.eqT rfl rfl rfl (by omega)) rfl rfl rfl ?_
    refine LL.nilS ?_
    refine CC.yes rfl ?_
    refine CC.seq ?_
    refine CC.region ?_
    refine LL.val (R.assign rfl rfl) rfl rfl rfl ?_
    refine LL.nilS ?_
    refine CC.ret ?_
    refine EE.inR ?_
    refine EE.thenR ?_
    refine EE.thenR ?_
    refine EE.inR ?_
    refine EE.thenR ?_
    refine EE.ret _ rfl rfl ?_
    exact ⟨⟨true, rfl, by simp [hyes]⟩, q⟩
  · have ht' : ∀ j, j < i + 1 → p[j]? ≠ some d := fun j hj hx => by
      by_cases e : j = i
      · subst e; rw [hz] at hx; exact hd (Option.some.inj hx)
      · exact ht j (by omega) hx
    refine CC.seq ?_
    refine CC.seq ?_
    refine CC.region ?_
    refine LL.val (R.move rfl rfl) rfl rfl rfl ?_
    refine LL.val (R.ltT rfl rfl rfl (by omega)) rfl rfl rfl ?_
    refine LL.nilS ?_
    refine CC.yes rfl ?_
    refine CC.skip ?_
    refine EE.thenN ?_
    refine CC.seq ?_
    refine CC.block ?_
    refine CC.seq ?_
    refine CC.region ?_
    refine LL.val (R.move rfl rfl) rfl rfl rfl ?_
    refine LL.val (R.index rfl rfl rfl (I.ixA1 rfl (by omega))) rfl rfl rfl ?_
    refine LL.val (R.load rfl rfl (I.ld1 rfl (by assumption))) rfl rfl rfl ?_
    refine LL.val (R.move rfl rfl) rfl rfl rfl ?_
    refine LL.val (R.eqF rfl rfl rfl (by omega)) rfl rfl rfl ?_
    refine LL.nilS ?_
    refine CC.no rfl ?_
    refine CC.skip ?_
    refine EE.inN ?_
    refine EE.thenN ?_
    refine CC.region ?_
    refine LL.val (R.move rfl rfl) rfl rfl rfl ?_
    refine LL.val (R.addNc rfl rfl rfl rfl (by omega)) rfl rfl rfl ?_
    refine LL.val (R.assign rfl rfl) rfl rfl rfl ?_
    refine LL.nil ?_
    exact EE.round (i + 1) ⟨rfl, rfl, rfl, trivial⟩ ⟨by omega, q, r4, ht'⟩ (by omega)
--C ref06_Map_has | has_T _ _ @w @p @p | ⟨rfl, @b⟩
theorem has_T (p : List Int) (d : Int) (w : World) (hp : p.length = 128) (h : hasP p d) : Calls Tryd.prog 53 #[plV p, .int .i64 d] w fun e w' => e = .returned (.bool true) ∧ Below w.heap.size w w' :=
  (has_any p d w hp).mono fun e w' ⟨⟨b, he, hb⟩, hw⟩ => ⟨by rw [he, hb.2 h], hw⟩
end Go.Proofs.YtnoefalgmekjbaaDoor


/- The document's extents: Of. -/
namespace Go.Proofs.YtnoefalgmekjbaaDoor
set_option linter.unusedVariables false
set_option linter.unusedSimpArgs false
open Go.RowKit Go.Shelf
end Go.Proofs.YtnoefalgmekjbaaDoor


/- The document's extents: run, Blocks. -/
namespace Go.Proofs.YtnoefalgmekjbaaDoor
set_option linter.unusedVariables false
set_option linter.unusedSimpArgs false
open Go.RowKit Go.Shelf
end Go.Proofs.YtnoefalgmekjbaaDoor


/- The document's extents: Cut, Put. -/
namespace Go.Proofs.YtnoefalgmekjbaaDoor
set_option linter.unusedVariables false
set_option linter.unusedSimpArgs false
open Go.RowKit Go.Shelf
end Go.Proofs.YtnoefalgmekjbaaDoor


/- ExtentsPuts, ExtentsCuts. -/
namespace Go.Proofs.YtnoefalgmekjbaaDoor
set_option linter.unusedVariables false
set_option linter.unusedSimpArgs false
open Go.RowKit Go.Shelf
end Go.Proofs.YtnoefalgmekjbaaDoor


/- The document's words of extents. -/
namespace Go.Proofs.YtnoefalgmekjbaaDoor
set_option linter.unusedVariables false
set_option linter.unusedSimpArgs false
open Go.RowKit Go.Shelf
end Go.Proofs.YtnoefalgmekjbaaDoor


/- The document's Read. -/
namespace Go.Proofs.YtnoefalgmekjbaaDoor
set_option linter.unusedVariables false
set_option linter.unusedSimpArgs false
open Go.RowKit Go.Shelf
end Go.Proofs.YtnoefalgmekjbaaDoor


/- ExtentsWords. -/
namespace Go.Proofs.YtnoefalgmekjbaaDoor
set_option linter.unusedVariables false
set_option linter.unusedSimpArgs false
open Go.RowKit Go.Shelf
theorem pk_unp {x : Ex} (h : mayE x) : unpE (pkZ x).toNat = x ∧ pkZ x ≠ 0 ∧ 0 ≤ pkZ x ∧ pkZ x < 18446744073709551616 := by
  obtain ⟨f, d, k, rfl, hf, hd, hk⟩ := pkZ_nat h
  unfold mayE at h
  simp only at h
  have e : pkZ ((f : Int), (d : Int), (k : Int)) = ((f + d * 65536 + k * 1099511627776 : Nat) : Int) := by unfold pkZ; simp only; omega
  rw [e]
  refine ⟨?_, by omega, by omega, by omega⟩
  rw [Int.toNat_natCast]
  unfold unpE
  refine Prod.ext ?_ (Prod.ext ?_ ?_)
  · simp only; omega
  · simp only; omega
  · simp only; omega
theorem wrdZ_bnd {l : List Ex} (h : ∀ x ∈ l, mayE x) (i : Nat) (z : Int) (hz : (wrdZ l)[i]? = some z) : 0 ≤ z ∧ z < 18446744073709551616 := by
  have hm := List.mem_of_getElem? hz
  unfold wrdZ at hm
  rcases List.mem_append.1 hm with hm | hm
  · obtain ⟨x, hx, rfl⟩ := List.mem_map.1 hm
    exact (pk_unp (h x hx)).2.2
  · rw [(List.mem_replicate.1 hm).2]; omega
end Go.Proofs.YtnoefalgmekjbaaDoor


/- Panics: calls that panic, functions that defer and recover, type assertions. Over any program. -/
namespace Go.Proofs.YtnoefalgmekjbaaDoor
set_option linter.unusedVariables false
set_option linter.unusedSimpArgs false
open Go.RowKit Go.Shelf

section
variable {P : Program} {ops : Array Oper} {w w' : World} {o : Oper} {rest : List Oper} {n : Nat} {D : List Deferred} {M : Slots} {v : Value} {r : Option Nat} {Q : Exit → Act → World → Prop}

/-- The chain of one panic. -/
abbrev chain1 (v : Value) : List PanicEntry := [{ v := v, recovered := false }]
/-- A call that panics. -/
theorem LL.callP {f : FuncId} {args : Array Value} {R : Ending → World → Prop} (hr : Runs P n D M o w (.enter f args) w) (hdf : dfB o.op = false) (hg : wantB ops M o.guard = some true) (hc : Calls P f args w R)
    (k : ∀ e w', R e w' → ∃ ch, e = .panicked ch ∧ EE Q n D M (.panic ch) w') : LL r P ops Q n D M (o :: rest) w := LL.mk fun a F => by
  refine wpListIn_step fun K hK => ?_
  rw [if_pos (F.want hg)]
  refine wpIn_of_run hdf (hr a F) ⟨fun h => (by cases h), callsWr (hc.mono fun e w' hR => ?_)⟩
  obtain ⟨ch, rfl, hk⟩ := k e w' hR
  exact hk.h _ F
/-- The text's own panic. -/
theorem LL.panic {x : Operand} {t : TypeId} (ho : o.op = .panic x) (hx : evM M x = some (.iface t v)) (hg : wantB ops M o.guard = some true) (k : EE Q n D M (.panic (chain1 (.iface t v))) w) : LL r P ops Q n D M (o :: rest) w := LL.mk fun a F => by
  refine wpListIn_step fun K hK => ?_
  rw [if_pos (F.want hg)]
  refine ⟨about_wr a, ?_⟩
  rw [Oper.semAt_eq _ _ _ (by intro c hc; rw [ho] at hc; cases hc)]
  have : (execOp a.eval o).run P w = .halt (.panic (.iface t v)) w := by
    unfold execOp
    rw [ho]
    simp only [F.ev hx]
    rfl
  rw [this]
  exact k.h _ F
theorem EE.thenP {K : Act → World → Prop} {ch : List PanicEntry} (h : EE Q n D M (.panic ch) w) : EE (Exit.then K Q) n D M (.panic ch) w := EE.mk fun a F => h.h a F
/-- A function that is left by a panic. -/
theorem EE.pan {fn : Func} {R : Ending → World → Prop} {ch : List PanicEntry} (h : R (.panicked ch) w) : EE (bodyPost P fn R) n [] M (.panic ch) w := EE.mk fun a F => ⟨F.defers, h⟩

/-- A function's contract from its body's walk: panics and deferred calls, too. -/
theorem X.fnP {f : FuncId} {fn : Func} {c : Code} {args : Array Value} {R : Ending → World → Prop} (hf : P.funcs[f]? = some fn) (hb : fn.body = some c) (hn : fn.ntmps = n) (ha : Nat.ble args.size n = true)
    (h : CC none P (bodyPostM Fence.wide 3 P fn R) n [] (argM args) c w) : Calls P f args w R := by
  subst hn
  exact (callsIn_wide (n := 3)).1 (callsIn_of_wp_marks hf hb trivial (h.h _ (Fr.start args _ (by simpa using ha))) rfl)
theorem EE.panM {fn : Func} {R : Ending → World → Prop} {ch : List PanicEntry} (h : R (.panicked ch) w) : EE (bodyPostM Fence.wide 3 P fn R) n [] M (.panic ch) w := EE.mk fun a F => by
  show LeavesInM _ _ _ _ _ _ a.defers _ _
  rw [F.defers]
  exact h
/-- A deferred call of a closure. -/
abbrev dfr (f : FuncId) (lb : List Value) : Deferred := { target := .fn (.func f) lb.toArray, args := #[] }
theorem LL.defer {c : Call} {x : Operand} {f : FuncId} {lb : List Value} (ho : o.op = .defer c) (hc : c.callee = .value x) (ha : c.args = #[]) (hx : evM M x = some (.func (.func f) #[] lb.toArray)) (hd : o.dst = none) (hg : wantB ops M o.guard = some true)
    (k : LL none P ops Q n (dfr f lb :: D) M rest w) : LL none P ops Q n D M (o :: rest) w := LL.mk fun a F => by
  refine wpListIn_step fun K hK => ?_
  rw [if_pos (F.want hg)]
  refine ⟨about_wr a, ?_⟩
  have : (execOp a.eval o).run P w = .ok (.defer (dfr f lb)) w := by
    unfold execOp
    rw [ho]
    simp only [resolve, hc, ha, F.ev hx, Deferred.ofValue]
    simp
  show o.uponIn _ _ _ _ _ _ ((Oper.semAt none a.eval o).run P w)
  rw [Oper.semAt_none, this, Oper.uponIn_defer, hd]
  refine hK _ _ (k.h _ ⟨F.size, ?_, F.get⟩)
  show dfr f lb :: a.defers = _
  rw [F.defers]
theorem leave_dfr {fn : Func} {R : Ending → World → Prop} {f : FuncId} {lb : List Value} {ds : List Deferred} {tm : Array Value} {u : FrameMode} {R2 : Ending → FrameMode → World → Prop} (eg : entB P f = true) (hu : u ≠ .run)
    (hc : CallsDIn Fence.wide 2 P f lb.toArray u w R2)
    (h : ∀ e u' w', R2 e u' w' → ∃ v, e = .returned v ∧ LeavesInM Fence.wide 3 P fn tm R ds (settle u') w') : LeavesInM Fence.wide 3 P fn tm R (dfr f lb :: ds) u w := by
  refine ⟨hu, .inr ⟨fun h => by simp [Fence.wide] at h, .func f, lb.toArray, f, lb.toArray, rfl, ?_, fun _ _ => trivial, ?_⟩⟩
  · have := ent_of eg lb.toArray w
    simpa [invoke] using this
  · refine ⟨hc.1, fun c cs hm hr => ?_⟩
    obtain ⟨e, u', w', fr, hR, rest⟩ := hc.2 c cs hm hr
    refine ⟨e, u', w', fr, ?_, rest⟩
    obtain ⟨v, rfl, hk⟩ := h e u' w' hR
    exact hk
/-- A function that returns with one deferred call; its result lies in cells, or not. -/
theorem EE.retD {fn : Func} {R : Ending → World → Prop} {f : FuncId} {lb : List Value} {x : ResultVar} {R2 : Ending → FrameMode → World → Prop} (eg : entB P f = true) (hc : CallsDIn Fence.wide 2 P f lb.toArray .returning w R2) (hx : fn.results = #[x])
    (h : ∀ e u' w', R2 e u' w' → (∃ v, e = .returned v) ∧ settle u' = .returning ∧ ∃ u, rv P w' M x u ∧ R (.returned u) w') : EE (bodyPostM Fence.wide 3 P fn R) n [dfr f lb] M .ret w := EE.mk fun a F => by
  show LeavesInM _ _ _ _ _ _ a.defers _ _
  rw [F.defers]
  refine leave_dfr eg (by simp) hc fun e u' w' hR => ?_
  obtain ⟨⟨v, rfl⟩, hs, u, hu, hR'⟩ := h e u' w' hR
  refine ⟨v, rfl, ?_⟩
  rw [hs]
  exact ⟨u, results1_run F hx hu, hR'⟩
/-- A function that panics with one deferred call, which recovers. -/
theorem EE.panD {fn : Func} {R : Ending → World → Prop} {f : FuncId} {lb : List Value} {x : ResultVar} {ch : List PanicEntry} {R2 : Ending → FrameMode → World → Prop} (eg : entB P f = true) (hc : CallsDIn Fence.wide 2 P f lb.toArray (.panicking ch) w R2) (hx : fn.results = #[x])
    (h : ∀ e u' w', R2 e u' w' → (∃ v, e = .returned v) ∧ settle u' = .returning ∧ ∃ u, rv P w' M x u ∧ R (.returned u) w') : EE (bodyPostM Fence.wide 3 P fn R) n [dfr f lb] M (.panic ch) w := EE.mk fun a F => by
  show LeavesInM _ _ _ _ _ _ a.defers _ _
  rw [F.defers]
  refine leave_dfr eg (by simp) hc fun e u' w' hR => ?_
  obtain ⟨⟨v, rfl⟩, hs, u, hu, hR'⟩ := h e u' w' hR
  refine ⟨v, rfl, ?_⟩
  rw [hs]
  exact ⟨u, results1_run F hx hu, hR'⟩
/-- What a deferred closure hands back and leaves, for the frame of whom it was deferred in mode u'. -/
def deferQ (P : Program) (fn : Func) (u' : FrameMode) (R : Ending → FrameMode → World → Prop) : Exit → Act → World → Prop := bodyPost P fn fun e w => R e u' w
/-- A deferred closure whose first region recovers into a slot; of the frame below the mode is u. -/
theorem X.recovers {f : FuncId} {fn : Func} {id : Nat} {c : Code} {o1 o2 : Oper} {d e : Tmp} {args : Array Value} {u u' : FrameMode} {v : Value} {R : Ending → FrameMode → World → Prop}
    (hf : P.funcs[f]? = some fn) (hb : fn.body = some (.seq (.region id #[o1, o2] false) c)) (hn : fn.ntmps = n) (ha : Nat.ble args.size n = true)
    (h1 : o1.op = .call { callee := .builtin .recover, args := #[], argTypes := #[] }) (d1 : o1.dst = some d) (g1 : o1.guard = none) (hd : Nat.blt d n = true)
    (h2 : o2.op = .assign (.tmp d)) (d2 : o2.dst = some e) (g2 : o2.guard = none) (he : Nat.blt e n = true)
    (hv : ∀ c₀ : Frame, c₀.mode = u → ∀ cs, (recoverD (c₀ :: cs) = some (v, { c₀ with mode := u' } :: cs)) ∨ (recoverD (c₀ :: cs) = none ∧ v = .nilIface ∧ u' = u))
    (h : CC none P (deferQ P fn u' R) n [] (up (up (argM args) d v) e v) c w) : CallsDIn Fence.wide 2 P f args u w R := by
  subst hn
  refine callsDIn_of_wpSIn hf hb trivial fun c₀ cs hu => ?_
  obtain ⟨A, hA⟩ : ∃ A : Act, { tmps := args ++ Array.replicate (fn.ntmps - args.size) undef, defers := [] } = A := ⟨_, rfl⟩
  have F : Fr fn.ntmps [] (argM args) A := by rw [← hA]; exact Fr.start args _ (by simpa using ha)
  rw [hA]
  refine wpSIn_seq (wpSIn_region ?_)
  have hr1 : (execOp A.eval o1).run P w = .ok .recover w := by
    unfold execOp
    rw [h1]
    simp [resolve, invoke, builtin]
  have hsz : (#[o1, o2] : Array Oper).size = 2 := rfl
  have e1 : Region.wanted o1 (yielded #[o1, o2] A.tmps) = true := by simp [Region.wanted, g1]
  have F1 : Fr fn.ntmps [] (up (argM args) d v) (A.put o1.dst v) := by
    have := F.put (some d) v (by simpa [dstB] using hd)
    rw [d1]
    exact this
  have hr2 : (execOp (A.put o1.dst v).eval o2).run P w = .ok (.value v) w := by
    unfold execOp
    rw [h2]
    have : (A.put o1.dst v).eval (.tmp d) = v := F1.ev (by show up _ d v d = _; simp [up, Nat.beq_refl])
    simp [this]
  have F2 : Fr fn.ntmps [] (up (up (argM args) d v) e v) ((A.put o1.dst v).put o2.dst v) := by
    have := F1.put (some e) v (by simpa [dstB] using he)
    rw [d2]
    exact this
  have done : ∀ cs', cs' = { c₀ with mode := u' } :: cs → Exit.thenS (c.wpSIn Fence.wide 2 P (bodyPostS P fn c₀ cs R)) (bodyPostS P fn c₀ cs R) .normal ((A.put o1.dst v).put o2.dst v) cs' w := by
    rintro cs' rfl
    refine wpSIn_of_wpIn rfl ?_
    have hw := (wpIn_wide (n := 2)).2 ((wpIn_wide (n := 3)).1 (h.h _ F2))
    refine wpIn_mono hw fun e a3 W hq => ?_
    cases e with
    | normal =>
      obtain ⟨q1, v1, q2, q3⟩ := hq
      exact ⟨q1, u', rfl, v1, q2, q3⟩
    | ret =>
      obtain ⟨q1, v1, q2, q3⟩ := hq
      exact ⟨q1, u', rfl, v1, q2, q3⟩
    | panic ch =>
      obtain ⟨q1, q2⟩ := hq
      exact ⟨q1, u', rfl, q2⟩
    | outgrown => exact ⟨u', hq⟩
    | exit id => exact hq
    | goto l => exact hq
  show wpOpsSIn Fence.wide 2 P #[o1, o2] _ [0, 1] A (c₀ :: cs) w
  unfold wpOpsSIn
  simp only [List.getElem?_toArray, List.getElem?_cons_zero]
  refine ⟨fun _ _ => trivial, ?_⟩
  rw [if_pos e1, hr1]
  have e2 : ∀ x, Region.wanted o2 (yielded #[o1, o2] x) = true := fun x => by simp [Region.wanted, g2]
  have tail : ∀ cs', cs' = { c₀ with mode := u' } :: cs → wpOpsSIn Fence.wide 2 P #[o1, o2] (Exit.thenS (c.wpSIn Fence.wide 2 P (bodyPostS P fn c₀ cs R)) (bodyPostS P fn c₀ cs R)) [1] (A.put o1.dst v) cs' w := by
    intro cs' hcs
    unfold wpOpsSIn
    simp only [List.getElem?_toArray, List.getElem?_cons_succ, List.getElem?_cons_zero]
    refine ⟨fun _ _ => trivial, ?_⟩
    rw [if_pos (e2 _), hr2]
    exact done cs' hcs
  rcases hv c₀ hu cs with h' | ⟨h', rfl, rfl⟩
  · simp only [h']
    exact tail _ rfl
  · simp only [h']
    exact tail _ (by subst hu; rfl)
theorem recover_calm (c₀ : Frame) (h : c₀.mode = .returning) (cs : List Frame) : (recoverD (c₀ :: cs) = some (Value.nilIface, { c₀ with mode := .returning } :: cs)) ∨ (recoverD (c₀ :: cs) = none ∧ Value.nilIface = .nilIface ∧ FrameMode.returning = .returning) := .inr ⟨by simp [recoverD, h], rfl, rfl⟩
theorem recover_one (x : Value) (c₀ : Frame) (h : c₀.mode = .panicking (chain1 x)) (cs : List Frame) : (recoverD (c₀ :: cs) = some (x, { c₀ with mode := .panicking [{ v := x, recovered := true }] } :: cs)) ∨ (recoverD (c₀ :: cs) = none ∧ x = .nilIface ∧ FrameMode.panicking [{ v := x, recovered := true }] = .panicking (chain1 x)) := .inl (by simp [recoverD, h])
/-- Interfaces. -/
def ifaceB (P : Program) (t : TypeId) : Bool := match P.underlying t with
  | some (.interface _) => true
  | _ => false
def plainB (P : Program) (t : TypeId) : Bool := match P.underlying t with
  | some (.interface _) => false
  | some _ => true
  | none => false
theorem R.mkIface {t : TypeId} {x : Operand} (ho : o.op = .makeInterface t x) (hx : evM M x = some v) (hc : P.concrete t = true) : Runs P n D M o w (.value (.iface t v)) w := fun a F => by
  unfold execOp
  rw [ho]
  simp only [F.ev hx, Sem.run_bind, run_makeInterface w t v hc, Result.andThen_ok, Sem.run_pure]
theorem R.assertT {x : Operand} {xt t : TypeId} (ho : o.op = .typeAssert x xt t true) (hx : evM M x = some (.iface t v)) (hc : plainB P t = true) : Runs P n D M o w (.value (.tuple #[v, .bool true])) w := fun a F => by
  unfold execOp
  rw [ho]
  obtain ⟨ty, hu⟩ : ∃ ty, P.underlying t = some ty := by
    unfold plainB at hc
    cases h : P.underlying t with
    | none => rw [h] at hc; cases hc
    | some ty => exact ⟨ty, rfl⟩
  have hni : ∀ ms, ty ≠ .interface ms := by
    rintro ms rfl
    unfold plainB at hc
    rw [hu] at hc
    cases hc
  have key : (Instr.typeAssert (.iface t v) xt t true).run P w = .ok (.tuple #[v, .bool true]) w := by
    unfold Instr.typeAssert
    simp only [Sem.run_bind, run_underlying hu, Result.andThen_ok]
    split <;> first | exact absurd rfl (hni _) | simp_all
  simp only [F.ev hx, Sem.run_bind, key, Result.andThen_ok, Sem.run_pure]
theorem equal_if_nil {t tt : TypeId} (h : ifaceB P t = true) : (Op.equal t (.iface tt v) .nilIface).run P w = .ok false w ∧ (Op.equal t .nilIface .nilIface).run P w = .ok true w := by
  unfold ifaceB at h
  cases hu : P.underlying t with
  | none => rw [hu] at h; cases h
  | some d =>
    rw [hu] at h
    cases d <;> try (cases h; done)
    unfold Op.equal Op.maxDepth Op.equalIn
    simp [run_underlying hu]
theorem R.neNilI {x y : Operand} {t u : TypeId} {tt : TypeId} (ho : o.op = .binOp .neq t x y u) (hx : evM M x = some (.iface tt v)) (hy : evM M y = some .nilIface) (h : ifaceB P t = true) : Runs P n D M o w (.value (.bool true)) w :=
  R.bin ho hx hy (by simp [eqGuard, binOp, (equal_if_nil (v := v) (tt := tt) (w := w) h).1])
theorem R.eqNilI {x : Operand} {t u : TypeId} (ho : o.op = .binOp .neq t x (.const .nilIface) u) (hx : evM M x = some .nilIface) (h : ifaceB P t = true) : Runs P n D M o w (.value (.bool false)) w :=
  R.bin ho hx rfl (by simp [eqGuard, binOp, (equal_if_nil (v := .nilIface) (tt := 0) (w := w) h).2])
end
end Go.Proofs.YtnoefalgmekjbaaDoor


/- Maps whose keys are plain: what a block has at each key, and what the operations on maps do. Over any program. -/
namespace Go.Proofs.YtnoefalgmekjbaaDoor
set_option linter.unusedVariables false
set_option linter.unusedSimpArgs false
open Go.RowKit Go.Shelf
open Go.MapKept (Stamped IsKey)

/-- Block b is a map of n entries; f says what it has at a key. -/
def MapK {α β : Type} (d : TypeDesc) (ke : α → Value) (ve : β → Value) (w : World) (b n : Nat) (f : α → Option β) : Prop :=
  ∃ es clock, w.heap[b]? = some (.map es clock) ∧ Stamped es clock ∧ es.size = n ∧ (∀ x ∈ es.toList, ∃ a v, x.key = ke a ∧ f a = some v ∧ x.val = ve v) ∧ ∀ a v, f a = some v → ∃ x ∈ es.toList, x.key = ke a ∧ x.val = ve v
/-- Keys that are plain. -/
structure KeyE {α : Type} (P : Program) (k : TypeId) (d : TypeDesc) (ke : α → Value) : Prop where
  under : P.underlying k = some d
  key : ∀ a, IsKey d (ke a)
  inj : ∀ a b, ke a = ke b → a = b
/-- The map with another thing at a key, or none. -/
def putMap {α β : Type} [DecidableEq α] (f : α → Option β) (a : α) (v : Option β) : α → Option β := fun x => if x = a then v else f x

section
variable {α β : Type} {d : TypeDesc} {ke : α → Value} {ve : β → Value} {w w' : World} {b n : Nat} {f : α → Option β} {P : Program} {k : TypeId}
theorem MapK.lt (h : MapK d ke ve w b n f) : b < w.heap.size := by
  obtain ⟨es, clock, hb, _⟩ := h
  exact (Array.getElem?_eq_some_iff.1 hb).1
theorem MapK.same (h : MapK d ke ve w b n f) (e : w'.heap[b]? = w.heap[b]?) : MapK d ke ve w' b n f := by
  obtain ⟨es, clock, hb, r⟩ := h
  exact ⟨es, clock, e.trans hb, r⟩
theorem MapK.up (h : MapK d ke ve w b n f) (hb : Below w.heap.size w w') : MapK d ke ve w' b n f := h.same (hb.block b h.lt)
theorem MapK.gr {r : Nat} (h : MapK d ke ve w b n f) (hg : w.grownBy w' (some r)) (hne : b ≠ r) : MapK d ke ve w' b n f := h.same (hg.block b h.lt (by simpa using hne))
theorem MapK.kept {K : Nat → Prop} (h : MapK d ke ve w b n f) (hk : Kept K w w') (hb : K b) : MapK d ke ve w' b n f := h.same (hk.block b hb)
theorem MapK.made (w : World) : MapK d ke ve (w.alloc (.map #[] 0)) w.heap.size 0 f ↔ (∀ a, f a = none) := by
  constructor
  · rintro ⟨es, clock, hb, _, h0, _, h2⟩ a
    cases hf : f a with
    | none => rfl
    | some v =>
      obtain ⟨x, hx, _⟩ := h2 a v hf
      have : es = #[] := Array.eq_empty_of_size_eq_zero h0
      subst this
      simp at hx
  · intro h
    exact ⟨#[], 0, (MapKept.heap_alloc w _).1, MapKept.stamped_empty 0, rfl, by simp, fun a v e => by rw [h a] at e; cases e⟩
theorem isKey_of (KE : KeyE P k d ke) {es : Array MapEntry} (h : ∀ x ∈ es.toList, ∃ a v, x.key = ke a ∧ f a = some v ∧ x.val = ve v) : ∀ x ∈ es.toList, IsKey d x.key := fun x hx => by
  obtain ⟨a, v, e, _⟩ := h x hx
  rw [e]
  exact KE.key a
/-- What is found at a key. -/
theorem findK (KE : KeyE P k d ke) {es : Array MapEntry} {clock : Nat} (hs : Stamped es clock) (h1 : ∀ x ∈ es.toList, ∃ a v, x.key = ke a ∧ f a = some v ∧ x.val = ve v) (h2 : ∀ a v, f a = some v → ∃ x ∈ es.toList, x.key = ke a ∧ x.val = ve v) (a : α) :
    (f a = none ∧ Instr.findNow d (ke a) es.toList 0 = some none ∧ ∀ x ∈ es.toList, x.key ≠ ke a) ∨ ∃ v j e, f a = some v ∧ Instr.findNow d (ke a) es.toList 0 = some (some (j, ve v)) ∧ es.toList[j]? = some e ∧ e.key = ke a ∧ e.val = ve v := by
  rcases MapKept.findNow_spec (KE.key a) es.toList 0 (isKey_of KE h1) with ⟨h3, h4⟩ | ⟨j, e, h3, h4, h5⟩
  · left
    refine ⟨?_, h3, h4⟩
    cases hf : f a with
    | none => rfl
    | some v =>
      obtain ⟨x, hx, e, _⟩ := h2 a v hf
      exact absurd e (h4 x hx)
  · right
    obtain ⟨a', v, e1, e2, e3⟩ := h1 e (List.mem_of_getElem? h4)
    have : a' = a := KE.inj _ _ (by rw [← e1, h5])
    subst this
    exact ⟨v, j, e, e2, by rw [h3, e3, Nat.zero_add], h4, h5, e3⟩
/-- The value at a key, or z. -/
def atK (ve : β → Value) (z : Value) : Option β → Value
  | some v => ve v
  | none => z
theorem I.look (KE : KeyE P k d ke) {t e : TypeId} {z : Value} (ht : P.underlying t = some (.map k e)) (hz : zeroB P e = some z) (h : MapK d ke ve w b n f) (a : α) (c : Bool) :
    (Instr.lookup t (.map (some b)) (ke a) c).run P w = .ok (if c then .tuple #[atK ve z (f a), .bool (f a).isSome] else atK ve z (f a)) w := by
  obtain ⟨es, clock, hb, hs, _, h1, h2⟩ := h
  rcases findK KE hs h1 h2 a with ⟨hf, hn, _⟩ | ⟨v, j, e, hf, hn, _⟩
  · simp [Instr.lookup, run_underlying ht, MapKept.run_getObj_map hb, MapKept.run_checkKey KE.under (KE.key a), MapKept.run_findKey KE.under hn, zero_of hz, Result.andThen, hf, atK]
  · simp [Instr.lookup, run_underlying ht, MapKept.run_getObj_map hb, MapKept.run_checkKey KE.under (KE.key a), MapKept.run_findKey KE.under hn, Result.andThen, hf, atK]
theorem set_grown {o o' : Obj} (hb : w.heap[b]? = some o) : w.grownBy { w with heap := w.heap.setIfInBounds b o' } (some b) :=
  ⟨rfl, rfl, rfl, by simp, fun i _ hi => (MapKept.heap_set hb).2 i (fun e => hi (by rw [e]))⟩
variable [DecidableEq α]
/-- m[k] = v. -/
theorem I.mput (KE : KeyE P k d ke) {t e : TypeId} (ht : P.underlying t = some (.map k e)) (h : MapK d ke ve w b n f) (a : α) (v : β) :
    ∃ w', (Instr.mapUpdate t (.map (some b)) (ke a) (ve v)).run P w = .ok () w' ∧ MapK d ke ve w' b (if (f a).isSome then n else n + 1) (putMap f a (some v)) ∧ w.grownBy w' (some b) ∧ w'.heap.size = w.heap.size := by
  obtain ⟨es, clock, hb, hs, hn, h1, h2⟩ := h
  rcases findK KE hs h1 h2 a with ⟨hf, hnow, hno⟩ | ⟨u, j, e0, hf, hnow, hj, hk0, hv0⟩
  · refine ⟨{ w with heap := w.heap.setIfInBounds b (.map (es.push { key := ke a, val := ve v, born := clock }) (clock + 1)) }, ?_, ⟨_, _, (MapKept.heap_set hb).1, MapKept.stamped_push hs hno, by simp [hf, hn], ?_, ?_⟩, set_grown hb, by simp⟩
    · simp [Instr.mapUpdate, run_underlying ht, MapKept.run_getObj_map hb, MapKept.run_checkKey KE.under (KE.key a), MapKept.run_findKey KE.under hnow, MapKept.run_setObj_map _ hb, Result.andThen]
    · intro x hx
      simp only [Array.toList_push, List.mem_append, List.mem_singleton] at hx
      rcases hx with hx | rfl
      · obtain ⟨a', v', e1, e2, e3⟩ := h1 x hx
        refine ⟨a', v', e1, ?_, e3⟩
        unfold putMap
        rw [if_neg, e2]
        rintro rfl
        rw [hf] at e2
        cases e2
      · exact ⟨a, v, rfl, by simp [putMap], rfl⟩
    · intro a' v' h
      unfold putMap at h
      split at h
      · rename_i e
        subst e
        cases h
        exact ⟨{ key := ke a', val := ve v, born := clock }, by simp, rfl, rfl⟩
      · obtain ⟨x, hx, e1, e2⟩ := h2 a' v' h
        exact ⟨x, by simp only [Array.toList_push, List.mem_append]; exact .inl hx, e1, e2⟩
  · have hj' : es[j]? = some e0 := by simpa using hj
    have hkey : ∀ e', es[j]? = some e' → ({ e' with key := ke a, val := ve v } : MapEntry).key = e'.key := fun e' he' => by rw [hj'] at he'; cases he'; exact hk0.symm
    have hlist : (es.modify j (fun e' => { e' with key := ke a, val := ve v })).toList = es.toList.set j { e0 with key := ke a, val := ve v } := by
      rw [Array.toList_modify]
      refine List.ext_getElem? fun i => ?_
      rw [List.getElem?_modify, List.getElem?_set]
      by_cases hi : j = i
      · subst hi
        have hl : j < es.size := by simpa using (List.getElem?_eq_some_iff.1 hj).1
        rw [hj]
        simp [hl]
      · simp [hi]
    refine ⟨{ w with heap := w.heap.setIfInBounds b (.map (es.modify j fun e' => { e' with key := ke a, val := ve v }) clock) }, ?_, ⟨_, _, (MapKept.heap_set hb).1, MapKept.stamped_modify hs _ _ (fun _ _ => rfl) (fun e' _ he' => hkey e' he'), by simp [hf, hn], ?_, ?_⟩, set_grown hb, by simp⟩
    · simp [Instr.mapUpdate, run_underlying ht, MapKept.run_getObj_map hb, MapKept.run_checkKey KE.under (KE.key a), MapKept.run_findKey KE.under hnow, hj', hk0, MapKept.run_keyThatStays (KE.key a), MapKept.run_setObj_map _ hb, Result.andThen]
    · intro x hx
      rw [hlist] at hx
      obtain ⟨i, hi⟩ := List.getElem?_of_mem hx
      rw [List.getElem?_set] at hi
      split at hi
      · split at hi
        · cases hi
          exact ⟨a, v, rfl, by simp [putMap], rfl⟩
        · cases hi
      · rename_i hne
        have hx0 := List.mem_of_getElem? hi
        obtain ⟨a', v', e1, e2, e3⟩ := h1 x hx0
        refine ⟨a', v', e1, ?_, e3⟩
        unfold putMap
        rw [if_neg, e2]
        rintro rfl
        have hpw := ((MapKept.stamped_iff es clock).1 hs).2.2
        have hll := (List.getElem?_eq_some_iff.1 hj).1
        have hil := (List.getElem?_eq_some_iff.1 hi).1
        have e4 := (List.getElem?_eq_some_iff.1 hj).2
        have e5 := (List.getElem?_eq_some_iff.1 hi).2
        rcases Nat.lt_or_ge i j with hlt | hge
        · have := List.pairwise_iff_getElem.1 hpw i j hil hll hlt
          rw [e4, e5, hk0, e1] at this
          exact this rfl
        · have := List.pairwise_iff_getElem.1 hpw j i hll hil (by omega)
          rw [e4, e5, hk0, e1] at this
          exact this rfl
    · intro a' v' h
      rw [hlist]
      have hll : j < es.size := by simpa using (List.getElem?_eq_some_iff.1 hj).1
      unfold putMap at h
      split at h
      · rename_i e
        subst e
        cases h
        exact ⟨{ e0 with key := ke a', val := ve v }, List.mem_iff_getElem?.2 ⟨j, by rw [List.getElem?_set]; simp [hll]⟩, rfl, rfl⟩
      · rename_i hne
        obtain ⟨x, hx, e1, e2⟩ := h2 a' v' h
        obtain ⟨i, hi⟩ := List.getElem?_of_mem hx
        refine ⟨x, List.mem_iff_getElem?.2 ⟨i, ?_⟩, e1, e2⟩
        rw [List.getElem?_set, if_neg, hi]
        rintro rfl
        rw [hj] at hi
        cases hi
        exact hne (KE.inj _ _ (by rw [← e1, hk0]))
end

section
variable {α β : Type} {d : TypeDesc} {ke : α → Value} {ve : β → Value} {w w' : World} {b b' n n' : Nat} {f : α → Option β}
/-- What a map has says how many entries it has. -/
theorem MapK.many (h : MapK d ke ve w b n f) (h' : MapK d ke ve w' b' n' f) : n = n' := by
  obtain ⟨es, clock, _, hs, hn, h1, h2⟩ := h
  obtain ⟨es', clock', _, hs', hn', h1', h2'⟩ := h'
  have key : ∀ (es : Array MapEntry), (∀ x ∈ es.toList, ∃ a v, x.key = ke a ∧ f a = some v ∧ x.val = ve v) → (∀ a v, f a = some v → ∃ x ∈ es.toList, x.key = ke a ∧ x.val = ve v) → ∀ k, k ∈ es.toList.map (·.key) ↔ ∃ a v, k = ke a ∧ f a = some v := fun es h1 h2 k => by
    constructor
    · intro h
      obtain ⟨x, hx, rfl⟩ := List.mem_map.1 h
      obtain ⟨a, v, e, e2, _⟩ := h1 x hx
      exact ⟨a, v, e, e2⟩
    · rintro ⟨a, v, rfl, e⟩
      obtain ⟨x, hx, e2, _⟩ := h2 a v e
      exact List.mem_map.2 ⟨x, hx, e2⟩
  have hp := (List.perm_ext_iff_of_nodup hs.2.2 hs'.2.2).2 fun k => (key es h1 h2 k).trans (key es' h1' h2' k).symm
  have := hp.length_eq
  simp only [List.length_map, Array.length_toList] at this
  omega
end
/-! A range over a map: which keys are still to come. -/
def RangeK {α β : Type} (d : TypeDesc) (ke : α → Value) (ve : β → Value) (w : World) (b r n : Nat) (f : α → Option β) (left : α → Prop) (cnt : Nat) : Prop :=
  ∃ es clock since seen c0, w.heap[b]? = some (.map es clock) ∧ Stamped es clock ∧ es.size = n ∧ (∀ x ∈ es.toList, ∃ a v, x.key = ke a ∧ f a = some v ∧ x.val = ve v) ∧ (∀ a v, f a = some v → ∃ x ∈ es.toList, x.key = ke a ∧ x.val = ve v) ∧
    w.heap[r]? = some (.mapIter (some b) since seen c0) ∧ (∀ x ∈ es.toList, x.born < since) ∧ (leftOf es seen).size = cnt ∧ (∀ x ∈ es.toList, ∀ a, x.key = ke a → (left a ↔ seen.contains x.born = false)) ∧ (∀ a, left a → f a ≠ none) ∧ since ≤ c0 ∧ since ≤ clock
section
variable {α β : Type} {d : TypeDesc} {ke : α → Value} {ve : β → Value} {w w' : World} {b r n cnt : Nat} {f : α → Option β} {left : α → Prop} {P : Program} {k : TypeId}
theorem RangeK.map (h : RangeK d ke ve w b r n f left cnt) : MapK d ke ve w b n f := by
  obtain ⟨es, clock, since, seen, c0, hb, hs, hn, h1, h2, _⟩ := h
  exact ⟨es, clock, hb, hs, hn, h1, h2⟩
theorem RangeK.lt (h : RangeK d ke ve w b r n f left cnt) : r < w.heap.size := by
  obtain ⟨es, clock, since, seen, c0, _, _, _, _, _, hr, _⟩ := h
  exact (Array.getElem?_eq_some_iff.1 hr).1
theorem RangeK.same (h : RangeK d ke ve w b r n f left cnt) (e1 : w'.heap[b]? = w.heap[b]?) (e2 : w'.heap[r]? = w.heap[r]?) : RangeK d ke ve w' b r n f left cnt := by
  obtain ⟨es, clock, since, seen, c0, hb, hs, hn, h1, h2, hr, rest⟩ := h
  exact ⟨es, clock, since, seen, c0, e1.trans hb, hs, hn, h1, h2, e2.trans hr, rest⟩
theorem RangeK.up (h : RangeK d ke ve w b r n f left cnt) (hb : Below w.heap.size w w') : RangeK d ke ve w' b r n f left cnt := h.same (hb.block b h.map.lt) (hb.block r h.lt)
theorem RangeK.gr {g : Nat} (h : RangeK d ke ve w b r n f left cnt) (hg : w.grownBy w' (some g)) (hne : b ≠ g ∧ r ≠ g) : RangeK d ke ve w' b r n f left cnt := h.same (hg.block b h.map.lt (by simpa using hne.1)) (hg.block r h.lt (by simpa using hne.2))
end

/-! At the operations. -/
section
variable {α β : Type} {d : TypeDesc} {ke : α → Value} {ve : β → Value} {w : World} {b n : Nat} {f : α → Option β} {P : Program} {k t e : TypeId} {o : Oper} {N : Nat} {D : List Deferred} {M : Slots} {x y : Operand} {r : Option Nat} {ops : Array Oper} {Q : Exit → Act → World → Prop} {rest : List Oper} {z : Value} {u : Value}
theorem R.lookKT (ho : o.op = .lookup t x y true) (hx : evM M x = some (.map (some b))) (KE : KeyE P k d ke) (ht : P.underlying t = some (.map k e)) (hz : zeroB P e = some z) (h : MapK d ke ve w b n f) (a : α) (hy : evM M y = some (ke a)) {v : β} (hv : f a = some v) : Runs P N D M o w (.value (.tuple #[ve v, .bool true])) w := fun ac F => by
  unfold execOp; simp only [ho, F.ev hx, F.ev hy, Sem.run_bind, Sem.run_pure, I.look KE ht hz h a true, Result.andThen_ok]; simp [hv, atK]
theorem R.makeMap0 (ho : o.op = .makeMap t none) : Runs P N D M o w (.value (.map (some w.heap.size))) (w.alloc (.map #[] 0)) := fun ac F => by
  unfold execOp; simp [ho, Instr.makeMap, Result.andThen]
theorem LL.makeMap (hr : Runs P N D M o w (.value (.map (some w.heap.size))) (w.alloc (.map #[] 0))) (hd : dstB N o.dst = true) (hdf : dfB o.op = false) (hg : wantB ops M o.guard = some true)
    (c : ∀ w1 g, g = w.heap.size → (∀ (α β : Type) (d : TypeDesc) (ke : α → Value) (ve : β → Value), MapK d ke ve w1 g 0 (fun _ => none)) → w1.heap.size = g + 1 → Below w.heap.size w w1 → LL r P ops Q N D (putM M o.dst (.map (some g))) rest w1) : LL r P ops Q N D M (o :: rest) w :=
  LL.val hr hd hdf hg (c _ _ rfl (fun _ _ _ _ _ => (MapK.made w).2 fun _ => rfl) (by simp) (Below.alloc0 w _))
theorem LL.mput [DecidableEq α] {y2 : Operand} (ho : o.op = .mapUpdate t x y y2 ∨ o.op = .insert t x y y2) (hx : evM M x = some (.map (some b))) (KE : KeyE P k d ke) (ht : P.underlying t = some (.map k e)) (h : MapK d ke ve w b n f) (a : α) (v : β) (hy : evM M y = some (ke a)) (hv : evM M y2 = some (ve v)) (hd : o.dst = none) (hdf : dfB o.op = false) (hg : wantB ops M o.guard = some true)
    (c : ∀ w', MapK d ke ve w' b (if (f a).isSome then n else n + 1) (putMap f a (some v)) → w.grownBy w' (some b) → w'.heap.size = w.heap.size → LL r P ops Q N D M rest w') : LL r P ops Q N D M (o :: rest) w := by
  obtain ⟨w', h1, h2, h3, h4⟩ := I.mput KE ht h a v
  refine LL.unit (w' := w') (fun ac F => ?_) hd hdf hg (c w' h2 h3 h4)
  unfold execOp
  rcases ho with ho | ho <;> simp only [ho, F.ev hx, F.ev hy, F.ev hv, Sem.run_bind, Sem.run_pure, h1, Result.andThen_ok]
end
end Go.Proofs.YtnoefalgmekjbaaDoor


/- Strings as lists of bytes. For any seat. -/
namespace Go.Proofs.YtnoefalgmekjbaaDoor
set_option linter.unusedVariables false
set_option linter.unusedSimpArgs false
open Go.RowKit Go.Shelf

abbrev Bs := List UInt8
abbrev strV (l : Bs) : Value := .string ⟨l.toArray⟩
theorem bs_list (l : Bs) : (⟨l.toArray⟩ : ByteArray).toList = l := by rw [ByteArray.toList_eq]
theorem bs_data (s : ByteArray) : s = ⟨s.data.toList.toArray⟩ := by cases s; simp
section
variable {P : Program} {w : World} {o : Oper} {n : Nat} {D : List Deferred} {M : Slots} {x y : Operand} {t u : TypeId} {a b : Bs} {i : Nat}
theorem R.eqS {c : Bool} (ho : o.op = .binOp .eql t x y u) (hx : evM M x = some (strV a)) (hy : evM M y = some (strV b)) (hc : decide (a = b) = c) : Runs P n D M o w (.value (.bool c)) w :=
  R.eqStr ho hx hy (by rw [bs_list, bs_list, ← hc, Bool.eq_iff_iff]; simp)
theorem I.ixStr {c : UInt8} (ht : isStr P t = true) (hi : a[i]? = some c) : (Instr.index t (strV a) (.int .i64 (i : Int))).run P w = .ok (.int .u8 (c.toNat : Int)) w := by
  unfold isStr at ht
  cases hu : P.underlying t with
  | none => rw [hu] at ht; cases ht
  | some d =>
    rw [hu] at ht
    cases d <;> try (cases ht; done)
    have hg : (⟨a.toArray⟩ : ByteArray)[i]? = some c := by
      have hlt := (List.getElem?_eq_some_iff.1 hi)
      obtain ⟨h1, h2⟩ := hlt
      have hs : i < (⟨a.toArray⟩ : ByteArray).size := by simpa [ByteArray.size] using h1
      rw [getElem?_pos _ i hs]
      congr 1
    have h0 : (0 : Int) ≤ (i : Int) := by omega
    simp [Instr.index, asIntOf, run_underlying hu, h0, hg]
theorem R.ixS {c : UInt8} (ho : o.op = .index t x y) (hx : evM M x = some (strV a)) (hy : evM M y = some (.int .i64 (i : Int))) (ht : isStr P t = true) (hi : a[i]? = some c) : Runs P n D M o w (.value (.int .u8 (c.toNat : Int))) w :=
  R.indexV ho hx hy (I.ixStr ht hi)
theorem R.lenS {xs : Array Operand} {ts : Array TypeId} (ho : o.op = .call { callee := .builtin .len, args := xs, argTypes := ts }) (hx : evsM M xs.toList = some [strV a]) (ht : ts[0]? = some t) (h : lenB P t (strV a) = some a.length) : Runs P n D M o w (.value (.int .i64 (a.length : Int))) w := R.len ho hx ht h
end
end Go.Proofs.YtnoefalgmekjbaaDoor


/- Slices whose elements have many cells: made, copied; parts of elements loaded and stored. Over any program. -/
namespace Go.Proofs.YtnoefalgmekjbaaDoor
set_option linter.unusedVariables false
set_option linter.unusedSimpArgs false
open Go.RowKit Go.Shelf

/-- k cells from a place on. -/
structure CellsN (w : World) (p : Addr) (k : Nat) (vs : List Value) : Prop where
  at' : Cells w p vs
  len : vs.length = k
section
variable {w w' : World} {p : Addr} {k b o : Nat} {vs : List Value} {P : Program} {t : TypeId}
theorem CellsN.lt (h : CellsN w ⟨b, o, none⟩ k vs) (hk : 0 < k) : b < w.heap.size := by
  have hl := h.len
  obtain ⟨u, hu⟩ : ∃ u, vs[0]? = some u := ⟨_, List.getElem?_eq_getElem (by omega)⟩
  have := h.at' 0 u hu
  rw [add_plain] at this
  exact World.block_lt_of_cell? _ _ this
theorem CellsN.up (h : CellsN w ⟨b, o, none⟩ k vs) (hb : Below w.heap.size w w') : CellsN w' ⟨b, o, none⟩ k vs := ⟨fun j u hu => by
  have h1 := h.at' j u hu
  rw [add_plain] at *
  exact (hb.cell (p := ⟨b, o + j, none⟩) (World.block_lt_of_cell? _ _ h1)).trans h1, h.len⟩
theorem CellsN.gr {r : Nat} (h : CellsN w ⟨b, o, none⟩ k vs) (hg : w.grownBy w' (some r)) (hne : b ≠ r) : CellsN w' ⟨b, o, none⟩ k vs := ⟨fun j u hu => by
  have h1 := h.at' j u hu
  rw [add_plain] at *
  exact (World.cell?_of_block (hg.block b (World.block_lt_of_cell? _ _ h1) (by simpa using hne))).trans h1, h.len⟩
theorem CellsN.kept {K : Nat → Prop} (h : CellsN w ⟨b, o, none⟩ k vs) (hk : Kept K w w') (hb : K b) : CellsN w' ⟨b, o, none⟩ k vs := ⟨fun j u hu => by
  have h1 := h.at' j u hu
  rw [add_plain] at *
  exact (World.cell?_of_block (hk.block b hb)).trans h1, h.len⟩
/-- A part. -/
theorem CellsN.part {us : List Value} (h : CellsN w ⟨b, o, none⟩ k vs) (c : Nat) {k' : Nat} (hu : (vs.drop c).take k' = us) (hl : c + k' ≤ k) : CellsN w ⟨b, o + c, none⟩ k' us := by
  have hv := h.len
  subst hu
  refine ⟨fun j u hj => ?_, by rw [List.length_take, List.length_drop]; omega⟩
  have hlt := (List.getElem?_eq_some_iff.1 hj).1
  rw [List.length_take, List.length_drop] at hlt
  rw [List.getElem?_take, if_pos (by omega), List.getElem?_drop] at hj
  have := h.at' _ u hj
  rw [add_plain] at *
  rw [Nat.add_assoc]
  exact this
theorem CellsN.cell {u : Value} (h : CellsN w ⟨b, o, none⟩ k vs) {j : Nat} (hu : vs[j]? = some u) : w.cell? ⟨b, o + j, none⟩ = some u := by
  have := h.at' j u hu
  rwa [add_plain] at this
theorem I.ldM (h : CellsN w p k vs) (hT : aggB P t = true) (hz : szB P t = some k) : (Instr.loadAt t (.pointer (some p))).run P w = .ok (.agg vs.toArray) w := I.ldN hT (by rw [hz, h.len]) h.at'
theorem RowL.cellsN {g e off : Nat} {xs : List Value} (h : RowL w g e xs) (hv : (xs.drop off).take k = vs) (hl : off + k ≤ xs.length) : CellsN w ⟨g, off, none⟩ k vs := by
  have hlen : vs.length = k := by rw [← hv, List.length_take, List.length_drop]; omega
  exact ⟨h.cells (by rw [hlen]; exact hv), hlen⟩
theorem RowL.elemN {α : Type} {enc : α → List Value} {g e i : Nat} {ts : List α} {x : α} (E : Enc enc k) (h : RowL w g e (ts.flatMap enc)) (hx : ts[i]? = some x) : CellsN w ⟨g, i * k, none⟩ k (enc x) := by
  have hi := (List.getElem?_eq_some_iff.1 hx).1
  have hf := E.flat ts
  have hin : i * k + k ≤ ts.length * k := by
    have : (i + 1) * k ≤ ts.length * k := Nat.mul_le_mul_right _ hi
    rw [Nat.add_mul] at this
    omega
  refine h.cellsN ?_ (by omega)
  rw [E.drop, ← Nat.one_mul k, E.take]
  rw [show ts.drop i = x :: ts.drop (i + 1) by rw [← (List.getElem?_eq_some_iff.1 hx).2]; exact List.drop_eq_getElem_cons hi]
  simp
theorem ReadsT.elemN {α : Type} {enc : α → List Value} (E : Enc enc k) {off n cap i : Nat} {ts : List α} {x : α} (h : ReadsT enc k w (.slice (some ⟨b, off, none⟩) n cap) ts) (hx : ts[i]? = some x) : CellsN w ⟨b, off + i * k, none⟩ k (enc x) := by
  obtain ⟨b', off', e, _, hc⟩ := h.get E hx
  simp only [Option.some.injEq, Addr.mk.injEq] at e
  obtain ⟨rfl, rfl, _⟩ := e
  exact ⟨hc, E.len x⟩
theorem ReadsT.kp {α : Type} {enc : α → List Value} {K : Nat → Prop} {off n cap : Nat} {ts : List α} (h : ReadsT enc k w (.slice (some ⟨b, off, none⟩) n cap) ts) (hk : Kept K w w') (hb : K b) : ReadsT enc k w' (.slice (some ⟨b, off, none⟩) n cap) ts :=
  h.sameB hk.size fun _ ho => (hk.block b hb).trans ho
end

section
variable {α : Type} {enc : α → List Value} {k : Nat} {P : Program} {w : World} {o : Oper} {n : Nat} {D : List Deferred} {M : Slots} {T e : TypeId} {z : Value} {bytes : Nat} {r : Option Nat} {ops : Array Oper} {Q : Exit → Act → World → Prop} {rest : List Oper}
theorem madeCells_rep (zs : List Value) (hk : 0 < zs.length) (m : Nat) : (madeCells zs.toArray (m * zs.length)).toList = (List.replicate m zs).flatten := by
  apply List.ext_getElem?
  intro j
  unfold madeCells
  simp only [Array.toList_map, Array.toList_range, List.getElem?_map, List.size_toArray]
  have key : ∀ (m j : Nat), (List.replicate m zs).flatten[j]? = if j < m * zs.length then zs[j % zs.length]? else none := by
    intro m
    induction m with
    | zero => intro j; simp
    | succ m ih =>
      intro j
      rw [List.replicate_succ, List.flatten_cons, List.getElem?_append]
      by_cases hj : j < zs.length
      · rw [if_pos hj, Nat.mod_eq_of_lt hj, if_pos]
        rw [Nat.add_mul]; omega
      · rw [if_neg hj, ih (j - zs.length)]
        have e1 : (j - zs.length) % zs.length = j % zs.length := by
          conv => rhs; rw [show j = (j - zs.length) + zs.length by omega, Nat.add_mod_right]
        rw [e1, Nat.add_mul]
        by_cases h2 : j - zs.length < m * zs.length
        · rw [if_pos h2, if_pos (by omega)]
        · rw [if_neg h2, if_neg (by omega)]
  rw [key]
  by_cases hj : j < m * zs.length
  · have hm : j % zs.length < zs.length := Nat.mod_lt _ hk
    rw [if_pos hj, List.getElem?_range hj, List.getElem?_eq_getElem hm]
    simp [hm]
  · rw [if_neg hj, List.getElem?_eq_none (by simpa using Nat.le_of_not_lt hj)]
    rfl
/-- make([]T, l, m) of elements of many cells. -/
theorem run_mkE {zs : List Value} (I : ElT P T e z k bytes) (hzc : z.cells = zs.toArray) (hk : 0 < k) (l m : Nat) (hl : l ≤ m) (hb : bytes * m ≤ 281474976710656) (hn : m ≤ 9223372036854775807) (w : World) :
    ∃ w', (Instr.makeSlice T (.int .i64 (l : Int)) (.int .i64 (m : Int))).run P w = .ok (.slice (some ⟨w.heap.size, 0, none⟩) l m) w' ∧ RowL w' w.heap.size e (List.replicate m zs).flatten ∧ Below w.heap.size w w' ∧ w'.heap.size = w.heap.size + 1 := by
  obtain ⟨i, hi, hz, hsz, hby⟩ := I.info
  have hm := I.many
  rw [hzc] at hm
  have hzl : zs.length = k := by simpa using hm
  have hb' : (i.bytes : Int) * (m : Int) ≤ 281474976710656 := by
    have h : ((i.bytes * m : Nat) : Int) ≤ 281474976710656 := by rw [hby]; omega
    rwa [Int.natCast_mul] at h
  have h := run_make (P := P) w T e i z I.under hi hz .i64 .i64 l m (by omega) (by omega) hb' (by omega)
  simp only [Int.toNat_natCast, hsz, hzc] at h
  refine ⟨_, h, ?_, Below.alloc0 w _, by simp⟩
  have e1 : madeCells zs.toArray (m * k) = (List.replicate m zs).flatten.toArray := by
    rw [← madeCells_rep zs (by omega) m, hzl]
  rw [e1]
  exact RowL.new w e _
theorem LL.makeE {x y : Operand} {l m : Nat} {zs : List Value} (I : ElT P T e z k bytes) (hzc : z.cells = zs.toArray) (hk : 0 < k) (ho : o.op = .makeSlice T x y) (hx : evM M x = some (.int .i64 (l : Int))) (hy : evM M y = some (.int .i64 (m : Int))) (hl : l ≤ m) (hb : bytes * m ≤ 281474976710656) (hn : m ≤ 9223372036854775807) (hd : dstB n o.dst = true) (hg : wantB ops M o.guard = some true)
    (c : ∀ w1 g, g = w.heap.size → RowL w1 g e (List.replicate m zs).flatten → w1.heap.size = g + 1 → Below w.heap.size w w1 → LL r P ops Q n D (putM M o.dst (.slice (some ⟨g, 0, none⟩) l m)) rest w1) : LL r P ops Q n D M (o :: rest) w := by
  obtain ⟨w', h1, h2, h3, h4⟩ := run_mkE I hzc hk l m hl hb hn w
  exact LL.val (R.make ho hx hy h1) hd (by rw [ho]; rfl) hg (c w' _ rfl h2 h4 h3)
end
end Go.Proofs.YtnoefalgmekjbaaDoor


/-
  DERIVED: THE SHELF's CONTRACTS AT THIS DUMP, IN PLAIN WORDS (tools/lay-plain.mjs out of 'TrydShelf.lean', which tools/lay-shelf.mjs wrote): THE SAME DECLARATIONS UNDER THE SAME NAMES: 'import', 'namespace', 'open', 'def', 'theorem' AND NOTHING ELSE: no command of the shelf's: FOR A HAND-IN. Each laying: the table of numbers ('.._ren') and one theorem, a field a fact of the dump's own or the kernel's comparison; each contract: ONE APPLICATION.
-/
namespace Go.Proofs
open Go.Shelf
def Tryd.lays137_ren : Go.Shelf.Ren := ⟨fun | 137 => 72 | 217 => 83 | 266 => 92 | n => n, fun | 9 => 9 | 5 => 5 | 3 => 3 | n => n, fun | n => n⟩
theorem Tryd.lays137 : Go.Proofs.Lays.n137 Tryd.prog Tryd.lays137_ren := {
  mixed := by kernel_rfl
  f137 := Tryd.func72.trans (congrArg some (by kernel_rfl))
  f217 := Tryd.func83.trans (congrArg some (by kernel_rfl))
  f266 := Tryd.func92.trans (congrArg some (by kernel_rfl))
  t3 := Tryd.underlying3
  a3 := Tryd.isAgg3
  z3 := Tryd.sizeOf3
  v3 := Tryd.zeroValue3
  t5 := Tryd.underlying5
  a5 := Tryd.isAgg5
  z5 := Tryd.sizeOf5
  v5 := Tryd.zeroValue5
  t9 := Tryd.underlying9
  a9 := Tryd.isAgg9
  z9 := Tryd.sizeOf9
  v9 := Tryd.zeroValue9 }
open Go.RowKit in
/-- strings.IndexByte: "IndexByte returns the index of the first instance of c in s, or -1 if c is not present in s.": IT RETURNS 'Lib.indexByte s c'; the world is as it was. (LAID: no walk: one application.) -/
theorem Tryd.strings_IndexByte (s : ByteArray) (c : Int) (w : World) :
    Calls Tryd.prog 72 #[.string s, .int .u8 c] w fun e w' => e = .returned (.int .i64 (Lib.indexByte s.data.toList c.toNat.toUInt8)) ∧ w' = w := Any.strings_IndexByte Tryd.lays137 s c w
end Go.Proofs


/- inode: refusals, what may be, the table of kinds. -/
namespace Go.Proofs.YtnoefalgmekjbaaDoor
set_option linter.unusedVariables false
set_option linter.unusedSimpArgs false
open Go.RowKit Go.Shelf
set_option maxRecDepth 100000
set_option maxHeartbeats 8000000
/-- An inode's value. -/
abbrev inL (k l z : Int) (a : Value) (r p : Int) (t : Bs) : List Value := [.int .i64 k, .int .i64 l, .int .i64 z, a, .int .i64 r, .int .i64 p, strV t]
abbrev inV (k l z : Int) (a : Value) (r p : Int) (t : Bs) : Value := .agg #[.int .i64 k, .int .i64 l, .int .i64 z, a, .int .i64 r, .int .i64 p, strV t]
theorem within_any (n lo hi : Int) (w : World) : Calls Tryd.prog 46 #[.int .i64 n, .int .i64 lo, .int .i64 hi] w fun e w' => e = .returned (.bool (decide (lo ≤ n ∧ n ≤ hi))) ∧ w = w' := by
  by_cases h1 : lo ≤ n
  · by_cases h2 : n ≤ hi
    · rw [decide_eq_true (by omega)]
      refine X.fn Tryd.func46 rfl (n := 15) rfl rfl ?_
      refine CC.seq ?_
      refine CC.region ?_
      refine LL.val (R.assign rfl rfl) rfl rfl rfl ?_
      refine LL.nilS ?_
      refine CC.seq ?_
      refine CC.region ?_
      refine LL.val (R.move rfl rfl) rfl rfl rfl ?_
      refine LL.val (R.move rfl rfl) rfl rfl rfl ?_
      refine LL.val (R.leT rfl rfl rfl (by omega)) rfl rfl rfl ?_
      refine LL.val (R.move rfl rfl) rfl rfl rfl ?_
      refine LL.val (R.move rfl rfl) rfl rfl rfl ?_
      refine LL.val (R.move rfl rfl) rfl rfl rfl ?_
      refine LL.val (R.leT rfl rfl rfl (by omega)) rfl rfl rfl ?_
      refine LL.val (R.pick rfl rfl rfl) rfl rfl rfl ?_
      refine LL.val (R.assign rfl rfl) rfl rfl rfl ?_
      refine LL.nilS ?_
      refine CC.ret ?_
      refine EE.ret _ rfl rfl ?_
      exact ⟨rfl, rfl⟩
    · rw [decide_eq_false (by omega)]
      refine X.fn Tryd.func46 rfl (n := 15) rfl rfl ?_
      refine CC.seq ?_
      refine CC.region ?_
      refine LL.val (R.assign rfl rfl) rfl rfl rfl ?_
      refine LL.nilS ?_
      refine CC.seq ?_
      refine CC.region ?_
      refine LL.val (R.move rfl rfl) rfl rfl rfl ?_
      refine LL.val (R.move rfl rfl) rfl rfl rfl ?_
      refine LL.val (R.leT rfl rfl rfl (by omega)) rfl rfl rfl ?_
      refine LL.val (R.move rfl rfl) rfl rfl rfl ?_
      refine LL.val (R.move rfl rfl) rfl rfl rfl ?_
      refine LL.val (R.move rfl rfl) rfl rfl rfl ?_
      refine LL.val (R.leF rfl rfl rfl (by omega)) rfl rfl rfl ?_
      refine LL.val (R.pick rfl rfl rfl) rfl rfl rfl ?_
      refine LL.val (R.assign rfl rfl) rfl rfl rfl ?_
      refine LL.nilS ?_
      refine CC.ret ?_
      refine EE.ret _ rfl rfl ?_
      exact ⟨rfl, rfl⟩
  · rw [decide_eq_false (by omega)]
    refine X.fn Tryd.func46 rfl (n := 15) rfl rfl ?_
    refine CC.seq ?_
    refine CC.region ?_
    refine LL.val (R.assign rfl rfl) rfl rfl rfl ?_
    refine LL.nilS ?_
    refine CC.seq ?_
    refine CC.region ?_
    refine LL.val (R.move rfl rfl) rfl rfl rfl ?_
    refine LL.val (R.move rfl rfl) rfl rfl rfl ?_
    refine LL.val (R.leF rfl rfl rfl (by omega)) rfl rfl rfl ?_
    refine LL.val (R.move rfl rfl) rfl rfl rfl ?_
    refine LL.skip rfl rfl ?_
    refine LL.skip rfl rfl ?_
    refine LL.skip rfl rfl ?_
    refine LL.val (R.pick rfl rfl rfl) rfl rfl rfl ?_
    refine LL.val (R.assign rfl rfl) rfl rfl rfl ?_
    refine LL.nilS ?_
    refine CC.ret ?_
    refine EE.ret _ rfl rfl ?_
    exact ⟨rfl, rfl⟩
theorem within_T (n lo hi : Int) (w : World) (h : lo ≤ n ∧ n ≤ hi) : Calls Tryd.prog 46 #[.int .i64 n, .int .i64 lo, .int .i64 hi] w fun e w' => e = .returned (.bool true) ∧ w = w' := by
  have := within_any n lo hi w
  rw [decide_eq_true h] at this
  exact this
theorem kwithin_T (n lo hi : Int) (w : World) (h : lo ≤ n ∧ n ≤ hi) : Calls Tryd.prog 45 #[.int .i64 n, .int .i64 lo, .int .i64 hi] w fun e w' => e = .returned (.bool true) ∧ w = w' := by
  refine X.fn Tryd.func45 rfl (n := 15) rfl rfl ?_
  refine CC.seq ?_
  refine CC.region ?_
  refine LL.val (R.assign rfl rfl) rfl rfl rfl ?_
  refine LL.nilS ?_
  refine CC.seq ?_
  refine CC.region ?_
  refine LL.val (R.move rfl rfl) rfl rfl rfl ?_
  refine LL.val (R.move rfl rfl) rfl rfl rfl ?_
  refine LL.val (R.leT rfl rfl rfl (by omega)) rfl rfl rfl ?_
  refine LL.val (R.move rfl rfl) rfl rfl rfl ?_
  refine LL.val (R.move rfl rfl) rfl rfl rfl ?_
  refine LL.val (R.move rfl rfl) rfl rfl rfl ?_
  refine LL.val (R.leT rfl rfl rfl (by omega)) rfl rfl rfl ?_
  refine LL.val (R.pick rfl rfl rfl) rfl rfl rfl ?_
  refine LL.val (R.assign rfl rfl) rfl rfl rfl ?_
  refine LL.nilS ?_
  refine CC.ret ?_
  refine EE.ret _ rfl rfl ?_
  exact ⟨rfl, rfl⟩
/-- What a refusal is. -/
abbrev refV : Value := .iface 100 (.agg #[.int .i64 240])
theorem refuse_F (w : World) : Calls Tryd.prog 38 #[.bool false] w fun x w' => x = .returned (.tuple #[]) ∧ w = w' := by
  refine X.fn Tryd.func38 rfl (n := 5) rfl rfl ?_
  refine CC.seq ?_
  refine CC.region ?_
  refine LL.val (R.move rfl rfl) rfl rfl rfl ?_
  refine LL.nilS ?_
  refine CC.no rfl ?_
  refine CC.skip ?_
  refine EE.end _ rfl rfl ?_
  exact ⟨rfl, rfl⟩
--C inode_refuse | refuse_T @w | P ⟨rfl, rfl⟩
theorem refuse_T (w : World) : Calls Tryd.prog 38 #[.bool true] w fun x w' => x = .panicked (chain1 refV) ∧ w = w' := by
  refine X.fn Tryd.func38 rfl (n := 5) rfl rfl ?_
  refine CC.seq ?_
  refine CC.region ?_
  refine LL.val (R.move rfl rfl) rfl rfl rfl ?_
  refine LL.nilS ?_
  refine CC.yes rfl ?_
  refine CC.region ?_
  refine LL.val (R.buildV rfl rfl (v := .agg #[Value.int IntKind.i64 240]) (fun _ => by kernel_rfl)) rfl rfl rfl ?_
  refine LL.val (R.mkIface rfl rfl (by kernel_rfl)) rfl rfl rfl ?_
  refine LL.panic rfl rfl rfl ?_
  refine EE.pan ?_
  exact ⟨rfl, rfl⟩
theorem zKeys : KeyE Tryd.prog 22 (.int .i64) (fun z : Int => .int .i64 z) := ⟨by kernel_rfl, fun _ => rfl, fun a b h => by
  simp only [Value.int.injEq, true_and] at h
  exact h⟩
/-- What a kind has: four functions. -/
abbrev fnV (f : Nat) : Value := .func (.func f) #[] #[]
def kdV (x : Nat × Nat × Nat × Nat) : Value := .agg #[fnV x.1, fnV x.2.1, fnV x.2.2.1, fnV x.2.2.2]
def kd0 : Nat × Nat × Nat × Nat := (57, 58, 59, 60)
def kd1 : Nat × Nat × Nat × Nat := (61, 62, 63, 64)
def kd2 : Nat × Nat × Nat × Nat := (65, 66, 67, 68)
def kd3 : Nat × Nat × Nat × Nat := (70, 71, 73, 75)
def kindsF : Int → Option (Nat × Nat × Nat × Nat) := putMap (putMap (putMap (putMap (fun _ => none) 0 (some kd0)) 1 (some kd1)) 2 (some kd2)) 3 (some kd3)
abbrev KMap (w : World) (m n : Nat) : Prop := MapK (.int .i64) (fun z : Int => .int .i64 z) kdV w m n kindsF
theorem kinds_any (w : World) : Calls Tryd.prog 40 #[] w fun e w' => ∃ m n, e = .returned (.map (some m)) ∧ KMap w' m n ∧ Below w.heap.size w w' := by
  have q := Below.refl w.heap.size w
  refine X.fn Tryd.func40 rfl (n := 7) rfl rfl ?_
  refine CC.seq ?_
  refine CC.region ?_
  refine LL.val (R.assign rfl rfl) rfl rfl rfl ?_
  refine LL.nilS ?_
  refine CC.seq ?_
  refine CC.region ?_
  (refine LL.makeMap (R.makeMap0 rfl) rfl rfl rfl ?_; intro W39 qb eqb mk zqb b36; replace mk := mk Int (Nat × Nat × Nat × Nat) (.int .i64) (fun z : Int => .int .i64 z) kdV)
  have zb36 := b36.size
  replace q := q.trans (b36.mono q.size)
  refine LL.val (R.buildV rfl rfl (v := .agg #[Value.func (Fn.func 57) #[] #[], Value.func (Fn.func 58) #[] #[], Value.func (Fn.func 59) #[] #[], Value.func (Fn.func 60) #[] #[]]) (fun _ => by kernel_rfl)) rfl rfl rfl ?_
  (refine LL.mput (.inr rfl) rfl zKeys rfl mk (0 : Int) kd0 rfl rfl rfl rfl rfl ?_; intro W88 mq gr86 zz5; replace mk := mq; clear mq)
  have zgr86 := gr86.size
  replace b36 := b36.grown gr86 b36.size (by rintro k ⟨⟩; omega)
  replace q := q.grown gr86 q.size (by rintro k ⟨⟩; omega)
  refine LL.val (R.buildV rfl rfl (v := .agg #[Value.func (Fn.func 61) #[] #[], Value.func (Fn.func 62) #[] #[], Value.func (Fn.func 63) #[] #[], Value.func (Fn.func 64) #[] #[]]) (fun _ => by kernel_rfl)) rfl rfl rfl ?_
  (refine LL.mput (.inr rfl) rfl zKeys rfl mk (1 : Int) kd1 rfl rfl rfl rfl rfl ?_; intro W144 mq gr142 zz5; replace mk := mq; clear mq)
  have zgr142 := gr142.size
  replace b36 := b36.grown gr142 b36.size (by rintro k ⟨⟩; omega)
  replace q := q.grown gr142 q.size (by rintro k ⟨⟩; omega)
  refine LL.val (R.buildV rfl rfl (v := .agg #[Value.func (Fn.func 65) #[] #[], Value.func (Fn.func 66) #[] #[], Value.func (Fn.func 67) #[] #[], Value.func (Fn.func 68) #[] #[]]) (fun _ => by kernel_rfl)) rfl rfl rfl ?_
  (refine LL.mput (.inr rfl) rfl zKeys rfl mk (2 : Int) kd2 rfl rfl rfl rfl rfl ?_; intro W207 mq gr205 zz5; replace mk := mq; clear mq)
  have zgr205 := gr205.size
  replace b36 := b36.grown gr205 b36.size (by rintro k ⟨⟩; omega)
  replace q := q.grown gr205 q.size (by rintro k ⟨⟩; omega)
  refine LL.val (R.buildV rfl rfl (v := .agg #[Value.func (Fn.func 70) #[] #[], Value.func (Fn.func 71) #[] #[], Value.func (Fn.func 73) #[] #[], Value.func (Fn.func 75) #[] #[]]) (fun _ => by kernel_rfl)) rfl rfl rfl ?_
  (refine LL.mput (.inr rfl) rfl zKeys rfl mk (3 : Int) kd3 rfl rfl rfl rfl rfl ?_; intro W277 mq gr275 zz5; replace mk := mq; clear mq)
  have zgr275 := gr275.size
  replace b36 := b36.grown gr275 b36.size (by rintro k ⟨⟩; omega)
  replace q := q.grown gr275 q.size (by rintro k ⟨⟩; omega)
  refine LL.val (R.move rfl rfl) rfl rfl rfl ?_
  refine LL.val (R.assign rfl rfl) rfl rfl rfl ?_
  refine LL.nilS ?_
  refine CC.ret ?_
  refine EE.ret _ rfl rfl ?_
  exact ⟨_, _, rfl, mk, q⟩
theorem idx_mem (l : Bs) (c : UInt8) : (0 ≤ Lib.indexByte l c ↔ c ∈ l) := by
  have hge := Lib.indexByte_ge l c
  constructor
  · intro h
    obtain ⟨i, hi⟩ : ∃ i : Nat, Lib.indexByte l c = i := ⟨(Lib.indexByte l c).toNat, by omega⟩
    exact List.mem_of_getElem? (Lib.indexByte_some hi).1
  · intro h
    obtain ⟨k, hk⟩ := List.mem_iff_getElem?.1 h
    rcases Int.lt_or_le (Lib.indexByte l c) 0 with h0 | h0
    · exact absurd hk (Lib.indexByte_none (by omega) k)
    · exact h0
theorem idx_any (l : Bs) (w : World) : Calls Tryd.prog 72 #[strV l, .int .u8 0] w fun e w' => e = .returned (.int .i64 (Lib.indexByte l 0)) ∧ w = w' :=
  (Tryd.strings_IndexByte ⟨l.toArray⟩ 0 w).mono fun e w' ⟨he, hw⟩ => ⟨by rw [he]; rfl, hw.symm⟩
section
variable (k l z : Int) (a : Value) (r p : Int) (t : Bs)
theorem nm0_any (w : World) : Calls Tryd.prog 57 #[inV k l z a r p t] w fun e w' => e = .returned (inV 0 0 0 (.slice none 0 0) 0 0 []) ∧ Below w.heap.size w w' := by
  have q := Below.refl w.heap.size w
  refine X.fn Tryd.func57 rfl (n := 4) rfl rfl ?_
  refine CC.seq ?_
  refine CC.region ?_
  refine LL.box [Value.int IntKind.i64 k, Value.int IntKind.i64 l, Value.int IntKind.i64 z, a, Value.int IntKind.i64 r, Value.int IntKind.i64 p, strV t] rfl rfl rfl rfl rfl ?_
  intro W2 g3 eg3 r4 z5 b1
  replace q := q.trans (b1.mono q.size)
  have l6 := r4.lt
  refine LL.alloc ([Value.int IntKind.i64 0, Value.int IntKind.i64 0, Value.int IntKind.i64 0, Value.slice none 0 0, Value.int IntKind.i64 0, Value.int IntKind.i64 0, Value.string { data := { toList := [] } }]) rfl rfl rfl rfl rfl ?_
  intro W8 g9 eg9 r10 z11 b7
  replace r4 := r4.up b7
  replace b1 := b1.trans (b7.mono b1.size)
  replace q := q.trans (b7.mono q.size)
  refine LL.nilS ?_
  refine CC.seq ?_
  refine CC.region ?_
  refine LL.val (R.buildV rfl rfl (v := .agg #[Value.int IntKind.i64 0, Value.int IntKind.i64 0, Value.int IntKind.i64 0, Value.slice none 0 0, Value.int IntKind.i64 0, Value.int IntKind.i64 0, Value.string { data := #[] }]) (fun _ => by kernel_rfl)) rfl rfl rfl ?_
  refine LL.storeN (vs := [Value.int IntKind.i64 0, Value.int IntKind.i64 0, Value.int IntKind.i64 0, Value.slice none 0 0, Value.int IntKind.i64 0, Value.int IntKind.i64 0, Value.string { data := #[] }]) rfl rfl rfl rfl r10 (by exact Nat.le_of_ble_eq_true rfl) (ones_of rfl) rfl rfl ?_
  intro W13 r14 b12 z15
  have hlb12 := r10.lt
  replace r14 : RowL W13 _ 25 [Value.int IntKind.i64 0, Value.int IntKind.i64 0, Value.int IntKind.i64 0, Value.slice none 0 0, Value.int IntKind.i64 0, Value.int IntKind.i64 0, Value.string { data := #[] }] := r14
  clear r10
  replace b7 := b7.grown b12 b7.size (by rintro k ⟨⟩; omega)
  replace r4 := r4.gr b12 (by have := r4.lt; omega)
  replace b1 := b1.grown b12 b1.size (by rintro k ⟨⟩; omega)
  replace q := q.grown b12 q.size (by rintro k ⟨⟩; omega)
  have r10 := r14
  clear r14
  refine LL.nilS ?_
  refine CC.ret ?_
  refine EE.retC rfl rfl (lvNc (RowL.cells0 (by assumption)) (by rfl) (by rfl)) ?_
  exact ⟨rfl, q⟩
theorem nm1_any (w : World) (ha : ∃ x n c, a = .slice x n c) : Calls Tryd.prog 61 #[inV k l z a r p t] w fun e w' => e = .returned (inV k l z a 0 0 []) ∧ Below w.heap.size w w' := by
  have q := Below.refl w.heap.size w
  obtain ⟨xa, na, ca, rfl⟩ := ha
  refine X.fn Tryd.func61 rfl (n := 12) rfl rfl ?_
  refine CC.seq ?_
  refine CC.region ?_
  refine LL.box [Value.int IntKind.i64 k, Value.int IntKind.i64 l, Value.int IntKind.i64 z, Value.slice xa na ca, Value.int IntKind.i64 r, Value.int IntKind.i64 p, strV t] rfl rfl rfl rfl rfl ?_
  intro W2 g3 eg3 r4 z5 b1
  replace q := q.trans (b1.mono q.size)
  have l6 := r4.lt
  refine LL.alloc ([Value.int IntKind.i64 0, Value.int IntKind.i64 0, Value.int IntKind.i64 0, Value.slice none 0 0, Value.int IntKind.i64 0, Value.int IntKind.i64 0, Value.string { data := { toList := [] } }]) rfl rfl rfl rfl rfl ?_
  intro W8 g9 eg9 r10 z11 b7
  replace r4 := r4.up b7
  replace b1 := b1.trans (b7.mono b1.size)
  replace q := q.trans (b7.mono q.size)
  refine LL.nilS ?_
  refine CC.seq ?_
  refine CC.region ?_
  refine LL.val (R.field rfl rfl (I.fld rfl)) rfl rfl rfl ?_
  refine LL.val (R.load rfl rfl (I.ld1 rfl (RowL.cell r4 rfl))) rfl rfl rfl ?_
  refine LL.val (R.field rfl rfl (I.fld rfl)) rfl rfl rfl ?_
  refine LL.val (R.load rfl rfl (I.ld1 rfl (RowL.cell r4 rfl))) rfl rfl rfl ?_
  refine LL.val (R.field rfl rfl (I.fld rfl)) rfl rfl rfl ?_
  refine LL.val (R.load rfl rfl (I.ld1 rfl (RowL.cell r4 rfl))) rfl rfl rfl ?_
  refine LL.val (R.field rfl rfl (I.fld rfl)) rfl rfl rfl ?_
  refine LL.val (R.load rfl rfl (I.ld1 rfl (RowL.cell r4 rfl))) rfl rfl rfl ?_
  refine LL.val (R.buildV rfl rfl (v := .agg #[Value.int IntKind.i64 k, Value.int IntKind.i64 l, Value.int IntKind.i64 z, Value.slice xa na ca, Value.int IntKind.i64 0, Value.int IntKind.i64 0, Value.string { data := #[] }]) (fun _ => by kernel_rfl)) rfl rfl rfl ?_
  refine LL.storeN (vs := [Value.int IntKind.i64 k, Value.int IntKind.i64 l, Value.int IntKind.i64 z, Value.slice xa na ca, Value.int IntKind.i64 0, Value.int IntKind.i64 0, Value.string { data := #[] }]) rfl rfl rfl rfl r10 (by exact Nat.le_of_ble_eq_true rfl) (ones_of rfl) rfl rfl ?_
  intro W13 r14 b12 z15
  have hlb12 := r10.lt
  replace r14 : RowL W13 _ 25 [Value.int IntKind.i64 k, Value.int IntKind.i64 l, Value.int IntKind.i64 z, Value.slice xa na ca, Value.int IntKind.i64 0, Value.int IntKind.i64 0, Value.string { data := #[] }] := r14
  clear r10
  replace b7 := b7.grown b12 b7.size (by rintro k ⟨⟩; omega)
  replace r4 := r4.gr b12 (by have := r4.lt; omega)
  replace b1 := b1.grown b12 b1.size (by rintro k ⟨⟩; omega)
  replace q := q.grown b12 q.size (by rintro k ⟨⟩; omega)
  have r10 := r14
  clear r14
  refine LL.nilS ?_
  refine CC.ret ?_
  refine EE.retC rfl rfl (lvNc (RowL.cells0 (by assumption)) (by rfl) (by rfl)) ?_
  exact ⟨rfl, q⟩
theorem nm2_any (w : World) (ha : ∃ x n c, a = .slice x n c) : Calls Tryd.prog 65 #[inV k l z a r p t] w fun e w' => e = .returned (inV k l 0 (.slice none 0 0) r p []) ∧ Below w.heap.size w w' := by
  have q := Below.refl w.heap.size w
  obtain ⟨xa, na, ca, rfl⟩ := ha
  refine X.fn Tryd.func65 rfl (n := 12) rfl rfl ?_
  refine CC.seq ?_
  refine CC.region ?_
  refine LL.box [Value.int IntKind.i64 k, Value.int IntKind.i64 l, Value.int IntKind.i64 z, Value.slice xa na ca, Value.int IntKind.i64 r, Value.int IntKind.i64 p, strV t] rfl rfl rfl rfl rfl ?_
  intro W2 g3 eg3 r4 z5 b1
  replace q := q.trans (b1.mono q.size)
  have l6 := r4.lt
  refine LL.alloc ([Value.int IntKind.i64 0, Value.int IntKind.i64 0, Value.int IntKind.i64 0, Value.slice none 0 0, Value.int IntKind.i64 0, Value.int IntKind.i64 0, Value.string { data := { toList := [] } }]) rfl rfl rfl rfl rfl ?_
  intro W8 g9 eg9 r10 z11 b7
  replace r4 := r4.up b7
  replace b1 := b1.trans (b7.mono b1.size)
  replace q := q.trans (b7.mono q.size)
  refine LL.nilS ?_
  refine CC.seq ?_
  refine CC.region ?_
  refine LL.val (R.field rfl rfl (I.fld rfl)) rfl rfl rfl ?_
  refine LL.val (R.load rfl rfl (I.ld1 rfl (RowL.cell r4 rfl))) rfl rfl rfl ?_
  refine LL.val (R.field rfl rfl (I.fld rfl)) rfl rfl rfl ?_
  refine LL.val (R.load rfl rfl (I.ld1 rfl (RowL.cell r4 rfl))) rfl rfl rfl ?_
  refine LL.val (R.field rfl rfl (I.fld rfl)) rfl rfl rfl ?_
  refine LL.val (R.load rfl rfl (I.ld1 rfl (RowL.cell r4 rfl))) rfl rfl rfl ?_
  refine LL.val (R.field rfl rfl (I.fld rfl)) rfl rfl rfl ?_
  refine LL.val (R.load rfl rfl (I.ld1 rfl (RowL.cell r4 rfl))) rfl rfl rfl ?_
  refine LL.val (R.buildV rfl rfl (v := .agg #[Value.int IntKind.i64 k, Value.int IntKind.i64 l, Value.int IntKind.i64 0, Value.slice none 0 0, Value.int IntKind.i64 r, Value.int IntKind.i64 p, Value.string { data := #[] }]) (fun _ => by kernel_rfl)) rfl rfl rfl ?_
  refine LL.storeN (vs := [Value.int IntKind.i64 k, Value.int IntKind.i64 l, Value.int IntKind.i64 0, Value.slice none 0 0, Value.int IntKind.i64 r, Value.int IntKind.i64 p, Value.string { data := #[] }]) rfl rfl rfl rfl r10 (by exact Nat.le_of_ble_eq_true rfl) (ones_of rfl) rfl rfl ?_
  intro W13 r14 b12 z15
  have hlb12 := r10.lt
  replace r14 : RowL W13 _ 25 [Value.int IntKind.i64 k, Value.int IntKind.i64 l, Value.int IntKind.i64 0, Value.slice none 0 0, Value.int IntKind.i64 r, Value.int IntKind.i64 p, Value.string { data := #[] }] := r14
  clear r10
  replace b7 := b7.grown b12 b7.size (by rintro k ⟨⟩; omega)
  replace r4 := r4.gr b12 (by have := r4.lt; omega)
  replace b1 := b1.grown b12 b1.size (by rintro k ⟨⟩; omega)
  replace q := q.grown b12 q.size (by rintro k ⟨⟩; omega)
  have r10 := r14
  clear r14
  refine LL.nilS ?_
  refine CC.ret ?_
  refine EE.retC rfl rfl (lvNc (RowL.cells0 (by assumption)) (by rfl) (by rfl)) ?_
  exact ⟨rfl, q⟩
theorem nm3_any (w : World) (ha : ∃ x n c, a = .slice x n c) : Calls Tryd.prog 70 #[inV k l z a r p t] w fun e w' => e = .returned (inV k l 0 (.slice none 0 0) 0 0 t) ∧ Below w.heap.size w w' := by
  have q := Below.refl w.heap.size w
  obtain ⟨xa, na, ca, rfl⟩ := ha
  refine X.fn Tryd.func70 rfl (n := 10) rfl rfl ?_
  refine CC.seq ?_
  refine CC.region ?_
  refine LL.box [Value.int IntKind.i64 k, Value.int IntKind.i64 l, Value.int IntKind.i64 z, Value.slice xa na ca, Value.int IntKind.i64 r, Value.int IntKind.i64 p, strV t] rfl rfl rfl rfl rfl ?_
  intro W2 g3 eg3 r4 z5 b1
  replace q := q.trans (b1.mono q.size)
  have l6 := r4.lt
  refine LL.alloc ([Value.int IntKind.i64 0, Value.int IntKind.i64 0, Value.int IntKind.i64 0, Value.slice none 0 0, Value.int IntKind.i64 0, Value.int IntKind.i64 0, Value.string { data := { toList := [] } }]) rfl rfl rfl rfl rfl ?_
  intro W8 g9 eg9 r10 z11 b7
  replace r4 := r4.up b7
  replace b1 := b1.trans (b7.mono b1.size)
  replace q := q.trans (b7.mono q.size)
  refine LL.nilS ?_
  refine CC.seq ?_
  refine CC.region ?_
  refine LL.val (R.field rfl rfl (I.fld rfl)) rfl rfl rfl ?_
  refine LL.val (R.load rfl rfl (I.ld1 rfl (RowL.cell r4 rfl))) rfl rfl rfl ?_
  refine LL.val (R.field rfl rfl (I.fld rfl)) rfl rfl rfl ?_
  refine LL.val (R.load rfl rfl (I.ld1 rfl (RowL.cell r4 rfl))) rfl rfl rfl ?_
  refine LL.val (R.field rfl rfl (I.fld rfl)) rfl rfl rfl ?_
  refine LL.val (R.load rfl rfl (I.ld1 rfl (RowL.cell r4 rfl))) rfl rfl rfl ?_
  refine LL.val (R.buildV rfl rfl (v := .agg #[Value.int IntKind.i64 k, Value.int IntKind.i64 l, Value.int IntKind.i64 0, Value.slice none 0 0, Value.int IntKind.i64 0, Value.int IntKind.i64 0, Value.string { data := List.toArray t }]) (fun _ => by kernel_rfl)) rfl rfl rfl ?_
  refine LL.storeN (vs := [Value.int IntKind.i64 k, Value.int IntKind.i64 l, Value.int IntKind.i64 0, Value.slice none 0 0, Value.int IntKind.i64 0, Value.int IntKind.i64 0, Value.string { data := List.toArray t }]) rfl rfl rfl rfl r10 (by exact Nat.le_of_ble_eq_true rfl) (ones_of rfl) rfl rfl ?_
  intro W13 r14 b12 z15
  have hlb12 := r10.lt
  replace r14 : RowL W13 _ 25 [Value.int IntKind.i64 k, Value.int IntKind.i64 l, Value.int IntKind.i64 0, Value.slice none 0 0, Value.int IntKind.i64 0, Value.int IntKind.i64 0, Value.string { data := List.toArray t }] := r14
  clear r10
  replace b7 := b7.grown b12 b7.size (by rintro k ⟨⟩; omega)
  replace r4 := r4.gr b12 (by have := r4.lt; omega)
  replace b1 := b1.grown b12 b1.size (by rintro k ⟨⟩; omega)
  replace q := q.grown b12 q.size (by rintro k ⟨⟩; omega)
  have r10 := r14
  clear r14
  refine LL.nilS ?_
  refine CC.ret ?_
  refine EE.retC rfl rfl (lvNc (RowL.cells0 (by assumption)) (by rfl) (by rfl)) ?_
  exact ⟨rfl, q⟩
theorem my0_any (w : World) (ha : ∃ x n c, a = .slice x n c) : Calls Tryd.prog 58 #[inV k l z a r p t] w fun e w' => e = .returned (.bool true) ∧ Below w.heap.size w w' := by
  have q := Below.refl w.heap.size w
  obtain ⟨xa, na, ca, rfl⟩ := ha
  refine X.fn Tryd.func58 rfl (n := 3) rfl rfl ?_
  refine CC.seq ?_
  refine CC.region ?_
  refine LL.box [Value.int IntKind.i64 k, Value.int IntKind.i64 l, Value.int IntKind.i64 z, Value.slice xa na ca, Value.int IntKind.i64 r, Value.int IntKind.i64 p, strV t] rfl rfl rfl rfl rfl ?_
  intro W2 g3 eg3 r4 z5 b1
  replace q := q.trans (b1.mono q.size)
  refine LL.val (R.assign rfl rfl) rfl rfl rfl ?_
  refine LL.nilS ?_
  refine CC.seq ?_
  refine CC.region ?_
  refine LL.val (R.assign rfl rfl) rfl rfl rfl ?_
  refine LL.nilS ?_
  refine CC.ret ?_
  refine EE.ret _ rfl rfl ?_
  exact ⟨rfl, q⟩
theorem my2_T (w : World) (ha : ∃ x n c, a = .slice x n c) (h : (1 ≤ r ∧ r ≤ 2047) ∧ 1 ≤ p ∧ p ≤ 256) : Calls Tryd.prog 66 #[inV k l z a r p t] w fun e w' => e = .returned (.bool true) ∧ Below w.heap.size w w' := by
  have q := Below.refl w.heap.size w
  obtain ⟨xa, na, ca, rfl⟩ := ha
  refine X.fn Tryd.func66 rfl (n := 13) rfl rfl ?_
  refine CC.seq ?_
  refine CC.region ?_
  refine LL.box [Value.int IntKind.i64 k, Value.int IntKind.i64 l, Value.int IntKind.i64 z, Value.slice xa na ca, Value.int IntKind.i64 r, Value.int IntKind.i64 p, strV t] rfl rfl rfl rfl rfl ?_
  intro W2 g3 eg3 r4 z5 b1
  replace q := q.trans (b1.mono q.size)
  refine LL.val (R.assign rfl rfl) rfl rfl rfl ?_
  refine LL.nilS ?_
  refine CC.seq ?_
  refine CC.region ?_
  refine LL.val (R.field rfl rfl (I.fld rfl)) rfl rfl rfl ?_
  refine LL.val (R.field rfl rfl (I.fld rfl)) rfl rfl rfl ?_
  refine LL.val (R.load rfl rfl (I.ld1 rfl (RowL.cell r4 rfl))) rfl rfl rfl ?_
  (refine LL.call (R.call rfl rfl rfl) rfl rfl rfl (within_T _ _ _ _ (by omega)) ?_; rintro e _ ⟨rfl, rfl⟩; refine ⟨_, rfl, ?_⟩)
  refine LL.val (R.move rfl rfl) rfl rfl rfl ?_
  refine LL.val (R.field rfl rfl (I.fld rfl)) rfl rfl rfl ?_
  refine LL.val (R.field rfl rfl (I.fld rfl)) rfl rfl rfl ?_
  refine LL.val (R.load rfl rfl (I.ld1 rfl (RowL.cell r4 rfl))) rfl rfl rfl ?_
  (refine LL.call (R.call rfl rfl rfl) rfl rfl rfl (within_T _ _ _ _ (by omega)) ?_; rintro e _ ⟨rfl, rfl⟩; refine ⟨_, rfl, ?_⟩)
  refine LL.val (R.pick rfl rfl rfl) rfl rfl rfl ?_
  refine LL.val (R.assign rfl rfl) rfl rfl rfl ?_
  refine LL.nilS ?_
  refine CC.ret ?_
  refine EE.ret _ rfl rfl ?_
  exact ⟨rfl, q⟩
end
end Go.Proofs.YtnoefalgmekjbaaDoor


/- inode: what may be; the same. -/
namespace Go.Proofs.YtnoefalgmekjbaaDoor
set_option linter.unusedVariables false
set_option linter.unusedSimpArgs false
open Go.RowKit Go.Shelf
set_option maxRecDepth 100000
set_option maxHeartbeats 8000000
def fitF (z : Int) (m : List Ex) : Prop := ∀ x ∈ m, x.1 + x.2.2 ≤ (z + 511) / 512
def okF (z : Int) (m : List Ex) : Prop := (0 ≤ z ∧ z ≤ 65536) ∧ vL m ∧ fitF z m
section
variable (k l z : Int) (a : Value) (r p : Int) (t : Bs)
theorem my3_T (w : World) (ha : ∃ x n c, a = .slice x n c) (h : (1 ≤ t.length ∧ t.length ≤ 112) ∧ (0 : UInt8) ∉ t) : Calls Tryd.prog 71 #[inV k l z a r p t] w fun e w' => e = .returned (.bool true) ∧ Below w.heap.size w w' := by
  have q := Below.refl w.heap.size w
  obtain ⟨xa, na, ca, rfl⟩ := ha
  have hm : Lib.indexByte t 0 < 0 := by
    have := idx_mem t 0
    rcases Int.lt_or_le (Lib.indexByte t 0) 0 with h0 | h0
    · exact h0
    · exact absurd (this.1 h0) h.2
  refine X.fn Tryd.func71 rfl (n := 15) rfl rfl ?_
  refine CC.seq ?_
  refine CC.region ?_
  refine LL.box [Value.int IntKind.i64 k, Value.int IntKind.i64 l, Value.int IntKind.i64 z, Value.slice xa na ca, Value.int IntKind.i64 r, Value.int IntKind.i64 p, strV t] rfl rfl rfl rfl rfl ?_
  intro W2 g3 eg3 r4 z5 b1
  replace q := q.trans (b1.mono q.size)
  refine LL.val (R.assign rfl rfl) rfl rfl rfl ?_
  refine LL.nilS ?_
  refine CC.seq ?_
  refine CC.region ?_
  refine LL.val (R.field rfl rfl (I.fld rfl)) rfl rfl rfl ?_
  refine LL.val (R.field rfl rfl (I.fld rfl)) rfl rfl rfl ?_
  refine LL.val (R.load rfl rfl (I.ld1 rfl (RowL.cell r4 rfl))) rfl rfl rfl ?_
  refine LL.val (R.lenS rfl rfl rfl rfl) rfl rfl rfl ?_
  (refine LL.call (R.call rfl rfl rfl) rfl rfl rfl (within_T (t.length : Int) 1 112 _ (by omega)) ?_; rintro e _ ⟨rfl, rfl⟩; refine ⟨_, rfl, ?_⟩)
  refine LL.val (R.move rfl rfl) rfl rfl rfl ?_
  refine LL.val (R.field rfl rfl (I.fld rfl)) rfl rfl rfl ?_
  refine LL.val (R.field rfl rfl (I.fld rfl)) rfl rfl rfl ?_
  refine LL.val (R.load rfl rfl (I.ld1 rfl (RowL.cell r4 rfl))) rfl rfl rfl ?_
  refine LL.call (R.call rfl rfl rfl) rfl rfl rfl (idx_any _ _) ?_
  rintro e W' ⟨rfl, rfl⟩
  refine ⟨_, rfl, ?_⟩
  refine LL.val (R.ltT rfl rfl rfl (by omega)) rfl rfl rfl ?_
  refine LL.val (R.pick rfl rfl rfl) rfl rfl rfl ?_
  refine LL.val (R.assign rfl rfl) rfl rfl rfl ?_
  refine LL.nilS ?_
  refine CC.ret ?_
  refine EE.ret _ rfl rfl ?_
  exact ⟨rfl, q⟩
end
theorem my1_any (k l z : Int) (x : Option Addr) (n c : Nat) (r p : Int) (t : Bs) (m : List Ex) (w : World) (hv : ReadsT eE 3 w (.slice x n c) m) (hz : 0 ≤ z ∧ z ≤ 65536) (hm : vL m) (b : Bool) (hb : b = true ↔ fitF z m) : Calls Tryd.prog 62 #[inV k l z (.slice x n c) r p t] w fun e w' => e = .returned (.bool b) ∧ Below w.heap.size w w' := by
  have q := Below.refl w.heap.size w
  have hvF : ∀ X, Below w.heap.size w X → ReadsT eE 3 X (.slice x n c) m := fun X b => hv.up b
  have hlen : m.length ≤ 1048576 := by have := hm.1; omega
  have hn : m.length = n := by obtain ⟨_, _, e, _⟩ := hv; cases e; rfl
  have hn10 : n ≤ 10 := by have := hm.1; omega
  clear hv
  obtain ⟨z, rfl⟩ : ∃ y : Nat, z = (y : Int) := ⟨z.toNat, by omega⟩
  refine X.fn Tryd.func62 rfl (n := 38) rfl rfl ?_
  refine CC.seq ?_
  refine CC.region ?_
  refine LL.box [Value.int IntKind.i64 k, Value.int IntKind.i64 l, Value.int IntKind.i64 ↑z, Value.slice x n c, Value.int IntKind.i64 r, Value.int IntKind.i64 p, strV t] rfl rfl rfl rfl rfl ?_
  intro W2 g3 eg3 r4 z5 b1
  replace q := q.trans (b1.mono q.size)
  refine LL.val (R.assign rfl rfl) rfl rfl rfl ?_
  refine LL.nilS ?_
  refine CC.seq ?_
  refine CC.seq ?_
  refine CC.region ?_
  refine LL.val (R.field rfl rfl (I.fld rfl)) rfl rfl rfl ?_
  refine LL.val (R.field rfl rfl (I.fld rfl)) rfl rfl rfl ?_
  refine LL.val (R.load rfl rfl (I.ld1 rfl (RowL.cell r4 rfl))) rfl rfl rfl ?_
  refine LL.call (R.call rfl rfl rfl) rfl rfl rfl (within_T _ _ _ _ (by first | assumption | omega)) ?_
  rintro e W' ⟨rfl, rfl⟩
  refine ⟨_, rfl, ?_⟩
  refine LL.val (R.not rfl rfl) rfl rfl rfl ?_
  refine LL.val (R.move rfl rfl) rfl rfl rfl ?_
  refine LL.val (R.field rfl rfl (I.fld rfl)) rfl rfl rfl ?_
  refine LL.val (R.field rfl rfl (I.fld rfl)) rfl rfl rfl ?_
  refine LL.val (R.load rfl rfl (I.ld1 rfl (RowL.cell r4 rfl))) rfl rfl rfl ?_
  refine LL.call (R.call rfl rfl rfl) rfl rfl rfl (check_T _ m _ (hvF _ q) hlen hm) ?_
  rintro e W7 ⟨rfl, b6⟩
  refine ⟨_, rfl, ?_⟩
  have zb6 := b6.size
  replace r4 := r4.up b6
  replace b1 := b1.trans (b6.mono b1.size)
  replace q := q.trans (b6.mono q.size)
  refine LL.val (R.neF rfl rfl rfl (by omega)) rfl rfl rfl ?_
  refine LL.val (R.pick rfl rfl rfl) rfl rfl rfl ?_
  refine LL.nilS ?_
  refine CC.no rfl ?_
  refine CC.skip ?_
  refine EE.thenN ?_
  refine CC.seq ?_
  refine CC.seq ?_
  refine CC.region ?_
  refine LL.val (R.field rfl rfl (I.fld rfl)) rfl rfl rfl ?_
  refine LL.val (R.field rfl rfl (I.fld rfl)) rfl rfl rfl ?_
  refine LL.val (R.load rfl rfl (I.ld1 rfl (RowL.cell r4 rfl))) rfl rfl rfl ?_
  refine LL.val (R.len rfl rfl rfl rfl) rfl rfl rfl ?_
  refine LL.val (R.move rfl rfl) rfl rfl rfl ?_
  refine LL.nilS ?_
  refine CC.block ?_
  refine CC.loop (α := Nat) (fun i => [(1, .pointer (some ⟨g3, 0, none⟩)), (19, .slice x n c), (20, .int .i64 (n : Int)), (21, .int .i64 (i : Int))]) (fun i W => i ≤ n ∧ Below w.heap.size w W ∧ RowL W g3 72 (inL k l (z : Int) (.slice x n c) r p t) ∧ ∀ j, j < i → ∀ x, m[j]? = some x → x.1 + x.2.2 ≤ ((z : Int) + 511) / 512) (fun i => n - i) 0 ⟨rfl, rfl, rfl, rfl, trivial⟩ ⟨Nat.zero_le _, q, r4, fun j h => by omega⟩ ?_
  clear q r4 b1 b6
  rintro i W ⟨hi, q, r4, hall⟩
  have yw := q.size
  show CC none Tryd.prog _ 38 [] (sl [(1, .pointer (some ⟨g3, 0, none⟩)), (19, .slice x n c), (20, .int .i64 (n : Int)), (21, .int .i64 (i : Int))]) _ W
  by_cases hlt : i < n
  case neg =>
    have hbt : b = true := hb.2 fun y hy => by
      obtain ⟨j, hj⟩ := List.mem_iff_getElem?.1 hy
      exact hall j (by have := (List.getElem?_eq_some_iff.1 hj).1; omega) y hj
    subst hbt
    clear hall
    refine CC.seq ?_
    refine CC.region ?_
    refine LL.val (R.ltF rfl rfl rfl (by omega)) rfl rfl rfl ?_
    refine LL.nilS ?_
    refine CC.seq ?_
    refine CC.no rfl ?_
    refine CC.exit ?_
    refine EE.thenX ?_
    refine EE.thenX ?_
    refine EE.inX ?_
    refine EE.thenN ?_
    refine CC.seq ?_
    refine CC.region ?_
    refine LL.val (R.assign rfl rfl) rfl rfl rfl ?_
    refine LL.nilS ?_
    refine CC.ret ?_
    refine EE.ret _ rfl rfl ?_
    exact ⟨rfl, q⟩
  obtain ⟨⟨e1, e2, e3⟩, hget⟩ : ∃ x, m[i]? = some x := ⟨_, List.getElem?_eq_getElem (by omega)⟩
  have he : mayE (e1, e2, e3) := hm.2.1 _ (List.mem_of_getElem? hget)
  simp only [mayE] at he
  obtain ⟨e1, rfl⟩ : ∃ y : Nat, e1 = (y : Int) := ⟨e1.toNat, by omega⟩
  obtain ⟨e3, rfl⟩ : ∃ y : Nat, e3 = (y : Int) := ⟨e3.toNat, by omega⟩
  obtain ⟨bs, os, rfl, lbs, _⟩ := (hvF w (Below.refl _ _)).get eEnc hget
  have m1 : CellsN W ⟨bs, os + i * 3, none⟩ 3 [.int .i64 (e1 : Int), .int .i64 e2, .int .i64 (e3 : Int)] := (hvF W q).elemN eEnc hget
  have hu := r4.lt
  by_cases hf : (e1 : Int) + (e3 : Int) ≤ ((z : Int) + 511) / 512
  · have hall2 : ∀ j, j < i + 1 → ∀ x, m[j]? = some x → x.1 + x.2.2 ≤ ((z : Int) + 511) / 512 := fun j hj y hy => by
      by_cases hj2 : j < i
      · exact hall j hj2 y hy
      · obtain rfl : j = i := by omega
        rw [hget] at hy
        rw [← Option.some.inj hy]
        exact hf
    clear hall
    refine CC.seq ?_
    refine CC.region ?_
    refine LL.val (R.ltT rfl rfl rfl (by omega)) rfl rfl rfl ?_
    refine LL.nilS ?_
    refine CC.seq ?_
    refine CC.yes rfl ?_
    refine CC.skip ?_
    refine EE.thenN ?_
    refine CC.seq ?_
    refine CC.block ?_
    refine CC.seq ?_
    refine CC.region ?_
    refine LL.val (R.index rfl rfl rfl (I.ixS rfl (by omega))) rfl rfl rfl ?_
    refine LL.val (R.load rfl rfl (I.ldM (by assumption) rfl rfl)) rfl rfl rfl ?_
    have lb1 := r4.lt
    refine LL.alloc ([Value.int IntKind.i64 0, Value.int IntKind.i64 0, Value.int IntKind.i64 0]) rfl rfl rfl rfl rfl ?_
    intro Wb3 gb4 egb4 rb5 zb6 bb2
    replace q := q.trans (bb2.mono q.size)
    replace r4 := r4.up bb2
    replace m1 := m1.up bb2
    refine LL.storeN (vs := [Value.int IntKind.i64 ↑e1, Value.int IntKind.i64 e2, Value.int IntKind.i64 ↑e3]) rfl rfl rfl rfl rb5 (by exact Nat.le_of_ble_eq_true rfl) (ones_of rfl) rfl rfl ?_
    intro Wb8 rb9 bb7 zb10
    have hlbb7 := rb5.lt
    replace rb9 : RowL Wb8 _ 98 [Value.int IntKind.i64 ↑e1, Value.int IntKind.i64 e2, Value.int IntKind.i64 ↑e3] := rb9
    clear rb5
    replace bb2 := bb2.grown bb7 bb2.size (by rintro k ⟨⟩; omega)
    replace q := q.grown bb7 q.size (by rintro k ⟨⟩; omega)
    replace r4 := r4.gr bb7 (by have := r4.lt; omega)
    replace m1 := m1.gr bb7 (by have := m1.lt; omega)
    have rb5 := rb9
    clear rb9
    refine LL.nilS ?_
    refine CC.seq ?_
    refine CC.region ?_
    refine LL.val (R.field rfl rfl (I.fld rfl)) rfl rfl rfl ?_
    refine LL.val (R.load rfl rfl (I.ld1 rfl (RowL.cell rb5 rfl))) rfl rfl rfl ?_
    refine LL.val (R.field rfl rfl (I.fld rfl)) rfl rfl rfl ?_
    refine LL.val (R.load rfl rfl (I.ld1 rfl (RowL.cell rb5 rfl))) rfl rfl rfl ?_
    refine LL.val (R.addN rfl rfl rfl (by omega)) rfl rfl rfl ?_
    refine LL.val (R.field rfl rfl (I.fld rfl)) rfl rfl rfl ?_
    refine LL.val (R.field rfl rfl (I.fld rfl)) rfl rfl rfl ?_
    refine LL.val (R.load rfl rfl (I.ld1 rfl (RowL.cell r4 rfl))) rfl rfl rfl ?_
    refine LL.val (R.addNc rfl rfl rfl rfl (by omega)) rfl rfl rfl ?_
    refine LL.val (R.subNc rfl rfl rfl rfl (by omega) (by omega)) rfl rfl rfl ?_
    refine LL.val (R.quoNc rfl rfl rfl rfl (by omega) (by omega)) rfl rfl rfl ?_
    refine LL.val (R.gtF rfl rfl rfl (by omega)) rfl rfl rfl ?_
    refine LL.nilS ?_
    refine CC.no rfl ?_
    refine CC.skip ?_
    refine EE.inN ?_
    refine EE.thenN ?_
    refine CC.region ?_
    refine LL.val (R.addNc rfl rfl rfl rfl (by omega)) rfl rfl rfl ?_
    refine LL.val (R.move rfl rfl) rfl rfl rfl ?_
    refine LL.nil ?_
    exact EE.round (i + 1) ⟨rfl, rfl, rfl, rfl, trivial⟩ ⟨by omega, q, r4, hall2⟩ (by omega)
  · have hbt : b = false := by
      cases b with
      | false => rfl
      | true => exact absurd (hb.1 rfl _ (List.mem_of_getElem? hget)) hf
    subst hbt
    clear hall
    refine CC.seq ?_
    refine CC.region ?_
    refine LL.val (R.ltT rfl rfl rfl (by omega)) rfl rfl rfl ?_
    refine LL.nilS ?_
    refine CC.seq ?_
    refine CC.yes rfl ?_
    refine CC.skip ?_
    refine EE.thenN ?_
    refine CC.seq ?_
    refine CC.block ?_
    refine CC.seq ?_
    refine CC.region ?_
    refine LL.val (R.index rfl rfl rfl (I.ixS rfl (by omega))) rfl rfl rfl ?_
    refine LL.val (R.load rfl rfl (I.ldM (by assumption) rfl rfl)) rfl rfl rfl ?_
    have lc1 := r4.lt
    refine LL.alloc ([Value.int IntKind.i64 0, Value.int IntKind.i64 0, Value.int IntKind.i64 0]) rfl rfl rfl rfl rfl ?_
    intro Wc3 gc4 egc4 rc5 zc6 bc2
    replace q := q.trans (bc2.mono q.size)
    replace r4 := r4.up bc2
    replace m1 := m1.up bc2
    refine LL.storeN (vs := [Value.int IntKind.i64 ↑e1, Value.int IntKind.i64 e2, Value.int IntKind.i64 ↑e3]) rfl rfl rfl rfl rc5 (by exact Nat.le_of_ble_eq_true rfl) (ones_of rfl) rfl rfl ?_
    intro Wc8 rc9 bc7 zc10
    have hlbc7 := rc5.lt
    replace rc9 : RowL Wc8 _ 98 [Value.int IntKind.i64 ↑e1, Value.int IntKind.i64 e2, Value.int IntKind.i64 ↑e3] := rc9
    clear rc5
    replace bc2 := bc2.grown bc7 bc2.size (by rintro k ⟨⟩; omega)
    replace q := q.grown bc7 q.size (by rintro k ⟨⟩; omega)
    replace r4 := r4.gr bc7 (by have := r4.lt; omega)
    replace m1 := m1.gr bc7 (by have := m1.lt; omega)
    have rc5 := rc9
    clear rc9
    refine LL.nilS ?_
    refine CC.seq ?_
    refine CC.region ?_
    refine LL.val (R.field rfl rfl (I.fld rfl)) rfl rfl rfl ?_
    refine LL.val (R.load rfl rfl (I.ld1 rfl (RowL.cell rc5 rfl))) rfl rfl rfl ?_
    refine LL.val (R.field rfl rfl (I.fld rfl)) rfl rfl rfl ?_
    refine LL.val (R.load rfl rfl (I.ld1 rfl (RowL.cell rc5 rfl))) rfl rfl rfl ?_
    refine LL.val (R.addN rfl rfl rfl (by omega)) rfl rfl rfl ?_
    refine LL.val (R.field rfl rfl (I.fld rfl)) rfl rfl rfl ?_
    refine LL.val (R.field rfl rfl (I.fld rfl)) rfl rfl rfl ?_
    refine LL.val (R.load rfl rfl (I.ld1 rfl (RowL.cell r4 rfl))) rfl rfl rfl ?_
    refine LL.val (R.addNc rfl rfl rfl rfl (by omega)) rfl rfl rfl ?_
    refine LL.val (R.subNc rfl rfl rfl rfl (by omega) (by omega)) rfl rfl rfl ?_
    refine LL.val (R.quoNc rfl rfl rfl rfl (by omega) (by omega)) rfl rfl rfl ?_
    refine LL.val (R.gtT rfl rfl rfl (by omega)) rfl rfl rfl ?_
    refine LL.nilS ?_
    refine CC.yes rfl ?_
    refine CC.seq ?_
    refine CC.region ?_
    refine LL.val (R.assign rfl rfl) rfl rfl rfl ?_
    refine LL.nilS ?_
    refine CC.ret ?_
    refine EE.inR ?_
    refine EE.thenR ?_
    refine EE.thenR ?_
    refine EE.inR ?_
    refine EE.thenR ?_
    refine EE.ret _ rfl rfl ?_
    exact ⟨rfl, q⟩
end Go.Proofs.YtnoefalgmekjbaaDoor

