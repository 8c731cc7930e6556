/- extents: which extents may be; which ones stand beside one another. extents: may, Check. extents: Check. -/
import Derived.Test.YtklfopclaonggaaDoorProg
import Derived.Test.YtklfopclaonggaaDoorExM
import Derived.Test.YtklfopclaonggaaDoorFreeZ
import Derived.Test.YtklfopclaonggaaDoorTWalk
import Derived.Test.YtklfopclaonggaaDoorOwnZ
import Derived.Test.YtklfopclaonggaaDoorEqS
import Derived.Test.YtklfopclaonggaaDoorTNew
import Derived.Test.YtklfopclaonggaaDoorTFld
import Derived.Laws.StructEq
import Derived.Test.YtklfopclaonggaaDoorFwd
import Derived.Test.YtklfopclaonggaaDoorSl
namespace Go.Proofs.YtklfopclaonggaaDoor
set_option linter.unusedVariables false
set_option linter.unusedSimpArgs false
open Go.RowKit Go.Shelf
theorem info_parts_t {P : Program} {T e : TypeId} {z : Value} {k bytes : Nat} (hu : P.underlying T = some (.slice e)) (h : (P.info? e).map (fun i => (i.zero, i.size, i.bytes)) = some (some z, k, bytes)) (hz : z.cells.size = k) : ElT P T e z k bytes := by
  refine ⟨hu, ?_, hz⟩
  cases hi : P.info? e with
  | none => rw [hi] at h; cases h
  | some i =>
    rw [hi] at h
    simp only [Option.map_some, Option.some.injEq, Prod.mk.injEq] at h
    exact ⟨i, rfl, h.1, h.2.1, h.2.2⟩

def eE (x : Ex) : List Value := [.int .i64 x.1, .int .i64 x.2.1, .int .i64 x.2.2]
abbrev exV (x : Ex) : Value := .agg #[.int .i64 x.1, .int .i64 x.2.1, .int .i64 x.2.2]
theorem eEnc : Enc eE 3 := ⟨fun _ => rfl, fun t u hu => by
  simp only [eE, List.mem_cons, List.not_mem_nil, or_false] at hu
  rcases hu with rfl | rfl | rfl <;> rfl, by decide⟩
theorem Tryd.infoEx : (Tryd.prog.info? 41).map (fun i => (i.zero, i.size, i.bytes)) = some (some (.agg #[.int .i64 0, .int .i64 0, .int .i64 0]), 3, 24) := by kernel_rfl
theorem ElEx : ElT Tryd.prog 22 41 (.agg #[.int .i64 0, .int .i64 0, .int .i64 0]) 3 24 := info_parts_t Tryd.underlying22 Tryd.infoEx rfl
def rE (x : Bl) : List Value := [.int .i64 x.1, .int .i64 x.2]
theorem rEnc : Enc rE 2 := ⟨fun _ => rfl, fun t u hu => by
  simp only [rE, List.mem_cons, List.not_mem_nil, or_false] at hu
  rcases hu with rfl | rfl <;> rfl, by decide⟩
theorem Tryd.infoRun : (Tryd.prog.info? 64).map (fun i => (i.zero, i.size, i.bytes)) = some (some (.agg #[.int .i64 0, .int .i64 0]), 2, 16) := by kernel_rfl
theorem ElRun : ElT Tryd.prog 42 64 (.agg #[.int .i64 0, .int .i64 0]) 2 16 := info_parts_t Tryd.underlying42 Tryd.infoRun rfl
def exF (g : Nat → Int) : Ex := (g 0, g 1, g 2)
/-- Numbers of a machine's size. -/
abbrev smE (x : Ex) : Prop := (-9223372036854775808 ≤ x.1 ∧ x.1 ≤ 9223372036854775807) ∧ (-9223372036854775808 ≤ x.2.1 ∧ x.2.1 ≤ 9223372036854775807) ∧ (-9223372036854775808 ≤ x.2.2 ∧ x.2.2 ≤ 9223372036854775807)
def f1E (x : Ex) : Prop := x.1 < 0 ∨ x.2.1 < 1 ∨ x.2.2 < 1
def f2E (x : Ex) : Prop := x.2.2 > 128 ∨ x.1 > 128 - x.2.2
def f3E (x : Ex) : Prop := x.2.1 > 2048 - x.2.2
instance (x : Ex) : Decidable (f1E x) := by unfold f1E; infer_instance
instance (x : Ex) : Decidable (f2E x) := by unfold f2E; infer_instance
instance (x : Ex) : Decidable (f3E x) := by unfold f3E; infer_instance
set_option maxRecDepth 100000 in
theorem faults1_any (x : Ex) (w : World) : Calls Tryd.prog 52 #[exV x] w fun e w' => e = .returned (.bool (decide (f1E x))) ∧ Below w.heap.size w w' := by
  have q := Below.refl w.heap.size w
  by_cases h1 : x.1 < 0
  · rw [decide_eq_true (by unfold f1E; omega)]
    refine X.fn Tryd.func52 rfl (n := 16) rfl rfl ?_
    refine CC.seq ?_
    refine CC.region ?_
    refine LL.box [Value.int IntKind.i64 x.1, Value.int IntKind.i64 x.2.1, Value.int IntKind.i64 x.2.2] rfl rfl rfl rfl rfl ?_
    intro W2 g3 eg3 r4 z5 b1
    replace q := q.trans (b1.mono q.size)
    refine LL.val (R.assign rfl rfl) rfl rfl rfl ?_
    refine LL.nilS ?_
    refine CC.seq ?_
    refine CC.region ?_
    refine LL.val (R.field rfl rfl (I.fld rfl)) rfl rfl rfl ?_
    refine LL.val (R.load rfl rfl (I.ld1 rfl (RowL.cell r4 rfl))) rfl rfl rfl ?_
    refine LL.val (R.ltT rfl rfl rfl (by omega)) rfl rfl rfl ?_
    refine LL.val (R.move rfl rfl) rfl rfl rfl ?_
    refine LL.skip rfl rfl ?_
    refine LL.skip rfl rfl ?_
    refine LL.skip rfl rfl ?_
    refine LL.val (R.pick rfl rfl rfl) rfl rfl rfl ?_
    refine LL.val (R.move rfl rfl) rfl rfl rfl ?_
    refine LL.skip rfl rfl ?_
    refine LL.skip rfl rfl ?_
    refine LL.skip rfl rfl ?_
    refine LL.val (R.pick rfl rfl rfl) rfl rfl rfl ?_
    refine LL.val (R.assign rfl rfl) rfl rfl rfl ?_
    refine LL.nilS ?_
    refine CC.ret ?_
    refine EE.ret _ rfl rfl ?_
    exact ⟨rfl, q⟩
  by_cases h2 : x.2.1 < 1
  · rw [decide_eq_true (by unfold f1E; omega)]
    refine X.fn Tryd.func52 rfl (n := 16) rfl rfl ?_
    refine CC.seq ?_
    refine CC.region ?_
    refine LL.box [Value.int IntKind.i64 x.1, Value.int IntKind.i64 x.2.1, Value.int IntKind.i64 x.2.2] rfl rfl rfl rfl rfl ?_
    intro Wa2 ga3 ega3 ra4 za5 ba1
    replace q := q.trans (ba1.mono q.size)
    refine LL.val (R.assign rfl rfl) rfl rfl rfl ?_
    refine LL.nilS ?_
    refine CC.seq ?_
    refine CC.region ?_
    refine LL.val (R.field rfl rfl (I.fld rfl)) rfl rfl rfl ?_
    refine LL.val (R.load rfl rfl (I.ld1 rfl (RowL.cell ra4 rfl))) rfl rfl rfl ?_
    refine LL.val (R.ltF rfl rfl rfl (by omega)) rfl rfl rfl ?_
    refine LL.val (R.move rfl rfl) rfl rfl rfl ?_
    refine LL.val (R.field rfl rfl (I.fld rfl)) rfl rfl rfl ?_
    refine LL.val (R.load rfl rfl (I.ld1 rfl (RowL.cell ra4 rfl))) rfl rfl rfl ?_
    refine LL.val (R.ltT rfl rfl rfl (by omega)) rfl rfl rfl ?_
    refine LL.val (R.pick rfl rfl rfl) rfl rfl rfl ?_
    refine LL.val (R.move rfl rfl) rfl rfl rfl ?_
    refine LL.skip rfl rfl ?_
    refine LL.skip rfl rfl ?_
    refine LL.skip rfl rfl ?_
    refine LL.val (R.pick rfl rfl rfl) rfl rfl rfl ?_
    refine LL.val (R.assign rfl rfl) rfl rfl rfl ?_
    refine LL.nilS ?_
    refine CC.ret ?_
    refine EE.ret _ rfl rfl ?_
    exact ⟨rfl, q⟩
  by_cases h3 : x.2.2 < 1
  · rw [decide_eq_true (by unfold f1E; omega)]
    refine X.fn Tryd.func52 rfl (n := 16) rfl rfl ?_
    refine CC.seq ?_
    refine CC.region ?_
    refine LL.box [Value.int IntKind.i64 x.1, Value.int IntKind.i64 x.2.1, Value.int IntKind.i64 x.2.2] rfl rfl rfl rfl rfl ?_
    intro Wb2 gb3 egb3 rb4 zb5 bb1
    replace q := q.trans (bb1.mono q.size)
    refine LL.val (R.assign rfl rfl) rfl rfl rfl ?_
    refine LL.nilS ?_
    refine CC.seq ?_
    refine CC.region ?_
    refine LL.val (R.field rfl rfl (I.fld rfl)) rfl rfl rfl ?_
    refine LL.val (R.load rfl rfl (I.ld1 rfl (RowL.cell rb4 rfl))) rfl rfl rfl ?_
    refine LL.val (R.ltF rfl rfl rfl (by omega)) rfl rfl rfl ?_
    refine LL.val (R.move rfl rfl) rfl rfl rfl ?_
    refine LL.val (R.field rfl rfl (I.fld rfl)) rfl rfl rfl ?_
    refine LL.val (R.load rfl rfl (I.ld1 rfl (RowL.cell rb4 rfl))) rfl rfl rfl ?_
    refine LL.val (R.ltF rfl rfl rfl (by omega)) rfl rfl rfl ?_
    refine LL.val (R.pick rfl rfl rfl) rfl rfl rfl ?_
    refine LL.val (R.move rfl rfl) rfl rfl rfl ?_
    refine LL.val (R.field rfl rfl (I.fld rfl)) rfl rfl rfl ?_
    refine LL.val (R.load rfl rfl (I.ld1 rfl (RowL.cell rb4 rfl))) rfl rfl rfl ?_
    refine LL.val (R.ltT rfl rfl rfl (by omega)) rfl rfl rfl ?_
    refine LL.val (R.pick rfl rfl rfl) rfl rfl rfl ?_
    refine LL.val (R.assign rfl rfl) rfl rfl rfl ?_
    refine LL.nilS ?_
    refine CC.ret ?_
    refine EE.ret _ rfl rfl ?_
    exact ⟨rfl, q⟩
  · rw [decide_eq_false (by unfold f1E; omega)]
    refine X.fn Tryd.func52 rfl (n := 16) rfl rfl ?_
    refine CC.seq ?_
    refine CC.region ?_
    refine LL.box [Value.int IntKind.i64 x.1, Value.int IntKind.i64 x.2.1, Value.int IntKind.i64 x.2.2] rfl rfl rfl rfl rfl ?_
    intro Wc2 gc3 egc3 rc4 zc5 bc1
    replace q := q.trans (bc1.mono q.size)
    refine LL.val (R.assign rfl rfl) rfl rfl rfl ?_
    refine LL.nilS ?_
    refine CC.seq ?_
    refine CC.region ?_
    refine LL.val (R.field rfl rfl (I.fld rfl)) rfl rfl rfl ?_
    refine LL.val (R.load rfl rfl (I.ld1 rfl (RowL.cell rc4 rfl))) rfl rfl rfl ?_
    refine LL.val (R.ltF rfl rfl rfl (by omega)) rfl rfl rfl ?_
    refine LL.val (R.move rfl rfl) rfl rfl rfl ?_
    refine LL.val (R.field rfl rfl (I.fld rfl)) rfl rfl rfl ?_
    refine LL.val (R.load rfl rfl (I.ld1 rfl (RowL.cell rc4 rfl))) rfl rfl rfl ?_
    refine LL.val (R.ltF rfl rfl rfl (by omega)) rfl rfl rfl ?_
    refine LL.val (R.pick rfl rfl rfl) rfl rfl rfl ?_
    refine LL.val (R.move rfl rfl) rfl rfl rfl ?_
    refine LL.val (R.field rfl rfl (I.fld rfl)) rfl rfl rfl ?_
    refine LL.val (R.load rfl rfl (I.ld1 rfl (RowL.cell rc4 rfl))) rfl rfl rfl ?_
    refine LL.val (R.ltF rfl rfl rfl (by omega)) rfl rfl rfl ?_
    refine LL.val (R.pick rfl rfl rfl) rfl rfl rfl ?_
    refine LL.val (R.assign rfl rfl) rfl rfl rfl ?_
    refine LL.nilS ?_
    refine CC.ret ?_
    refine EE.ret _ rfl rfl ?_
    exact ⟨rfl, q⟩
set_option maxRecDepth 100000 in
theorem faults2_any (x : Ex) (w : World) (hs : 1 ≤ x.2.2) : Calls Tryd.prog 53 #[exV x] w fun e w' => e = .returned (.bool (decide (f2E x))) ∧ Below w.heap.size w w' := by
  have q := Below.refl w.heap.size w
  by_cases h1 : x.2.2 > 128
  · rw [decide_eq_true (by unfold f2E; omega)]
    refine X.fn Tryd.func53 rfl (n := 14) rfl rfl ?_
    refine CC.seq ?_
    refine CC.region ?_
    refine LL.box [Value.int IntKind.i64 x.1, Value.int IntKind.i64 x.2.1, Value.int IntKind.i64 x.2.2] rfl rfl rfl rfl rfl ?_
    intro W2 g3 eg3 r4 z5 b1
    replace q := q.trans (b1.mono q.size)
    refine LL.val (R.assign rfl rfl) rfl rfl rfl ?_
    refine LL.nilS ?_
    refine CC.seq ?_
    refine CC.region ?_
    refine LL.val (R.field rfl rfl (I.fld rfl)) rfl rfl rfl ?_
    refine LL.val (R.load rfl rfl (I.ld1 rfl (RowL.cell r4 rfl))) rfl rfl rfl ?_
    refine LL.val (R.gtT rfl rfl rfl (by omega)) rfl rfl rfl ?_
    refine LL.val (R.move rfl rfl) rfl rfl rfl ?_
    refine LL.skip rfl rfl ?_
    refine LL.skip rfl rfl ?_
    refine LL.skip rfl rfl ?_
    refine LL.skip rfl rfl ?_
    refine LL.skip rfl rfl ?_
    refine LL.skip rfl rfl ?_
    refine LL.val (R.pick rfl rfl rfl) rfl rfl rfl ?_
    refine LL.val (R.assign rfl rfl) rfl rfl rfl ?_
    refine LL.nilS ?_
    refine CC.ret ?_
    refine EE.ret _ rfl rfl ?_
    exact ⟨rfl, q⟩
  by_cases h2 : x.1 > 128 - x.2.2
  · rw [decide_eq_true (by unfold f2E; omega)]
    refine X.fn Tryd.func53 rfl (n := 14) rfl rfl ?_
    refine CC.seq ?_
    refine CC.region ?_
    refine LL.box [Value.int IntKind.i64 x.1, Value.int IntKind.i64 x.2.1, Value.int IntKind.i64 x.2.2] rfl rfl rfl rfl rfl ?_
    intro Wa2 ga3 ega3 ra4 za5 ba1
    replace q := q.trans (ba1.mono q.size)
    refine LL.val (R.assign rfl rfl) rfl rfl rfl ?_
    refine LL.nilS ?_
    refine CC.seq ?_
    refine CC.region ?_
    refine LL.val (R.field rfl rfl (I.fld rfl)) rfl rfl rfl ?_
    refine LL.val (R.load rfl rfl (I.ld1 rfl (RowL.cell ra4 rfl))) rfl rfl rfl ?_
    refine LL.val (R.gtF rfl rfl rfl (by omega)) rfl rfl rfl ?_
    refine LL.val (R.move rfl rfl) rfl rfl rfl ?_
    refine LL.val (R.field rfl rfl (I.fld rfl)) rfl rfl rfl ?_
    refine LL.val (R.load rfl rfl (I.ld1 rfl (RowL.cell ra4 rfl))) rfl rfl rfl ?_
    refine LL.val (R.field rfl rfl (I.fld rfl)) rfl rfl rfl ?_
    refine LL.val (R.load rfl rfl (I.ld1 rfl (RowL.cell ra4 rfl))) rfl rfl rfl ?_
    refine LL.val (R.subI rfl rfl rfl (by omega)) rfl rfl rfl ?_
    refine LL.val (R.gtT rfl rfl rfl (by omega)) rfl rfl rfl ?_
    refine LL.val (R.pick rfl rfl rfl) rfl rfl rfl ?_
    refine LL.val (R.assign rfl rfl) rfl rfl rfl ?_
    refine LL.nilS ?_
    refine CC.ret ?_
    refine EE.ret _ rfl rfl ?_
    exact ⟨rfl, q⟩
  · rw [decide_eq_false (by unfold f2E; omega)]
    refine X.fn Tryd.func53 rfl (n := 14) rfl rfl ?_
    refine CC.seq ?_
    refine CC.region ?_
    refine LL.box [Value.int IntKind.i64 x.1, Value.int IntKind.i64 x.2.1, Value.int IntKind.i64 x.2.2] rfl rfl rfl rfl rfl ?_
    intro Wb2 gb3 egb3 rb4 zb5 bb1
    replace q := q.trans (bb1.mono q.size)
    refine LL.val (R.assign rfl rfl) rfl rfl rfl ?_
    refine LL.nilS ?_
    refine CC.seq ?_
    refine CC.region ?_
    refine LL.val (R.field rfl rfl (I.fld rfl)) rfl rfl rfl ?_
    refine LL.val (R.load rfl rfl (I.ld1 rfl (RowL.cell rb4 rfl))) rfl rfl rfl ?_
    refine LL.val (R.gtF rfl rfl rfl (by omega)) rfl rfl rfl ?_
    refine LL.val (R.move rfl rfl) rfl rfl rfl ?_
    refine LL.val (R.field rfl rfl (I.fld rfl)) rfl rfl rfl ?_
    refine LL.val (R.load rfl rfl (I.ld1 rfl (RowL.cell rb4 rfl))) rfl rfl rfl ?_
    refine LL.val (R.field rfl rfl (I.fld rfl)) rfl rfl rfl ?_
    refine LL.val (R.load rfl rfl (I.ld1 rfl (RowL.cell rb4 rfl))) rfl rfl rfl ?_
    refine LL.val (R.subI rfl rfl rfl (by omega)) rfl rfl rfl ?_
    refine LL.val (R.gtF rfl rfl rfl (by omega)) rfl rfl rfl ?_
    refine LL.val (R.pick rfl rfl rfl) rfl rfl rfl ?_
    refine LL.val (R.assign rfl rfl) rfl rfl rfl ?_
    refine LL.nilS ?_
    refine CC.ret ?_
    refine EE.ret _ rfl rfl ?_
    exact ⟨rfl, q⟩
set_option maxRecDepth 100000 in
theorem faults3_any (x : Ex) (w : World) (hs : 1 ≤ x.2.2) (h : x.2.2 ≤ 128) : Calls Tryd.prog 54 #[exV x] w fun e w' => e = .returned (.bool (decide (f3E x))) ∧ Below w.heap.size w w' := by
  have q := Below.refl w.heap.size w
  by_cases h1 : x.2.1 > 2048 - x.2.2
  · rw [decide_eq_true (by unfold f3E; omega)]
    refine X.fn Tryd.func54 rfl (n := 9) rfl rfl ?_
    refine CC.seq ?_
    refine CC.region ?_
    refine LL.box [Value.int IntKind.i64 x.1, Value.int IntKind.i64 x.2.1, Value.int IntKind.i64 x.2.2] rfl rfl rfl rfl rfl ?_
    intro W2 g3 eg3 r4 z5 b1
    replace q := q.trans (b1.mono q.size)
    refine LL.val (R.assign rfl rfl) rfl rfl rfl ?_
    refine LL.nilS ?_
    refine CC.seq ?_
    refine CC.region ?_
    refine LL.val (R.field rfl rfl (I.fld rfl)) rfl rfl rfl ?_
    refine LL.val (R.load rfl rfl (I.ld1 rfl (RowL.cell r4 rfl))) rfl rfl rfl ?_
    refine LL.val (R.field rfl rfl (I.fld rfl)) rfl rfl rfl ?_
    refine LL.val (R.load rfl rfl (I.ld1 rfl (RowL.cell r4 rfl))) rfl rfl rfl ?_
    refine LL.val (R.subI rfl rfl rfl (by omega)) rfl rfl rfl ?_
    refine LL.val (R.gtT rfl rfl rfl (by omega)) rfl rfl rfl ?_
    refine LL.val (R.assign rfl rfl) rfl rfl rfl ?_
    refine LL.nilS ?_
    refine CC.ret ?_
    refine EE.ret _ rfl rfl ?_
    exact ⟨rfl, q⟩
  · rw [decide_eq_false (by unfold f3E; omega)]
    refine X.fn Tryd.func54 rfl (n := 9) rfl rfl ?_
    refine CC.seq ?_
    refine CC.region ?_
    refine LL.box [Value.int IntKind.i64 x.1, Value.int IntKind.i64 x.2.1, Value.int IntKind.i64 x.2.2] rfl rfl rfl rfl rfl ?_
    intro Wa2 ga3 ega3 ra4 za5 ba1
    replace q := q.trans (ba1.mono q.size)
    refine LL.val (R.assign rfl rfl) rfl rfl rfl ?_
    refine LL.nilS ?_
    refine CC.seq ?_
    refine CC.region ?_
    refine LL.val (R.field rfl rfl (I.fld rfl)) rfl rfl rfl ?_
    refine LL.val (R.load rfl rfl (I.ld1 rfl (RowL.cell ra4 rfl))) rfl rfl rfl ?_
    refine LL.val (R.field rfl rfl (I.fld rfl)) rfl rfl rfl ?_
    refine LL.val (R.load rfl rfl (I.ld1 rfl (RowL.cell ra4 rfl))) rfl rfl rfl ?_
    refine LL.val (R.subI rfl rfl rfl (by omega)) rfl rfl rfl ?_
    refine LL.val (R.gtF rfl rfl rfl (by omega)) rfl rfl rfl ?_
    refine LL.val (R.assign rfl rfl) rfl rfl rfl ?_
    refine LL.nilS ?_
    refine CC.ret ?_
    refine EE.ret _ rfl rfl ?_
    exact ⟨rfl, q⟩
set_option maxRecDepth 100000 in
theorem faults_any (w : World) : Calls Tryd.prog 44 #[] w fun e w' => ∃ g, e = .returned (.slice (some ⟨g, 0, none⟩) 3 3) ∧ RowL w' g 66 [.func (.func 52) #[] #[], .func (.func 53) #[] #[], .func (.func 54) #[] #[]] ∧ w.heap.size ≤ g ∧ Below w.heap.size w w' := by
  have q := Below.refl w.heap.size w
  refine X.fn Tryd.func44 rfl (n := 2) rfl rfl ?_
  refine CC.seq ?_
  refine CC.region ?_
  refine LL.val (R.assign rfl rfl) rfl rfl rfl ?_
  refine LL.nilS ?_
  refine CC.seq ?_
  refine CC.region ?_
  refine LL.lit (e := 66) [Value.func (Fn.func 52) #[] #[], Value.func (Fn.func 53) #[] #[], Value.func (Fn.func 54) #[] #[]] 3 rfl rfl (fun _ => by kernel_rfl) rfl rfl ?_
  intro W2 g3 eg3 r4 z5 b1
  replace q := q.trans (b1.mono q.size)
  refine LL.val (R.assign rfl rfl) rfl rfl rfl ?_
  refine LL.nilS ?_
  refine CC.ret ?_
  refine EE.ret _ rfl rfl ?_
  exact ⟨_, rfl, by assumption, by omega, q⟩
set_option maxRecDepth 100000 in
theorem apart_any (x y : Ex) (w : World) (hx : mayE x) (hy : mayE y) : Calls Tryd.prog 33 #[exV x, exV y] w fun e w' => e = .returned (.bool (decide (apartE x y))) ∧ Below w.heap.size w w' := by
  have q := Below.refl w.heap.size w
  unfold mayE at hx hy
  by_cases h1 : x.2.1 + x.2.2 ≤ y.2.1
  · rw [decide_eq_true (by unfold apartE; omega)]
    refine X.fn Tryd.func33 rfl (n := 23) rfl rfl ?_
    refine CC.seq ?_
    refine CC.region ?_
    refine LL.box [Value.int IntKind.i64 x.1, Value.int IntKind.i64 x.2.1, Value.int IntKind.i64 x.2.2] rfl rfl rfl rfl rfl ?_
    intro W2 g3 eg3 r4 z5 b1
    replace q := q.trans (b1.mono q.size)
    have l6 := r4.lt
    refine LL.box [Value.int IntKind.i64 y.1, Value.int IntKind.i64 y.2.1, Value.int IntKind.i64 y.2.2] rfl rfl rfl rfl rfl ?_
    intro W8 g9 eg9 r10 z11 b7
    replace r4 := r4.up b7
    replace b1 := b1.trans (b7.mono b1.size)
    replace q := q.trans (b7.mono q.size)
    refine LL.val (R.assign rfl rfl) rfl rfl rfl ?_
    refine LL.nilS ?_
    refine CC.seq ?_
    refine CC.region ?_
    refine LL.val (R.field rfl rfl (I.fld rfl)) rfl rfl rfl ?_
    refine LL.val (R.load rfl rfl (I.ld1 rfl (RowL.cell r4 rfl))) rfl rfl rfl ?_
    refine LL.val (R.field rfl rfl (I.fld rfl)) rfl rfl rfl ?_
    refine LL.val (R.load rfl rfl (I.ld1 rfl (RowL.cell r4 rfl))) rfl rfl rfl ?_
    refine LL.val (R.addI rfl rfl rfl (by omega)) rfl rfl rfl ?_
    refine LL.val (R.field rfl rfl (I.fld rfl)) rfl rfl rfl ?_
    refine LL.val (R.load rfl rfl (I.ld1 rfl (RowL.cell r10 rfl))) rfl rfl rfl ?_
    refine LL.val (R.leT rfl rfl rfl (by omega)) rfl rfl rfl ?_
    refine LL.val (R.move rfl rfl) rfl rfl rfl ?_
    refine LL.skip rfl rfl ?_
    refine LL.skip rfl rfl ?_
    refine LL.skip rfl rfl ?_
    refine LL.skip rfl rfl ?_
    refine LL.skip rfl rfl ?_
    refine LL.skip rfl rfl ?_
    refine LL.skip rfl rfl ?_
    refine LL.skip rfl rfl ?_
    refine LL.val (R.pick rfl rfl rfl) rfl rfl rfl ?_
    refine LL.val (R.assign rfl rfl) rfl rfl rfl ?_
    refine LL.nilS ?_
    refine CC.ret ?_
    refine EE.ret _ rfl rfl ?_
    exact ⟨rfl, q⟩
  by_cases h2 : y.2.1 + y.2.2 ≤ x.2.1
  · rw [decide_eq_true (by unfold apartE; omega)]
    refine X.fn Tryd.func33 rfl (n := 23) rfl rfl ?_
    refine CC.seq ?_
    refine CC.region ?_
    refine LL.box [Value.int IntKind.i64 x.1, Value.int IntKind.i64 x.2.1, Value.int IntKind.i64 x.2.2] rfl rfl rfl rfl rfl ?_
    intro Wa2 ga3 ega3 ra4 za5 ba1
    replace q := q.trans (ba1.mono q.size)
    have la6 := ra4.lt
    refine LL.box [Value.int IntKind.i64 y.1, Value.int IntKind.i64 y.2.1, Value.int IntKind.i64 y.2.2] rfl rfl rfl rfl rfl ?_
    intro Wa8 ga9 ega9 ra10 za11 ba7
    replace ra4 := ra4.up ba7
    replace ba1 := ba1.trans (ba7.mono ba1.size)
    replace q := q.trans (ba7.mono q.size)
    refine LL.val (R.assign rfl rfl) rfl rfl rfl ?_
    refine LL.nilS ?_
    refine CC.seq ?_
    refine CC.region ?_
    refine LL.val (R.field rfl rfl (I.fld rfl)) rfl rfl rfl ?_
    refine LL.val (R.load rfl rfl (I.ld1 rfl (RowL.cell ra4 rfl))) rfl rfl rfl ?_
    refine LL.val (R.field rfl rfl (I.fld rfl)) rfl rfl rfl ?_
    refine LL.val (R.load rfl rfl (I.ld1 rfl (RowL.cell ra4 rfl))) rfl rfl rfl ?_
    refine LL.val (R.addI rfl rfl rfl (by omega)) rfl rfl rfl ?_
    refine LL.val (R.field rfl rfl (I.fld rfl)) rfl rfl rfl ?_
    refine LL.val (R.load rfl rfl (I.ld1 rfl (RowL.cell ra10 rfl))) rfl rfl rfl ?_
    refine LL.val (R.leF rfl rfl rfl (by omega)) rfl rfl rfl ?_
    refine LL.val (R.move rfl rfl) rfl rfl rfl ?_
    refine LL.val (R.field rfl rfl (I.fld rfl)) rfl rfl rfl ?_
    refine LL.val (R.load rfl rfl (I.ld1 rfl (RowL.cell ra10 rfl))) rfl rfl rfl ?_
    refine LL.val (R.field rfl rfl (I.fld rfl)) rfl rfl rfl ?_
    refine LL.val (R.load rfl rfl (I.ld1 rfl (RowL.cell ra10 rfl))) rfl rfl rfl ?_
    refine LL.val (R.addI rfl rfl rfl (by omega)) rfl rfl rfl ?_
    refine LL.val (R.field rfl rfl (I.fld rfl)) rfl rfl rfl ?_
    refine LL.val (R.load rfl rfl (I.ld1 rfl (RowL.cell ra4 rfl))) rfl rfl rfl ?_
    refine LL.val (R.leT rfl rfl rfl (by omega)) rfl rfl rfl ?_
    refine LL.val (R.pick rfl rfl rfl) rfl rfl rfl ?_
    refine LL.val (R.assign rfl rfl) rfl rfl rfl ?_
    refine LL.nilS ?_
    refine CC.ret ?_
    refine EE.ret _ rfl rfl ?_
    exact ⟨rfl, q⟩
  · rw [decide_eq_false (by unfold apartE; omega)]
    refine X.fn Tryd.func33 rfl (n := 23) rfl rfl ?_
    refine CC.seq ?_
    refine CC.region ?_
    refine LL.box [Value.int IntKind.i64 x.1, Value.int IntKind.i64 x.2.1, Value.int IntKind.i64 x.2.2] rfl rfl rfl rfl rfl ?_
    intro Wb2 gb3 egb3 rb4 zb5 bb1
    replace q := q.trans (bb1.mono q.size)
    have lb6 := rb4.lt
    refine LL.box [Value.int IntKind.i64 y.1, Value.int IntKind.i64 y.2.1, Value.int IntKind.i64 y.2.2] rfl rfl rfl rfl rfl ?_
    intro Wb8 gb9 egb9 rb10 zb11 bb7
    replace rb4 := rb4.up bb7
    replace bb1 := bb1.trans (bb7.mono bb1.size)
    replace q := q.trans (bb7.mono q.size)
    refine LL.val (R.assign rfl rfl) rfl rfl rfl ?_
    refine LL.nilS ?_
    refine CC.seq ?_
    refine CC.region ?_
    refine LL.val (R.field rfl rfl (I.fld rfl)) rfl rfl rfl ?_
    refine LL.val (R.load rfl rfl (I.ld1 rfl (RowL.cell rb4 rfl))) rfl rfl rfl ?_
    refine LL.val (R.field rfl rfl (I.fld rfl)) rfl rfl rfl ?_
    refine LL.val (R.load rfl rfl (I.ld1 rfl (RowL.cell rb4 rfl))) rfl rfl rfl ?_
    refine LL.val (R.addI rfl rfl rfl (by omega)) rfl rfl rfl ?_
    refine LL.val (R.field rfl rfl (I.fld rfl)) rfl rfl rfl ?_
    refine LL.val (R.load rfl rfl (I.ld1 rfl (RowL.cell rb10 rfl))) rfl rfl rfl ?_
    refine LL.val (R.leF rfl rfl rfl (by omega)) rfl rfl rfl ?_
    refine LL.val (R.move rfl rfl) rfl rfl rfl ?_
    refine LL.val (R.field rfl rfl (I.fld rfl)) rfl rfl rfl ?_
    refine LL.val (R.load rfl rfl (I.ld1 rfl (RowL.cell rb10 rfl))) rfl rfl rfl ?_
    refine LL.val (R.field rfl rfl (I.fld rfl)) rfl rfl rfl ?_
    refine LL.val (R.load rfl rfl (I.ld1 rfl (RowL.cell rb10 rfl))) rfl rfl rfl ?_
    refine LL.val (R.addI rfl rfl rfl (by omega)) rfl rfl rfl ?_
    refine LL.val (R.field rfl rfl (I.fld rfl)) rfl rfl rfl ?_
    refine LL.val (R.load rfl rfl (I.ld1 rfl (RowL.cell rb4 rfl))) rfl rfl rfl ?_
    refine LL.val (R.leF rfl rfl rfl (by omega)) rfl rfl rfl ?_
    refine LL.val (R.pick rfl rfl rfl) rfl rfl rfl ?_
    refine LL.val (R.assign rfl rfl) rfl rfl rfl ?_
    refine LL.nilS ?_
    refine CC.ret ?_
    refine EE.ret _ rfl rfl ?_
    exact ⟨rfl, q⟩
set_option maxRecDepth 100000 in
theorem follow_any (x y : Ex) (w : World) (hx : mayE x) (hy : mayE y) : Calls Tryd.prog 34 #[exV x, exV y] w fun e w' => e = .returned (.bool (decide (followE x y))) ∧ Below w.heap.size w w' := by
  have q := Below.refl w.heap.size w
  unfold mayE at hx hy
  by_cases h1 : x.1 + x.2.2 ≤ y.1
  case neg =>
    rw [decide_eq_false (by unfold followE; omega)]
    refine X.fn Tryd.func34 rfl (n := 29) rfl rfl ?_
    refine CC.seq ?_
    refine CC.region ?_
    refine LL.box [Value.int IntKind.i64 x.1, Value.int IntKind.i64 x.2.1, Value.int IntKind.i64 x.2.2] rfl rfl rfl rfl rfl ?_
    intro W2 g3 eg3 r4 z5 b1
    replace q := q.trans (b1.mono q.size)
    have l6 := r4.lt
    refine LL.box [Value.int IntKind.i64 y.1, Value.int IntKind.i64 y.2.1, Value.int IntKind.i64 y.2.2] rfl rfl rfl rfl rfl ?_
    intro W8 g9 eg9 r10 z11 b7
    replace r4 := r4.up b7
    replace b1 := b1.trans (b7.mono b1.size)
    replace q := q.trans (b7.mono q.size)
    refine LL.val (R.assign rfl rfl) rfl rfl rfl ?_
    refine LL.nilS ?_
    refine CC.seq ?_
    refine CC.region ?_
    refine LL.val (R.field rfl rfl (I.fld rfl)) rfl rfl rfl ?_
    refine LL.val (R.load rfl rfl (I.ld1 rfl (RowL.cell r4 rfl))) rfl rfl rfl ?_
    refine LL.val (R.field rfl rfl (I.fld rfl)) rfl rfl rfl ?_
    refine LL.val (R.load rfl rfl (I.ld1 rfl (RowL.cell r4 rfl))) rfl rfl rfl ?_
    refine LL.val (R.addI rfl rfl rfl (by omega)) rfl rfl rfl ?_
    refine LL.val (R.field rfl rfl (I.fld rfl)) rfl rfl rfl ?_
    refine LL.val (R.load rfl rfl (I.ld1 rfl (RowL.cell r4 rfl))) rfl rfl rfl ?_
    refine LL.val (R.field rfl rfl (I.fld rfl)) rfl rfl rfl ?_
    refine LL.val (R.load rfl rfl (I.ld1 rfl (RowL.cell r4 rfl))) rfl rfl rfl ?_
    refine LL.val (R.addI rfl rfl rfl (by omega)) rfl rfl rfl ?_
    refine LL.val (R.field rfl rfl (I.fld rfl)) rfl rfl rfl ?_
    refine LL.val (R.load rfl rfl (I.ld1 rfl (RowL.cell r10 rfl))) rfl rfl rfl ?_
    refine LL.val (R.buildV rfl rfl (v := .agg #[Value.int IntKind.i64 (x.1 + x.2.2), Value.int IntKind.i64 (x.2.1 + x.2.2), Value.int IntKind.i64 y.2.2]) (fun _ => by kernel_rfl)) rfl rfl rfl ?_
    have l12 := r10.lt
    have l13 := r4.lt
    refine LL.alloc ([Value.int IntKind.i64 0, Value.int IntKind.i64 0, Value.int IntKind.i64 0]) rfl rfl rfl rfl rfl ?_
    intro W15 g16 eg16 r17 z18 b14
    replace r10 := r10.up b14
    replace b7 := b7.trans (b14.mono b7.size)
    replace r4 := r4.up b14
    replace b1 := b1.trans (b14.mono b1.size)
    replace q := q.trans (b14.mono q.size)
    refine LL.storeN (vs := [Value.int IntKind.i64 (x.1 + x.2.2), Value.int IntKind.i64 (x.2.1 + x.2.2), Value.int IntKind.i64 y.2.2]) rfl rfl rfl rfl r17 (by exact Nat.le_of_ble_eq_true rfl) (ones_of rfl) rfl rfl ?_
    intro W20 r21 b19 z22
    have hlb19 := r17.lt
    replace r21 : RowL W20 _ 41 [Value.int IntKind.i64 (x.1 + x.2.2), Value.int IntKind.i64 (x.2.1 + x.2.2), Value.int IntKind.i64 y.2.2] := r21
    clear r17
    replace b14 := b14.grown b19 b14.size (by rintro k ⟨⟩; omega)
    replace r10 := r10.gr b19 (by have := r10.lt; omega)
    replace b7 := b7.grown b19 b7.size (by rintro k ⟨⟩; omega)
    replace r4 := r4.gr b19 (by have := r4.lt; omega)
    replace b1 := b1.grown b19 b1.size (by rintro k ⟨⟩; omega)
    replace q := q.grown b19 q.size (by rintro k ⟨⟩; omega)
    have r17 := r21
    clear r21
    refine LL.nilS ?_
    refine CC.seq ?_
    refine CC.region ?_
    refine LL.val (R.field rfl rfl (I.fld rfl)) rfl rfl rfl ?_
    refine LL.val (R.load rfl rfl (I.ld1 rfl (RowL.cell r10 rfl))) rfl rfl rfl ?_
    refine LL.val (R.field rfl rfl (I.fld rfl)) rfl rfl rfl ?_
    refine LL.val (R.load rfl rfl (I.ld1 rfl (RowL.cell r17 rfl))) rfl rfl rfl ?_
    refine LL.val (R.geF rfl rfl rfl (by omega)) rfl rfl rfl ?_
    refine LL.val (R.move rfl rfl) rfl rfl rfl ?_
    refine LL.skip rfl rfl ?_
    refine LL.skip rfl rfl ?_
    refine LL.skip rfl rfl ?_
    refine LL.val (R.pick rfl rfl rfl) rfl rfl rfl ?_
    refine LL.val (R.assign rfl rfl) rfl rfl rfl ?_
    refine LL.nilS ?_
    refine CC.ret ?_
    refine EE.ret _ rfl rfl ?_
    exact ⟨rfl, q⟩
  by_cases h2 : y.1 = x.1 + x.2.2 ∧ y.2.1 = x.2.1 + x.2.2
  · rw [decide_eq_false (by unfold followE; omega)]
    refine X.fn Tryd.func34 rfl (n := 29) rfl rfl ?_
    refine CC.seq ?_
    refine CC.region ?_
    refine LL.box [Value.int IntKind.i64 x.1, Value.int IntKind.i64 x.2.1, Value.int IntKind.i64 x.2.2] rfl rfl rfl rfl rfl ?_
    intro Wa2 ga3 ega3 ra4 za5 ba1
    replace q := q.trans (ba1.mono q.size)
    have la6 := ra4.lt
    refine LL.box [Value.int IntKind.i64 y.1, Value.int IntKind.i64 y.2.1, Value.int IntKind.i64 y.2.2] rfl rfl rfl rfl rfl ?_
    intro Wa8 ga9 ega9 ra10 za11 ba7
    replace ra4 := ra4.up ba7
    replace ba1 := ba1.trans (ba7.mono ba1.size)
    replace q := q.trans (ba7.mono q.size)
    refine LL.val (R.assign rfl rfl) rfl rfl rfl ?_
    refine LL.nilS ?_
    refine CC.seq ?_
    refine CC.region ?_
    refine LL.val (R.field rfl rfl (I.fld rfl)) rfl rfl rfl ?_
    refine LL.val (R.load rfl rfl (I.ld1 rfl (RowL.cell ra4 rfl))) rfl rfl rfl ?_
    refine LL.val (R.field rfl rfl (I.fld rfl)) rfl rfl rfl ?_
    refine LL.val (R.load rfl rfl (I.ld1 rfl (RowL.cell ra4 rfl))) rfl rfl rfl ?_
    refine LL.val (R.addI rfl rfl rfl (by omega)) rfl rfl rfl ?_
    refine LL.val (R.field rfl rfl (I.fld rfl)) rfl rfl rfl ?_
    refine LL.val (R.load rfl rfl (I.ld1 rfl (RowL.cell ra4 rfl))) rfl rfl rfl ?_
    refine LL.val (R.field rfl rfl (I.fld rfl)) rfl rfl rfl ?_
    refine LL.val (R.load rfl rfl (I.ld1 rfl (RowL.cell ra4 rfl))) rfl rfl rfl ?_
    refine LL.val (R.addI rfl rfl rfl (by omega)) rfl rfl rfl ?_
    refine LL.val (R.field rfl rfl (I.fld rfl)) rfl rfl rfl ?_
    refine LL.val (R.load rfl rfl (I.ld1 rfl (RowL.cell ra10 rfl))) rfl rfl rfl ?_
    refine LL.val (R.buildV rfl rfl (v := .agg #[Value.int IntKind.i64 (x.1 + x.2.2), Value.int IntKind.i64 (x.2.1 + x.2.2), Value.int IntKind.i64 y.2.2]) (fun _ => by kernel_rfl)) rfl rfl rfl ?_
    have la12 := ra10.lt
    have la13 := ra4.lt
    refine LL.alloc ([Value.int IntKind.i64 0, Value.int IntKind.i64 0, Value.int IntKind.i64 0]) rfl rfl rfl rfl rfl ?_
    intro Wa15 ga16 ega16 ra17 za18 ba14
    replace ra10 := ra10.up ba14
    replace ba7 := ba7.trans (ba14.mono ba7.size)
    replace ra4 := ra4.up ba14
    replace ba1 := ba1.trans (ba14.mono ba1.size)
    replace q := q.trans (ba14.mono q.size)
    refine LL.storeN (vs := [Value.int IntKind.i64 (x.1 + x.2.2), Value.int IntKind.i64 (x.2.1 + x.2.2), Value.int IntKind.i64 y.2.2]) rfl rfl rfl rfl ra17 (by exact Nat.le_of_ble_eq_true rfl) (ones_of rfl) rfl rfl ?_
    intro Wa20 ra21 ba19 za22
    have hlba19 := ra17.lt
    replace ra21 : RowL Wa20 _ 41 [Value.int IntKind.i64 (x.1 + x.2.2), Value.int IntKind.i64 (x.2.1 + x.2.2), Value.int IntKind.i64 y.2.2] := ra21
    clear ra17
    replace ba14 := ba14.grown ba19 ba14.size (by rintro k ⟨⟩; omega)
    replace ra10 := ra10.gr ba19 (by have := ra10.lt; omega)
    replace ba7 := ba7.grown ba19 ba7.size (by rintro k ⟨⟩; omega)
    replace ra4 := ra4.gr ba19 (by have := ra4.lt; omega)
    replace ba1 := ba1.grown ba19 ba1.size (by rintro k ⟨⟩; omega)
    replace q := q.grown ba19 q.size (by rintro k ⟨⟩; omega)
    have ra17 := ra21
    clear ra21
    refine LL.nilS ?_
    refine CC.seq ?_
    refine CC.region ?_
    refine LL.val (R.field rfl rfl (I.fld rfl)) rfl rfl rfl ?_
    refine LL.val (R.load rfl rfl (I.ld1 rfl (RowL.cell ra10 rfl))) rfl rfl rfl ?_
    refine LL.val (R.field rfl rfl (I.fld rfl)) rfl rfl rfl ?_
    refine LL.val (R.load rfl rfl (I.ld1 rfl (RowL.cell ra17 rfl))) rfl rfl rfl ?_
    refine LL.val (R.geT rfl rfl rfl (by omega)) rfl rfl rfl ?_
    refine LL.val (R.move rfl rfl) rfl rfl rfl ?_
    refine LL.val (R.load rfl rfl (I.ldNc (vs := [Value.int IntKind.i64 y.1, Value.int IntKind.i64 y.2.1, Value.int IntKind.i64 y.2.2]) (RowL.cells ra10 rfl) (by rfl) (by rfl))) rfl rfl rfl ?_
    refine LL.val (R.load rfl rfl (I.ldNc (vs := [Value.int IntKind.i64 (x.1 + x.2.2), Value.int IntKind.i64 (x.2.1 + x.2.2), Value.int IntKind.i64 y.2.2]) (RowL.cells ra17 rfl) (by rfl) (by rfl))) rfl rfl rfl ?_
    refine LL.val (R.neST (p := (y.1 : Int) = x.1 + x.2.2 ∧ (y.2.1 : Int) = x.2.1 + x.2.2 ∧ (y.2.2 : Int) = y.2.2) (bs := [decide ((y.1 : Int) = x.1 + x.2.2), decide ((y.2.1 : Int) = x.2.1 + x.2.2), decide ((y.2.2 : Int) = y.2.2)]) rfl rfl rfl rfl (by kernel_rfl) (by kernel_rfl) (by simp) (by first | assumption | omega | exact ⟨rfl, rfl⟩ | exact fun h => h ⟨rfl, rfl⟩)) rfl rfl rfl ?_
    refine LL.val (R.pick rfl rfl rfl) rfl rfl rfl ?_
    refine LL.val (R.assign rfl rfl) rfl rfl rfl ?_
    refine LL.nilS ?_
    refine CC.ret ?_
    refine EE.ret _ rfl rfl ?_
    exact ⟨rfl, q⟩
  · rw [decide_eq_true (by unfold followE; omega)]
    refine X.fn Tryd.func34 rfl (n := 29) rfl rfl ?_
    refine CC.seq ?_
    refine CC.region ?_
    refine LL.box [Value.int IntKind.i64 x.1, Value.int IntKind.i64 x.2.1, Value.int IntKind.i64 x.2.2] rfl rfl rfl rfl rfl ?_
    intro Wb2 gb3 egb3 rb4 zb5 bb1
    replace q := q.trans (bb1.mono q.size)
    have lb6 := rb4.lt
    refine LL.box [Value.int IntKind.i64 y.1, Value.int IntKind.i64 y.2.1, Value.int IntKind.i64 y.2.2] rfl rfl rfl rfl rfl ?_
    intro Wb8 gb9 egb9 rb10 zb11 bb7
    replace rb4 := rb4.up bb7
    replace bb1 := bb1.trans (bb7.mono bb1.size)
    replace q := q.trans (bb7.mono q.size)
    refine LL.val (R.assign rfl rfl) rfl rfl rfl ?_
    refine LL.nilS ?_
    refine CC.seq ?_
    refine CC.region ?_
    refine LL.val (R.field rfl rfl (I.fld rfl)) rfl rfl rfl ?_
    refine LL.val (R.load rfl rfl (I.ld1 rfl (RowL.cell rb4 rfl))) rfl rfl rfl ?_
    refine LL.val (R.field rfl rfl (I.fld rfl)) rfl rfl rfl ?_
    refine LL.val (R.load rfl rfl (I.ld1 rfl (RowL.cell rb4 rfl))) rfl rfl rfl ?_
    refine LL.val (R.addI rfl rfl rfl (by omega)) rfl rfl rfl ?_
    refine LL.val (R.field rfl rfl (I.fld rfl)) rfl rfl rfl ?_
    refine LL.val (R.load rfl rfl (I.ld1 rfl (RowL.cell rb4 rfl))) rfl rfl rfl ?_
    refine LL.val (R.field rfl rfl (I.fld rfl)) rfl rfl rfl ?_
    refine LL.val (R.load rfl rfl (I.ld1 rfl (RowL.cell rb4 rfl))) rfl rfl rfl ?_
    refine LL.val (R.addI rfl rfl rfl (by omega)) rfl rfl rfl ?_
    refine LL.val (R.field rfl rfl (I.fld rfl)) rfl rfl rfl ?_
    refine LL.val (R.load rfl rfl (I.ld1 rfl (RowL.cell rb10 rfl))) rfl rfl rfl ?_
    refine LL.val (R.buildV rfl rfl (v := .agg #[Value.int IntKind.i64 (x.1 + x.2.2), Value.int IntKind.i64 (x.2.1 + x.2.2), Value.int IntKind.i64 y.2.2]) (fun _ => by kernel_rfl)) rfl rfl rfl ?_
    have lb12 := rb10.lt
    have lb13 := rb4.lt
    refine LL.alloc ([Value.int IntKind.i64 0, Value.int IntKind.i64 0, Value.int IntKind.i64 0]) rfl rfl rfl rfl rfl ?_
    intro Wb15 gb16 egb16 rb17 zb18 bb14
    replace rb10 := rb10.up bb14
    replace bb7 := bb7.trans (bb14.mono bb7.size)
    replace rb4 := rb4.up bb14
    replace bb1 := bb1.trans (bb14.mono bb1.size)
    replace q := q.trans (bb14.mono q.size)
    refine LL.storeN (vs := [Value.int IntKind.i64 (x.1 + x.2.2), Value.int IntKind.i64 (x.2.1 + x.2.2), Value.int IntKind.i64 y.2.2]) rfl rfl rfl rfl rb17 (by exact Nat.le_of_ble_eq_true rfl) (ones_of rfl) rfl rfl ?_
    intro Wb20 rb21 bb19 zb22
    have hlbb19 := rb17.lt
    replace rb21 : RowL Wb20 _ 41 [Value.int IntKind.i64 (x.1 + x.2.2), Value.int IntKind.i64 (x.2.1 + x.2.2), Value.int IntKind.i64 y.2.2] := rb21
    clear rb17
    replace bb14 := bb14.grown bb19 bb14.size (by rintro k ⟨⟩; omega)
    replace rb10 := rb10.gr bb19 (by have := rb10.lt; omega)
    replace bb7 := bb7.grown bb19 bb7.size (by rintro k ⟨⟩; omega)
    replace rb4 := rb4.gr bb19 (by have := rb4.lt; omega)
    replace bb1 := bb1.grown bb19 bb1.size (by rintro k ⟨⟩; omega)
    replace q := q.grown bb19 q.size (by rintro k ⟨⟩; omega)
    have rb17 := rb21
    clear rb21
    refine LL.nilS ?_
    refine CC.seq ?_
    refine CC.region ?_
    refine LL.val (R.field rfl rfl (I.fld rfl)) rfl rfl rfl ?_
    refine LL.val (R.load rfl rfl (I.ld1 rfl (RowL.cell rb10 rfl))) rfl rfl rfl ?_
    refine LL.val (R.field rfl rfl (I.fld rfl)) rfl rfl rfl ?_
    refine LL.val (R.load rfl rfl (I.ld1 rfl (RowL.cell rb17 rfl))) rfl rfl rfl ?_
    refine LL.val (R.geT rfl rfl rfl (by omega)) rfl rfl rfl ?_
    refine LL.val (R.move rfl rfl) rfl rfl rfl ?_
    refine LL.val (R.load rfl rfl (I.ldNc (vs := [Value.int IntKind.i64 y.1, Value.int IntKind.i64 y.2.1, Value.int IntKind.i64 y.2.2]) (RowL.cells rb10 rfl) (by rfl) (by rfl))) rfl rfl rfl ?_
    refine LL.val (R.load rfl rfl (I.ldNc (vs := [Value.int IntKind.i64 (x.1 + x.2.2), Value.int IntKind.i64 (x.2.1 + x.2.2), Value.int IntKind.i64 y.2.2]) (RowL.cells rb17 rfl) (by rfl) (by rfl))) rfl rfl rfl ?_
    refine LL.val (R.neSF (p := (y.1 : Int) = x.1 + x.2.2 ∧ (y.2.1 : Int) = x.2.1 + x.2.2 ∧ (y.2.2 : Int) = y.2.2) (bs := [decide ((y.1 : Int) = x.1 + x.2.2), decide ((y.2.1 : Int) = x.2.1 + x.2.2), decide ((y.2.2 : Int) = y.2.2)]) rfl rfl rfl rfl (by kernel_rfl) (by kernel_rfl) (by simp) (by first | assumption | omega | exact ⟨rfl, rfl⟩ | exact fun h => h ⟨rfl, rfl⟩)) rfl rfl rfl ?_
    refine LL.val (R.pick rfl rfl rfl) rfl rfl rfl ?_
    refine LL.val (R.assign rfl rfl) rfl rfl rfl ?_
    refine LL.nilS ?_
    refine CC.ret ?_
    refine EE.ret _ rfl rfl ?_
    exact ⟨rfl, q⟩
--C extents_faults_1 | faults1_any _ @w | DB
--C extents_faults_2 | faults2_any _ @w (by assumption) | DB
--C extents_faults_3 | faults3_any _ @w (by assumption) (by assumption) | DB
set_option maxRecDepth 100000 in
set_option maxHeartbeats 4000000 in
theorem may_any (x : Ex) (w : World) : Calls Tryd.prog 32 #[exV x] w fun e w' => e = .returned (.bool (decide (mayE x))) ∧ Below w.heap.size w w' := by
  have q := Below.refl w.heap.size w
  by_cases h1 : f1E x
  · rw [decide_eq_false (by unfold mayE; unfold f1E at h1; omega)]
    refine X.fn Tryd.func32 rfl (n := 15) rfl rfl ?_
    refine CC.seq ?_
    refine CC.region ?_
    refine LL.box [Value.int IntKind.i64 x.1, Value.int IntKind.i64 x.2.1, Value.int IntKind.i64 x.2.2] rfl rfl rfl rfl rfl ?_
    intro W2 g3 eg3 r4 z5 b1
    replace q := q.trans (b1.mono q.size)
    refine LL.val (R.assign rfl rfl) rfl rfl rfl ?_
    refine LL.nilS ?_
    refine CC.seq ?_
    refine CC.seq ?_
    refine CC.region ?_
    refine LL.call (R.call rfl rfl rfl) rfl rfl rfl (faults_any _) ?_
    rintro e W7 ⟨g8, rfl, r9, l10, b6⟩
    refine ⟨_, rfl, ?_⟩
    have zb6 := b6.size
    replace r4 := r4.up b6
    replace b1 := b1.trans (b6.mono b1.size)
    replace q := q.trans (b6.mono q.size)
    refine LL.val (R.len rfl rfl rfl rfl) rfl rfl rfl ?_
    refine LL.val (R.move rfl rfl) rfl rfl rfl ?_
    refine LL.nilS ?_
    refine CC.block ?_
    refine CC.loopN 6 ?_
    refine RN.step ?_
    refine CC.seq ?_
    refine CC.region ?_
    refine LL.val (R.ltT rfl rfl rfl (by omega)) rfl rfl rfl ?_
    refine LL.nilS ?_
    refine CC.seq ?_
    refine CC.yes rfl ?_
    refine CC.skip ?_
    refine EE.thenN ?_
    refine CC.seq ?_
    refine CC.block ?_
    refine CC.seq ?_
    refine CC.region ?_
    refine LL.val (R.index rfl rfl rfl (I.ixS1c rfl rfl (by omega))) rfl rfl rfl ?_
    refine LL.val (R.load rfl rfl (I.ld1 rfl (RowL.cell r9 rfl))) rfl rfl rfl ?_
    refine LL.val (R.assign rfl rfl) rfl rfl rfl ?_
    refine LL.nilS ?_
    refine CC.seq ?_
    refine CC.region ?_
    refine LL.val (R.move rfl rfl) rfl rfl rfl ?_
    refine LL.val (R.load rfl rfl (I.ldNc (vs := [Value.int IntKind.i64 x.1, Value.int IntKind.i64 x.2.1, Value.int IntKind.i64 x.2.2]) (RowL.cells r4 rfl) (by rfl) (by rfl))) rfl rfl rfl ?_
    refine LL.callBT (R.callV rfl rfl rfl rfl) rfl rfl rfl (faults1_any _ _) (by first | assumption | omega) (fun W13 b12 => ?_)
    have zb12 := b12.size
    replace r9 := r9.up b12
    replace b6 := b6.trans (b12.mono b6.size)
    replace r4 := r4.up b12
    replace b1 := b1.trans (b12.mono b1.size)
    replace q := q.trans (b12.mono q.size)
    refine LL.nilS ?_
    refine CC.yes rfl ?_
    refine CC.seq ?_
    refine CC.region ?_
    refine LL.val (R.assign rfl rfl) rfl rfl rfl ?_
    refine LL.nilS ?_
    refine CC.ret ?_
    refine EE.inR ?_
    refine EE.thenR ?_
    refine EE.thenR ?_
    refine EE.inR ?_
    refine EE.thenR ?_
    refine EE.ret _ rfl rfl ?_
    exact ⟨rfl, q⟩
  have h11 : 1 ≤ x.2.2 := by unfold f1E at h1; omega
  by_cases h2 : f2E x
  · rw [decide_eq_false (by unfold mayE; unfold f2E at h2; omega)]
    refine X.fn Tryd.func32 rfl (n := 15) rfl rfl ?_
    refine CC.seq ?_
    refine CC.region ?_
    refine LL.box [Value.int IntKind.i64 x.1, Value.int IntKind.i64 x.2.1, Value.int IntKind.i64 x.2.2] rfl rfl rfl rfl rfl ?_
    intro Wa2 ga3 ega3 ra4 za5 ba1
    replace q := q.trans (ba1.mono q.size)
    refine LL.val (R.assign rfl rfl) rfl rfl rfl ?_
    refine LL.nilS ?_
    refine CC.seq ?_
    refine CC.seq ?_
    refine CC.region ?_
    refine LL.call (R.call rfl rfl rfl) rfl rfl rfl (faults_any _) ?_
    rintro e Wa7 ⟨ga8, rfl, ra9, la10, ba6⟩
    refine ⟨_, rfl, ?_⟩
    have zba6 := ba6.size
    replace ra4 := ra4.up ba6
    replace ba1 := ba1.trans (ba6.mono ba1.size)
    replace q := q.trans (ba6.mono q.size)
    refine LL.val (R.len rfl rfl rfl rfl) rfl rfl rfl ?_
    refine LL.val (R.move rfl rfl) rfl rfl rfl ?_
    refine LL.nilS ?_
    refine CC.block ?_
    refine CC.loopN 6 ?_
    refine RN.step ?_
    refine CC.seq ?_
    refine CC.region ?_
    refine LL.val (R.ltT rfl rfl rfl (by omega)) rfl rfl rfl ?_
    refine LL.nilS ?_
    refine CC.seq ?_
    refine CC.yes rfl ?_
    refine CC.skip ?_
    refine EE.thenN ?_
    refine CC.seq ?_
    refine CC.block ?_
    refine CC.seq ?_
    refine CC.region ?_
    refine LL.val (R.index rfl rfl rfl (I.ixS1c rfl rfl (by omega))) rfl rfl rfl ?_
    refine LL.val (R.load rfl rfl (I.ld1 rfl (RowL.cell ra9 rfl))) rfl rfl rfl ?_
    refine LL.val (R.assign rfl rfl) rfl rfl rfl ?_
    refine LL.nilS ?_
    refine CC.seq ?_
    refine CC.region ?_
    refine LL.val (R.move rfl rfl) rfl rfl rfl ?_
    refine LL.val (R.load rfl rfl (I.ldNc (vs := [Value.int IntKind.i64 x.1, Value.int IntKind.i64 x.2.1, Value.int IntKind.i64 x.2.2]) (RowL.cells ra4 rfl) (by rfl) (by rfl))) rfl rfl rfl ?_
    refine LL.callBF (R.callV rfl rfl rfl rfl) rfl rfl rfl (faults1_any _ _) (by first | assumption | omega) (fun Wa13 ba12 => ?_)
    have zba12 := ba12.size
    replace ra9 := ra9.up ba12
    replace ba6 := ba6.trans (ba12.mono ba6.size)
    replace ra4 := ra4.up ba12
    replace ba1 := ba1.trans (ba12.mono ba1.size)
    replace q := q.trans (ba12.mono q.size)
    refine LL.nilS ?_
    refine CC.no rfl ?_
    refine CC.skip ?_
    refine EE.inN ?_
    refine EE.thenN ?_
    refine CC.region ?_
    refine LL.val (R.addIz (z := 1) rfl rfl rfl (by decide) (by decide)) rfl rfl rfl ?_
    refine LL.val (R.move rfl rfl) rfl rfl rfl ?_
    refine LL.nil ?_
    refine EE.again ?_
    refine RN.step ?_
    refine CC.seq ?_
    refine CC.region ?_
    refine LL.val (R.ltT rfl rfl rfl (by omega)) rfl rfl rfl ?_
    refine LL.nilS ?_
    refine CC.seq ?_
    refine CC.yes rfl ?_
    refine CC.skip ?_
    refine EE.thenN ?_
    refine CC.seq ?_
    refine CC.block ?_
    refine CC.seq ?_
    refine CC.region ?_
    refine LL.val (R.index rfl rfl rfl (I.ixS1c rfl rfl (by omega))) rfl rfl rfl ?_
    refine LL.val (R.load rfl rfl (I.ld1 rfl (RowL.cell ra9 rfl))) rfl rfl rfl ?_
    refine LL.val (R.assign rfl rfl) rfl rfl rfl ?_
    refine LL.nilS ?_
    refine CC.seq ?_
    refine CC.region ?_
    refine LL.val (R.move rfl rfl) rfl rfl rfl ?_
    refine LL.val (R.load rfl rfl (I.ldNc (vs := [Value.int IntKind.i64 x.1, Value.int IntKind.i64 x.2.1, Value.int IntKind.i64 x.2.2]) (RowL.cells ra4 rfl) (by rfl) (by rfl))) rfl rfl rfl ?_
    refine LL.callBT (R.callV rfl rfl rfl rfl) rfl rfl rfl (faults2_any _ _ (by assumption)) (by first | assumption | omega) (fun Wa15 ba14 => ?_)
    have zba14 := ba14.size
    replace ba12 := ba12.trans (ba14.mono ba12.size)
    replace ra9 := ra9.up ba14
    replace ba6 := ba6.trans (ba14.mono ba6.size)
    replace ra4 := ra4.up ba14
    replace ba1 := ba1.trans (ba14.mono ba1.size)
    replace q := q.trans (ba14.mono q.size)
    refine LL.nilS ?_
    refine CC.yes rfl ?_
    refine CC.seq ?_
    refine CC.region ?_
    refine LL.val (R.assign rfl rfl) rfl rfl rfl ?_
    refine LL.nilS ?_
    refine CC.ret ?_
    refine EE.inR ?_
    refine EE.thenR ?_
    refine EE.thenR ?_
    refine EE.inR ?_
    refine EE.thenR ?_
    refine EE.ret _ rfl rfl ?_
    exact ⟨rfl, q⟩
  have h21 : x.2.2 ≤ 128 := by unfold f2E at h2; omega
  by_cases h3 : f3E x
  · rw [decide_eq_false (by unfold mayE; unfold f3E at h3; omega)]
    refine X.fn Tryd.func32 rfl (n := 15) rfl rfl ?_
    refine CC.seq ?_
    refine CC.region ?_
    refine LL.box [Value.int IntKind.i64 x.1, Value.int IntKind.i64 x.2.1, Value.int IntKind.i64 x.2.2] rfl rfl rfl rfl rfl ?_
    intro Wb2 gb3 egb3 rb4 zb5 bb1
    replace q := q.trans (bb1.mono q.size)
    refine LL.val (R.assign rfl rfl) rfl rfl rfl ?_
    refine LL.nilS ?_
    refine CC.seq ?_
    refine CC.seq ?_
    refine CC.region ?_
    refine LL.call (R.call rfl rfl rfl) rfl rfl rfl (faults_any _) ?_
    rintro e Wb7 ⟨gb8, rfl, rb9, lb10, bb6⟩
    refine ⟨_, rfl, ?_⟩
    have zbb6 := bb6.size
    replace rb4 := rb4.up bb6
    replace bb1 := bb1.trans (bb6.mono bb1.size)
    replace q := q.trans (bb6.mono q.size)
    refine LL.val (R.len rfl rfl rfl rfl) rfl rfl rfl ?_
    refine LL.val (R.move rfl rfl) rfl rfl rfl ?_
    refine LL.nilS ?_
    refine CC.block ?_
    refine CC.loopN 6 ?_
    refine RN.step ?_
    refine CC.seq ?_
    refine CC.region ?_
    refine LL.val (R.ltT rfl rfl rfl (by omega)) rfl rfl rfl ?_
    refine LL.nilS ?_
    refine CC.seq ?_
    refine CC.yes rfl ?_
    refine CC.skip ?_
    refine EE.thenN ?_
    refine CC.seq ?_
    refine CC.block ?_
    refine CC.seq ?_
    refine CC.region ?_
    refine LL.val (R.index rfl rfl rfl (I.ixS1c rfl rfl (by omega))) rfl rfl rfl ?_
    refine LL.val (R.load rfl rfl (I.ld1 rfl (RowL.cell rb9 rfl))) rfl rfl rfl ?_
    refine LL.val (R.assign rfl rfl) rfl rfl rfl ?_
    refine LL.nilS ?_
    refine CC.seq ?_
    refine CC.region ?_
    refine LL.val (R.move rfl rfl) rfl rfl rfl ?_
    refine LL.val (R.load rfl rfl (I.ldNc (vs := [Value.int IntKind.i64 x.1, Value.int IntKind.i64 x.2.1, Value.int IntKind.i64 x.2.2]) (RowL.cells rb4 rfl) (by rfl) (by rfl))) rfl rfl rfl ?_
    refine LL.callBF (R.callV rfl rfl rfl rfl) rfl rfl rfl (faults1_any _ _) (by first | assumption | omega) (fun Wb13 bb12 => ?_)
    have zbb12 := bb12.size
    replace rb9 := rb9.up bb12
    replace bb6 := bb6.trans (bb12.mono bb6.size)
    replace rb4 := rb4.up bb12
    replace bb1 := bb1.trans (bb12.mono bb1.size)
    replace q := q.trans (bb12.mono q.size)
    refine LL.nilS ?_
    refine CC.no rfl ?_
    refine CC.skip ?_
    refine EE.inN ?_
    refine EE.thenN ?_
    refine CC.region ?_
    refine LL.val (R.addIz (z := 1) rfl rfl rfl (by decide) (by decide)) rfl rfl rfl ?_
    refine LL.val (R.move rfl rfl) rfl rfl rfl ?_
    refine LL.nil ?_
    refine EE.again ?_
    refine RN.step ?_
    refine CC.seq ?_
    refine CC.region ?_
    refine LL.val (R.ltT rfl rfl rfl (by omega)) rfl rfl rfl ?_
    refine LL.nilS ?_
    refine CC.seq ?_
    refine CC.yes rfl ?_
    refine CC.skip ?_
    refine EE.thenN ?_
    refine CC.seq ?_
    refine CC.block ?_
    refine CC.seq ?_
    refine CC.region ?_
    refine LL.val (R.index rfl rfl rfl (I.ixS1c rfl rfl (by omega))) rfl rfl rfl ?_
    refine LL.val (R.load rfl rfl (I.ld1 rfl (RowL.cell rb9 rfl))) rfl rfl rfl ?_
    refine LL.val (R.assign rfl rfl) rfl rfl rfl ?_
    refine LL.nilS ?_
    refine CC.seq ?_
    refine CC.region ?_
    refine LL.val (R.move rfl rfl) rfl rfl rfl ?_
    refine LL.val (R.load rfl rfl (I.ldNc (vs := [Value.int IntKind.i64 x.1, Value.int IntKind.i64 x.2.1, Value.int IntKind.i64 x.2.2]) (RowL.cells rb4 rfl) (by rfl) (by rfl))) rfl rfl rfl ?_
    refine LL.callBF (R.callV rfl rfl rfl rfl) rfl rfl rfl (faults2_any _ _ (by assumption)) (by first | assumption | omega) (fun Wb15 bb14 => ?_)
    have zbb14 := bb14.size
    replace bb12 := bb12.trans (bb14.mono bb12.size)
    replace rb9 := rb9.up bb14
    replace bb6 := bb6.trans (bb14.mono bb6.size)
    replace rb4 := rb4.up bb14
    replace bb1 := bb1.trans (bb14.mono bb1.size)
    replace q := q.trans (bb14.mono q.size)
    refine LL.nilS ?_
    refine CC.no rfl ?_
    refine CC.skip ?_
    refine EE.inN ?_
    refine EE.thenN ?_
    refine CC.region ?_
    refine LL.val (R.addIz (z := 2) rfl rfl rfl (by decide) (by decide)) rfl rfl rfl ?_
    refine LL.val (R.move rfl rfl) rfl rfl rfl ?_
    refine LL.nil ?_
    refine EE.again ?_
    refine RN.step ?_
    refine CC.seq ?_
    refine CC.region ?_
    refine LL.val (R.ltT rfl rfl rfl (by omega)) rfl rfl rfl ?_
    refine LL.nilS ?_
    refine CC.seq ?_
    refine CC.yes rfl ?_
    refine CC.skip ?_
    refine EE.thenN ?_
    refine CC.seq ?_
    refine CC.block ?_
    refine CC.seq ?_
    refine CC.region ?_
    refine LL.val (R.index rfl rfl rfl (I.ixS1c rfl rfl (by omega))) rfl rfl rfl ?_
    refine LL.val (R.load rfl rfl (I.ld1 rfl (RowL.cell rb9 rfl))) rfl rfl rfl ?_
    refine LL.val (R.assign rfl rfl) rfl rfl rfl ?_
    refine LL.nilS ?_
    refine CC.seq ?_
    refine CC.region ?_
    refine LL.val (R.move rfl rfl) rfl rfl rfl ?_
    refine LL.val (R.load rfl rfl (I.ldNc (vs := [Value.int IntKind.i64 x.1, Value.int IntKind.i64 x.2.1, Value.int IntKind.i64 x.2.2]) (RowL.cells rb4 rfl) (by rfl) (by rfl))) rfl rfl rfl ?_
    refine LL.callBT (R.callV rfl rfl rfl rfl) rfl rfl rfl (faults3_any _ _ (by assumption) (by assumption)) (by first | assumption | omega) (fun Wb17 bb16 => ?_)
    have zbb16 := bb16.size
    replace bb14 := bb14.trans (bb16.mono bb14.size)
    replace bb12 := bb12.trans (bb16.mono bb12.size)
    replace rb9 := rb9.up bb16
    replace bb6 := bb6.trans (bb16.mono bb6.size)
    replace rb4 := rb4.up bb16
    replace bb1 := bb1.trans (bb16.mono bb1.size)
    replace q := q.trans (bb16.mono q.size)
    refine LL.nilS ?_
    refine CC.yes rfl ?_
    refine CC.seq ?_
    refine CC.region ?_
    refine LL.val (R.assign rfl rfl) rfl rfl rfl ?_
    refine LL.nilS ?_
    refine CC.ret ?_
    refine EE.inR ?_
    refine EE.thenR ?_
    refine EE.thenR ?_
    refine EE.inR ?_
    refine EE.thenR ?_
    refine EE.ret _ rfl rfl ?_
    exact ⟨rfl, q⟩
  · rw [decide_eq_true (by unfold mayE; unfold f1E at h1; unfold f2E at h2; unfold f3E at h3; omega)]
    refine X.fn Tryd.func32 rfl (n := 15) rfl rfl ?_
    refine CC.seq ?_
    refine CC.region ?_
    refine LL.box [Value.int IntKind.i64 x.1, Value.int IntKind.i64 x.2.1, Value.int IntKind.i64 x.2.2] rfl rfl rfl rfl rfl ?_
    intro Wc2 gc3 egc3 rc4 zc5 bc1
    replace q := q.trans (bc1.mono q.size)
    refine LL.val (R.assign rfl rfl) rfl rfl rfl ?_
    refine LL.nilS ?_
    refine CC.seq ?_
    refine CC.seq ?_
    refine CC.region ?_
    refine LL.call (R.call rfl rfl rfl) rfl rfl rfl (faults_any _) ?_
    rintro e Wc7 ⟨gc8, rfl, rc9, lc10, bc6⟩
    refine ⟨_, rfl, ?_⟩
    have zbc6 := bc6.size
    replace rc4 := rc4.up bc6
    replace bc1 := bc1.trans (bc6.mono bc1.size)
    replace q := q.trans (bc6.mono q.size)
    refine LL.val (R.len rfl rfl rfl rfl) rfl rfl rfl ?_
    refine LL.val (R.move rfl rfl) rfl rfl rfl ?_
    refine LL.nilS ?_
    refine CC.block ?_
    refine CC.loopN 6 ?_
    refine RN.step ?_
    refine CC.seq ?_
    refine CC.region ?_
    refine LL.val (R.ltT rfl rfl rfl (by omega)) rfl rfl rfl ?_
    refine LL.nilS ?_
    refine CC.seq ?_
    refine CC.yes rfl ?_
    refine CC.skip ?_
    refine EE.thenN ?_
    refine CC.seq ?_
    refine CC.block ?_
    refine CC.seq ?_
    refine CC.region ?_
    refine LL.val (R.index rfl rfl rfl (I.ixS1c rfl rfl (by omega))) rfl rfl rfl ?_
    refine LL.val (R.load rfl rfl (I.ld1 rfl (RowL.cell rc9 rfl))) rfl rfl rfl ?_
    refine LL.val (R.assign rfl rfl) rfl rfl rfl ?_
    refine LL.nilS ?_
    refine CC.seq ?_
    refine CC.region ?_
    refine LL.val (R.move rfl rfl) rfl rfl rfl ?_
    refine LL.val (R.load rfl rfl (I.ldNc (vs := [Value.int IntKind.i64 x.1, Value.int IntKind.i64 x.2.1, Value.int IntKind.i64 x.2.2]) (RowL.cells rc4 rfl) (by rfl) (by rfl))) rfl rfl rfl ?_
    refine LL.callBF (R.callV rfl rfl rfl rfl) rfl rfl rfl (faults1_any _ _) (by first | assumption | omega) (fun Wc13 bc12 => ?_)
    have zbc12 := bc12.size
    replace rc9 := rc9.up bc12
    replace bc6 := bc6.trans (bc12.mono bc6.size)
    replace rc4 := rc4.up bc12
    replace bc1 := bc1.trans (bc12.mono bc1.size)
    replace q := q.trans (bc12.mono q.size)
    refine LL.nilS ?_
    refine CC.no rfl ?_
    refine CC.skip ?_
    refine EE.inN ?_
    refine EE.thenN ?_
    refine CC.region ?_
    refine LL.val (R.addIz (z := 1) rfl rfl rfl (by decide) (by decide)) rfl rfl rfl ?_
    refine LL.val (R.move rfl rfl) rfl rfl rfl ?_
    refine LL.nil ?_
    refine EE.again ?_
    refine RN.step ?_
    refine CC.seq ?_
    refine CC.region ?_
    refine LL.val (R.ltT rfl rfl rfl (by omega)) rfl rfl rfl ?_
    refine LL.nilS ?_
    refine CC.seq ?_
    refine CC.yes rfl ?_
    refine CC.skip ?_
    refine EE.thenN ?_
    refine CC.seq ?_
    refine CC.block ?_
    refine CC.seq ?_
    refine CC.region ?_
    refine LL.val (R.index rfl rfl rfl (I.ixS1c rfl rfl (by omega))) rfl rfl rfl ?_
    refine LL.val (R.load rfl rfl (I.ld1 rfl (RowL.cell rc9 rfl))) rfl rfl rfl ?_
    refine LL.val (R.assign rfl rfl) rfl rfl rfl ?_
    refine LL.nilS ?_
    refine CC.seq ?_
    refine CC.region ?_
    refine LL.val (R.move rfl rfl) rfl rfl rfl ?_
    refine LL.val (R.load rfl rfl (I.ldNc (vs := [Value.int IntKind.i64 x.1, Value.int IntKind.i64 x.2.1, Value.int IntKind.i64 x.2.2]) (RowL.cells rc4 rfl) (by rfl) (by rfl))) rfl rfl rfl ?_
    refine LL.callBF (R.callV rfl rfl rfl rfl) rfl rfl rfl (faults2_any _ _ (by assumption)) (by first | assumption | omega) (fun Wc15 bc14 => ?_)
    have zbc14 := bc14.size
    replace bc12 := bc12.trans (bc14.mono bc12.size)
    replace rc9 := rc9.up bc14
    replace bc6 := bc6.trans (bc14.mono bc6.size)
    replace rc4 := rc4.up bc14
    replace bc1 := bc1.trans (bc14.mono bc1.size)
    replace q := q.trans (bc14.mono q.size)
    refine LL.nilS ?_
    refine CC.no rfl ?_
    refine CC.skip ?_
    refine EE.inN ?_
    refine EE.thenN ?_
    refine CC.region ?_
    refine LL.val (R.addIz (z := 2) rfl rfl rfl (by decide) (by decide)) rfl rfl rfl ?_
    refine LL.val (R.move rfl rfl) rfl rfl rfl ?_
    refine LL.nil ?_
    refine EE.again ?_
    refine RN.step ?_
    refine CC.seq ?_
    refine CC.region ?_
    refine LL.val (R.ltT rfl rfl rfl (by omega)) rfl rfl rfl ?_
    refine LL.nilS ?_
    refine CC.seq ?_
    refine CC.yes rfl ?_
    refine CC.skip ?_
    refine EE.thenN ?_
    refine CC.seq ?_
    refine CC.block ?_
    refine CC.seq ?_
    refine CC.region ?_
    refine LL.val (R.index rfl rfl rfl (I.ixS1c rfl rfl (by omega))) rfl rfl rfl ?_
    refine LL.val (R.load rfl rfl (I.ld1 rfl (RowL.cell rc9 rfl))) rfl rfl rfl ?_
    refine LL.val (R.assign rfl rfl) rfl rfl rfl ?_
    refine LL.nilS ?_
    refine CC.seq ?_
    refine CC.region ?_
    refine LL.val (R.move rfl rfl) rfl rfl rfl ?_
    refine LL.val (R.load rfl rfl (I.ldNc (vs := [Value.int IntKind.i64 x.1, Value.int IntKind.i64 x.2.1, Value.int IntKind.i64 x.2.2]) (RowL.cells rc4 rfl) (by rfl) (by rfl))) rfl rfl rfl ?_
    refine LL.callBF (R.callV rfl rfl rfl rfl) rfl rfl rfl (faults3_any _ _ (by assumption) (by assumption)) (by first | assumption | omega) (fun Wc17 bc16 => ?_)
    have zbc16 := bc16.size
    replace bc14 := bc14.trans (bc16.mono bc14.size)
    replace bc12 := bc12.trans (bc16.mono bc12.size)
    replace rc9 := rc9.up bc16
    replace bc6 := bc6.trans (bc16.mono bc6.size)
    replace rc4 := rc4.up bc16
    replace bc1 := bc1.trans (bc16.mono bc1.size)
    replace q := q.trans (bc16.mono q.size)
    refine LL.nilS ?_
    refine CC.no rfl ?_
    refine CC.skip ?_
    refine EE.inN ?_
    refine EE.thenN ?_
    refine CC.region ?_
    refine LL.val (R.addIz (z := 3) rfl rfl rfl (by decide) (by decide)) rfl rfl rfl ?_
    refine LL.val (R.move rfl rfl) rfl rfl rfl ?_
    refine LL.nil ?_
    refine EE.again ?_
    refine RN.step ?_
    refine CC.seq ?_
    refine CC.region ?_
    refine LL.val (R.ltF rfl rfl rfl (by omega)) rfl rfl rfl ?_
    refine LL.nilS ?_
    refine CC.seq ?_
    refine CC.no rfl ?_
    refine CC.exit ?_
    refine EE.thenX ?_
    refine EE.thenX ?_
    refine EE.inX ?_
    refine EE.thenN ?_
    refine CC.seq ?_
    refine CC.region ?_
    refine LL.val (R.assign rfl rfl) rfl rfl rfl ?_
    refine LL.nilS ?_
    refine CC.ret ?_
    refine EE.ret _ rfl rfl ?_
    exact ⟨rfl, q⟩
/-- The list as far as it was looked at may be a map's. -/
structure preV (l : List Ex) (i : Nat) : Prop where
  may : ∀ j x, j < i → l[j]? = some x → mayE x
  apart : ∀ j k x y, j < k → k < i → l[j]? = some x → l[k]? = some y → apartE x y
  follow : ∀ j x y, j + 1 < i → l[j]? = some x → l[j + 1]? = some y → followE x y
theorem preV_zero (l : List Ex) : preV l 0 := ⟨fun _ _ h => by omega, fun _ _ _ _ _ h => by omega, fun _ _ _ h => by omega⟩
theorem preV_succ {l : List Ex} {i : Nat} {x : Ex} (h : preV l i) (hx : l[i]? = some x) (hm : mayE x) (ha : ∀ j y, j < i → l[j]? = some y → apartE y x) (hf : ∀ y, 0 < i → l[i - 1]? = some y → followE y x) : preV l (i + 1) := by
  refine ⟨fun j y hj hy => ?_, fun j k y z hjk hk hy hz => ?_, fun j y z hj hy hz => ?_⟩
  · by_cases e : j = i
    · subst e; rw [hx] at hy; cases hy; exact hm
    · exact h.may j y (by omega) hy
  · by_cases e : k = i
    · subst e; rw [hx] at hz; cases hz; exact ha j y hjk hy
    · exact h.apart j k y z hjk (by omega) hy hz
  · by_cases e : j + 1 = i
    · subst e; rw [hx] at hz; cases hz; exact hf y (by omega) (by simpa using hy)
    · exact h.follow j y z (by omega) hy hz
theorem preV_of {l : List Ex} (h : vL l) : preV l l.length := by
  refine ⟨fun j x _ hx => h.2.1 x (List.mem_of_getElem? hx), fun j k x y hjk hk hx hy => ?_, fun j x y _ hx hy => chE_at.1 h.2.2.2 j x y hx hy⟩
  obtain ⟨hj, rfl⟩ := List.getElem?_eq_some_iff.1 hx
  obtain ⟨hk, rfl⟩ := List.getElem?_eq_some_iff.1 hy
  exact List.pairwise_iff_getElem.1 h.2.2.1 j k hj hk hjk
theorem vL_of {l : List Ex} (hl : l.length ≤ 10) (h : preV l l.length) : vL l := by
  refine ⟨hl, fun x hx => ?_, List.pairwise_iff_getElem.2 fun j k hj hk hjk => h.apart j k _ _ hjk hk (List.getElem?_eq_getElem hj) (List.getElem?_eq_getElem hk), chE_at.2 fun j x y hx hy => h.follow j x y (List.getElem?_eq_some_iff.1 hy).1 hx hy⟩
  obtain ⟨j, hj, rfl⟩ := List.mem_iff_getElem.1 hx
  exact h.may j _ hj (List.getElem?_eq_getElem hj)
set_option maxRecDepth 100000 in
set_option maxHeartbeats 8000000 in
theorem check_any (v : Value) (l : List Ex) (w : World) (hv : ReadsT eE 3 w v l) (hlen : l.length ≤ 1048576) : Calls Tryd.prog 14 #[v] w fun e w' => (∃ n : Int, e = .returned (.int .i64 n) ∧ ((n = 0 ∧ vL l) ∨ (n = 2 ∧ ¬vL l))) ∧ Below w.heap.size w w' := by
  have q := Below.refl w.heap.size w
  obtain ⟨N, hN⟩ : ∃ N, l.length = N := ⟨_, rfl⟩
  rw [hN] at hlen
  obtain ⟨a, cap, rfl, hcap⟩ := hv.form hN
  refine X.fn Tryd.func14 rfl (n := 46) rfl rfl ?_
  refine CC.seq ?_
  refine CC.region ?_
  refine LL.val (R.assign rfl rfl) rfl rfl rfl ?_
  refine LL.nilS ?_
  refine CC.fwd (l := 0) (α := Unit) (fun _ => []) (fun _ => []) (fun _ W => Below w.heap.size w W ∧ ¬vL l) rfl ?first ?pass
  case pass =>
    rintro _ W ⟨q, hno⟩
    refine CC.seq ?_
    refine CC.skip ?_
    refine EE.thenN ?_
    refine CC.seq ?_
    refine CC.region ?_
    refine LL.val (R.assign rfl rfl) rfl rfl rfl ?_
    refine LL.nilS ?_
    refine CC.ret ?_
    refine EE.jumpR ?_
    refine EE.ret _ rfl rfl ?_
    exact ⟨⟨2, rfl, .inr ⟨rfl, hno⟩⟩, q⟩
  case first =>
    by_cases h10 : 10 < N
    · have hno : ¬vL l := fun h => by have := h.1; omega
      refine CC.seq ?_
      refine CC.seq ?_
      refine CC.region ?_
      refine LL.val (R.move rfl rfl) rfl rfl rfl ?_
      refine LL.val (R.len rfl rfl rfl rfl) rfl rfl rfl ?_
      refine LL.val (R.gtT rfl rfl rfl (by omega)) rfl rfl rfl ?_
      refine LL.nilS ?_
      refine CC.yes rfl ?_
      refine CC.goto ?_
      refine EE.thenG ?_
      (refine EE.jumpTo () rfl ?_ ⟨q, hno⟩; exact trivial)
    refine CC.seq ?_
    refine CC.seq ?_
    refine CC.region ?_
    refine LL.val (R.move rfl rfl) rfl rfl rfl ?_
    refine LL.val (R.len rfl rfl rfl rfl) rfl rfl rfl ?_
    refine LL.val (R.gtF rfl rfl rfl (by omega)) rfl rfl rfl ?_
    refine LL.nilS ?_
    refine CC.no rfl ?_
    refine CC.skip ?_
    refine EE.thenN ?_
    refine CC.seq ?_
    refine CC.seq ?_
    refine CC.region ?_
    refine LL.val (R.move rfl rfl) rfl rfl rfl ?_
    refine LL.val (R.len rfl rfl rfl rfl) rfl rfl rfl ?_
    refine LL.val (R.move rfl rfl) rfl rfl rfl ?_
    refine LL.nilS ?_
    refine CC.block ?_
    refine CC.loop (α := Nat) (fun i => [(0, .slice a N cap), (10, .slice a N cap), (11, .int .i64 (N : Int)), (12, .int .i64 (i : Int))]) (fun i W => i ≤ N ∧ Below w.heap.size w W ∧ preV l i) (fun i => N - i) 0 ⟨rfl, rfl, rfl, rfl, trivial⟩ ⟨by omega, q, preV_zero l⟩ ?_
    clear q
    rintro i W ⟨hi, q, hp⟩
    show CC none Tryd.prog _ 46 [] (sl [(0, .slice a N cap), (10, .slice a N cap), (11, .int .i64 (N : Int)), (12, .int .i64 (i : Int))]) _ W
    by_cases hlt : i < N
    case neg =>
      obtain rfl : i = N := by omega
      have hy : vL l := vL_of (by omega) (by rw [hN]; exact hp)
      refine CC.seq ?_
      refine CC.region ?_
      refine LL.val (R.ltF rfl rfl rfl (by omega)) rfl rfl rfl ?_
      refine LL.nilS ?_
      refine CC.seq ?_
      refine CC.no rfl ?_
      refine CC.exit ?_
      refine EE.thenX ?_
      refine EE.thenX ?_
      refine EE.inX ?_
      refine EE.thenN ?_
      refine CC.seq ?_
      refine CC.seq ?_
      refine CC.region ?_
      refine LL.val (R.assign rfl rfl) rfl rfl rfl ?_
      refine LL.nilS ?_
      refine CC.ret ?_
      refine EE.thenR ?_
      refine EE.jumpR ?_
      refine EE.ret _ rfl rfl ?_
      exact ⟨⟨0, rfl, .inl ⟨rfl, hy⟩⟩, q⟩
    obtain ⟨x, hx⟩ : ∃ x, l[i]? = some x := ⟨_, List.getElem?_eq_getElem (by omega)⟩
    have hvW := hv.up q
    have yq := q.size
    obtain ⟨bk, off, rfl, hbk, hcs⟩ := hvW.get eEnc hx
    have hcs : Cells W ⟨bk, off + i * 3, none⟩ [.int .i64 x.1, .int .i64 x.2.1, .int .i64 x.2.2] := hcs
    by_cases hm : mayE x
    case neg =>
      have hno : ¬vL l := fun h => hm ((preV_of h).may i x (by omega) hx)
      refine CC.seq ?_
      refine CC.region ?_
      refine LL.val (R.ltT rfl rfl rfl (by omega)) rfl rfl rfl ?_
      refine LL.nilS ?_
      refine CC.seq ?_
      refine CC.yes rfl ?_
      refine CC.skip ?_
      refine EE.thenN ?_
      refine CC.seq ?_
      refine CC.block ?_
      refine CC.seq ?_
      refine CC.region ?_
      refine LL.val (R.move rfl rfl) rfl rfl rfl ?_
      refine LL.val (R.index rfl rfl rfl (I.ixS rfl (by omega))) rfl rfl rfl ?_
      refine LL.val (R.load rfl rfl (I.ldNc (by assumption) rfl rfl)) rfl rfl rfl ?_
      refine LL.alloc ([Value.int IntKind.i64 0, Value.int IntKind.i64 0, Value.int IntKind.i64 0]) rfl rfl rfl rfl rfl ?_
      intro We2 ge3 ege3 re4 ze5 be1
      replace q := q.trans (be1.mono q.size)
      replace hvW := hvW.up be1
      replace hcs := hcs.up be1
      refine LL.val (R.assign rfl rfl) rfl rfl rfl ?_
      refine LL.storeN (vs := [Value.int IntKind.i64 x.1, Value.int IntKind.i64 x.2.1, Value.int IntKind.i64 x.2.2]) rfl rfl rfl rfl re4 (by exact Nat.le_of_ble_eq_true rfl) (ones_of rfl) rfl rfl ?_
      intro We7 re8 be6 ze9
      have hlbe6 := re4.lt
      replace re8 : RowL We7 _ 41 [Value.int IntKind.i64 x.1, Value.int IntKind.i64 x.2.1, Value.int IntKind.i64 x.2.2] := re8
      clear re4
      replace be1 := be1.grown be6 be1.size (by rintro k ⟨⟩; omega)
      replace q := q.grown be6 q.size (by rintro k ⟨⟩; omega)
      replace hvW := hvW.gr be6 (by omega)
      replace hcs := hcs.gr be6 (by omega)
      have re4 := re8
      clear re8
      refine LL.nilS ?_
      refine CC.seq ?_
      refine CC.seq ?_
      refine CC.region ?_
      refine LL.val (R.load rfl rfl (I.ldNc (vs := [Value.int IntKind.i64 x.1, Value.int IntKind.i64 x.2.1, Value.int IntKind.i64 x.2.2]) (RowL.cells re4 rfl) (by rfl) (by rfl))) rfl rfl rfl ?_
      refine LL.callBF (R.call rfl rfl rfl) rfl rfl rfl (may_any _ _) (by first | assumption | omega) (fun We11 be10 => ?_)
      have zbe10 := be10.size
      replace be1 := be1.trans (be10.mono be1.size)
      replace q := q.trans (be10.mono q.size)
      replace hvW := hvW.up be10
      replace hcs := hcs.up be10
      replace re4 := re4.up be10
      refine LL.val (R.not rfl rfl) rfl rfl rfl ?_
      refine LL.nilS ?_
      refine CC.yes rfl ?_
      refine CC.goto ?_
      refine EE.thenG ?_
      refine EE.inG ?_
      refine EE.thenG ?_
      refine EE.thenG ?_
      refine EE.inG ?_
      refine EE.thenG ?_
      (refine EE.jumpTo () rfl ?_ ⟨q, hno⟩; exact trivial)
    refine CC.seq ?_
    refine CC.region ?_
    refine LL.val (R.ltT rfl rfl rfl (by omega)) rfl rfl rfl ?_
    refine LL.nilS ?_
    refine CC.seq ?_
    refine CC.yes rfl ?_
    refine CC.skip ?_
    refine EE.thenN ?_
    refine CC.seq ?_
    refine CC.block ?_
    refine CC.seq ?_
    refine CC.region ?_
    refine LL.val (R.move rfl rfl) rfl rfl rfl ?_
    refine LL.val (R.index rfl rfl rfl (I.ixS rfl (by omega))) rfl rfl rfl ?_
    refine LL.val (R.load rfl rfl (I.ldNc (by assumption) rfl rfl)) rfl rfl rfl ?_
    refine LL.alloc ([Value.int IntKind.i64 0, Value.int IntKind.i64 0, Value.int IntKind.i64 0]) rfl rfl rfl rfl rfl ?_
    intro Wf2 gf3 egf3 rf4 zf5 bf1
    replace q := q.trans (bf1.mono q.size)
    replace hvW := hvW.up bf1
    replace hcs := hcs.up bf1
    refine LL.val (R.assign rfl rfl) rfl rfl rfl ?_
    refine LL.storeN (vs := [Value.int IntKind.i64 x.1, Value.int IntKind.i64 x.2.1, Value.int IntKind.i64 x.2.2]) rfl rfl rfl rfl rf4 (by exact Nat.le_of_ble_eq_true rfl) (ones_of rfl) rfl rfl ?_
    intro Wf7 rf8 bf6 zf9
    have hlbf6 := rf4.lt
    replace rf8 : RowL Wf7 _ 41 [Value.int IntKind.i64 x.1, Value.int IntKind.i64 x.2.1, Value.int IntKind.i64 x.2.2] := rf8
    clear rf4
    replace bf1 := bf1.grown bf6 bf1.size (by rintro k ⟨⟩; omega)
    replace q := q.grown bf6 q.size (by rintro k ⟨⟩; omega)
    replace hvW := hvW.gr bf6 (by omega)
    replace hcs := hcs.gr bf6 (by omega)
    have rf4 := rf8
    clear rf8
    refine LL.nilS ?_
    refine CC.seq ?_
    refine CC.seq ?_
    refine CC.region ?_
    refine LL.val (R.load rfl rfl (I.ldNc (vs := [Value.int IntKind.i64 x.1, Value.int IntKind.i64 x.2.1, Value.int IntKind.i64 x.2.2]) (RowL.cells rf4 rfl) (by rfl) (by rfl))) rfl rfl rfl ?_
    refine LL.callBT (R.call rfl rfl rfl) rfl rfl rfl (may_any _ _) (by first | assumption | omega) (fun Wf11 bf10 => ?_)
    have zbf10 := bf10.size
    replace bf1 := bf1.trans (bf10.mono bf1.size)
    replace q := q.trans (bf10.mono q.size)
    replace hvW := hvW.up bf10
    replace hcs := hcs.up bf10
    replace rf4 := rf4.up bf10
    refine LL.val (R.not rfl rfl) rfl rfl rfl ?_
    refine LL.nilS ?_
    refine CC.no rfl ?_
    refine CC.skip ?_
    refine EE.thenN ?_
    refine CC.seq ?_
    refine CC.seq ?_
    refine CC.region ?_
    refine LL.val (R.move rfl rfl) rfl rfl rfl ?_
    refine LL.val (R.move rfl rfl) rfl rfl rfl ?_
    refine LL.val (R.slice rfl rfl rfl rfl rfl (I.slTo rfl (by omega))) rfl rfl rfl ?_
    refine LL.val (R.len rfl rfl rfl rfl) rfl rfl rfl ?_
    refine LL.val (R.move rfl rfl) rfl rfl rfl ?_
    refine LL.nilS ?_
    refine CC.block ?_
    have yB : W.heap.size ≤ Wf11.heap.size := by omega
    have lf3 := rf4.lt
    refine CC.loop (α := Nat) (fun k => [(0, .slice (some ⟨bk, off, none⟩) N cap), (3, .int .i64 (i : Int)), (4, .pointer (some ⟨gf3, 0, none⟩)), (10, .slice (some ⟨bk, off, none⟩) N cap), (11, .int .i64 (N : Int)), (12, .int .i64 (i : Int)), (22, .slice (some ⟨bk, off, none⟩) i cap), (23, .int .i64 (i : Int)), (24, .int .i64 (k : Int))]) (fun k W' => k ≤ i ∧ Below w.heap.size w W' ∧ W.heap.size ≤ W'.heap.size ∧ RowL W' gf3 41 [.int .i64 x.1, .int .i64 x.2.1, .int .i64 x.2.2] ∧ ∀ j y, j < k → l[j]? = some y → apartE y x) (fun k => i - k) 0 ⟨rfl, rfl, rfl, rfl, rfl, rfl, rfl, rfl, rfl, trivial⟩ ⟨by omega, q, by omega, rf4, fun j y h => by omega⟩ ?_
    clear q rf4 hcs
    rintro k W' ⟨hk, q, yB, rf4, ha⟩
    show CC none Tryd.prog _ 46 [] (sl [(0, .slice (some ⟨bk, off, none⟩) N cap), (3, .int .i64 (i : Int)), (4, .pointer (some ⟨gf3, 0, none⟩)), (10, .slice (some ⟨bk, off, none⟩) N cap), (11, .int .i64 (N : Int)), (12, .int .i64 (i : Int)), (22, .slice (some ⟨bk, off, none⟩) i cap), (23, .int .i64 (i : Int)), (24, .int .i64 (k : Int))]) _ W'
    have yq := q.size
    have lf3 := rf4.lt
    have hvW := hv.up q
    by_cases hlk : k < i
    · obtain ⟨y, hy⟩ : ∃ y, l[k]? = some y := ⟨_, List.getElem?_eq_getElem (by omega)⟩
      obtain ⟨_, _, e1, hbk', hcs⟩ := hvW.get eEnc hy
      cases e1
      have hcs : Cells W' ⟨bk, off + k * 3, none⟩ [.int .i64 y.1, .int .i64 y.2.1, .int .i64 y.2.2] := hcs
      have hmy := hp.may k y hlk hy
      by_cases hap : apartE y x
      case neg =>
        have hno : ¬vL l := fun h => hap ((preV_of h).apart k i y x hlk (by omega) hy hx)
        refine CC.seq ?_
        refine CC.region ?_
        refine LL.val (R.ltT rfl rfl rfl (by omega)) rfl rfl rfl ?_
        refine LL.nilS ?_
        refine CC.seq ?_
        refine CC.yes rfl ?_
        refine CC.skip ?_
        refine EE.thenN ?_
        refine CC.seq ?_
        refine CC.block ?_
        refine CC.seq ?_
        refine CC.region ?_
        refine LL.val (R.index rfl rfl rfl (I.ixS rfl (by omega))) rfl rfl rfl ?_
        refine LL.val (R.load rfl rfl (I.ldNc (by assumption) rfl rfl)) rfl rfl rfl ?_
        have lg1 := rf4.lt
        refine LL.alloc ([Value.int IntKind.i64 0, Value.int IntKind.i64 0, Value.int IntKind.i64 0]) rfl rfl rfl rfl rfl ?_
        intro Wg3 gg4 egg4 rg5 zg6 bg2
        replace q := q.trans (bg2.mono q.size)
        replace rf4 := rf4.up bg2
        replace hvW := hvW.up bg2
        replace hcs := hcs.up bg2
        refine LL.storeN (vs := [Value.int IntKind.i64 y.1, Value.int IntKind.i64 y.2.1, Value.int IntKind.i64 y.2.2]) rfl rfl rfl rfl rg5 (by exact Nat.le_of_ble_eq_true rfl) (ones_of rfl) rfl rfl ?_
        intro Wg8 rg9 bg7 zg10
        have hlbg7 := rg5.lt
        replace rg9 : RowL Wg8 _ 41 [Value.int IntKind.i64 y.1, Value.int IntKind.i64 y.2.1, Value.int IntKind.i64 y.2.2] := rg9
        clear rg5
        replace bg2 := bg2.grown bg7 bg2.size (by rintro k ⟨⟩; omega)
        replace q := q.grown bg7 q.size (by rintro k ⟨⟩; omega)
        replace rf4 := rf4.gr bg7 (by have := rf4.lt; omega)
        replace hvW := hvW.gr bg7 (by omega)
        replace hcs := hcs.gr bg7 (by omega)
        have rg5 := rg9
        clear rg9
        refine LL.nilS ?_
        refine CC.seq ?_
        refine CC.region ?_
        refine LL.val (R.load rfl rfl (I.ldNc (vs := [Value.int IntKind.i64 y.1, Value.int IntKind.i64 y.2.1, Value.int IntKind.i64 y.2.2]) (RowL.cells rg5 rfl) (by rfl) (by rfl))) rfl rfl rfl ?_
        refine LL.val (R.load rfl rfl (I.ldNc (vs := [Value.int IntKind.i64 x.1, Value.int IntKind.i64 x.2.1, Value.int IntKind.i64 x.2.2]) (RowL.cells rf4 rfl) (by rfl) (by rfl))) rfl rfl rfl ?_
        refine LL.callBF (R.call rfl rfl rfl) rfl rfl rfl (apart_any _ _ _ (by first | assumption | omega) (by first | assumption | omega)) (by first | assumption | omega) (fun Wg12 bg11 => ?_)
        have zbg11 := bg11.size
        replace bg2 := bg2.trans (bg11.mono bg2.size)
        replace q := q.trans (bg11.mono q.size)
        replace rf4 := rf4.up bg11
        replace hvW := hvW.up bg11
        replace hcs := hcs.up bg11
        replace rg5 := rg5.up bg11
        refine LL.val (R.not rfl rfl) rfl rfl rfl ?_
        refine LL.nilS ?_
        refine CC.yes rfl ?_
        refine CC.goto ?_
        refine EE.inG ?_
        refine EE.thenG ?_
        refine EE.thenG ?_
        refine EE.inG ?_
        refine EE.thenG ?_
        refine EE.inG ?_
        refine EE.thenG ?_
        refine EE.thenG ?_
        refine EE.inG ?_
        refine EE.thenG ?_
        (refine EE.jumpTo () rfl ?_ ⟨q, hno⟩; exact trivial)
      have ha' : ∀ j z, j < k + 1 → l[j]? = some z → apartE z x := fun j z hj hz => by
        by_cases e : j = k
        · subst e; rw [hy] at hz; cases hz; exact hap
        · exact ha j z (by omega) hz
      refine CC.seq ?_
      refine CC.region ?_
      refine LL.val (R.ltT rfl rfl rfl (by omega)) rfl rfl rfl ?_
      refine LL.nilS ?_
      refine CC.seq ?_
      refine CC.yes rfl ?_
      refine CC.skip ?_
      refine EE.thenN ?_
      refine CC.seq ?_
      refine CC.block ?_
      refine CC.seq ?_
      refine CC.region ?_
      refine LL.val (R.index rfl rfl rfl (I.ixS rfl (by omega))) rfl rfl rfl ?_
      refine LL.val (R.load rfl rfl (I.ldNc (by assumption) rfl rfl)) rfl rfl rfl ?_
      have lh1 := rf4.lt
      refine LL.alloc ([Value.int IntKind.i64 0, Value.int IntKind.i64 0, Value.int IntKind.i64 0]) rfl rfl rfl rfl rfl ?_
      intro Wh3 gh4 egh4 rh5 zh6 bh2
      replace q := q.trans (bh2.mono q.size)
      replace rf4 := rf4.up bh2
      replace hvW := hvW.up bh2
      replace hcs := hcs.up bh2
      refine LL.storeN (vs := [Value.int IntKind.i64 y.1, Value.int IntKind.i64 y.2.1, Value.int IntKind.i64 y.2.2]) rfl rfl rfl rfl rh5 (by exact Nat.le_of_ble_eq_true rfl) (ones_of rfl) rfl rfl ?_
      intro Wh8 rh9 bh7 zh10
      have hlbh7 := rh5.lt
      replace rh9 : RowL Wh8 _ 41 [Value.int IntKind.i64 y.1, Value.int IntKind.i64 y.2.1, Value.int IntKind.i64 y.2.2] := rh9
      clear rh5
      replace bh2 := bh2.grown bh7 bh2.size (by rintro k ⟨⟩; omega)
      replace q := q.grown bh7 q.size (by rintro k ⟨⟩; omega)
      replace rf4 := rf4.gr bh7 (by have := rf4.lt; omega)
      replace hvW := hvW.gr bh7 (by omega)
      replace hcs := hcs.gr bh7 (by omega)
      have rh5 := rh9
      clear rh9
      refine LL.nilS ?_
      refine CC.seq ?_
      refine CC.region ?_
      refine LL.val (R.load rfl rfl (I.ldNc (vs := [Value.int IntKind.i64 y.1, Value.int IntKind.i64 y.2.1, Value.int IntKind.i64 y.2.2]) (RowL.cells rh5 rfl) (by rfl) (by rfl))) rfl rfl rfl ?_
      refine LL.val (R.load rfl rfl (I.ldNc (vs := [Value.int IntKind.i64 x.1, Value.int IntKind.i64 x.2.1, Value.int IntKind.i64 x.2.2]) (RowL.cells rf4 rfl) (by rfl) (by rfl))) rfl rfl rfl ?_
      refine LL.callBT (R.call rfl rfl rfl) rfl rfl rfl (apart_any _ _ _ (by first | assumption | omega) (by first | assumption | omega)) (by first | assumption | omega) (fun Wh12 bh11 => ?_)
      have zbh11 := bh11.size
      replace bh2 := bh2.trans (bh11.mono bh2.size)
      replace q := q.trans (bh11.mono q.size)
      replace rf4 := rf4.up bh11
      replace hvW := hvW.up bh11
      replace hcs := hcs.up bh11
      replace rh5 := rh5.up bh11
      refine LL.val (R.not rfl rfl) rfl rfl rfl ?_
      refine LL.nilS ?_
      refine CC.no rfl ?_
      refine CC.skip ?_
      refine EE.inN ?_
      refine EE.thenN ?_
      refine CC.region ?_
      refine LL.val (R.addNc rfl rfl rfl rfl (by omega)) rfl rfl rfl ?_
      refine LL.val (R.move rfl rfl) rfl rfl rfl ?_
      refine LL.nil ?_
      exact EE.round (k + 1) ⟨rfl, rfl, rfl, rfl, rfl, rfl, rfl, rfl, rfl, trivial⟩ ⟨by omega, q, by omega, rf4, ha'⟩ (by omega)
    obtain rfl : k = i := by omega
    by_cases h0 : 0 < k
    case neg =>
      obtain rfl : k = 0 := by omega
      have hp' := preV_succ hp hx hm ha fun y h => by omega
      refine CC.seq ?_
      refine CC.region ?_
      refine LL.val (R.ltF rfl rfl rfl (by omega)) rfl rfl rfl ?_
      refine LL.nilS ?_
      refine CC.seq ?_
      refine CC.no rfl ?_
      refine CC.exit ?_
      refine EE.thenX ?_
      refine EE.thenX ?_
      refine EE.inX ?_
      refine EE.thenN ?_
      refine CC.seq ?_
      refine CC.grow (by kernel_rfl) (by kernel_rfl) ?_
      refine GG.val (fun w' b' => R.move rfl rfl) rfl rfl ?_
      refine GG.val (fun w' b' => R.gtF rfl rfl rfl (by omega)) rfl rfl ?_
      refine GG.val (fun w' b' => R.move rfl rfl) rfl rfl ?_
      refine GG.skip rfl rfl ?_
      refine GG.skip rfl rfl ?_
      refine GG.skip rfl rfl ?_
      refine GG.skip rfl rfl ?_
      refine GG.skip rfl rfl ?_
      refine GG.skip rfl rfl ?_
      refine GG.skip rfl rfl ?_
      refine GG.skip rfl rfl ?_
      refine GG.val (fun w' b' => R.pick rfl rfl rfl) rfl rfl ?_
      refine GG.nilQ (fun Wi5 bi4 => ?_)
      have zbi4 := bi4.size
      replace q := q.trans (bi4.mono q.size)
      replace rf4 := rf4.up bi4
      replace hvW := hvW.up bi4
      refine EE.thenN ?_
      refine CC.no rfl ?_
      refine CC.skip ?_
      refine EE.inN ?_
      refine EE.thenN ?_
      refine CC.region ?_
      refine LL.val (R.addIz (z := 1) rfl rfl rfl (by decide) (by decide)) rfl rfl rfl ?_
      refine LL.val (R.move rfl rfl) rfl rfl rfl ?_
      refine LL.nil ?_
      exact EE.round (0 + 1) ⟨rfl, rfl, rfl, rfl, trivial⟩ ⟨by omega, q, hp'⟩ (by omega)
    obtain ⟨y, hy⟩ : ∃ y, l[k - 1]? = some y := ⟨_, List.getElem?_eq_getElem (by omega)⟩
    obtain ⟨_, _, e1, hbk', hcs⟩ := hvW.get eEnc hy
    cases e1
    have hcs : Cells W' ⟨bk, off + (k - 1) * 3, none⟩ [.int .i64 y.1, .int .i64 y.2.1, .int .i64 y.2.2] := hcs
    have hmy := hp.may (k - 1) y (by omega) hy
    by_cases hf : followE y x
    case neg =>
      have hno : ¬vL l := fun h => hf ((preV_of h).follow (k - 1) y x (by omega) hy (by rw [show k - 1 + 1 = k by omega]; exact hx))
      refine CC.seq ?_
      refine CC.region ?_
      refine LL.val (R.ltF rfl rfl rfl (by omega)) rfl rfl rfl ?_
      refine LL.nilS ?_
      refine CC.seq ?_
      refine CC.no rfl ?_
      refine CC.exit ?_
      refine EE.thenX ?_
      refine EE.thenX ?_
      refine EE.inX ?_
      refine EE.thenN ?_
      refine CC.seq ?_
      refine CC.grow (by kernel_rfl) (by kernel_rfl) ?_
      refine GG.val (fun w' b' => R.move rfl rfl) rfl rfl ?_
      refine GG.val (fun w' b' => R.gtT rfl rfl rfl (by omega)) rfl rfl ?_
      refine GG.val (fun w' b' => R.move rfl rfl) rfl rfl ?_
      refine GG.val (fun w' b' => R.move rfl rfl) rfl rfl ?_
      refine GG.val (fun w' b' => R.move rfl rfl) rfl rfl ?_
      refine GG.val (fun w' b' => R.subNc rfl rfl rfl rfl (by omega) (by omega)) rfl rfl ?_
      refine GG.val (fun w' b' => R.index rfl rfl rfl (I.ixS rfl (by omega))) rfl rfl ?_
      refine GG.val (fun w' b' => R.load rfl rfl (I.ldNc (hcs.up b') rfl rfl)) rfl rfl ?_
      refine GG.val (fun w' b' => R.load rfl rfl (I.ldNc (vs := [Value.int IntKind.i64 x.1, Value.int IntKind.i64 x.2.1, Value.int IntKind.i64 x.2.2]) (RowL.cells (rf4.up b') rfl) (by rfl) (by rfl))) rfl rfl ?_
      refine GG.callDF (fun w' => (R.call rfl rfl rfl)) rfl rfl (fun w' b' => (follow_any _ _ w' (by first | assumption | omega) (by first | assumption | omega)).mono fun e W' h => ⟨h.1, b'.trans (h.2.mono b'.size)⟩) (by first | assumption | omega) ?_
      refine GG.val (fun w' b' => R.not rfl rfl) rfl rfl ?_
      refine GG.val (fun w' b' => R.pick rfl rfl rfl) rfl rfl ?_
      refine GG.nilQ (fun Wj5 bj4 => ?_)
      have zbj4 := bj4.size
      replace q := q.trans (bj4.mono q.size)
      replace rf4 := rf4.up bj4
      replace hvW := hvW.up bj4
      replace hcs := hcs.up bj4
      refine EE.thenN ?_
      refine CC.yes rfl ?_
      refine CC.goto ?_
      refine EE.inG ?_
      refine EE.thenG ?_
      refine EE.thenG ?_
      refine EE.inG ?_
      refine EE.thenG ?_
      (refine EE.jumpTo () rfl ?_ ⟨q, hno⟩; exact trivial)
    have hp' := preV_succ hp hx hm ha fun z _ hz => by rw [hy] at hz; cases hz; exact hf
    refine CC.seq ?_
    refine CC.region ?_
    refine LL.val (R.ltF rfl rfl rfl (by omega)) rfl rfl rfl ?_
    refine LL.nilS ?_
    refine CC.seq ?_
    refine CC.no rfl ?_
    refine CC.exit ?_
    refine EE.thenX ?_
    refine EE.thenX ?_
    refine EE.inX ?_
    refine EE.thenN ?_
    refine CC.seq ?_
    refine CC.grow (by kernel_rfl) (by kernel_rfl) ?_
    refine GG.val (fun w' b' => R.move rfl rfl) rfl rfl ?_
    refine GG.val (fun w' b' => R.gtT rfl rfl rfl (by omega)) rfl rfl ?_
    refine GG.val (fun w' b' => R.move rfl rfl) rfl rfl ?_
    refine GG.val (fun w' b' => R.move rfl rfl) rfl rfl ?_
    refine GG.val (fun w' b' => R.move rfl rfl) rfl rfl ?_
    refine GG.val (fun w' b' => R.subNc rfl rfl rfl rfl (by omega) (by omega)) rfl rfl ?_
    refine GG.val (fun w' b' => R.index rfl rfl rfl (I.ixS rfl (by omega))) rfl rfl ?_
    refine GG.val (fun w' b' => R.load rfl rfl (I.ldNc (hcs.up b') rfl rfl)) rfl rfl ?_
    refine GG.val (fun w' b' => R.load rfl rfl (I.ldNc (vs := [Value.int IntKind.i64 x.1, Value.int IntKind.i64 x.2.1, Value.int IntKind.i64 x.2.2]) (RowL.cells (rf4.up b') rfl) (by rfl) (by rfl))) rfl rfl ?_
    refine GG.callDT (fun w' => (R.call rfl rfl rfl)) rfl rfl (fun w' b' => (follow_any _ _ w' (by first | assumption | omega) (by first | assumption | omega)).mono fun e W' h => ⟨h.1, b'.trans (h.2.mono b'.size)⟩) (by first | assumption | omega) ?_
    refine GG.val (fun w' b' => R.not rfl rfl) rfl rfl ?_
    refine GG.val (fun w' b' => R.pick rfl rfl rfl) rfl rfl ?_
    refine GG.nilQ (fun Wk5 bk4 => ?_)
    have zbk4 := bk4.size
    replace q := q.trans (bk4.mono q.size)
    replace rf4 := rf4.up bk4
    replace hvW := hvW.up bk4
    replace hcs := hcs.up bk4
    refine EE.thenN ?_
    refine CC.no rfl ?_
    refine CC.skip ?_
    refine EE.inN ?_
    refine EE.thenN ?_
    refine CC.region ?_
    refine LL.val (R.addNc rfl rfl rfl rfl (by omega)) rfl rfl rfl ?_
    refine LL.val (R.move rfl rfl) rfl rfl rfl ?_
    refine LL.nil ?_
    exact EE.round (k + 1) ⟨rfl, rfl, rfl, rfl, trivial⟩ ⟨by omega, q, hp'⟩ (by omega)
end Go.Proofs.YtklfopclaonggaaDoor
