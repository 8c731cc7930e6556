/- layout: the table of kinds; where parts lie. -/
import Derived.Test.YthdgnogpjpoklaaLay2
namespace Go.Proofs.Ythdgnogpjpoklaa
set_option linter.unusedVariables false
set_option linter.unusedSimpArgs false
open Go.RowKit Go.Shelf

set_option maxRecDepth 100000 in
set_option maxHeartbeats 4000000 in
theorem zero_any (b i r t : Int) (k1 k2 : Nat) (w : World) : Calls Try.prog 41 #[undV b i r t k1 k2] w fun e w' => e = .returned (.int .i64 0) ∧ Below w.heap.size w w' := by
  have q := Below.refl w.heap.size w
  refine X.fn Try.func41 rfl (n := 3) rfl rfl ?_
  refine CC.seq ?_
  refine CC.region ?_
  refine LL.box [Value.int IntKind.i64 b, Value.int IntKind.i64 i, Value.int IntKind.i64 r, Value.int IntKind.i64 t, Value.int IntKind.u64 ↑k1, Value.int IntKind.u64 ↑k2] rfl rfl rfl rfl rfl ?_
  intro W2 g3 eg3 r4 z5 b1
  replace q := q.trans (b1.mono q.size)
  refine LL.val (R.assign rfl rfl) rfl rfl rfl ?_
  refine LL.nilS ?_
  refine CC.seq ?_
  refine CC.region ?_
  refine LL.val (R.assign rfl rfl) rfl rfl rfl ?_
  refine LL.nilS ?_
  refine CC.ret ?_
  refine EE.ret _ rfl rfl ?_
  exact ⟨rfl, q⟩
set_option maxRecDepth 100000 in
set_option maxHeartbeats 4000000 in
theorem one_any (b i r t : Int) (k1 k2 : Nat) (w : World) : Calls Try.prog 42 #[undV b i r t k1 k2] w fun e w' => e = .returned (.int .i64 1) ∧ Below w.heap.size w w' := by
  have q := Below.refl w.heap.size w
  refine X.fn Try.func42 rfl (n := 3) rfl rfl ?_
  refine CC.seq ?_
  refine CC.region ?_
  refine LL.box [Value.int IntKind.i64 b, Value.int IntKind.i64 i, Value.int IntKind.i64 r, Value.int IntKind.i64 t, Value.int IntKind.u64 ↑k1, Value.int IntKind.u64 ↑k2] rfl rfl rfl rfl rfl ?_
  intro W2 g3 eg3 r4 z5 b1
  replace q := q.trans (b1.mono q.size)
  refine LL.val (R.assign rfl rfl) rfl rfl rfl ?_
  refine LL.nilS ?_
  refine CC.seq ?_
  refine CC.region ?_
  refine LL.val (R.assign rfl rfl) rfl rfl rfl ?_
  refine LL.nilS ?_
  refine CC.ret ?_
  refine EE.ret _ rfl rfl ?_
  exact ⟨rfl, q⟩
set_option maxRecDepth 100000 in
set_option maxHeartbeats 4000000 in
theorem kinds1_any (b i r t : Int) (k1 k2 : Nat) (w : World) : Calls Try.prog 43 #[undV b i r t k1 k2] w fun e w' => e = .returned (.int .i64 8) ∧ Below w.heap.size w w' := by
  have q := Below.refl w.heap.size w
  refine X.fn Try.func43 rfl (n := 3) rfl rfl ?_
  refine CC.seq ?_
  refine CC.region ?_
  refine LL.box [Value.int IntKind.i64 b, Value.int IntKind.i64 i, Value.int IntKind.i64 r, Value.int IntKind.i64 t, Value.int IntKind.u64 ↑k1, Value.int IntKind.u64 ↑k2] rfl rfl rfl rfl rfl ?_
  intro W2 g3 eg3 r4 z5 b1
  replace q := q.trans (b1.mono q.size)
  refine LL.val (R.assign rfl rfl) rfl rfl rfl ?_
  refine LL.nilS ?_
  refine CC.seq ?_
  refine CC.region ?_
  refine LL.val (R.assign rfl rfl) rfl rfl rfl ?_
  refine LL.nilS ?_
  refine CC.ret ?_
  refine EE.ret _ rfl rfl ?_
  exact ⟨rfl, q⟩
set_option maxRecDepth 100000 in
set_option maxHeartbeats 4000000 in
theorem kinds2_any (b i r t : Int) (k1 k2 : Nat) (w : World) : Calls Try.prog 44 #[undV b i r t k1 k2] w fun e w' => e = .returned (.int .i64 9) ∧ Below w.heap.size w w' := by
  have q := Below.refl w.heap.size w
  refine X.fn Try.func44 rfl (n := 3) rfl rfl ?_
  refine CC.seq ?_
  refine CC.region ?_
  refine LL.box [Value.int IntKind.i64 b, Value.int IntKind.i64 i, Value.int IntKind.i64 r, Value.int IntKind.i64 t, Value.int IntKind.u64 ↑k1, Value.int IntKind.u64 ↑k2] rfl rfl rfl rfl rfl ?_
  intro W2 g3 eg3 r4 z5 b1
  replace q := q.trans (b1.mono q.size)
  refine LL.val (R.assign rfl rfl) rfl rfl rfl ?_
  refine LL.nilS ?_
  refine CC.seq ?_
  refine CC.region ?_
  refine LL.val (R.assign rfl rfl) rfl rfl rfl ?_
  refine LL.nilS ?_
  refine CC.ret ?_
  refine EE.ret _ rfl rfl ?_
  exact ⟨rfl, q⟩
set_option maxRecDepth 100000 in
set_option maxHeartbeats 4000000 in
theorem kinds3_any (b i r t : Int) (k1 k2 : Nat) (w : World) : Calls Try.prog 45 #[undV b i r t k1 k2] w fun e w' => e = .returned (.int .i64 i) ∧ Below w.heap.size w w' := by
  have q := Below.refl w.heap.size w
  refine X.fn Try.func45 rfl (n := 6) rfl rfl ?_
  refine CC.seq ?_
  refine CC.region ?_
  refine LL.box [Value.int IntKind.i64 b, Value.int IntKind.i64 i, Value.int IntKind.i64 r, Value.int IntKind.i64 t, Value.int IntKind.u64 ↑k1, Value.int IntKind.u64 ↑k2] rfl rfl rfl rfl rfl ?_
  intro W2 g3 eg3 r4 z5 b1
  replace q := q.trans (b1.mono q.size)
  refine LL.val (R.assign rfl rfl) rfl rfl rfl ?_
  refine LL.nilS ?_
  refine CC.seq ?_
  refine CC.region ?_
  refine LL.val (R.field rfl rfl (I.fld rfl)) rfl rfl rfl ?_
  refine LL.val (R.field rfl rfl (I.fld rfl)) rfl rfl rfl ?_
  refine LL.val (R.load rfl rfl (I.ld1 rfl (RowL.cell r4 rfl))) rfl rfl rfl ?_
  refine LL.val (R.assign rfl rfl) rfl rfl rfl ?_
  refine LL.nilS ?_
  refine CC.ret ?_
  refine EE.ret _ rfl rfl ?_
  exact ⟨rfl, q⟩
set_option maxRecDepth 100000 in
set_option maxHeartbeats 4000000 in
theorem kinds4_any (b i r t : Int) (k1 k2 : Nat) (w : World) : Calls Try.prog 46 #[undV b i r t k1 k2] w fun e w' => e = .returned (.int .i64 r) ∧ Below w.heap.size w w' := by
  have q := Below.refl w.heap.size w
  refine X.fn Try.func46 rfl (n := 6) rfl rfl ?_
  refine CC.seq ?_
  refine CC.region ?_
  refine LL.box [Value.int IntKind.i64 b, Value.int IntKind.i64 i, Value.int IntKind.i64 r, Value.int IntKind.i64 t, Value.int IntKind.u64 ↑k1, Value.int IntKind.u64 ↑k2] rfl rfl rfl rfl rfl ?_
  intro W2 g3 eg3 r4 z5 b1
  replace q := q.trans (b1.mono q.size)
  refine LL.val (R.assign rfl rfl) rfl rfl rfl ?_
  refine LL.nilS ?_
  refine CC.seq ?_
  refine CC.region ?_
  refine LL.val (R.field rfl rfl (I.fld rfl)) rfl rfl rfl ?_
  refine LL.val (R.field rfl rfl (I.fld rfl)) rfl rfl rfl ?_
  refine LL.val (R.load rfl rfl (I.ld1 rfl (RowL.cell r4 rfl))) rfl rfl rfl ?_
  refine LL.val (R.assign rfl rfl) rfl rfl rfl ?_
  refine LL.nilS ?_
  refine CC.ret ?_
  refine EE.ret _ rfl rfl ?_
  exact ⟨rfl, q⟩
set_option maxRecDepth 100000 in
set_option maxHeartbeats 4000000 in
theorem kinds5_any (b i r t : Int) (k1 k2 : Nat) (w : World) (h : 0 ≤ i ∧ i ≤ 256) (h2 : 0 ≤ r ∧ r ≤ 1024) (h3 : 0 ≤ b ∧ b ≤ 2048) : Calls Try.prog 47 #[undV b i r t k1 k2] w fun e w' => e = .returned (.int .i64 (b - (10 + i / 4 + r / 4))) ∧ Below w.heap.size w w' := by
  have q := Below.refl w.heap.size w
  refine X.fn Try.func47 rfl (n := 9) rfl rfl ?_
  refine CC.seq ?_
  refine CC.region ?_
  refine LL.box [Value.int IntKind.i64 b, Value.int IntKind.i64 i, Value.int IntKind.i64 r, Value.int IntKind.i64 t, Value.int IntKind.u64 ↑k1, Value.int IntKind.u64 ↑k2] rfl rfl rfl rfl rfl ?_
  intro W2 g3 eg3 r4 z5 b1
  replace q := q.trans (b1.mono q.size)
  refine LL.val (R.assign rfl rfl) rfl rfl rfl ?_
  refine LL.nilS ?_
  refine CC.seq ?_
  refine CC.grow (by kernel_rfl) (by kernel_rfl) ?_
  refine GG.val (fun w' b' => R.field rfl rfl (I.fld rfl)) rfl rfl ?_
  refine GG.val (fun w' b' => R.field rfl rfl (I.fld rfl)) rfl rfl ?_
  refine GG.val (fun w' b' => R.load rfl rfl (I.ld1 rfl (RowL.cell (r4.up b') rfl))) rfl rfl ?_
  refine GG.val (fun w' b' => R.load rfl rfl (I.ldNc (vs := [Value.int IntKind.i64 b, Value.int IntKind.i64 i, Value.int IntKind.i64 r, Value.int IntKind.i64 t, Value.int IntKind.u64 ↑k1, Value.int IntKind.u64 ↑k2]) (RowL.cells (r4.up b') rfl) (by rfl) (by rfl))) rfl rfl ?_
  refine GG.call (fun w' => (R.call rfl rfl rfl)) rfl rfl (fun w' b' => (data_any _ _ _ _ _ _ w' (by omega) (by omega)).mono fun e W' h => ⟨h.1, b'.trans (h.2.mono b'.size)⟩) ?_
  refine GG.val (fun w' b' => R.subI rfl rfl rfl (by omega)) rfl rfl ?_
  refine GG.val (fun w' b' => R.assign rfl rfl) rfl rfl ?_
  refine GG.nilQ (fun W10 b9 => ?_)
  have zb9 := b9.size
  replace r4 := r4.up b9
  replace b1 := b1.trans (b9.mono b1.size)
  replace q := q.trans (b9.mono q.size)
  refine EE.thenN ?_
  refine CC.ret ?_
  refine EE.ret _ rfl rfl ?_
  exact ⟨rfl, q⟩
abbrev fnV (f : Nat) : Value := .func (.func f) #[] #[]
abbrev kindsL : List Value := [.int .i64 1, fnV 41, fnV 42, fnV 41, .int .i64 64, .int .i64 2, fnV 42, fnV 43, fnV 41, .int .i64 64, .int .i64 3, fnV 44, fnV 45, fnV 42, .int .i64 16, .int .i64 4, fnV 29, fnV 46, fnV 42, .int .i64 16, .int .i64 5, fnV 30, fnV 42, fnV 41, .int .i64 64, .int .i64 6, fnV 28, fnV 47, fnV 28, .int .i64 64]
set_option maxRecDepth 100000 in
set_option maxHeartbeats 4000000 in
theorem kinds_any (w : World) : Calls Try.prog 37 #[] w fun e w' => ∃ g, e = .returned (.slice (some ⟨g, 0, none⟩) 6 6) ∧ RowL w' g 79 kindsL ∧ w.heap.size ≤ g ∧ Below w.heap.size w w' := by
  have q := Below.refl w.heap.size w
  refine X.fn Try.func37 rfl (n := 8) rfl rfl ?_
  refine CC.seq ?_
  refine CC.region ?_
  refine LL.val (R.assign rfl rfl) rfl rfl rfl ?_
  refine LL.nilS ?_
  refine CC.seq ?_
  refine CC.region ?_
  refine LL.val (R.buildV rfl rfl (v := .agg #[Value.int IntKind.i64 1, Value.func (Fn.func 41) #[] #[], Value.func (Fn.func 42) #[] #[], Value.func (Fn.func 41) #[] #[], Value.int IntKind.i64 64]) (fun _ => by kernel_rfl)) rfl rfl rfl ?_
  refine LL.val (R.buildV rfl rfl (v := .agg #[Value.int IntKind.i64 2, Value.func (Fn.func 42) #[] #[], Value.func (Fn.func 43) #[] #[], Value.func (Fn.func 41) #[] #[], Value.int IntKind.i64 64]) (fun _ => by kernel_rfl)) rfl rfl rfl ?_
  refine LL.val (R.buildV rfl rfl (v := .agg #[Value.int IntKind.i64 3, Value.func (Fn.func 44) #[] #[], Value.func (Fn.func 45) #[] #[], Value.func (Fn.func 42) #[] #[], Value.int IntKind.i64 16]) (fun _ => by kernel_rfl)) rfl rfl rfl ?_
  refine LL.val (R.buildV rfl rfl (v := .agg #[Value.int IntKind.i64 4, Value.func (Fn.func 29) #[] #[], Value.func (Fn.func 46) #[] #[], Value.func (Fn.func 42) #[] #[], Value.int IntKind.i64 16]) (fun _ => by kernel_rfl)) rfl rfl rfl ?_
  refine LL.val (R.buildV rfl rfl (v := .agg #[Value.int IntKind.i64 5, Value.func (Fn.func 30) #[] #[], Value.func (Fn.func 42) #[] #[], Value.func (Fn.func 41) #[] #[], Value.int IntKind.i64 64]) (fun _ => by kernel_rfl)) rfl rfl rfl ?_
  refine LL.val (R.buildV rfl rfl (v := .agg #[Value.int IntKind.i64 6, Value.func (Fn.func 28) #[] #[], Value.func (Fn.func 47) #[] #[], Value.func (Fn.func 28) #[] #[], Value.int IntKind.i64 64]) (fun _ => by kernel_rfl)) rfl rfl rfl ?_
  refine LL.lit (e := 79) [Value.int IntKind.i64 1, Value.func (Fn.func 41) #[] #[], Value.func (Fn.func 42) #[] #[], Value.func (Fn.func 41) #[] #[], Value.int IntKind.i64 64, Value.int IntKind.i64 2, Value.func (Fn.func 42) #[] #[], Value.func (Fn.func 43) #[] #[], Value.func (Fn.func 41) #[] #[], Value.int IntKind.i64 64, Value.int IntKind.i64 3, Value.func (Fn.func 44) #[] #[], Value.func (Fn.func 45) #[] #[], Value.func (Fn.func 42) #[] #[], Value.int IntKind.i64 16, Value.int IntKind.i64 4, Value.func (Fn.func 29) #[] #[], Value.func (Fn.func 46) #[] #[], Value.func (Fn.func 42) #[] #[], Value.int IntKind.i64 16, Value.int IntKind.i64 5, Value.func (Fn.func 30) #[] #[], Value.func (Fn.func 42) #[] #[], Value.func (Fn.func 41) #[] #[], Value.int IntKind.i64 64, Value.int IntKind.i64 6, Value.func (Fn.func 28) #[] #[], Value.func (Fn.func 47) #[] #[], Value.func (Fn.func 28) #[] #[], Value.int IntKind.i64 64] 6 rfl rfl (fun _ => by kernel_rfl) rfl rfl ?_
  intro W2 g3 eg3 r4 z5 b1
  replace q := q.trans (b1.mono q.size)
  refine LL.val (R.assign rfl rfl) rfl rfl rfl ?_
  refine LL.nilS ?_
  refine CC.ret ?_
  refine EE.ret _ rfl rfl ?_
  exact ⟨_, rfl, by assumption, by omega, q⟩

end Go.Proofs.Ythdgnogpjpoklaa
