/- What the statements' walks use: GoesW, Lw, ChecksW, Door. -/
import Derived.Test.YtbbddpnjglijdaaDoorRows
import Derived.ProofKit
import Derived.LaidMore
import Derived.OpenShut
import Derived.Stop.Joined
import Derived.Lib.LaidTab
import Derived.Shelf.Vars
import Derived.Test.YtbbddpnjglijdaaDoorMoc
import Derived.Test.YtbbddpnjglijdaaDoorMoe
/- WalkGoes, any input (written by genwk25.py). -/
namespace Go.Proofs.YtbbddpnjglijdaaDoor
set_option linter.unusedVariables false
set_option linter.unusedSimpArgs false
open Go.RowKit Go.Shelf
set_option maxRecDepth 100000
set_option maxHeartbeats 8000000
theorem goes_core (path : Bs) (fol : Bool) (v : Value) (x y z : Wd) (er : Nat) (w : World) (hm : Mx w) (hp : path.length ≤ 1100) (hfew : ∀ W, Below w.heap.size w W → Calls Tryd.prog 18 #[v] W fun e w' => e = .returned (.bool true) ∧ Below W.heap.size W w') (h1 : ∀ W, Mx W → Below w.heap.size w W → Calls Tryd.prog 19 #[strV path, .bool fol, v] W fun e w' => e = .returned (.tuple #[wdV x, .int .i64 (er : Int)]) ∧ Below W.heap.size W w') (h2 : ∀ W, Mx W → Below w.heap.size w W → Calls Tryd.prog 20 #[strV path, .bool fol, v] W fun e w' => e = .returned (.tuple #[wdV x, .int .i64 (er : Int)]) ∧ Below W.heap.size W w') (h3 : ∀ W, Mx W → Calls Tryd.prog 21 #[strV path, .bool fol, .func (.func 22) #[] #[]] W fun e w' => e = .returned (.tuple #[wdV y, .int .i64 (er : Int)]) ∧ Below W.heap.size W w') (h4 : ∀ W u, Mx W → ReadsT plE 5 W u smL → Calls Tryd.prog 20 #[strV path, .bool fol, u] W fun e w' => e = .returned (.tuple #[wdV y, .int .i64 (er : Int)]) ∧ Below W.heap.size W w') (h5 : ∀ W, Mx W → Calls Tryd.prog 21 #[strV path, .bool fol, .nilFunc] W fun e w' => e = .returned (.tuple #[wdV z, .int .i64 (er : Int)]) ∧ Below W.heap.size W w') (h6 : ∀ W, Mx W → Calls Tryd.prog 20 #[strV path, .bool fol, .slice none 0 0] W fun e w' => e = .returned (.tuple #[wdV z, .int .i64 (er : Int)]) ∧ Below W.heap.size W w') : Calls Tryd.prog 4 #[strV path, .bool fol, v] w fun e w' => e = .returned (.bool true) ∧ Below w.heap.size w w' := by
  have q := Below.refl w.heap.size w
  have hm0 := hm.lt
  obtain ⟨x0, x1, x2, x3, x4⟩ := x
  obtain ⟨y0, y1, y2, y3, y4⟩ := y
  obtain ⟨z0, z1, z2, z3, z4⟩ := z
  focus
    refine X.fn Tryd.func4 rfl (n := 100) rfl rfl ?_
    refine CC.seq ?_
    refine CC.region ?_
    refine LL.val (R.assign rfl rfl) rfl rfl rfl ?_
    refine LL.nilS ?_
    refine CC.seq ?_
    refine CC.seq ?_
    refine CC.region ?_
    refine LL.val (R.move rfl rfl) rfl rfl rfl ?_
    refine LL.val (R.lenS rfl rfl rfl rfl) rfl rfl rfl ?_
    refine LL.val (R.gtF rfl rfl rfl (by omega)) rfl rfl rfl ?_
    refine LL.val (R.move rfl rfl) rfl rfl rfl ?_
    refine LL.val (R.move rfl rfl) rfl rfl rfl ?_
    (refine LL.call (R.call rfl rfl rfl) rfl rfl rfl (hfew _ q) ?_; rintro e W389 ⟨rfl, b386⟩; refine ⟨_, rfl, ?_⟩)
    have zb386 := b386.size
    replace hm := hm.up b386
    replace q := q.trans (b386.mono q.size)
    refine LL.val (R.not rfl rfl) rfl rfl rfl ?_
    refine LL.val (R.pick rfl rfl rfl) rfl rfl rfl ?_
    refine LL.nilS ?_
    refine CC.no rfl ?_
    refine CC.skip ?_
    refine EE.thenN ?_
    refine CC.seq ?_
    refine CC.region ?_
    refine LL.val (R.move rfl rfl) rfl rfl rfl ?_
    refine LL.val (R.move rfl rfl) rfl rfl rfl ?_
    refine LL.val (R.move rfl rfl) rfl rfl rfl ?_
    (refine LL.call (R.call rfl rfl rfl) rfl rfl rfl (h1 _ (by assumption) q) ?_; rintro e W725 ⟨rfl, b722⟩; refine ⟨_, rfl, ?_⟩)
    have zb722 := b722.size
    replace b386 := b386.trans (b722.mono b386.size)
    replace hm := hm.up b722
    replace q := q.trans (b722.mono q.size)
    refine LL.val (R.move rfl rfl) rfl rfl rfl ?_
    refine LL.val (R.extract rfl rfl rfl) rfl rfl rfl ?_
    refine LL.val (R.extract rfl rfl rfl) rfl rfl rfl ?_
    refine LL.alloc ([Value.int IntKind.i64 0, Value.int IntKind.i64 0, Value.string { data := { toList := [] } }, Value.int IntKind.i64 0, Value.int IntKind.i64 0]) rfl rfl rfl rfl rfl ?_
    intro W982 g983 eg983 r984 z985 b981
    replace b722 := b722.trans (b981.mono b722.size)
    replace b386 := b386.trans (b981.mono b386.size)
    replace hm := hm.up b981
    replace q := q.trans (b981.mono q.size)
    refine LL.storeN (vs := [Value.int IntKind.i64 x0, Value.int IntKind.i64 x1, strV x2, Value.int IntKind.i64 x3, Value.int IntKind.i64 x4]) rfl rfl rfl rfl r984 (by exact Nat.le_of_ble_eq_true rfl) (ones_of rfl) rfl rfl ?_
    intro W1059 r1060 b1058 z1061
    have hlb1058 := r984.lt
    replace r1060 : RowL W1059 _ 31 [Value.int IntKind.i64 x0, Value.int IntKind.i64 x1, strV x2, Value.int IntKind.i64 x3, Value.int IntKind.i64 x4] := r1060
    clear r984
    replace b981 := b981.grown b1058 b981.size (by rintro k ⟨⟩; omega)
    replace b722 := b722.grown b1058 b722.size (by rintro k ⟨⟩; omega)
    replace b386 := b386.grown b1058 b386.size (by rintro k ⟨⟩; omega)
    replace hm := hm.gr b1058 (by have := hm.lt; omega)
    replace q := q.grown b1058 q.size (by rintro k ⟨⟩; omega)
    have r984 := r1060
    clear r1060
    refine LL.val (R.assign rfl rfl) rfl rfl rfl ?_
    refine LL.nilS ?_
    refine CC.seq ?_
    refine CC.region ?_
    refine LL.val (R.move rfl rfl) rfl rfl rfl ?_
    refine LL.val (R.move rfl rfl) rfl rfl rfl ?_
    refine LL.val (R.move rfl rfl) rfl rfl rfl ?_
    have l1378 := r984.lt
    (refine LL.call (R.call rfl rfl rfl) rfl rfl rfl (h2 _ (by assumption) q) ?_; rintro e W1377 ⟨rfl, b1374⟩; refine ⟨_, rfl, ?_⟩)
    have zb1374 := b1374.size
    replace b981 := b981.trans (b1374.mono b981.size)
    replace b722 := b722.trans (b1374.mono b722.size)
    replace b386 := b386.trans (b1374.mono b386.size)
    replace hm := hm.up b1374
    replace q := q.trans (b1374.mono q.size)
    replace r984 := r984.up b1374
    refine LL.val (R.move rfl rfl) rfl rfl rfl ?_
    refine LL.val (R.extract rfl rfl rfl) rfl rfl rfl ?_
    refine LL.val (R.extract rfl rfl rfl) rfl rfl rfl ?_
    have l1670 := r984.lt
    refine LL.alloc ([Value.int IntKind.i64 0, Value.int IntKind.i64 0, Value.string { data := { toList := [] } }, Value.int IntKind.i64 0, Value.int IntKind.i64 0]) rfl rfl rfl rfl rfl ?_
    intro W1672 g1673 eg1673 r1674 z1675 b1671
    replace b1374 := b1374.trans (b1671.mono b1374.size)
    replace b981 := b981.trans (b1671.mono b981.size)
    replace b722 := b722.trans (b1671.mono b722.size)
    replace b386 := b386.trans (b1671.mono b386.size)
    replace hm := hm.up b1671
    replace q := q.trans (b1671.mono q.size)
    replace r984 := r984.up b1671
    refine LL.storeN (vs := [Value.int IntKind.i64 x0, Value.int IntKind.i64 x1, strV x2, Value.int IntKind.i64 x3, Value.int IntKind.i64 x4]) rfl rfl rfl rfl r1674 (by exact Nat.le_of_ble_eq_true rfl) (ones_of rfl) rfl rfl ?_
    intro W1758 r1759 b1757 z1760
    have hlb1757 := r1674.lt
    replace r1759 : RowL W1758 _ 31 [Value.int IntKind.i64 x0, Value.int IntKind.i64 x1, strV x2, Value.int IntKind.i64 x3, Value.int IntKind.i64 x4] := r1759
    clear r1674
    replace b1671 := b1671.grown b1757 b1671.size (by rintro k ⟨⟩; omega)
    replace b1374 := b1374.grown b1757 b1374.size (by rintro k ⟨⟩; omega)
    replace b981 := b981.grown b1757 b981.size (by rintro k ⟨⟩; omega)
    replace b722 := b722.grown b1757 b722.size (by rintro k ⟨⟩; omega)
    replace b386 := b386.grown b1757 b386.size (by rintro k ⟨⟩; omega)
    replace hm := hm.gr b1757 (by have := hm.lt; omega)
    replace q := q.grown b1757 q.size (by rintro k ⟨⟩; omega)
    replace r984 := r984.gr b1757 (by have := r984.lt; omega)
    have r1674 := r1759
    clear r1759
    refine LL.val (R.assign rfl rfl) rfl rfl rfl ?_
    refine LL.nilS ?_
    refine CC.seq ?_
    refine CC.region ?_
    refine LL.val (R.move rfl rfl) rfl rfl rfl ?_
    refine LL.val (R.move rfl rfl) rfl rfl rfl ?_
    have l2044 := r984.lt
    have l2045 := r1674.lt
    (refine LL.call (R.call rfl rfl rfl) rfl rfl rfl (h3 _ (by assumption)) ?_; rintro e W2043 ⟨rfl, b2040⟩; refine ⟨_, rfl, ?_⟩)
    have zb2040 := b2040.size
    replace b1671 := b1671.trans (b2040.mono b1671.size)
    replace b1374 := b1374.trans (b2040.mono b1374.size)
    replace b981 := b981.trans (b2040.mono b981.size)
    replace b722 := b722.trans (b2040.mono b722.size)
    replace b386 := b386.trans (b2040.mono b386.size)
    replace hm := hm.up b2040
    replace q := q.trans (b2040.mono q.size)
    replace r984 := r984.up b2040
    replace r1674 := r1674.up b2040
    refine LL.val (R.move rfl rfl) rfl rfl rfl ?_
    refine LL.val (R.extract rfl rfl rfl) rfl rfl rfl ?_
    refine LL.val (R.extract rfl rfl rfl) rfl rfl rfl ?_
    have l2373 := r984.lt
    have l2374 := r1674.lt
    refine LL.alloc ([Value.int IntKind.i64 0, Value.int IntKind.i64 0, Value.string { data := { toList := [] } }, Value.int IntKind.i64 0, Value.int IntKind.i64 0]) rfl rfl rfl rfl rfl ?_
    intro W2376 g2377 eg2377 r2378 z2379 b2375
    replace b2040 := b2040.trans (b2375.mono b2040.size)
    replace b1671 := b1671.trans (b2375.mono b1671.size)
    replace b1374 := b1374.trans (b2375.mono b1374.size)
    replace b981 := b981.trans (b2375.mono b981.size)
    replace b722 := b722.trans (b2375.mono b722.size)
    replace b386 := b386.trans (b2375.mono b386.size)
    replace hm := hm.up b2375
    replace q := q.trans (b2375.mono q.size)
    replace r984 := r984.up b2375
    replace r1674 := r1674.up b2375
    refine LL.storeN (vs := [Value.int IntKind.i64 y0, Value.int IntKind.i64 y1, strV y2, Value.int IntKind.i64 y3, Value.int IntKind.i64 y4]) rfl rfl rfl rfl r2378 (by exact Nat.le_of_ble_eq_true rfl) (ones_of rfl) rfl rfl ?_
    intro W2471 r2472 b2470 z2473
    have hlb2470 := r2378.lt
    replace r2472 : RowL W2471 _ 31 [Value.int IntKind.i64 y0, Value.int IntKind.i64 y1, strV y2, Value.int IntKind.i64 y3, Value.int IntKind.i64 y4] := r2472
    clear r2378
    replace b2375 := b2375.grown b2470 b2375.size (by rintro k ⟨⟩; omega)
    replace b2040 := b2040.grown b2470 b2040.size (by rintro k ⟨⟩; omega)
    replace b1671 := b1671.grown b2470 b1671.size (by rintro k ⟨⟩; omega)
    replace b1374 := b1374.grown b2470 b1374.size (by rintro k ⟨⟩; omega)
    replace b981 := b981.grown b2470 b981.size (by rintro k ⟨⟩; omega)
    replace b722 := b722.grown b2470 b722.size (by rintro k ⟨⟩; omega)
    replace b386 := b386.grown b2470 b386.size (by rintro k ⟨⟩; omega)
    replace hm := hm.gr b2470 (by have := hm.lt; omega)
    replace q := q.grown b2470 q.size (by rintro k ⟨⟩; omega)
    replace r984 := r984.gr b2470 (by have := r984.lt; omega)
    replace r1674 := r1674.gr b2470 (by have := r1674.lt; omega)
    have r2378 := r2472
    clear r2472
    refine LL.val (R.assign rfl rfl) rfl rfl rfl ?_
    refine LL.nilS ?_
    refine CC.seq ?_
    refine CC.region ?_
    refine LL.val (R.move rfl rfl) rfl rfl rfl ?_
    refine LL.val (R.move rfl rfl) rfl rfl rfl ?_
    have l2798 := r984.lt
    have l2799 := r1674.lt
    have l2800 := r2378.lt
    (refine LL.call (R.call rfl rfl rfl) rfl rfl rfl (small_any _) ?_; rintro e W2797 ⟨gs, rfl, rs, hgs, b2794⟩; refine ⟨_, rfl, ?_⟩)
    have zb2794 := b2794.size
    replace b2375 := b2375.trans (b2794.mono b2375.size)
    replace b2040 := b2040.trans (b2794.mono b2040.size)
    replace b1671 := b1671.trans (b2794.mono b1671.size)
    replace b1374 := b1374.trans (b2794.mono b1374.size)
    replace b981 := b981.trans (b2794.mono b981.size)
    replace b722 := b722.trans (b2794.mono b722.size)
    replace b386 := b386.trans (b2794.mono b386.size)
    replace hm := hm.up b2794
    replace q := q.trans (b2794.mono q.size)
    replace r984 := r984.up b2794
    replace r1674 := r1674.up b2794
    replace r2378 := r2378.up b2794
    have l2874 := rs.lt
    have l2875 := r984.lt
    have l2876 := r1674.lt
    have l2877 := r2378.lt
    (refine LL.call (R.call rfl rfl rfl) rfl rfl rfl (h4 _ _ (by assumption) (RowL.readsT plEnc (ts := smL) (by assumption) 4 (by decide))) ?_; rintro e W2873 ⟨rfl, b2870⟩; refine ⟨_, rfl, ?_⟩)
    have zb2870 := b2870.size
    replace rs := rs.up b2870
    replace b2794 := b2794.trans (b2870.mono b2794.size)
    replace b2375 := b2375.trans (b2870.mono b2375.size)
    replace b2040 := b2040.trans (b2870.mono b2040.size)
    replace b1671 := b1671.trans (b2870.mono b1671.size)
    replace b1374 := b1374.trans (b2870.mono b1374.size)
    replace b981 := b981.trans (b2870.mono b981.size)
    replace b722 := b722.trans (b2870.mono b722.size)
    replace b386 := b386.trans (b2870.mono b386.size)
    replace hm := hm.up b2870
    replace q := q.trans (b2870.mono q.size)
    replace r984 := r984.up b2870
    replace r1674 := r1674.up b2870
    replace r2378 := r2378.up b2870
    refine LL.val (R.move rfl rfl) rfl rfl rfl ?_
    refine LL.val (R.extract rfl rfl rfl) rfl rfl rfl ?_
    refine LL.val (R.extract rfl rfl rfl) rfl rfl rfl ?_
    have l3277 := rs.lt
    have l3278 := r984.lt
    have l3279 := r1674.lt
    have l3280 := r2378.lt
    refine LL.alloc ([Value.int IntKind.i64 0, Value.int IntKind.i64 0, Value.string { data := { toList := [] } }, Value.int IntKind.i64 0, Value.int IntKind.i64 0]) rfl rfl rfl rfl rfl ?_
    intro W3282 g3283 eg3283 r3284 z3285 b3281
    replace b2870 := b2870.trans (b3281.mono b2870.size)
    replace rs := rs.up b3281
    replace b2794 := b2794.trans (b3281.mono b2794.size)
    replace b2375 := b2375.trans (b3281.mono b2375.size)
    replace b2040 := b2040.trans (b3281.mono b2040.size)
    replace b1671 := b1671.trans (b3281.mono b1671.size)
    replace b1374 := b1374.trans (b3281.mono b1374.size)
    replace b981 := b981.trans (b3281.mono b981.size)
    replace b722 := b722.trans (b3281.mono b722.size)
    replace b386 := b386.trans (b3281.mono b386.size)
    replace hm := hm.up b3281
    replace q := q.trans (b3281.mono q.size)
    replace r984 := r984.up b3281
    replace r1674 := r1674.up b3281
    replace r2378 := r2378.up b3281
    refine LL.storeN (vs := [Value.int IntKind.i64 y0, Value.int IntKind.i64 y1, strV y2, Value.int IntKind.i64 y3, Value.int IntKind.i64 y4]) rfl rfl rfl rfl r3284 (by exact Nat.le_of_ble_eq_true rfl) (ones_of rfl) rfl rfl ?_
    intro W3395 r3396 b3394 z3397
    have hlb3394 := r3284.lt
    replace r3396 : RowL W3395 _ 31 [Value.int IntKind.i64 y0, Value.int IntKind.i64 y1, strV y2, Value.int IntKind.i64 y3, Value.int IntKind.i64 y4] := r3396
    clear r3284
    replace b3281 := b3281.grown b3394 b3281.size (by rintro k ⟨⟩; omega)
    replace b2870 := b2870.grown b3394 b2870.size (by rintro k ⟨⟩; omega)
    replace rs := rs.gr b3394 (by have := rs.lt; omega)
    replace b2794 := b2794.grown b3394 b2794.size (by rintro k ⟨⟩; omega)
    replace b2375 := b2375.grown b3394 b2375.size (by rintro k ⟨⟩; omega)
    replace b2040 := b2040.grown b3394 b2040.size (by rintro k ⟨⟩; omega)
    replace b1671 := b1671.grown b3394 b1671.size (by rintro k ⟨⟩; omega)
    replace b1374 := b1374.grown b3394 b1374.size (by rintro k ⟨⟩; omega)
    replace b981 := b981.grown b3394 b981.size (by rintro k ⟨⟩; omega)
    replace b722 := b722.grown b3394 b722.size (by rintro k ⟨⟩; omega)
    replace b386 := b386.grown b3394 b386.size (by rintro k ⟨⟩; omega)
    replace hm := hm.gr b3394 (by have := hm.lt; omega)
    replace q := q.grown b3394 q.size (by rintro k ⟨⟩; omega)
    replace r984 := r984.gr b3394 (by have := r984.lt; omega)
    replace r1674 := r1674.gr b3394 (by have := r1674.lt; omega)
    replace r2378 := r2378.gr b3394 (by have := r2378.lt; omega)
    have r3284 := r3396
    clear r3396
    refine LL.val (R.assign rfl rfl) rfl rfl rfl ?_
    refine LL.nilS ?_
    refine CC.seq ?_
    refine CC.region ?_
    refine LL.val (R.move rfl rfl) rfl rfl rfl ?_
    refine LL.val (R.move rfl rfl) rfl rfl rfl ?_
    have l3810 := rs.lt
    have l3811 := r984.lt
    have l3812 := r1674.lt
    have l3813 := r2378.lt
    have l3814 := r3284.lt
    (refine LL.call (R.call rfl rfl rfl) rfl rfl rfl (h5 _ (by assumption)) ?_; rintro e W3809 ⟨rfl, b3806⟩; refine ⟨_, rfl, ?_⟩)
    have zb3806 := b3806.size
    replace b3281 := b3281.trans (b3806.mono b3281.size)
    replace b2870 := b2870.trans (b3806.mono b2870.size)
    replace rs := rs.up b3806
    replace b2794 := b2794.trans (b3806.mono b2794.size)
    replace b2375 := b2375.trans (b3806.mono b2375.size)
    replace b2040 := b2040.trans (b3806.mono b2040.size)
    replace b1671 := b1671.trans (b3806.mono b1671.size)
    replace b1374 := b1374.trans (b3806.mono b1374.size)
    replace b981 := b981.trans (b3806.mono b981.size)
    replace b722 := b722.trans (b3806.mono b722.size)
    replace b386 := b386.trans (b3806.mono b386.size)
    replace hm := hm.up b3806
    replace q := q.trans (b3806.mono q.size)
    replace r984 := r984.up b3806
    replace r1674 := r1674.up b3806
    replace r2378 := r2378.up b3806
    replace r3284 := r3284.up b3806
    refine LL.val (R.move rfl rfl) rfl rfl rfl ?_
    refine LL.val (R.extract rfl rfl rfl) rfl rfl rfl ?_
    refine LL.val (R.extract rfl rfl rfl) rfl rfl rfl ?_
    have l4250 := rs.lt
    have l4251 := r984.lt
    have l4252 := r1674.lt
    have l4253 := r2378.lt
    have l4254 := r3284.lt
    refine LL.alloc ([Value.int IntKind.i64 0, Value.int IntKind.i64 0, Value.string { data := { toList := [] } }, Value.int IntKind.i64 0, Value.int IntKind.i64 0]) rfl rfl rfl rfl rfl ?_
    intro W4256 g4257 eg4257 r4258 z4259 b4255
    replace b3806 := b3806.trans (b4255.mono b3806.size)
    replace b3281 := b3281.trans (b4255.mono b3281.size)
    replace b2870 := b2870.trans (b4255.mono b2870.size)
    replace rs := rs.up b4255
    replace b2794 := b2794.trans (b4255.mono b2794.size)
    replace b2375 := b2375.trans (b4255.mono b2375.size)
    replace b2040 := b2040.trans (b4255.mono b2040.size)
    replace b1671 := b1671.trans (b4255.mono b1671.size)
    replace b1374 := b1374.trans (b4255.mono b1374.size)
    replace b981 := b981.trans (b4255.mono b981.size)
    replace b722 := b722.trans (b4255.mono b722.size)
    replace b386 := b386.trans (b4255.mono b386.size)
    replace hm := hm.up b4255
    replace q := q.trans (b4255.mono q.size)
    replace r984 := r984.up b4255
    replace r1674 := r1674.up b4255
    replace r2378 := r2378.up b4255
    replace r3284 := r3284.up b4255
    refine LL.storeN (vs := [Value.int IntKind.i64 z0, Value.int IntKind.i64 z1, strV z2, Value.int IntKind.i64 z3, Value.int IntKind.i64 z4]) rfl rfl rfl rfl r4258 (by exact Nat.le_of_ble_eq_true rfl) (ones_of rfl) rfl rfl ?_
    intro W4378 r4379 b4377 z4380
    have hlb4377 := r4258.lt
    replace r4379 : RowL W4378 _ 31 [Value.int IntKind.i64 z0, Value.int IntKind.i64 z1, strV z2, Value.int IntKind.i64 z3, Value.int IntKind.i64 z4] := r4379
    clear r4258
    replace b4255 := b4255.grown b4377 b4255.size (by rintro k ⟨⟩; omega)
    replace b3806 := b3806.grown b4377 b3806.size (by rintro k ⟨⟩; omega)
    replace b3281 := b3281.grown b4377 b3281.size (by rintro k ⟨⟩; omega)
    replace b2870 := b2870.grown b4377 b2870.size (by rintro k ⟨⟩; omega)
    replace rs := rs.gr b4377 (by have := rs.lt; omega)
    replace b2794 := b2794.grown b4377 b2794.size (by rintro k ⟨⟩; omega)
    replace b2375 := b2375.grown b4377 b2375.size (by rintro k ⟨⟩; omega)
    replace b2040 := b2040.grown b4377 b2040.size (by rintro k ⟨⟩; omega)
    replace b1671 := b1671.grown b4377 b1671.size (by rintro k ⟨⟩; omega)
    replace b1374 := b1374.grown b4377 b1374.size (by rintro k ⟨⟩; omega)
    replace b981 := b981.grown b4377 b981.size (by rintro k ⟨⟩; omega)
    replace b722 := b722.grown b4377 b722.size (by rintro k ⟨⟩; omega)
    replace b386 := b386.grown b4377 b386.size (by rintro k ⟨⟩; omega)
    replace hm := hm.gr b4377 (by have := hm.lt; omega)
    replace q := q.grown b4377 q.size (by rintro k ⟨⟩; omega)
    replace r984 := r984.gr b4377 (by have := r984.lt; omega)
    replace r1674 := r1674.gr b4377 (by have := r1674.lt; omega)
    replace r2378 := r2378.gr b4377 (by have := r2378.lt; omega)
    replace r3284 := r3284.gr b4377 (by have := r3284.lt; omega)
    have r4258 := r4379
    clear r4379
    refine LL.val (R.assign rfl rfl) rfl rfl rfl ?_
    refine LL.nilS ?_
    refine CC.seq ?_
    refine CC.region ?_
    refine LL.val (R.move rfl rfl) rfl rfl rfl ?_
    refine LL.val (R.move rfl rfl) rfl rfl rfl ?_
    have l4840 := rs.lt
    have l4841 := r984.lt
    have l4842 := r1674.lt
    have l4843 := r2378.lt
    have l4844 := r3284.lt
    have l4845 := r4258.lt
    (refine LL.call (R.call rfl rfl rfl) rfl rfl rfl (h6 _ (by assumption)) ?_; rintro e W4839 ⟨rfl, b4836⟩; refine ⟨_, rfl, ?_⟩)
    have zb4836 := b4836.size
    replace b4255 := b4255.trans (b4836.mono b4255.size)
    replace b3806 := b3806.trans (b4836.mono b3806.size)
    replace b3281 := b3281.trans (b4836.mono b3281.size)
    replace b2870 := b2870.trans (b4836.mono b2870.size)
    replace rs := rs.up b4836
    replace b2794 := b2794.trans (b4836.mono b2794.size)
    replace b2375 := b2375.trans (b4836.mono b2375.size)
    replace b2040 := b2040.trans (b4836.mono b2040.size)
    replace b1671 := b1671.trans (b4836.mono b1671.size)
    replace b1374 := b1374.trans (b4836.mono b1374.size)
    replace b981 := b981.trans (b4836.mono b981.size)
    replace b722 := b722.trans (b4836.mono b722.size)
    replace b386 := b386.trans (b4836.mono b386.size)
    replace hm := hm.up b4836
    replace q := q.trans (b4836.mono q.size)
    replace r984 := r984.up b4836
    replace r1674 := r1674.up b4836
    replace r2378 := r2378.up b4836
    replace r3284 := r3284.up b4836
    replace r4258 := r4258.up b4836
    refine LL.val (R.move rfl rfl) rfl rfl rfl ?_
    refine LL.val (R.extract rfl rfl rfl) rfl rfl rfl ?_
    refine LL.val (R.extract rfl rfl rfl) rfl rfl rfl ?_
    have l5317 := rs.lt
    have l5318 := r984.lt
    have l5319 := r1674.lt
    have l5320 := r2378.lt
    have l5321 := r3284.lt
    have l5322 := r4258.lt
    refine LL.alloc ([Value.int IntKind.i64 0, Value.int IntKind.i64 0, Value.string { data := { toList := [] } }, Value.int IntKind.i64 0, Value.int IntKind.i64 0]) rfl rfl rfl rfl rfl ?_
    intro W5324 g5325 eg5325 r5326 z5327 b5323
    replace b4836 := b4836.trans (b5323.mono b4836.size)
    replace b4255 := b4255.trans (b5323.mono b4255.size)
    replace b3806 := b3806.trans (b5323.mono b3806.size)
    replace b3281 := b3281.trans (b5323.mono b3281.size)
    replace b2870 := b2870.trans (b5323.mono b2870.size)
    replace rs := rs.up b5323
    replace b2794 := b2794.trans (b5323.mono b2794.size)
    replace b2375 := b2375.trans (b5323.mono b2375.size)
    replace b2040 := b2040.trans (b5323.mono b2040.size)
    replace b1671 := b1671.trans (b5323.mono b1671.size)
    replace b1374 := b1374.trans (b5323.mono b1374.size)
    replace b981 := b981.trans (b5323.mono b981.size)
    replace b722 := b722.trans (b5323.mono b722.size)
    replace b386 := b386.trans (b5323.mono b386.size)
    replace hm := hm.up b5323
    replace q := q.trans (b5323.mono q.size)
    replace r984 := r984.up b5323
    replace r1674 := r1674.up b5323
    replace r2378 := r2378.up b5323
    replace r3284 := r3284.up b5323
    replace r4258 := r4258.up b5323
    refine LL.storeN (vs := [Value.int IntKind.i64 z0, Value.int IntKind.i64 z1, strV z2, Value.int IntKind.i64 z3, Value.int IntKind.i64 z4]) rfl rfl rfl rfl r5326 (by exact Nat.le_of_ble_eq_true rfl) (ones_of rfl) rfl rfl ?_
    intro W5455 r5456 b5454 z5457
    have hlb5454 := r5326.lt
    replace r5456 : RowL W5455 _ 31 [Value.int IntKind.i64 z0, Value.int IntKind.i64 z1, strV z2, Value.int IntKind.i64 z3, Value.int IntKind.i64 z4] := r5456
    clear r5326
    replace b5323 := b5323.grown b5454 b5323.size (by rintro k ⟨⟩; omega)
    replace b4836 := b4836.grown b5454 b4836.size (by rintro k ⟨⟩; omega)
    replace b4255 := b4255.grown b5454 b4255.size (by rintro k ⟨⟩; omega)
    replace b3806 := b3806.grown b5454 b3806.size (by rintro k ⟨⟩; omega)
    replace b3281 := b3281.grown b5454 b3281.size (by rintro k ⟨⟩; omega)
    replace b2870 := b2870.grown b5454 b2870.size (by rintro k ⟨⟩; omega)
    replace rs := rs.gr b5454 (by have := rs.lt; omega)
    replace b2794 := b2794.grown b5454 b2794.size (by rintro k ⟨⟩; omega)
    replace b2375 := b2375.grown b5454 b2375.size (by rintro k ⟨⟩; omega)
    replace b2040 := b2040.grown b5454 b2040.size (by rintro k ⟨⟩; omega)
    replace b1671 := b1671.grown b5454 b1671.size (by rintro k ⟨⟩; omega)
    replace b1374 := b1374.grown b5454 b1374.size (by rintro k ⟨⟩; omega)
    replace b981 := b981.grown b5454 b981.size (by rintro k ⟨⟩; omega)
    replace b722 := b722.grown b5454 b722.size (by rintro k ⟨⟩; omega)
    replace b386 := b386.grown b5454 b386.size (by rintro k ⟨⟩; omega)
    replace hm := hm.gr b5454 (by have := hm.lt; omega)
    replace q := q.grown b5454 q.size (by rintro k ⟨⟩; omega)
    replace r984 := r984.gr b5454 (by have := r984.lt; omega)
    replace r1674 := r1674.gr b5454 (by have := r1674.lt; omega)
    replace r2378 := r2378.gr b5454 (by have := r2378.lt; omega)
    replace r3284 := r3284.gr b5454 (by have := r3284.lt; omega)
    replace r4258 := r4258.gr b5454 (by have := r4258.lt; omega)
    have r5326 := r5456
    clear r5456
    refine LL.val (R.assign rfl rfl) rfl rfl rfl ?_
    refine LL.nilS ?_
    refine CC.seq ?_
    refine CC.region ?_
    refine LL.val (R.load rfl rfl (I.ldNc (vs := [Value.int IntKind.i64 x0, Value.int IntKind.i64 x1, strV x2, Value.int IntKind.i64 x3, Value.int IntKind.i64 x4]) (RowL.cells r984 rfl) (by rfl) (by rfl))) rfl rfl rfl ?_
    refine LL.val (R.load rfl rfl (I.ldNc (vs := [Value.int IntKind.i64 x0, Value.int IntKind.i64 x1, strV x2, Value.int IntKind.i64 x3, Value.int IntKind.i64 x4]) (RowL.cells r1674 rfl) (by rfl) (by rfl))) rfl rfl rfl ?_
    refine LL.vsplit (fun h => R.eqST (p := (x0 : Int) = x0 ∧ (x1 : Int) = x1 ∧ ({ data := List.toArray x2 } : ByteArray).toList = ({ data := List.toArray x2 } : ByteArray).toList ∧ (x3 : Int) = x3 ∧ (x4 : Int) = x4) (bs := [decide ((x0 : Int) = x0), decide ((x1 : Int) = x1), ({ data := List.toArray x2 } : ByteArray).toList == ({ data := List.toArray x2 } : ByteArray).toList, decide ((x3 : Int) = x3), decide ((x4 : Int) = x4)]) rfl rfl rfl rfl (by kernel_rfl) (by kernel_rfl) (by simp) h) (fun h => R.eqSF (p := (x0 : Int) = x0 ∧ (x1 : Int) = x1 ∧ ({ data := List.toArray x2 } : ByteArray).toList = ({ data := List.toArray x2 } : ByteArray).toList ∧ (x3 : Int) = x3 ∧ (x4 : Int) = x4) (bs := [decide ((x0 : Int) = x0), decide ((x1 : Int) = x1), ({ data := List.toArray x2 } : ByteArray).toList == ({ data := List.toArray x2 } : ByteArray).toList, decide ((x3 : Int) = x3), decide ((x4 : Int) = x4)]) rfl rfl rfl rfl (by kernel_rfl) (by kernel_rfl) (by simp) h) rfl rfl rfl (fun c5962 => ?_) (fun c5962 => ?_)
    refine LL.val (R.move rfl rfl) rfl rfl rfl ?_
    refine LL.val (R.move rfl rfl) rfl rfl rfl ?_
    refine LL.val (R.move rfl rfl) rfl rfl rfl ?_
    refine LL.val (R.eqT rfl rfl rfl (by omega)) rfl rfl rfl ?_
    refine LL.val (R.pick rfl rfl rfl) rfl rfl rfl ?_
    refine LL.val (R.move rfl rfl) rfl rfl rfl ?_
    refine LL.val (R.load rfl rfl (I.ldNc (vs := [Value.int IntKind.i64 y0, Value.int IntKind.i64 y1, strV y2, Value.int IntKind.i64 y3, Value.int IntKind.i64 y4]) (RowL.cells r2378 rfl) (by rfl) (by rfl))) rfl rfl rfl ?_
    refine LL.val (R.load rfl rfl (I.ldNc (vs := [Value.int IntKind.i64 y0, Value.int IntKind.i64 y1, strV y2, Value.int IntKind.i64 y3, Value.int IntKind.i64 y4]) (RowL.cells r3284 rfl) (by rfl) (by rfl))) rfl rfl rfl ?_
    refine LL.vsplit (fun h => R.eqST (p := (y0 : Int) = y0 ∧ (y1 : Int) = y1 ∧ ({ data := List.toArray y2 } : ByteArray).toList = ({ data := List.toArray y2 } : ByteArray).toList ∧ (y3 : Int) = y3 ∧ (y4 : Int) = y4) (bs := [decide ((y0 : Int) = y0), decide ((y1 : Int) = y1), ({ data := List.toArray y2 } : ByteArray).toList == ({ data := List.toArray y2 } : ByteArray).toList, decide ((y3 : Int) = y3), decide ((y4 : Int) = y4)]) rfl rfl rfl rfl (by kernel_rfl) (by kernel_rfl) (by simp) h) (fun h => R.eqSF (p := (y0 : Int) = y0 ∧ (y1 : Int) = y1 ∧ ({ data := List.toArray y2 } : ByteArray).toList = ({ data := List.toArray y2 } : ByteArray).toList ∧ (y3 : Int) = y3 ∧ (y4 : Int) = y4) (bs := [decide ((y0 : Int) = y0), decide ((y1 : Int) = y1), ({ data := List.toArray y2 } : ByteArray).toList == ({ data := List.toArray y2 } : ByteArray).toList, decide ((y3 : Int) = y3), decide ((y4 : Int) = y4)]) rfl rfl rfl rfl (by kernel_rfl) (by kernel_rfl) (by simp) h) rfl rfl rfl (fun c7097 => ?_) (fun c7097 => ?_)
    refine LL.val (R.pick rfl rfl rfl) rfl rfl rfl ?_
    refine LL.val (R.move rfl rfl) rfl rfl rfl ?_
    refine LL.val (R.move rfl rfl) rfl rfl rfl ?_
    refine LL.call (R.call rfl rfl rfl) rfl rfl rfl (num17_any _ _) ?_
    rintro e W' ⟨rfl, rfl⟩
    refine ⟨_, rfl, ?_⟩
    refine LL.val (R.move rfl rfl) rfl rfl rfl ?_
    refine LL.val (R.eqT rfl rfl rfl (by omega)) rfl rfl rfl ?_
    refine LL.val (R.pick rfl rfl rfl) rfl rfl rfl ?_
    refine LL.val (R.move rfl rfl) rfl rfl rfl ?_
    refine LL.val (R.load rfl rfl (I.ldNc (vs := [Value.int IntKind.i64 z0, Value.int IntKind.i64 z1, strV z2, Value.int IntKind.i64 z3, Value.int IntKind.i64 z4]) (RowL.cells r4258 rfl) (by rfl) (by rfl))) rfl rfl rfl ?_
    refine LL.val (R.load rfl rfl (I.ldNc (vs := [Value.int IntKind.i64 z0, Value.int IntKind.i64 z1, strV z2, Value.int IntKind.i64 z3, Value.int IntKind.i64 z4]) (RowL.cells r5326 rfl) (by rfl) (by rfl))) rfl rfl rfl ?_
    refine LL.vsplit (fun h => R.eqST (p := (z0 : Int) = z0 ∧ (z1 : Int) = z1 ∧ ({ data := List.toArray z2 } : ByteArray).toList = ({ data := List.toArray z2 } : ByteArray).toList ∧ (z3 : Int) = z3 ∧ (z4 : Int) = z4) (bs := [decide ((z0 : Int) = z0), decide ((z1 : Int) = z1), ({ data := List.toArray z2 } : ByteArray).toList == ({ data := List.toArray z2 } : ByteArray).toList, decide ((z3 : Int) = z3), decide ((z4 : Int) = z4)]) rfl rfl rfl rfl (by kernel_rfl) (by kernel_rfl) (by simp) h) (fun h => R.eqSF (p := (z0 : Int) = z0 ∧ (z1 : Int) = z1 ∧ ({ data := List.toArray z2 } : ByteArray).toList = ({ data := List.toArray z2 } : ByteArray).toList ∧ (z3 : Int) = z3 ∧ (z4 : Int) = z4) (bs := [decide ((z0 : Int) = z0), decide ((z1 : Int) = z1), ({ data := List.toArray z2 } : ByteArray).toList == ({ data := List.toArray z2 } : ByteArray).toList, decide ((z3 : Int) = z3), decide ((z4 : Int) = z4)]) rfl rfl rfl rfl (by kernel_rfl) (by kernel_rfl) (by simp) h) rfl rfl rfl (fun c8484 => ?_) (fun c8484 => ?_)
    refine LL.val (R.pick rfl rfl rfl) rfl rfl rfl ?_
    refine LL.val (R.move rfl rfl) rfl rfl rfl ?_
    refine LL.val (R.move rfl rfl) rfl rfl rfl ?_
    refine LL.call (R.call rfl rfl rfl) rfl rfl rfl (num17_any _ _) ?_
    rintro e W' ⟨rfl, rfl⟩
    refine ⟨_, rfl, ?_⟩
    refine LL.val (R.move rfl rfl) rfl rfl rfl ?_
    refine LL.val (R.eqT rfl rfl rfl (by omega)) rfl rfl rfl ?_
    refine LL.val (R.pick rfl rfl rfl) rfl rfl rfl ?_
    refine LL.val (R.move rfl rfl) rfl rfl rfl ?_
    have l9497 := rs.lt
    have l9498 := r984.lt
    have l9499 := r1674.lt
    have l9500 := r2378.lt
    have l9501 := r3284.lt
    have l9502 := r4258.lt
    have l9503 := r5326.lt
    (refine LL.call (R.call rfl rfl rfl) rfl rfl rfl (works17_any _ (by assumption)) ?_; rintro e W9496 ⟨rfl, b9493⟩; refine ⟨_, rfl, ?_⟩)
    have zb9493 := b9493.size
    replace b5323 := b5323.trans (b9493.mono b5323.size)
    replace b4836 := b4836.trans (b9493.mono b4836.size)
    replace b4255 := b4255.trans (b9493.mono b4255.size)
    replace b3806 := b3806.trans (b9493.mono b3806.size)
    replace b3281 := b3281.trans (b9493.mono b3281.size)
    replace b2870 := b2870.trans (b9493.mono b2870.size)
    replace rs := rs.up b9493
    replace b2794 := b2794.trans (b9493.mono b2794.size)
    replace b2375 := b2375.trans (b9493.mono b2375.size)
    replace b2040 := b2040.trans (b9493.mono b2040.size)
    replace b1671 := b1671.trans (b9493.mono b1671.size)
    replace b1374 := b1374.trans (b9493.mono b1374.size)
    replace b981 := b981.trans (b9493.mono b981.size)
    replace b722 := b722.trans (b9493.mono b722.size)
    replace b386 := b386.trans (b9493.mono b386.size)
    replace hm := hm.up b9493
    replace q := q.trans (b9493.mono q.size)
    replace r984 := r984.up b9493
    replace r1674 := r1674.up b9493
    replace r2378 := r2378.up b9493
    replace r3284 := r3284.up b9493
    replace r4258 := r4258.up b9493
    replace r5326 := r5326.up b9493
    refine LL.val (R.pick rfl rfl rfl) rfl rfl rfl ?_
    refine LL.val (R.assign rfl rfl) rfl rfl rfl ?_
    refine LL.nilS ?_
    refine CC.ret ?_
    refine EE.ret _ rfl rfl ?_
    exact ⟨rfl, q⟩
    refine LL.val (R.pick rfl rfl rfl) rfl rfl rfl ?_
    refine LL.val (R.move rfl rfl) rfl rfl rfl ?_
    refine LL.skip rfl rfl ?_
    refine LL.skip rfl rfl ?_
    refine LL.skip rfl rfl ?_
    refine LL.skip rfl rfl ?_
    refine LL.val (R.pick rfl rfl rfl) rfl rfl rfl ?_
    refine LL.val (R.move rfl rfl) rfl rfl rfl ?_
    refine LL.skip rfl rfl ?_
    refine LL.val (R.pick rfl rfl rfl) rfl rfl rfl ?_
    refine LL.val (R.assign rfl rfl) rfl rfl rfl ?_
    refine LL.nilS ?_
    refine CC.ret ?_
    refine EE.ret _ rfl rfl ?_
    rotate_left
    refine LL.val (R.pick rfl rfl rfl) rfl rfl rfl ?_
    refine LL.val (R.move rfl rfl) rfl rfl rfl ?_
    refine LL.skip rfl rfl ?_
    refine LL.skip rfl rfl ?_
    refine LL.skip rfl rfl ?_
    refine LL.skip rfl rfl ?_
    refine LL.val (R.pick rfl rfl rfl) rfl rfl rfl ?_
    refine LL.val (R.move rfl rfl) rfl rfl rfl ?_
    refine LL.skip rfl rfl ?_
    refine LL.skip rfl rfl ?_
    refine LL.skip rfl rfl ?_
    refine LL.val (R.pick rfl rfl rfl) rfl rfl rfl ?_
    refine LL.val (R.move rfl rfl) rfl rfl rfl ?_
    refine LL.skip rfl rfl ?_
    refine LL.skip rfl rfl ?_
    refine LL.skip rfl rfl ?_
    refine LL.skip rfl rfl ?_
    refine LL.val (R.pick rfl rfl rfl) rfl rfl rfl ?_
    refine LL.val (R.move rfl rfl) rfl rfl rfl ?_
    refine LL.skip rfl rfl ?_
    refine LL.val (R.pick rfl rfl rfl) rfl rfl rfl ?_
    refine LL.val (R.assign rfl rfl) rfl rfl rfl ?_
    refine LL.nilS ?_
    refine CC.ret ?_
    refine EE.ret _ rfl rfl ?_
    rotate_left
    refine LL.val (R.move rfl rfl) rfl rfl rfl ?_
    refine LL.skip rfl rfl ?_
    refine LL.skip rfl rfl ?_
    refine LL.skip rfl rfl ?_
    refine LL.val (R.pick rfl rfl rfl) rfl rfl rfl ?_
    refine LL.val (R.move rfl rfl) rfl rfl rfl ?_
    refine LL.skip rfl rfl ?_
    refine LL.skip rfl rfl ?_
    refine LL.skip rfl rfl ?_
    refine LL.val (R.pick rfl rfl rfl) rfl rfl rfl ?_
    refine LL.val (R.move rfl rfl) rfl rfl rfl ?_
    refine LL.skip rfl rfl ?_
    refine LL.skip rfl rfl ?_
    refine LL.skip rfl rfl ?_
    refine LL.skip rfl rfl ?_
    refine LL.val (R.pick rfl rfl rfl) rfl rfl rfl ?_
    refine LL.val (R.move rfl rfl) rfl rfl rfl ?_
    refine LL.skip rfl rfl ?_
    refine LL.skip rfl rfl ?_
    refine LL.skip rfl rfl ?_
    refine LL.val (R.pick rfl rfl rfl) rfl rfl rfl ?_
    refine LL.val (R.move rfl rfl) rfl rfl rfl ?_
    refine LL.skip rfl rfl ?_
    refine LL.skip rfl rfl ?_
    refine LL.skip rfl rfl ?_
    refine LL.skip rfl rfl ?_
    refine LL.val (R.pick rfl rfl rfl) rfl rfl rfl ?_
    refine LL.val (R.move rfl rfl) rfl rfl rfl ?_
    refine LL.skip rfl rfl ?_
    refine LL.val (R.pick rfl rfl rfl) rfl rfl rfl ?_
    refine LL.val (R.assign rfl rfl) rfl rfl rfl ?_
    refine LL.nilS ?_
    refine CC.ret ?_
    refine EE.ret _ rfl rfl ?_
    rotate_left
  · exact absurd ⟨rfl, rfl, rfl, rfl, rfl⟩ c8484
  · exact absurd ⟨rfl, rfl, rfl, rfl, rfl⟩ c7097
  · exact absurd ⟨rfl, rfl, rfl, rfl, rfl⟩ c5962
theorem goes_far (path : Bs) (fol : Bool) (v : Value) (l : List Pl) (w : World) (hm : Mx w) (h : 1100 < path.length) (hp : path.length ≤ 9223372036854775807) : Calls Tryd.prog 4 #[strV path, .bool fol, v] w fun e w' => e = .returned (.bool true) ∧ Below w.heap.size w w' := by
  have q := Below.refl w.heap.size w
  refine X.fn Tryd.func4 rfl (n := 100) rfl rfl ?_
  refine CC.seq ?_
  refine CC.region ?_
  refine LL.val (R.assign rfl rfl) rfl rfl rfl ?_
  refine LL.nilS ?_
  refine CC.seq ?_
  refine CC.seq ?_
  refine CC.region ?_
  refine LL.val (R.move rfl rfl) rfl rfl rfl ?_
  refine LL.val (R.lenS rfl rfl rfl rfl) rfl rfl rfl ?_
  refine LL.val (R.gtT rfl rfl rfl (by omega)) rfl rfl rfl ?_
  refine LL.val (R.move rfl rfl) rfl rfl rfl ?_
  refine LL.skip rfl rfl ?_
  refine LL.skip rfl rfl ?_
  refine LL.skip rfl rfl ?_
  refine LL.val (R.pick rfl rfl rfl) rfl rfl rfl ?_
  refine LL.nilS ?_
  refine CC.yes rfl ?_
  refine CC.seq ?_
  refine CC.region ?_
  (refine LL.call (R.call rfl rfl rfl) rfl rfl rfl (works17_any _ (by assumption)) ?_; rintro e W46 ⟨rfl, b43⟩; refine ⟨_, rfl, ?_⟩)
  have zb43 := b43.size
  replace hm := hm.up b43
  replace q := q.trans (b43.mono q.size)
  refine LL.val (R.assign rfl rfl) rfl rfl rfl ?_
  refine LL.nilS ?_
  refine CC.ret ?_
  refine EE.thenR ?_
  refine EE.ret _ rfl rfl ?_
  exact ⟨rfl, q⟩
theorem goes_many (path : Bs) (fol : Bool) (v : Value) (w : World) (hm : Mx w) (hp : path.length ≤ 1100) (hfew : ∀ W, Below w.heap.size w W → Calls Tryd.prog 18 #[v] W fun e w' => e = .returned (.bool false) ∧ Below W.heap.size W w') : Calls Tryd.prog 4 #[strV path, .bool fol, v] w fun e w' => e = .returned (.bool true) ∧ Below w.heap.size w w' := by
  have q := Below.refl w.heap.size w
  refine X.fn Tryd.func4 rfl (n := 100) rfl rfl ?_
  refine CC.seq ?_
  refine CC.region ?_
  refine LL.val (R.assign rfl rfl) rfl rfl rfl ?_
  refine LL.nilS ?_
  refine CC.seq ?_
  refine CC.seq ?_
  refine CC.region ?_
  refine LL.val (R.move rfl rfl) rfl rfl rfl ?_
  refine LL.val (R.lenS rfl rfl rfl rfl) rfl rfl rfl ?_
  refine LL.val (R.gtF rfl rfl rfl (by omega)) rfl rfl rfl ?_
  refine LL.val (R.move rfl rfl) rfl rfl rfl ?_
  refine LL.val (R.move rfl rfl) rfl rfl rfl ?_
  (refine LL.call (R.call rfl rfl rfl) rfl rfl rfl (hfew _ q) ?_; rintro e W95 ⟨rfl, b92⟩; refine ⟨_, rfl, ?_⟩)
  have zb92 := b92.size
  replace hm := hm.up b92
  replace q := q.trans (b92.mono q.size)
  refine LL.val (R.not rfl rfl) rfl rfl rfl ?_
  refine LL.val (R.pick rfl rfl rfl) rfl rfl rfl ?_
  refine LL.nilS ?_
  refine CC.yes rfl ?_
  refine CC.seq ?_
  refine CC.region ?_
  (refine LL.call (R.call rfl rfl rfl) rfl rfl rfl (works17_any _ (by assumption)) ?_; rintro e W130 ⟨rfl, b127⟩; refine ⟨_, rfl, ?_⟩)
  have zb127 := b127.size
  replace b92 := b92.trans (b127.mono b92.size)
  replace hm := hm.up b127
  replace q := q.trans (b127.mono q.size)
  refine LL.val (R.assign rfl rfl) rfl rfl rfl ?_
  refine LL.nilS ?_
  refine CC.ret ?_
  refine EE.thenR ?_
  refine EE.ret _ rfl rfl ?_
  exact ⟨rfl, q⟩
theorem goes_walk (path : Bs) (fol : Bool) (v : Value) (l : List Pl) (w : World) (hm : Mx w) (hv : ReadsT plE 5 w v l) (hl : l.length ≤ 9223372036854775807) (hp : path.length ≤ 9223372036854775807) : Calls Tryd.prog 4 #[strV path, .bool fol, v] w fun e w' => e = .returned (.bool true) ∧ Below w.heap.size w w' := by
  classical
  by_cases h11 : 1100 < path.length
  · exact goes_far path fol v l w hm h11 hp
  have hF : ∀ W, Below w.heap.size w W → ReadsT plE 5 W v l := fun W b => hv.up b
  by_cases hT : fewL l
  case neg => exact goes_many path fol v w hm (by omega) fun W b => few_any v l W (hF W b) hl false ⟨fun h => (by cases h), fun h => absurd h hT⟩
  have hfew := fun W (b : Below w.heap.size w W) => few_any v l W (hF W b) hl true ⟨fun _ => hT, fun _ => rfl⟩
  have hN : l.length ≤ 1048576 := by have := hT.1; omega
  have hT2 : ∀ p ∈ l, p.2.2.2.1 = 3 → p.2.2.2.2.length ≤ 1048576 := fun p hp _ => by have := hT.2 p hp; omega
  by_cases hz : pathN path = 0
  · obtain ⟨x, hx⟩ := ends_in fol hz hT (n := 20000) (by decide)
    obtain ⟨y, hy⟩ := ends_in fol hz sm_few (n := 20000) (by decide)
    obtain ⟨z, hZ⟩ := ends_in fol hz no_few (n := 20000) (by decide)
    exact goes_core path fol v x y z 0 w hm (by omega) hfew (fun W m b => goes_fin path fol v l W m hp hz (hF W b) hN hT2 x hx) (fun W m b => rgo_fin path fol v l W m.lt hp hz (hF W b) hN hT2 x hx) (fun W m => pgo_fin path fol _ 22 (.inl rfl) smL W m hp hz (by kernel_rfl) (fun W d nm => told_any d nm W) sm_few y hy) (fun W u m h => rgo_fin path fol u smL W m.lt hp hz h (by decide) (fun p hp _ => by have := sm_few.2 p hp; omega) y hy) (fun W m => pgo_fin path fol _ 45 (.inr ⟨rfl, rfl⟩) [] W m hp hz (by kernel_rfl) (fun W d nm => nobody_any d nm W) no_few z hZ) (fun W m => rgo_fin path fol _ [] W m.lt hp hz (ReadsT.nil _) (by decide) (fun p hp _ => by cases hp) z hZ)
  · exact goes_core path fol v wdZ wdZ wdZ (pathN path) w hm (by omega) hfew (fun W m b => goes_bad path fol v W m hp _ rfl hz) (fun W m b => rgo_bad path fol v W m.lt hp _ rfl hz) (fun W m => pgo_bad path fol _ W m hp _ rfl hz) (fun W u m h => rgo_bad path fol u W m.lt hp _ rfl hz) (fun W m => pgo_bad path fol _ W m hp _ rfl hz) (fun W m => rgo_bad path fol _ W m.lt hp _ rfl hz)
def plKs (j : Nat) : Ckd := if j = 1 ∨ j = 4 then .str else .int .i64
def plOf (g : Nat → ZBS) : Pl := ((g 0).1, (g 1).2.2.data.toList, (g 2).1, (g 3).1, (g 4).2.2.data.toList)
theorem plOf_enc (g : Nat → ZBS) : plE (plOf g) = (List.range 5).map fun j => cellQ (plKs j) (g j) := by
  show [Value.int .i64 (g 0).1, strV _, .int .i64 (g 2).1, .int .i64 (g 3).1, strV _] = [Value.int .i64 (g 0).1, .string (g 1).2.2, .int .i64 (g 2).1, .int .i64 (g 3).1, .string (g 4).2.2]
  rw [bs_data (g 1).2.2, bs_data (g 4).2.2]
  rfl
theorem goes_shell (a0 : ByteArray) (fol : Bool) (v : Value) (gs : List (Nat → ZBS)) (w : World) (hm : Mx w) (hv : ReadsT plE 5 w v (gs.map plOf)) (h0 : a0.size ≤ maxLen) (hl : gs.length ≤ 9223372036854775807) : Calls Tryd.prog 4 #[.string a0, .bool fol, v] w fun e w' => e = .returned (.bool true) ∧ Below w.heap.size w w' := by
  rw [bs_data a0]
  have hp : a0.data.toList.length ≤ 9223372036854775807 := by
    rw [Array.length_toList]
    exact h0
  exact goes_walk a0.data.toList fol v _ w hm hv (by rw [List.length_map]; exact hl) hp
end Go.Proofs.YtbbddpnjglijdaaDoor
/- The statements' num, works. -/
namespace Go.Proofs.YtbbddpnjglijdaaDoor
set_option linter.unusedVariables false
set_option linter.unusedSimpArgs false
open Go.RowKit Go.Shelf
set_option maxRecDepth 100000
set_option maxHeartbeats 8000000

end Go.Proofs.YtbbddpnjglijdaaDoor
/- The walks of NamesChecks, NamesUnder, NamesShorts. -/
namespace Go.Proofs.YtbbddpnjglijdaaDoor
set_option linter.unusedVariables false
set_option linter.unusedSimpArgs false
open Go.RowKit Go.Shelf
set_option maxRecDepth 100000
set_option maxHeartbeats 8000000

end Go.Proofs.YtbbddpnjglijdaaDoor
/- What the package's variables hold when the call begins. -/
namespace Go.Proofs.YtbbddpnjglijdaaDoor
set_option linter.unusedVariables false
set_option linter.unusedSimpArgs false
open Go.ChangeShapes Go.WideShapes Go.ChangeAt Go.WideMaps Go.WideElems Go.RowKit

def laidHere : List (String × DataW Unit) := [("unicode/utf8.acceptRanges", Rows.laid_unicode_utf8_acceptRanges), ("unicode/utf8.first", Rows.laid_unicode_utf8_first)]
theorem mx_of {W : World} (h : W.ShapedOpen Tryd.prog) : Mx W := by
  have hg : ∃ m, W.cell? ⟨0, 0, none⟩ = some (.int .i64 m) := Go.Proofs.cell_of_shapedOpen_int (zero := #[.int .i64 0]) (t := 3) h (of_decide_eq_true (by kernel_rfl)) (by kernel_rfl) rfl (by kernel_rfl) (by kernel_rfl) Tryd.underlying3
  obtain ⟨m, hm⟩ := hg
  obtain ⟨o, ho, _⟩ := cells_of_cell hm
  exact ⟨⟨m, hm⟩, (Array.getElem?_eq_some_iff.1 ho).1⟩
variable {H : Type} {enc : TypeId × Value → H}
/-- The wrap with the variables' datum and the world's shape. -/
theorem handed_laid_shaped {a : Assume} {C : Checked} {os : Os} {f : FuncId} {fn : Func} {s : ChangeSpec} {conds : List PathCond} {apart fresh handsOn again : Bool} {X : World → Array Value → Prop}
    (own : ownKnob C.prog.godebug = none) (started : os.Started) (noInit : C.prog.inits.idxOf? f = none) (hfn : C.prog.funcs[f]? = some fn)
    (witness : ∃ (w : World) (tape : Tape) (i : Input), w.os = os ∧ (w.forCall tape i).Shaped C.prog ∧ i.vars = [] ∧ Input.okWide C.prog (w.forCall tape i) .any w.heap.size f i ∧
      ((s.pre enc C.prog fn conds apart (w.forCall tape i).memory i.args ∧ X (w.forCall tape i).memory i.args) ∧ sizedMet enc C.prog fn (OpenSpec.ofChange s) apart (w.forCall tape i).memory i.args) ∧ a.holds C.prog (lone (Frame.enter C.prog f i.args .normal) [] (w.forCall tape i)))
    (contract : ∀ (W : World) (base : Nat) (args : Array Value) (ds gs : List (DataW H)) (before : List MemPlace),
      (∀ (j : Nat) t v, fn.params[j]? = some t → args[j]? = some v → Value.okWide C.prog W .any base t v) →
      DataW.Whole enc C.prog fn.params.toList s.vars apart W args.toList ds gs before →
      W.ShapedOpen C.prog →
      Calls C.prog f args W fun e W' => ∃ v, e = .returned v ∧ s.post enc C.prog fn apart fresh handsOn again W args v W') :
    ReturnsInHanded a C os f .any (fun w args => (s.pre enc C.prog fn conds apart w args ∧ X w args) ∧ sizedMet enc C.prog fn (OpenSpec.ofChange s) apart w args) (s.post enc C.prog fn apart fresh handsOn again) := by
  refine returnsInHanded_of_calls own started noInit witness ?_
  intro w tape i _ hsh _ hok hpre _
  obtain ⟨_, _, _, fn', hfn', _, _, _, _, hval⟩ := hok
  obtain rfl : fn' = fn := Option.some.inj (hfn'.symm.trans hfn)
  obtain ⟨⟨⟨ds, gs, before, hw, _⟩, _⟩, _⟩ := hpre
  refine (contract (w.forCall tape i) w.heap.size i.args ds gs before hval (DataW.Whole.of_heap (w' := w.forCall tape i) (by rfl) hw) hsh).mono fun e W' ⟨v, he, hp⟩ => ?_
  subst he
  exact ChangeSpec.post_blind hp
end Go.Proofs.YtbbddpnjglijdaaDoor
